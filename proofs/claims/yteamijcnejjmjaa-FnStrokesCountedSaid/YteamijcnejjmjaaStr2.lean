/- Strokes before a half, and at which half a stroke is struck: by the program and by the model. -/
import Derived.Test.YteamijcnejjmjaaStr1
set_option linter.unusedSimpArgs false
set_option linter.unusedVariables false
set_option maxRecDepth 100000
namespace Go.Proofs.Yteamijcnejjmjaa
open Go.RowKit

theorem ret_num {a b : Int} (h : a = b) : (Value.int .i64 a) = .int .i64 b := by rw [h]
theorem strokesAround_b (h : Int) (hh : 2 ≤ h ∧ h ≤ 24) (w : World) : Calls Try.prog 36 #[.int .i64 h] w fun e w' => e = .returned (.int .i64 (stT h)) ∧ Below w.heap.size w w' :=
  (strokesAround_any h hh w).mono fun e w' ⟨he, hw⟩ => ⟨he, hw ▸ Below.refl _ _⟩
theorem stTurn_b (h : Int) (hh : 2 ≤ h ∧ h ≤ 24) (w : World) : Calls Try.prog 37 #[.int .i64 h] w fun e w' => e = .returned (.int .i64 (stT h)) ∧ Below w.heap.size w w' :=
  (stTurn_any h hh w).mono fun e w' ⟨he, hw⟩ => ⟨he, hw ▸ Below.refl _ _⟩
/-- The same sum, in the two parts in which it is made. -/
theorem sb_parts {h x : Int} (hh : 2 ≤ h ∧ h ≤ 24) (h0 : 0 ≤ x) (h1 : x ≤ 1000001) : (0 ≤ x / (2 * h) ∧ x / (2 * h) ≤ 1000001) ∧ 0 ≤ x / (2 * h) * stT h ∧ x / (2 * h) * stT h ≤ 400000000 := by
  have a := stT_bd hh
  have d : 0 ≤ x / (2 * h) ∧ x / (2 * h) ≤ 1000001 := ⟨Int.ediv_nonneg h0 (by omega), Int.le_trans (Int.ediv_le_self _ h0) h1⟩
  have e : 0 ≤ x / (2 * h) * stT h := Int.mul_nonneg d.1 (by omega)
  have f : x / (2 * h) * stT h ≤ 1000001 * 324 := Int.mul_le_mul d.2 a.2 (by omega) (by omega)
  omega

set_option maxHeartbeats 1600000 in
theorem strokesBefore_any (h x : Int) (hh : 2 ≤ h ∧ h ≤ 24) (h0 : 0 ≤ x) (h1 : x ≤ 1000001) (w : World) :
    Calls Try.prog 32 #[.int .i64 h, .int .i64 x] w fun e w' => e = .returned (.int .i64 (sb h x)) ∧ Below w.heap.size w w' := by
  obtain ⟨hA, hB, hC⟩ := sb_parts hh h0 h1
  have hT := stT_bd hh
  have hw2 := w64 (n := 2 * h) (by omega)
  have hz2 : (2 * h == 0) = false := by simp; omega
  have hz3 : ¬ (2 * h = 0) := by omega
  have hq := q64 (n := x) (g := 2 * h) h0 (by omega) (by omega)
  have hm := w64 (n := x / (2 * h) * stT h) (by omega)
  have ht := t64 (n := x) (g := 2 * h) h0 (by omega) (by omega)
  obtain ⟨r0, r1⟩ := mod_bd x hh
  obtain ⟨R, hR⟩ : ∃ R : Nat, (R : Int) = x % (2 * h) := ⟨(x % (2 * h)).toNat, by omega⟩
  have HM := Lib.hid (show x / (2 * h) * stT h + sumSt h R = sb h x from by unfold sb; rw [← hR]; rfl)
  (go_enter Try.func32, Try.ntmps32)
  go_wp2_with fail
  refine wp_region_below (by kernel_rfl) (by kernel_rfl) ?_
  (apply wpB_take (hw := rfl); (intro wq hq; obtain ⟨hcq, hfq⟩ := bcell hq; unfold atB; go_simp; exact ⟨rfl, rfl⟩); simp only [Act.put, List.setIfInBounds_toArray, List.set_cons_zero, List.set_cons_succ])
  (apply wpB_take (hw := rfl); (intro wq hq; obtain ⟨hcq, hfq⟩ := bcell hq; unfold atB; go_simp; exact ⟨rfl, rfl⟩); simp only [Act.put, List.setIfInBounds_toArray, List.set_cons_zero, List.set_cons_succ])
  (apply wpB_take (hw := rfl); (intro wq hq; obtain ⟨hcq, hfq⟩ := bcell hq; unfold atB; go_simp; exact ⟨rfl, rfl⟩); simp only [Act.put, List.setIfInBounds_toArray, List.set_cons_zero, List.set_cons_succ])
  (apply wpB_take (hw := rfl); (intro wq hq; obtain ⟨hcq, hfq⟩ := bcell hq; unfold atB; go_simp; exact ⟨rfl, rfl⟩); simp only [Act.put, List.setIfInBounds_toArray, List.set_cons_zero, List.set_cons_succ])
  (apply wpB_take (hw := rfl); (intro wq hq; obtain ⟨hcq, hfq⟩ := bcell hq; unfold atB; go_simp; exact ⟨rfl, rfl⟩); simp only [Act.put, List.setIfInBounds_toArray, List.set_cons_zero, List.set_cons_succ])
  (apply wpB_take (hw := rfl); (intro wq hq; unfold atB; go_simp; exact ⟨rfl, strokesAround_b h hh _⟩); simp only [Act.put, List.setIfInBounds_toArray, List.set_cons_zero, List.set_cons_succ])
  (apply wpB_take (hw := rfl); (intro wq hq; obtain ⟨hcq, hfq⟩ := bcell hq; unfold atB; go_simp; exact ⟨rfl, rfl⟩); simp only [Act.put, List.setIfInBounds_toArray, List.set_cons_zero, List.set_cons_succ])
  (apply wpB_take (hw := rfl); (intro wq hq; obtain ⟨hcq, hfq⟩ := bcell hq; unfold atB; go_simp; exact ⟨rfl, rfl⟩); simp only [Act.put, List.setIfInBounds_toArray, List.set_cons_zero, List.set_cons_succ])
  refine fun w1 hb1 => ?_
  (obtain ⟨hc1, hf1⟩ := bcell hb1; have hz1 := hb1.size; (try simp only [World.size_alloc, World.size_setCell, World.size_drew] at hz1); have q1 : w.heap.size ≤ w1.heap.size := (by omega); (try have q1_0 : w.heap.size < w1.heap.size := (by omega)); (try have q1_1 : w.heap.size + 1 < w1.heap.size := (by omega)); (try have q1_2 : w.heap.size + 2 < w1.heap.size := (by omega)); (try have q1_3 : w.heap.size + 3 < w1.heap.size := (by omega)); try simp only [Act.put, List.setIfInBounds_toArray, List.set_cons_zero, List.set_cons_succ])
  generalize x / (2 * h) * stT h = q at *
  go_wp2_with fail
  refine (strokesOf_any h _).mono ?_
  (rintro e1 w1 ⟨rfl, rfl⟩)
  go_wp2
  go_loop [5, 21] (fun s i => ∃ k : Nat, k ≤ R ∧ i = .int .i64 k ∧ s = .int .i64 (q + sumSt h k)) (fun _ i => R - (intOf i).toNat)
  case atStart => exact ⟨0, Nat.zero_le _, rfl, by simp [sumSt]⟩
  case round =>
    obtain ⟨k, hk, rfl, rfl⟩ := hrel
    have i0 : (0 : Int) ≤ (k : Int) := Int.natCast_nonneg _
    have hsb := sum_bd hh k
    by_cases hlt : (k : Int) < x % (2 * h)
    · have hst := stM_bd (k : Int) hh
      have HS := Lib.hid (show sumSt h k + stM h k = sumSt h (k + 1) from rfl)
      generalize sumSt h k = s at *
      obtain ⟨t, hte⟩ : ∃ t, stM h k = t := ⟨_, rfl⟩
      have HSM := Lib.hid hte
      rw [hte] at HS hst
      clear hte
      go_wp2_with fail
      refine (strokes_is h k w1.heap.size _ (by go_simp) hh i0 (by omega) HSM.out).mono ?_
      (rintro e1 w1 ⟨rfl, rfl⟩)
      go_wp2
      go_round
      case rel => exact ⟨k + 1, by omega, by go_num, ret_num (by rw [← HS.out]; omega)⟩
      case measure => simp [intOf]; omega
    · obtain rfl : k = R := by omega
      have HM2 := HM
      generalize sumSt h k = s at *
      go_wp2
      (refine bodyPost_ret (by simp [results, Try.results32, go_sem, *]; try rfl) rfl ?_)
      exact ⟨ret_int HM2.out, by (repeat' (first | (with_reducible exact Below.refl _ _) | (with_reducible assumption) | (with_reducible refine Below.alloc ?_ ?_ _) | (with_reducible refine Below.drew ?_) | (with_reducible refine below_drewN ?_ _) | (with_reducible refine Below.setCell ?_ ?_ _) | (with_reducible refine below_call ?_ ?_ (by assumption)) | go_size))⟩

set_option maxHeartbeats 1600000 in
theorem stUpTo_any (h x : Int) (hh : 2 ≤ h ∧ h ≤ 24) (h0 : 0 ≤ x) (h1 : x ≤ 1000001) (w : World) :
    Calls Try.prog 35 #[.int .i64 h, .int .i64 x] w fun e w' => e = .returned (.int .i64 (sb h x)) ∧ Below w.heap.size w w' := by
  obtain ⟨hA, hB, hC⟩ := sb_parts hh h0 h1
  have hT := stT_bd hh
  have hw2 := w64 (n := 2 * h) (by omega)
  have hz2 : (2 * h == 0) = false := by simp; omega
  have hz3 : ¬ (2 * h = 0) := by omega
  have hq := q64 (n := x) (g := 2 * h) h0 (by omega) (by omega)
  have hm := w64 (n := x / (2 * h) * stT h) (by omega)
  have ht := t64 (n := x) (g := 2 * h) h0 (by omega) (by omega)
  obtain ⟨r0, r1⟩ := mod_bd x hh
  obtain ⟨R, hR⟩ : ∃ R : Nat, (R : Int) = x % (2 * h) := ⟨(x % (2 * h)).toNat, by omega⟩
  have HM := Lib.hid (show x / (2 * h) * stT h + sumSt h R = sb h x from by unfold sb; rw [← hR]; rfl)
  (go_enter Try.func35, Try.ntmps35)
  go_wp2_with fail
  refine wp_region_below (by kernel_rfl) (by kernel_rfl) ?_
  (apply wpB_take (hw := rfl); (intro wq hq; obtain ⟨hcq, hfq⟩ := bcell hq; unfold atB; go_simp; exact ⟨rfl, rfl⟩); simp only [Act.put, List.setIfInBounds_toArray, List.set_cons_zero, List.set_cons_succ])
  (apply wpB_take (hw := rfl); (intro wq hq; obtain ⟨hcq, hfq⟩ := bcell hq; unfold atB; go_simp; exact ⟨rfl, rfl⟩); simp only [Act.put, List.setIfInBounds_toArray, List.set_cons_zero, List.set_cons_succ])
  (apply wpB_take (hw := rfl); (intro wq hq; obtain ⟨hcq, hfq⟩ := bcell hq; unfold atB; go_simp; exact ⟨rfl, rfl⟩); simp only [Act.put, List.setIfInBounds_toArray, List.set_cons_zero, List.set_cons_succ])
  (apply wpB_take (hw := rfl); (intro wq hq; obtain ⟨hcq, hfq⟩ := bcell hq; unfold atB; go_simp; exact ⟨rfl, rfl⟩); simp only [Act.put, List.setIfInBounds_toArray, List.set_cons_zero, List.set_cons_succ])
  (apply wpB_take (hw := rfl); (intro wq hq; obtain ⟨hcq, hfq⟩ := bcell hq; unfold atB; go_simp; exact ⟨rfl, rfl⟩); simp only [Act.put, List.setIfInBounds_toArray, List.set_cons_zero, List.set_cons_succ])
  (apply wpB_take (hw := rfl); (intro wq hq; unfold atB; go_simp; exact ⟨rfl, stTurn_b h hh _⟩); simp only [Act.put, List.setIfInBounds_toArray, List.set_cons_zero, List.set_cons_succ])
  (apply wpB_take (hw := rfl); (intro wq hq; obtain ⟨hcq, hfq⟩ := bcell hq; unfold atB; go_simp; exact ⟨rfl, rfl⟩); simp only [Act.put, List.setIfInBounds_toArray, List.set_cons_zero, List.set_cons_succ])
  (apply wpB_take (hw := rfl); (intro wq hq; obtain ⟨hcq, hfq⟩ := bcell hq; unfold atB; go_simp; exact ⟨rfl, rfl⟩); simp only [Act.put, List.setIfInBounds_toArray, List.set_cons_zero, List.set_cons_succ])
  refine fun w1 hb1 => ?_
  (obtain ⟨hc1, hf1⟩ := bcell hb1; have hz1 := hb1.size; (try simp only [World.size_alloc, World.size_setCell, World.size_drew] at hz1); have q1 : w.heap.size ≤ w1.heap.size := (by omega); (try have q1_0 : w.heap.size < w1.heap.size := (by omega)); (try have q1_1 : w.heap.size + 1 < w1.heap.size := (by omega)); (try have q1_2 : w.heap.size + 2 < w1.heap.size := (by omega)); (try have q1_3 : w.heap.size + 3 < w1.heap.size := (by omega)); try simp only [Act.put, List.setIfInBounds_toArray, List.set_cons_zero, List.set_cons_succ])
  generalize x / (2 * h) * stT h = q at *
  go_wp2
  go_loop [5, 6] (fun s i => ∃ k : Nat, k ≤ R ∧ i = .int .i64 k ∧ s = .int .i64 (q + sumSt h k)) (fun _ i => R - (intOf i).toNat)
  case atStart => exact ⟨0, Nat.zero_le _, rfl, by simp [sumSt]⟩
  case round =>
    obtain ⟨k, hk, rfl, rfl⟩ := hrel
    have i0 : (0 : Int) ≤ (k : Int) := Int.natCast_nonneg _
    have hsb := sum_bd hh k
    by_cases hlt : (k : Int) < x % (2 * h)
    · have hst := stM_bd (k : Int) hh
      have HS := Lib.hid (show sumSt h k + stM h k = sumSt h (k + 1) from rfl)
      have HE := Lib.hid (show stA h k = stM h k from (stM_small i0 (by omega)).symm)
      generalize sumSt h k = s at *
      generalize stM h k = t at *
      go_wp2_with fail
      refine (stAt_is h k i0 (by omega) HE.out _).mono ?_
      (rintro e1 w1 ⟨rfl, rfl⟩)
      go_wp2
      go_round
      case rel => exact ⟨k + 1, by omega, by go_num, ret_num (by rw [← HS.out]; omega)⟩
      case measure => simp [intOf]; omega
    · obtain rfl : k = R := by omega
      have HM2 := HM
      generalize sumSt h k = s at *
      go_wp2
      (refine bodyPost_ret (by simp [results, Try.results35, go_sem, *]; try rfl) rfl ?_)
      exact ⟨ret_int HM2.out, by (repeat' (first | (with_reducible exact Below.refl _ _) | (with_reducible assumption) | (with_reducible refine Below.alloc ?_ ?_ _) | (with_reducible refine Below.drew ?_) | (with_reducible refine below_drewN ?_ _) | (with_reducible refine Below.setCell ?_ ?_ _) | (with_reducible refine below_call ?_ ?_ (by assumption)) | go_size))⟩

def betwR (h a b : Int) : Int × Bool := if inB h 2 24 && (inB a 0 1000000 && inB b 0 1000000) then (if b < a then (0, true) else (sb h (b + 1) - sb h a, true)) else (0, false)
set_option maxHeartbeats 800000 in
theorem specStrokesBetween_any (h a b : Int) (w : World) :
    Calls Try.prog 8 #[.int .i64 h, .int .i64 a, .int .i64 b] w fun e w' => e = .returned (nv (betwR h a b)) ∧ Below w.heap.size w w' := by
  by_cases hl : b < a
  · cases ga : inB h 2 24
    · have HM := Lib.hid (show (0, false) = betwR h a b from by simp [betwR, hl, ga])
      (go_enter Try.func8, Try.ntmps8)
      go_wp2_with fail
      refine (diHours_is _ ga _).mono ?_
      (rintro e1 w1 ⟨rfl, rfl⟩)
      go_wp2
      (refine bodyPost_ret (by simp [results, Try.results8, go_sem, *]; try rfl) rfl ?_)
      exact ⟨ret_nv HM.out, by (repeat' (first | (with_reducible exact Below.refl _ _) | (with_reducible assumption) | (with_reducible refine Below.alloc ?_ ?_ _) | (with_reducible refine Below.drew ?_) | (with_reducible refine below_drewN ?_ _) | (with_reducible refine Below.setCell ?_ ?_ _) | (with_reducible refine below_call ?_ ?_ (by assumption)) | go_size))⟩
    · cases gb : inB a 0 1000000
      · have HM := Lib.hid (show (0, false) = betwR h a b from by simp [betwR, hl, ga, gb])
        (go_enter Try.func8, Try.ntmps8)
        go_wp2_with fail
        refine (diHours_is _ ga _).mono ?_
        (rintro e1 w1 ⟨rfl, rfl⟩)
        go_wp2_with fail
        refine (l1In_is _ _ _ gb _).mono ?_
        (rintro e1 w1 ⟨rfl, rfl⟩)
        go_wp2
        (refine bodyPost_ret (by simp [results, Try.results8, go_sem, *]; try rfl) rfl ?_)
        exact ⟨ret_nv HM.out, by (repeat' (first | (with_reducible exact Below.refl _ _) | (with_reducible assumption) | (with_reducible refine Below.alloc ?_ ?_ _) | (with_reducible refine Below.drew ?_) | (with_reducible refine below_drewN ?_ _) | (with_reducible refine Below.setCell ?_ ?_ _) | (with_reducible refine below_call ?_ ?_ (by assumption)) | go_size))⟩
      · cases gc : inB b 0 1000000
        · have HM := Lib.hid (show (0, false) = betwR h a b from by simp [betwR, hl, ga, gb, gc])
          (go_enter Try.func8, Try.ntmps8)
          go_wp2_with fail
          refine (diHours_is _ ga _).mono ?_
          (rintro e1 w1 ⟨rfl, rfl⟩)
          go_wp2_with fail
          refine (l1In_is _ _ _ gb _).mono ?_
          (rintro e1 w1 ⟨rfl, rfl⟩)
          go_wp2_with fail
          refine (l1In_is _ _ _ gc _).mono ?_
          (rintro e1 w1 ⟨rfl, rfl⟩)
          go_wp2
          (refine bodyPost_ret (by simp [results, Try.results8, go_sem, *]; try rfl) rfl ?_)
          exact ⟨ret_nv HM.out, by (repeat' (first | (with_reducible exact Below.refl _ _) | (with_reducible assumption) | (with_reducible refine Below.alloc ?_ ?_ _) | (with_reducible refine Below.drew ?_) | (with_reducible refine below_drewN ?_ _) | (with_reducible refine Below.setCell ?_ ?_ _) | (with_reducible refine below_call ?_ ?_ (by assumption)) | go_size))⟩
        · have HM := Lib.hid (show (0, true) = betwR h a b from by simp [betwR, hl, ga, gb, gc])
          (go_enter Try.func8, Try.ntmps8)
          go_wp2_with fail
          refine (diHours_is _ ga _).mono ?_
          (rintro e1 w1 ⟨rfl, rfl⟩)
          go_wp2_with fail
          refine (l1In_is _ _ _ gb _).mono ?_
          (rintro e1 w1 ⟨rfl, rfl⟩)
          go_wp2_with fail
          refine (l1In_is _ _ _ gc _).mono ?_
          (rintro e1 w1 ⟨rfl, rfl⟩)
          go_wp2
          (refine bodyPost_ret (by simp [results, Try.results8, go_sem, *]; try rfl) rfl ?_)
          exact ⟨ret_nv HM.out, by (repeat' (first | (with_reducible exact Below.refl _ _) | (with_reducible assumption) | (with_reducible refine Below.alloc ?_ ?_ _) | (with_reducible refine Below.drew ?_) | (with_reducible refine below_drewN ?_ _) | (with_reducible refine Below.setCell ?_ ?_ _) | (with_reducible refine below_call ?_ ?_ (by assumption)) | go_size))⟩
  · cases ga : inB h 2 24
    · have HM := Lib.hid (show (0, false) = betwR h a b from by simp [betwR, hl, ga])
      (go_enter Try.func8, Try.ntmps8)
      go_wp2_with fail
      refine (diHours_is _ ga _).mono ?_
      (rintro e1 w1 ⟨rfl, rfl⟩)
      go_wp2
      (refine bodyPost_ret (by simp [results, Try.results8, go_sem, *]; try rfl) rfl ?_)
      exact ⟨ret_nv HM.out, by (repeat' (first | (with_reducible exact Below.refl _ _) | (with_reducible assumption) | (with_reducible refine Below.alloc ?_ ?_ _) | (with_reducible refine Below.drew ?_) | (with_reducible refine below_drewN ?_ _) | (with_reducible refine Below.setCell ?_ ?_ _) | (with_reducible refine below_call ?_ ?_ (by assumption)) | go_size))⟩
    · cases gb : inB a 0 1000000
      · have HM := Lib.hid (show (0, false) = betwR h a b from by simp [betwR, hl, ga, gb])
        (go_enter Try.func8, Try.ntmps8)
        go_wp2_with fail
        refine (diHours_is _ ga _).mono ?_
        (rintro e1 w1 ⟨rfl, rfl⟩)
        go_wp2_with fail
        refine (l1In_is _ _ _ gb _).mono ?_
        (rintro e1 w1 ⟨rfl, rfl⟩)
        go_wp2
        (refine bodyPost_ret (by simp [results, Try.results8, go_sem, *]; try rfl) rfl ?_)
        exact ⟨ret_nv HM.out, by (repeat' (first | (with_reducible exact Below.refl _ _) | (with_reducible assumption) | (with_reducible refine Below.alloc ?_ ?_ _) | (with_reducible refine Below.drew ?_) | (with_reducible refine below_drewN ?_ _) | (with_reducible refine Below.setCell ?_ ?_ _) | (with_reducible refine below_call ?_ ?_ (by assumption)) | go_size))⟩
      · cases gc : inB b 0 1000000
        · have HM := Lib.hid (show (0, false) = betwR h a b from by simp [betwR, hl, ga, gb, gc])
          (go_enter Try.func8, Try.ntmps8)
          go_wp2_with fail
          refine (diHours_is _ ga _).mono ?_
          (rintro e1 w1 ⟨rfl, rfl⟩)
          go_wp2_with fail
          refine (l1In_is _ _ _ gb _).mono ?_
          (rintro e1 w1 ⟨rfl, rfl⟩)
          go_wp2_with fail
          refine (l1In_is _ _ _ gc _).mono ?_
          (rintro e1 w1 ⟨rfl, rfl⟩)
          go_wp2
          (refine bodyPost_ret (by simp [results, Try.results8, go_sem, *]; try rfl) rfl ?_)
          exact ⟨ret_nv HM.out, by (repeat' (first | (with_reducible exact Below.refl _ _) | (with_reducible assumption) | (with_reducible refine Below.alloc ?_ ?_ _) | (with_reducible refine Below.drew ?_) | (with_reducible refine below_drewN ?_ _) | (with_reducible refine Below.setCell ?_ ?_ _) | (with_reducible refine below_call ?_ ?_ (by assumption)) | go_size))⟩
        · obtain ⟨h1, h2⟩ := inB_bd ga
          obtain ⟨h3, h4⟩ := inB_bd gb
          obtain ⟨h5, h6⟩ := inB_bd gc
          have q1 := sb_bd (h := h) (n := b + 1) ⟨h1, h2⟩ (by omega) (by omega)
          have q2 := sb_bd (h := h) (n := a) ⟨h1, h2⟩ (by omega) (by omega)
          have HM := Lib.hid (show (sb h (b + 1) - sb h a, true) = betwR h a b from by simp [betwR, hl, ga, gb, gc])
          (go_enter Try.func8, Try.ntmps8)
          go_wp2_with fail
          refine (diHours_is _ ga _).mono ?_
          (rintro e1 w1 ⟨rfl, rfl⟩)
          go_wp2_with fail
          refine (l1In_is _ _ _ gb _).mono ?_
          (rintro e1 w1 ⟨rfl, rfl⟩)
          go_wp2_with fail
          refine (l1In_is _ _ _ gc _).mono ?_
          (rintro e1 w1 ⟨rfl, rfl⟩)
          go_wp2_with fail
          refine (stUpTo_any h (b + 1) ⟨h1, h2⟩ (by omega) (by omega) _).mono ?_
          (rintro e1 w1 ⟨rfl, hb1⟩; obtain ⟨hc1, hf1⟩ := bcell hb1; have hz1 := hb1.size; (try simp only [World.size_alloc, World.size_setCell, World.size_drew] at hz1); have q1 : w.heap.size ≤ w1.heap.size := (by omega); (try have q1_0 : w.heap.size < w1.heap.size := (by omega)); (try have q1_1 : w.heap.size + 1 < w1.heap.size := (by omega)); (try have q1_2 : w.heap.size + 2 < w1.heap.size := (by omega)); (try have q1_3 : w.heap.size + 3 < w1.heap.size := (by omega)))
          go_wp2_with fail
          refine (stUpTo_any h a ⟨h1, h2⟩ (by omega) (by omega) _).mono ?_
          (rintro e2 w2 ⟨rfl, hb2⟩; obtain ⟨hc2, hf2⟩ := bcell hb2; have hz2 := hb2.size; (try simp only [World.size_alloc, World.size_setCell, World.size_drew] at hz2); have q2 : w.heap.size ≤ w2.heap.size := (by omega); (try have q2_0 : w.heap.size < w2.heap.size := (by omega)); (try have q2_1 : w.heap.size + 1 < w2.heap.size := (by omega)); (try have q2_2 : w.heap.size + 2 < w2.heap.size := (by omega)); (try have q2_3 : w.heap.size + 3 < w2.heap.size := (by omega)); (try have q2_1_0 : w1.heap.size < w2.heap.size := (by omega)); (try have q2_1_1 : w1.heap.size + 1 < w2.heap.size := (by omega)))
          go_wp2
          (refine bodyPost_ret (by simp [results, Try.results8, go_sem, *]; try rfl) rfl ?_)
          exact ⟨ret_nv HM.out, by (repeat' (first | (with_reducible exact Below.refl _ _) | (with_reducible assumption) | (with_reducible refine Below.alloc ?_ ?_ _) | (with_reducible refine Below.drew ?_) | (with_reducible refine below_drewN ?_ _) | (with_reducible refine Below.setCell ?_ ?_ _) | (with_reducible refine below_call ?_ ?_ (by assumption)) | go_size))⟩

set_option maxHeartbeats 800000 in
theorem implStrokesBetween_any (h a b : Int) (w : World) :
    Calls Try.prog 7 #[.int .i64 h, .int .i64 a, .int .i64 b] w fun e w' => e = .returned (nv (betwR h a b)) ∧ Below w.heap.size w w' := by
  by_cases hl : b < a
  · cases ga : inB h 2 24
    · have HM := Lib.hid (show (0, false) = betwR h a b from by simp [betwR, hl, ga])
      (go_enter Try.func7, Try.ntmps7)
      go_wp2_with fail
      refine (isDial_is _ ga _).mono ?_
      (rintro e1 w1 ⟨rfl, rfl⟩)
      go_wp2
      (refine bodyPost_ret (by simp [results, Try.results7, go_sem, *]; try rfl) rfl ?_)
      exact ⟨ret_nv HM.out, by (repeat' (first | (with_reducible exact Below.refl _ _) | (with_reducible assumption) | (with_reducible refine Below.alloc ?_ ?_ _) | (with_reducible refine Below.drew ?_) | (with_reducible refine below_drewN ?_ _) | (with_reducible refine Below.setCell ?_ ?_ _) | (with_reducible refine below_call ?_ ?_ (by assumption)) | go_size))⟩
    · cases gb : inB a 0 1000000
      · have HM := Lib.hid (show (0, false) = betwR h a b from by simp [betwR, hl, ga, gb])
        (go_enter Try.func7, Try.ntmps7)
        go_wp2_with fail
        refine (isDial_is _ ga _).mono ?_
        (rintro e1 w1 ⟨rfl, rfl⟩)
        go_wp2_with fail
        refine (isWithin_is _ _ _ gb _).mono ?_
        (rintro e1 w1 ⟨rfl, rfl⟩)
        go_wp2
        (refine bodyPost_ret (by simp [results, Try.results7, go_sem, *]; try rfl) rfl ?_)
        exact ⟨ret_nv HM.out, by (repeat' (first | (with_reducible exact Below.refl _ _) | (with_reducible assumption) | (with_reducible refine Below.alloc ?_ ?_ _) | (with_reducible refine Below.drew ?_) | (with_reducible refine below_drewN ?_ _) | (with_reducible refine Below.setCell ?_ ?_ _) | (with_reducible refine below_call ?_ ?_ (by assumption)) | go_size))⟩
      · cases gc : inB b 0 1000000
        · have HM := Lib.hid (show (0, false) = betwR h a b from by simp [betwR, hl, ga, gb, gc])
          (go_enter Try.func7, Try.ntmps7)
          go_wp2_with fail
          refine (isDial_is _ ga _).mono ?_
          (rintro e1 w1 ⟨rfl, rfl⟩)
          go_wp2_with fail
          refine (isWithin_is _ _ _ gb _).mono ?_
          (rintro e1 w1 ⟨rfl, rfl⟩)
          go_wp2_with fail
          refine (isWithin_is _ _ _ gc _).mono ?_
          (rintro e1 w1 ⟨rfl, rfl⟩)
          go_wp2
          (refine bodyPost_ret (by simp [results, Try.results7, go_sem, *]; try rfl) rfl ?_)
          exact ⟨ret_nv HM.out, by (repeat' (first | (with_reducible exact Below.refl _ _) | (with_reducible assumption) | (with_reducible refine Below.alloc ?_ ?_ _) | (with_reducible refine Below.drew ?_) | (with_reducible refine below_drewN ?_ _) | (with_reducible refine Below.setCell ?_ ?_ _) | (with_reducible refine below_call ?_ ?_ (by assumption)) | go_size))⟩
        · have HM := Lib.hid (show (0, true) = betwR h a b from by simp [betwR, hl, ga, gb, gc])
          (go_enter Try.func7, Try.ntmps7)
          go_wp2_with fail
          refine (isDial_is _ ga _).mono ?_
          (rintro e1 w1 ⟨rfl, rfl⟩)
          go_wp2_with fail
          refine (isWithin_is _ _ _ gb _).mono ?_
          (rintro e1 w1 ⟨rfl, rfl⟩)
          go_wp2_with fail
          refine (isWithin_is _ _ _ gc _).mono ?_
          (rintro e1 w1 ⟨rfl, rfl⟩)
          go_wp2
          (refine bodyPost_ret (by simp [results, Try.results7, go_sem, *]; try rfl) rfl ?_)
          exact ⟨ret_nv HM.out, by (repeat' (first | (with_reducible exact Below.refl _ _) | (with_reducible assumption) | (with_reducible refine Below.alloc ?_ ?_ _) | (with_reducible refine Below.drew ?_) | (with_reducible refine below_drewN ?_ _) | (with_reducible refine Below.setCell ?_ ?_ _) | (with_reducible refine below_call ?_ ?_ (by assumption)) | go_size))⟩
  · cases ga : inB h 2 24
    · have HM := Lib.hid (show (0, false) = betwR h a b from by simp [betwR, hl, ga])
      (go_enter Try.func7, Try.ntmps7)
      go_wp2_with fail
      refine (isDial_is _ ga _).mono ?_
      (rintro e1 w1 ⟨rfl, rfl⟩)
      go_wp2
      (refine bodyPost_ret (by simp [results, Try.results7, go_sem, *]; try rfl) rfl ?_)
      exact ⟨ret_nv HM.out, by (repeat' (first | (with_reducible exact Below.refl _ _) | (with_reducible assumption) | (with_reducible refine Below.alloc ?_ ?_ _) | (with_reducible refine Below.drew ?_) | (with_reducible refine below_drewN ?_ _) | (with_reducible refine Below.setCell ?_ ?_ _) | (with_reducible refine below_call ?_ ?_ (by assumption)) | go_size))⟩
    · cases gb : inB a 0 1000000
      · have HM := Lib.hid (show (0, false) = betwR h a b from by simp [betwR, hl, ga, gb])
        (go_enter Try.func7, Try.ntmps7)
        go_wp2_with fail
        refine (isDial_is _ ga _).mono ?_
        (rintro e1 w1 ⟨rfl, rfl⟩)
        go_wp2_with fail
        refine (isWithin_is _ _ _ gb _).mono ?_
        (rintro e1 w1 ⟨rfl, rfl⟩)
        go_wp2
        (refine bodyPost_ret (by simp [results, Try.results7, go_sem, *]; try rfl) rfl ?_)
        exact ⟨ret_nv HM.out, by (repeat' (first | (with_reducible exact Below.refl _ _) | (with_reducible assumption) | (with_reducible refine Below.alloc ?_ ?_ _) | (with_reducible refine Below.drew ?_) | (with_reducible refine below_drewN ?_ _) | (with_reducible refine Below.setCell ?_ ?_ _) | (with_reducible refine below_call ?_ ?_ (by assumption)) | go_size))⟩
      · cases gc : inB b 0 1000000
        · have HM := Lib.hid (show (0, false) = betwR h a b from by simp [betwR, hl, ga, gb, gc])
          (go_enter Try.func7, Try.ntmps7)
          go_wp2_with fail
          refine (isDial_is _ ga _).mono ?_
          (rintro e1 w1 ⟨rfl, rfl⟩)
          go_wp2_with fail
          refine (isWithin_is _ _ _ gb _).mono ?_
          (rintro e1 w1 ⟨rfl, rfl⟩)
          go_wp2_with fail
          refine (isWithin_is _ _ _ gc _).mono ?_
          (rintro e1 w1 ⟨rfl, rfl⟩)
          go_wp2
          (refine bodyPost_ret (by simp [results, Try.results7, go_sem, *]; try rfl) rfl ?_)
          exact ⟨ret_nv HM.out, by (repeat' (first | (with_reducible exact Below.refl _ _) | (with_reducible assumption) | (with_reducible refine Below.alloc ?_ ?_ _) | (with_reducible refine Below.drew ?_) | (with_reducible refine below_drewN ?_ _) | (with_reducible refine Below.setCell ?_ ?_ _) | (with_reducible refine below_call ?_ ?_ (by assumption)) | go_size))⟩
        · obtain ⟨h1, h2⟩ := inB_bd ga
          obtain ⟨h3, h4⟩ := inB_bd gb
          obtain ⟨h5, h6⟩ := inB_bd gc
          have q1 := sb_bd (h := h) (n := b + 1) ⟨h1, h2⟩ (by omega) (by omega)
          have q2 := sb_bd (h := h) (n := a) ⟨h1, h2⟩ (by omega) (by omega)
          have HM := Lib.hid (show (sb h (b + 1) - sb h a, true) = betwR h a b from by simp [betwR, hl, ga, gb, gc])
          (go_enter Try.func7, Try.ntmps7)
          go_wp2_with fail
          refine (isDial_is _ ga _).mono ?_
          (rintro e1 w1 ⟨rfl, rfl⟩)
          go_wp2_with fail
          refine (isWithin_is _ _ _ gb _).mono ?_
          (rintro e1 w1 ⟨rfl, rfl⟩)
          go_wp2_with fail
          refine (isWithin_is _ _ _ gc _).mono ?_
          (rintro e1 w1 ⟨rfl, rfl⟩)
          go_wp2_with fail
          refine (strokesBefore_any h (b + 1) ⟨h1, h2⟩ (by omega) (by omega) _).mono ?_
          (rintro e1 w1 ⟨rfl, hb1⟩; obtain ⟨hc1, hf1⟩ := bcell hb1; have hz1 := hb1.size; (try simp only [World.size_alloc, World.size_setCell, World.size_drew] at hz1); have q1 : w.heap.size ≤ w1.heap.size := (by omega); (try have q1_0 : w.heap.size < w1.heap.size := (by omega)); (try have q1_1 : w.heap.size + 1 < w1.heap.size := (by omega)); (try have q1_2 : w.heap.size + 2 < w1.heap.size := (by omega)); (try have q1_3 : w.heap.size + 3 < w1.heap.size := (by omega)))
          go_wp2_with fail
          refine (strokesBefore_any h a ⟨h1, h2⟩ (by omega) (by omega) _).mono ?_
          (rintro e2 w2 ⟨rfl, hb2⟩; obtain ⟨hc2, hf2⟩ := bcell hb2; have hz2 := hb2.size; (try simp only [World.size_alloc, World.size_setCell, World.size_drew] at hz2); have q2 : w.heap.size ≤ w2.heap.size := (by omega); (try have q2_0 : w.heap.size < w2.heap.size := (by omega)); (try have q2_1 : w.heap.size + 1 < w2.heap.size := (by omega)); (try have q2_2 : w.heap.size + 2 < w2.heap.size := (by omega)); (try have q2_3 : w.heap.size + 3 < w2.heap.size := (by omega)); (try have q2_1_0 : w1.heap.size < w2.heap.size := (by omega)); (try have q2_1_1 : w1.heap.size + 1 < w2.heap.size := (by omega)))
          go_wp2
          (refine bodyPost_ret (by simp [results, Try.results7, go_sem, *]; try rfl) rfl ?_)
          exact ⟨ret_nv HM.out, by (repeat' (first | (with_reducible exact Below.refl _ _) | (with_reducible assumption) | (with_reducible refine Below.alloc ?_ ?_ _) | (with_reducible refine Below.drew ?_) | (with_reducible refine below_drewN ?_ _) | (with_reducible refine Below.setCell ?_ ?_ _) | (with_reducible refine below_call ?_ ?_ (by assumption)) | go_size))⟩

end Go.Proofs.Yteamijcnejjmjaa
