/- At which half a stroke is struck, and where the wheel stands behind so many: by the program and by the model. -/
import Derived.Test.YteamijcnejjmjaaStr2
set_option linter.unusedSimpArgs false
set_option linter.unusedVariables false
set_option maxRecDepth 100000
namespace Go.Proofs.Yteamijcnejjmjaa
open Go.RowKit

theorem tn_bd {h n : Int} (hh : 2 ≤ h ∧ h ≤ 24) (h1 : 1 ≤ n) (h2 : n ≤ 1000000024) :
    (0 ≤ (n - 1) / stT h ∧ (n - 1) / stT h ≤ 1000000024) ∧ (0 ≤ (n - 1) / stT h * stT h ∧ (n - 1) / stT h * stT h ≤ n - 1) ∧ 0 ≤ (n - 1) / stT h * 2 * h ∧ (n - 1) / stT h * 2 * h ≤ n - 1 := by
  have hT := stT_bd hh
  have h2T : 2 * h ≤ stT h := all_h (P := fun h => 2 * h ≤ stT h) (by decide +kernel) hh
  have d : 0 ≤ (n - 1) / stT h ∧ (n - 1) / stT h ≤ n - 1 := ⟨Int.ediv_nonneg (by omega) (by omega), Int.ediv_le_self _ (by omega)⟩
  have e : (n - 1) / stT h * stT h ≤ n - 1 := Int.ediv_mul_le _ (by omega)
  have f : (n - 1) / stT h * (2 * h) ≤ (n - 1) / stT h * stT h := Int.mul_le_mul_of_nonneg_left h2T d.1
  have g : 0 ≤ (n - 1) / stT h * (2 * h) := Int.mul_nonneg d.1 (by omega)
  have k : 0 ≤ (n - 1) / stT h * stT h := Int.mul_nonneg d.1 (by omega)
  rw [Int.mul_assoc]
  omega
/-- The half at which a stroke is struck, and which of its strokes that is. -/
def numT (h n : Int) : Int × Int := fs h ((n - 1) / stT h * 2 * h) (n - (n - 1) / stT h * stT h)
def numR (h n : Int) : Int × Int × Bool := if inB h 2 24 && inB n 1 1000000000 then ((numT h n).1, (numT h n).2, true) else (0, 0, false)
theorem ret_pair {a b : Int × Int} (h : a = b) : Ending.returned (.tuple #[.int .i64 a.1, .int .i64 a.2]) = .returned (.tuple #[.int .i64 b.1, .int .i64 b.2]) := by rw [h]
set_option maxHeartbeats 1600000 in
theorem findStroke_any (h n : Int) (hh : 2 ≤ h ∧ h ≤ 24) (h1 : 1 ≤ n) (h2 : n ≤ 1000000024) (w : World) :
    Calls Try.prog 46 #[.int .i64 h, .int .i64 n] w fun e w' => e = .returned (.tuple #[.int .i64 (numT h n).1, .int .i64 (numT h n).2]) ∧ Below w.heap.size w w' := by
  have hT := stT_bd hh
  obtain ⟨⟨a1, a2⟩, ⟨a3, a4⟩, a5, a6⟩ := tn_bd hh h1 h2
  have HN := Lib.hid (show fs h ((n - 1) / stT h * 2 * h) (n - (n - 1) / stT h * stT h) = numT h n from rfl)
  have hq := q64 (n := n - 1) (g := stT h) (by omega) (by omega) (by omega)
  have hz3 : ¬ (stT h = 0) := by omega
  have hw0 := w64 (n := n - 1) (by omega)
  have hw1 := w64 (n := (n - 1) / stT h * 2) (by omega)
  have hw2 := w64 (n := (n - 1) / stT h * 2 * h) (by omega)
  have hw3 := w64 (n := (n - 1) / stT h * stT h) (by omega)
  have hw4 := w64 (n := n - (n - 1) / stT h * stT h) (by omega)
  have hw5 := w64 (n := 2 * h) (by omega)
  have hz5 : ¬ (2 * h = 0) := by omega
  (go_enter Try.func46, Try.ntmps46)
  go_wp2_with fail
  refine (strokesAround_any h hh _).mono ?_
  (rintro e1 w1 ⟨rfl, rfl⟩)
  go_wp2_with fail
  refine (strokesAround_any h hh _).mono ?_
  (rintro e1 w1 ⟨rfl, rfl⟩)
  go_wp2_with fail
  refine (strokesOf_any h _).mono ?_
  (rintro e1 w1 ⟨rfl, rfl⟩)
  generalize (n - 1) / stT h * 2 * h = x0 at *
  generalize (n - 1) / stT h * stT h = d0 at *
  go_wp2
  go_loop [7, 8] (fun a b => ∃ x s : Int, a = .int .i64 x ∧ b = .int .i64 s ∧ fs h x s = numT h n ∧ 1 ≤ s ∧ 0 ≤ x ∧ x + s ≤ 2500000000) (fun _ b => (intOf b).toNat)
  case atStart => exact ⟨x0, n - d0, rfl, rfl, HN.out, by omega, by omega, by omega⟩
  case round =>
    obtain ⟨x, s, rfl, rfl, hfs, s1, x0', xs⟩ := hrel
    have hst := stM_bd x hh
    obtain ⟨t, hte⟩ : ∃ t, stM h x = t := ⟨_, rfl⟩
    have HT := Lib.hid hte
    have hlt0 : x % (2 * h) < 2 * h ∧ 0 ≤ x % (2 * h) := ⟨(mod_bd x hh).2, (mod_bd x hh).1⟩
    rw [hte] at hst
    by_cases hlt : t < s
    · have HF := Lib.hid ((show fs h (x + 1) (s - t) = fs h x s from by have e := fs_more hh (x := x) (n := s) (by rw [hte]; exact hlt); rw [hte] at e; exact e.symm).trans hfs)
      clear hte hfs
      go_wp2_with fail
      refine (strokes_is h x w.heap.size _ (by go_simp) hh x0' (by omega) HT.out).mono ?_
      (rintro e1 w1 ⟨rfl, rfl⟩)
      go_wp2_with fail
      refine (strokes_is h x w.heap.size _ (by go_simp) hh x0' (by omega) HT.out).mono ?_
      (rintro e1 w1 ⟨rfl, rfl⟩)
      go_wp2
      go_round
      case rel => exact ⟨x + 1, s - t, by go_num, by go_num, HF.out, by omega, by omega, by omega⟩
      case measure => simp [intOf]; omega
    · have HF := Lib.hid (show (x, s) = numT h n from by rw [← hfs, fs_done (by rw [hte]; exact hlt)])
      clear hte hfs
      go_wp2_with fail
      refine (strokes_is h x w.heap.size _ (by go_simp) hh x0' (by omega) HT.out).mono ?_
      (rintro e1 w1 ⟨rfl, rfl⟩)
      go_wp2
      (refine bodyPost_ret (by simp [results, Try.results46, go_sem, *]; try rfl) rfl ?_)
      exact ⟨ret_pair HF.out, by (repeat' (first | (with_reducible exact Below.refl _ _) | (with_reducible assumption) | (with_reducible refine Below.alloc ?_ ?_ _) | (with_reducible refine Below.drew ?_) | (with_reducible refine below_drewN ?_ _) | (with_reducible refine Below.setCell ?_ ?_ _) | (with_reducible refine below_call ?_ ?_ (by assumption)) | go_size))⟩

set_option maxHeartbeats 400000 in
theorem implStrokeNumber_any (h n : Int) (w : World) :
    Calls Try.prog 16 #[.int .i64 h, .int .i64 n] w fun e w' => e = .returned (nnv (numR h n)) ∧ Below w.heap.size w w' := by
  cases ga : inB h 2 24
  · have HM := Lib.hid (show (0, 0, false) = numR h n from by simp [numR, ga])
    (go_enter Try.func16, Try.ntmps16)
    go_wp2_with fail
    refine (isDial_is _ ga _).mono ?_
    (rintro e1 w1 ⟨rfl, rfl⟩)
    go_wp2
    (refine bodyPost_ret (by simp [results, Try.results16, go_sem, *]; try rfl) rfl ?_)
    exact ⟨ret_nnv HM.out, by (repeat' (first | (with_reducible exact Below.refl _ _) | (with_reducible assumption) | (with_reducible refine Below.alloc ?_ ?_ _) | (with_reducible refine Below.drew ?_) | (with_reducible refine below_drewN ?_ _) | (with_reducible refine Below.setCell ?_ ?_ _) | (with_reducible refine below_call ?_ ?_ (by assumption)) | go_size))⟩
  · cases gb : inB n 1 1000000000
    · have HM := Lib.hid (show (0, 0, false) = numR h n from by simp [numR, ga, gb])
      (go_enter Try.func16, Try.ntmps16)
      go_wp2_with fail
      refine (isDial_is _ ga _).mono ?_
      (rintro e1 w1 ⟨rfl, rfl⟩)
      go_wp2_with fail
      refine (isWithin_is _ _ _ gb _).mono ?_
      (rintro e1 w1 ⟨rfl, rfl⟩)
      go_wp2
      (refine bodyPost_ret (by simp [results, Try.results16, go_sem, *]; try rfl) rfl ?_)
      exact ⟨ret_nnv HM.out, by (repeat' (first | (with_reducible exact Below.refl _ _) | (with_reducible assumption) | (with_reducible refine Below.alloc ?_ ?_ _) | (with_reducible refine Below.drew ?_) | (with_reducible refine below_drewN ?_ _) | (with_reducible refine Below.setCell ?_ ?_ _) | (with_reducible refine below_call ?_ ?_ (by assumption)) | go_size))⟩
    · obtain ⟨h1, h2⟩ := inB_bd ga
      obtain ⟨h3, h4⟩ := inB_bd gb
      have HM := Lib.hid (show ((numT h n).1, (numT h n).2, true) = numR h n from by simp [numR, ga, gb])
      (go_enter Try.func16, Try.ntmps16)
      go_wp2_with fail
      refine (isDial_is _ ga _).mono ?_
      (rintro e1 w1 ⟨rfl, rfl⟩)
      go_wp2_with fail
      refine (isWithin_is _ _ _ gb _).mono ?_
      (rintro e1 w1 ⟨rfl, rfl⟩)
      go_wp2_with fail
      refine (findStroke_any h n ⟨h1, h2⟩ h3 (by omega) _).mono ?_
      (rintro e1 w1 ⟨rfl, hb1⟩; obtain ⟨hc1, hf1⟩ := bcell hb1; have hz1 := hb1.size; (try simp only [World.size_alloc, World.size_setCell, World.size_drew] at hz1); have q1 : w.heap.size ≤ w1.heap.size := (by omega); (try have q1_0 : w.heap.size < w1.heap.size := (by omega)); (try have q1_1 : w.heap.size + 1 < w1.heap.size := (by omega)); (try have q1_2 : w.heap.size + 2 < w1.heap.size := (by omega)); (try have q1_3 : w.heap.size + 3 < w1.heap.size := (by omega)))
      go_wp2
      (refine bodyPost_ret (by simp [results, Try.results16, go_sem, *]; try rfl) rfl ?_)
      exact ⟨ret_nnv HM.out, by (repeat' (first | (with_reducible exact Below.refl _ _) | (with_reducible assumption) | (with_reducible refine Below.alloc ?_ ?_ _) | (with_reducible refine Below.drew ?_) | (with_reducible refine below_drewN ?_ _) | (with_reducible refine Below.setCell ?_ ?_ _) | (with_reducible refine below_call ?_ ?_ (by assumption)) | go_size))⟩

set_option maxHeartbeats 1600000 in
theorem specStrokeNumber_any (h n : Int) (w : World) :
    Calls Try.prog 17 #[.int .i64 h, .int .i64 n] w fun e w' => e = .returned (nnv (numR h n)) ∧ Below w.heap.size w w' := by
  cases ga : inB h 2 24
  · have HM := Lib.hid (show (0, 0, false) = numR h n from by simp [numR, ga])
    (go_enter Try.func17, Try.ntmps17)
    go_wp2_with fail
    refine (diHours_is _ ga _).mono ?_
    (rintro e1 w1 ⟨rfl, rfl⟩)
    go_wp2
    (refine bodyPost_ret (by simp [results, Try.results17, go_sem, *]; try rfl) rfl ?_)
    exact ⟨ret_nnv HM.out, by (repeat' (first | (with_reducible exact Below.refl _ _) | (with_reducible assumption) | (with_reducible refine Below.alloc ?_ ?_ _) | (with_reducible refine Below.drew ?_) | (with_reducible refine below_drewN ?_ _) | (with_reducible refine Below.setCell ?_ ?_ _) | (with_reducible refine below_call ?_ ?_ (by assumption)) | go_size))⟩
  · cases gb : inB n 1 1000000000
    · have HM := Lib.hid (show (0, 0, false) = numR h n from by simp [numR, ga, gb])
      (go_enter Try.func17, Try.ntmps17)
      go_wp2_with fail
      refine (diHours_is _ ga _).mono ?_
      (rintro e1 w1 ⟨rfl, rfl⟩)
      go_wp2_with fail
      refine (l1In_is _ _ _ gb _).mono ?_
      (rintro e1 w1 ⟨rfl, rfl⟩)
      go_wp2
      (refine bodyPost_ret (by simp [results, Try.results17, go_sem, *]; try rfl) rfl ?_)
      exact ⟨ret_nnv HM.out, by (repeat' (first | (with_reducible exact Below.refl _ _) | (with_reducible assumption) | (with_reducible refine Below.alloc ?_ ?_ _) | (with_reducible refine Below.drew ?_) | (with_reducible refine below_drewN ?_ _) | (with_reducible refine Below.setCell ?_ ?_ _) | (with_reducible refine below_call ?_ ?_ (by assumption)) | go_size))⟩
    · have hh := inB_bd ga
      obtain ⟨h1, h2'⟩ := inB_bd gb
      have h2 : n ≤ 1000000024 := by omega
      have HR := Lib.hid (show ((numT h n).1, (numT h n).2, true) = numR h n from by simp [numR, ga, gb])
      have hT := stT_bd hh
      obtain ⟨⟨a1, a2⟩, ⟨a3, a4⟩, a5, a6⟩ := tn_bd hh h1 h2
      have HN := Lib.hid (show fs h ((n - 1) / stT h * 2 * h) (n - (n - 1) / stT h * stT h) = numT h n from rfl)
      have hq := q64 (n := n - 1) (g := stT h) (by omega) (by omega) (by omega)
      have hz3 : ¬ (stT h = 0) := by omega
      have hw0 := w64 (n := n - 1) (by omega)
      have hw1 := w64 (n := (n - 1) / stT h * 2) (by omega)
      have hw2 := w64 (n := (n - 1) / stT h * 2 * h) (by omega)
      have hw3 := w64 (n := (n - 1) / stT h * stT h) (by omega)
      have hw4 := w64 (n := n - (n - 1) / stT h * stT h) (by omega)
      have hw5 := w64 (n := 2 * h) (by omega)
      have hz5 : ¬ (2 * h = 0) := by omega
      (go_enter Try.func17, Try.ntmps17)
      go_wp2_with fail
      refine (diHours_is _ ga _).mono ?_
      (rintro e1 w1 ⟨rfl, rfl⟩)
      go_wp2_with fail
      refine (l1In_is _ _ _ gb _).mono ?_
      (rintro e1 w1 ⟨rfl, rfl⟩)
      go_wp2_with fail
      refine (stTurn_any h hh _).mono ?_
      (rintro e1 w1 ⟨rfl, rfl⟩)
      go_wp2_with fail
      refine wp_region_below (by kernel_rfl) (by kernel_rfl) ?_
      (apply wpB_take (hw := rfl); (intro wq hq; obtain ⟨hcq, hfq⟩ := bcell hq; unfold atB; go_simp; exact ⟨rfl, rfl⟩); simp only [Act.put, List.setIfInBounds_toArray, List.set_cons_zero, List.set_cons_succ])
      (apply wpB_take (hw := rfl); (intro wq hq; obtain ⟨hcq, hfq⟩ := bcell hq; unfold atB; go_simp; exact ⟨rfl, rfl⟩); simp only [Act.put, List.setIfInBounds_toArray, List.set_cons_zero, List.set_cons_succ])
      (apply wpB_take (hw := rfl); (intro wq hq; obtain ⟨hcq, hfq⟩ := bcell hq; unfold atB; go_simp; exact ⟨rfl, rfl⟩); simp only [Act.put, List.setIfInBounds_toArray, List.set_cons_zero, List.set_cons_succ])
      (apply wpB_take (hw := rfl); (intro wq hq; obtain ⟨hcq, hfq⟩ := bcell hq; unfold atB; go_simp; exact ⟨rfl, rfl⟩); simp only [Act.put, List.setIfInBounds_toArray, List.set_cons_zero, List.set_cons_succ])
      (apply wpB_take (hw := rfl); (intro wq hq; unfold atB; go_simp; exact ⟨rfl, stTurn_b h hh _⟩); simp only [Act.put, List.setIfInBounds_toArray, List.set_cons_zero, List.set_cons_succ])
      (apply wpB_take (hw := rfl); (intro wq hq; obtain ⟨hcq, hfq⟩ := bcell hq; unfold atB; go_simp; exact ⟨rfl, rfl⟩); simp only [Act.put, List.setIfInBounds_toArray, List.set_cons_zero, List.set_cons_succ])
      (apply wpB_take (hw := rfl); (intro wq hq; obtain ⟨hcq, hfq⟩ := bcell hq; unfold atB; go_simp; exact ⟨rfl, rfl⟩); simp only [Act.put, List.setIfInBounds_toArray, List.set_cons_zero, List.set_cons_succ])
      (apply wpB_take (hw := rfl); (intro wq hq; unfold atB; go_simp; exact ⟨rfl, stTurn_b h hh _⟩); simp only [Act.put, List.setIfInBounds_toArray, List.set_cons_zero, List.set_cons_succ])
      (apply wpB_take (hw := rfl); (intro wq hq; obtain ⟨hcq, hfq⟩ := bcell hq; unfold atB; go_simp; exact ⟨rfl, rfl⟩); simp only [Act.put, List.setIfInBounds_toArray, List.set_cons_zero, List.set_cons_succ])
      (apply wpB_take (hw := rfl); (intro wq hq; obtain ⟨hcq, hfq⟩ := bcell hq; unfold atB; go_simp; exact ⟨rfl, rfl⟩); simp only [Act.put, List.setIfInBounds_toArray, List.set_cons_zero, List.set_cons_succ])
      (apply wpB_take (hw := rfl); (intro wq hq; obtain ⟨hcq, hfq⟩ := bcell hq; unfold atB; go_simp; exact ⟨rfl, rfl⟩); simp only [Act.put, List.setIfInBounds_toArray, List.set_cons_zero, List.set_cons_succ])
      refine fun w1 hb1 => ?_
      (obtain ⟨hc1, hf1⟩ := bcell hb1; have hz1 := hb1.size; (try simp only [World.size_alloc, World.size_setCell, World.size_drew] at hz1); have q1 : w.heap.size ≤ w1.heap.size := (by omega); (try have q1_0 : w.heap.size < w1.heap.size := (by omega)); (try have q1_1 : w.heap.size + 1 < w1.heap.size := (by omega)); (try have q1_2 : w.heap.size + 2 < w1.heap.size := (by omega)); (try have q1_3 : w.heap.size + 3 < w1.heap.size := (by omega)); try simp only [Act.put, List.setIfInBounds_toArray, List.set_cons_zero, List.set_cons_succ])
      generalize (n - 1) / stT h * 2 * h = x0 at *
      generalize (n - 1) / stT h * stT h = d0 at *
      go_wp2
      go_loop [7, 1] (fun a b => ∃ x s : Int, a = .int .i64 x ∧ b = .int .i64 s ∧ fs h x s = numT h n ∧ 1 ≤ s ∧ 0 ≤ x ∧ x + s ≤ 2500000000) (fun _ b => (intOf b).toNat)
      case atStart => exact ⟨x0, n - d0, rfl, rfl, HN.out, by omega, by omega, by omega⟩
      case round =>
        obtain ⟨x, s, rfl, rfl, hfs, s1, x0', xs⟩ := hrel
        have hst := stM_bd x hh
        obtain ⟨t, hte⟩ : ∃ t, stM h x = t := ⟨_, rfl⟩
        have HT := Lib.hid hte
        have HE := Lib.hid (show stA h (x % (2 * h)) = t from hte)
        have hr := t64 (n := x) (g := 2 * h) x0' (by omega) (by omega)
        have hlt0 : x % (2 * h) < 2 * h ∧ 0 ≤ x % (2 * h) := ⟨(mod_bd x hh).2, (mod_bd x hh).1⟩
        rw [hte] at hst
        by_cases hlt : t < s
        · have HF := Lib.hid ((show fs h (x + 1) (s - t) = fs h x s from by have e := fs_more hh (x := x) (n := s) (by rw [hte]; exact hlt); rw [hte] at e; exact e.symm).trans hfs)
          clear hte hfs
          go_wp2_with fail
          refine (stAt_is h (x % (2 * h)) hlt0.2 (by omega) HE.out _).mono ?_
          (rintro e1 w1 ⟨rfl, rfl⟩)
          go_wp2_with fail
          refine (stAt_is h (x % (2 * h)) hlt0.2 (by omega) HE.out _).mono ?_
          (rintro e1 w1 ⟨rfl, rfl⟩)
          go_wp2
          go_round
          case rel => exact ⟨x + 1, s - t, by go_num, by go_num, HF.out, by omega, by omega, by omega⟩
          case measure => simp [intOf]; omega
        · have HF := Lib.hid (show (x, s) = numT h n from by rw [← hfs, fs_done (by rw [hte]; exact hlt)])
          clear hte hfs
          go_wp2_with fail
          refine (stAt_is h (x % (2 * h)) hlt0.2 (by omega) HE.out _).mono ?_
          (rintro e1 w1 ⟨rfl, rfl⟩)
          go_wp2
          (refine bodyPost_ret (by simp [results, Try.results17, go_sem, *]; try rfl) rfl ?_)
          exact ⟨ret_nnv ((show (x, s, true) = ((numT h n).1, (numT h n).2, true) from by rw [← HF.out]).trans HR.out), by (repeat' (first | (with_reducible exact Below.refl _ _) | (with_reducible assumption) | (with_reducible refine Below.alloc ?_ ?_ _) | (with_reducible refine Below.drew ?_) | (with_reducible refine below_drewN ?_ _) | (with_reducible refine Below.setCell ?_ ?_ _) | (with_reducible refine below_call ?_ ?_ (by assumption)) | go_size))⟩

def whlR (h s : Int) : Int × Bool := if inB h 2 24 && inB s 0 1000000000 then (hw h 0 (s % stT h), true) else (0, false)
set_option maxHeartbeats 800000 in
theorem implHalfOfWheel_any (h s : Int) (w : World) :
    Calls Try.prog 19 #[.int .i64 h, .int .i64 s] w fun e w' => e = .returned (nv (whlR h s)) ∧ Below w.heap.size w w' := by
  cases ga : inB h 2 24
  · have HM := Lib.hid (show (0, false) = whlR h s from by simp [whlR, ga])
    (go_enter Try.func19, Try.ntmps19)
    go_wp2_with fail
    refine (isDial_is _ ga _).mono ?_
    (rintro e1 w1 ⟨rfl, rfl⟩)
    go_wp2
    (refine bodyPost_ret (by simp [results, Try.results19, go_sem, *]; try rfl) rfl ?_)
    exact ⟨ret_nv HM.out, by (repeat' (first | (with_reducible exact Below.refl _ _) | (with_reducible assumption) | (with_reducible refine Below.alloc ?_ ?_ _) | (with_reducible refine Below.drew ?_) | (with_reducible refine below_drewN ?_ _) | (with_reducible refine Below.setCell ?_ ?_ _) | (with_reducible refine below_call ?_ ?_ (by assumption)) | go_size))⟩
  · cases gb : inB s 0 1000000000
    · have HM := Lib.hid (show (0, false) = whlR h s from by simp [whlR, ga, gb])
      (go_enter Try.func19, Try.ntmps19)
      go_wp2_with fail
      refine (isDial_is _ ga _).mono ?_
      (rintro e1 w1 ⟨rfl, rfl⟩)
      go_wp2_with fail
      refine (isWithin_is _ _ _ gb _).mono ?_
      (rintro e1 w1 ⟨rfl, rfl⟩)
      go_wp2
      (refine bodyPost_ret (by simp [results, Try.results19, go_sem, *]; try rfl) rfl ?_)
      exact ⟨ret_nv HM.out, by (repeat' (first | (with_reducible exact Below.refl _ _) | (with_reducible assumption) | (with_reducible refine Below.alloc ?_ ?_ _) | (with_reducible refine Below.drew ?_) | (with_reducible refine below_drewN ?_ _) | (with_reducible refine Below.setCell ?_ ?_ _) | (with_reducible refine below_call ?_ ?_ (by assumption)) | go_size))⟩
    · have hh := inB_bd ga
      obtain ⟨h1, h2⟩ := inB_bd gb
      have hT := stT_bd hh
      have hw5 := w64 (n := 2 * h) (by omega)
      have hz5 : ¬ (2 * h = 0) := by omega
      have hS : (numT h (h + s)).1 % (2 * h) = hw h 0 (s % stT h) := (wheel_same hh h1).symm
      have hf := (fs_bd hh (h + s - (h + s - 1) / stT h * stT h).toNat ((h + s - 1) / stT h * 2 * h) (h + s - (h + s - 1) / stT h * stT h) (Nat.le_refl _) (by have := tn_bd (h := h) (n := h + s) hh (by omega) (by omega); omega))
      have hf2 : 0 ≤ (numT h (h + s)).1 ∧ (numT h (h + s)).1 ≤ 2500000000 := by unfold numT; have := tn_bd (h := h) (n := h + s) hh (by omega) (by omega); omega
      clear hf
      have HS := Lib.hid hS
      clear hS
      have HC : Hid (∀ W : World, Calls Try.prog 46 #[.int .i64 h, .int .i64 (h + s)] W fun e w' => e = .returned (.tuple #[.int .i64 (numT h (h + s)).1, .int .i64 (numT h (h + s)).2]) ∧ Below W.heap.size W w') := fun W => findStroke_any h (h + s) hh (by omega) (by omega) W
      generalize numT h (h + s) = p at *
      obtain ⟨p, p2⟩ := p
      simp only at hf2
      have hr := t64 (n := p) (g := 2 * h) hf2.1 (by omega) (by omega)
      obtain ⟨pa, pb⟩ := hf2
      have HM := Lib.hid (show (hw h 0 (s % stT h), true) = whlR h s from by simp [whlR, ga, gb])
      (go_enter Try.func19, Try.ntmps19)
      go_wp2_with fail
      refine (isDial_is _ ga _).mono ?_
      (rintro e1 w1 ⟨rfl, rfl⟩)
      go_wp2_with fail
      refine (isWithin_is _ _ _ gb _).mono ?_
      (rintro e1 w1 ⟨rfl, rfl⟩)
      go_wp2_with fail
      refine (HC.out _).mono ?_
      (rintro e1 w1 ⟨rfl, hb1⟩; obtain ⟨hc1, hf1⟩ := bcell hb1; have hz1 := hb1.size; (try simp only [World.size_alloc, World.size_setCell, World.size_drew] at hz1); have q1 : w.heap.size ≤ w1.heap.size := (by omega); (try have q1_0 : w.heap.size < w1.heap.size := (by omega)); (try have q1_1 : w.heap.size + 1 < w1.heap.size := (by omega)); (try have q1_2 : w.heap.size + 2 < w1.heap.size := (by omega)); (try have q1_3 : w.heap.size + 3 < w1.heap.size := (by omega)))
      go_wp2
      (refine bodyPost_ret (by simp [results, Try.results19, go_sem, *]; try rfl) rfl ?_)
      exact ⟨(show Ending.returned (nv (p % (2 * h), true)) = _ from by rw [show p % (2 * h) = hw h 0 (s % stT h) from HS.out]; exact ret_nv HM.out), by (repeat' (first | (with_reducible exact Below.refl _ _) | (with_reducible assumption) | (with_reducible refine Below.alloc ?_ ?_ _) | (with_reducible refine Below.drew ?_) | (with_reducible refine below_drewN ?_ _) | (with_reducible refine Below.setCell ?_ ?_ _) | (with_reducible refine below_call ?_ ?_ (by assumption)) | go_size))⟩

set_option maxHeartbeats 1600000 in
theorem specHalfOfWheel_any (h s : Int) (w : World) :
    Calls Try.prog 20 #[.int .i64 h, .int .i64 s] w fun e w' => e = .returned (nv (whlR h s)) ∧ Below w.heap.size w w' := by
  cases ga : inB h 2 24
  · have HM := Lib.hid (show (0, false) = whlR h s from by simp [whlR, ga])
    (go_enter Try.func20, Try.ntmps20)
    go_wp2_with fail
    refine (diHours_is _ ga _).mono ?_
    (rintro e1 w1 ⟨rfl, rfl⟩)
    go_wp2
    (refine bodyPost_ret (by simp [results, Try.results20, go_sem, *]; try rfl) rfl ?_)
    exact ⟨ret_nv HM.out, by (repeat' (first | (with_reducible exact Below.refl _ _) | (with_reducible assumption) | (with_reducible refine Below.alloc ?_ ?_ _) | (with_reducible refine Below.drew ?_) | (with_reducible refine below_drewN ?_ _) | (with_reducible refine Below.setCell ?_ ?_ _) | (with_reducible refine below_call ?_ ?_ (by assumption)) | go_size))⟩
  · cases gb : inB s 0 1000000000
    · have HM := Lib.hid (show (0, false) = whlR h s from by simp [whlR, ga, gb])
      (go_enter Try.func20, Try.ntmps20)
      go_wp2_with fail
      refine (diHours_is _ ga _).mono ?_
      (rintro e1 w1 ⟨rfl, rfl⟩)
      go_wp2_with fail
      refine (l1In_is _ _ _ gb _).mono ?_
      (rintro e1 w1 ⟨rfl, rfl⟩)
      go_wp2
      (refine bodyPost_ret (by simp [results, Try.results20, go_sem, *]; try rfl) rfl ?_)
      exact ⟨ret_nv HM.out, by (repeat' (first | (with_reducible exact Below.refl _ _) | (with_reducible assumption) | (with_reducible refine Below.alloc ?_ ?_ _) | (with_reducible refine Below.drew ?_) | (with_reducible refine below_drewN ?_ _) | (with_reducible refine Below.setCell ?_ ?_ _) | (with_reducible refine below_call ?_ ?_ (by assumption)) | go_size))⟩
    · have hh := inB_bd ga
      obtain ⟨h1, h2⟩ := inB_bd gb
      have hT := stT_bd hh
      have hw5 := w64 (n := 2 * h) (by omega)
      have hz5 : ¬ (2 * h = 0) := by omega
      have hz3 : ¬ (stT h = 0) := by omega
      have hr := t64 (n := s) (g := stT h) h1 (by omega) (by omega)
      have hr0 := Int.emod_nonneg s (show stT h ≠ 0 by omega)
      have hr1 := Int.emod_lt_of_pos s (show 0 < stT h by omega)
      have HR := Lib.hid (show (hw h 0 (s % stT h), true) = whlR h s from by simp [whlR, ga, gb])
      (go_enter Try.func20, Try.ntmps20)
      go_wp2_with fail
      refine (diHours_is _ ga _).mono ?_
      (rintro e1 w1 ⟨rfl, rfl⟩)
      go_wp2_with fail
      refine (l1In_is _ _ _ gb _).mono ?_
      (rintro e1 w1 ⟨rfl, rfl⟩)
      go_wp2_with fail
      refine (stTurn_any h hh _).mono ?_
      (rintro e1 w1 ⟨rfl, rfl⟩)
      go_wp2
      generalize s % stT h = l0 at *
      go_loop [6, 7] (fun a b => ∃ x l : Int, a = .int .i64 x ∧ b = .int .i64 l ∧ hw h x l = hw h 0 l0 ∧ (0 ≤ x ∧ x < 2 * h) ∧ -24 ≤ l ∧ l ≤ 400) (fun _ b => (intOf b).toNat)
      case atStart => exact ⟨0, l0, rfl, rfl, rfl, by omega, by omega, by omega⟩
      case round =>
        obtain ⟨x, l, rfl, rfl, hx, ⟨x1, x2⟩, l1, l2⟩ := hrel
        by_cases hlt : 0 < l
        · have hm := mod_bd (x + 1) hh
          have hrx := t64 (n := x + 1) (g := 2 * h) (by omega) (by omega) (by omega)
          have hst := stM_bd ((x + 1) % (2 * h)) hh
          rw [hw_more hh hlt] at hx
          have HX := Lib.hid hx
          have HE := Lib.hid (show stA h ((x + 1) % (2 * h)) = stM h ((x + 1) % (2 * h)) from (stM_small hm.1 hm.2).symm)
          clear hx
          generalize stM h ((x + 1) % (2 * h)) = t at *
          obtain ⟨m1, m2⟩ := hm
          go_wp2_with fail
          refine (stAt_is h ((x + 1) % (2 * h)) m1 (by omega) HE.out _).mono ?_
          (rintro e1 w1 ⟨rfl, rfl⟩)
          go_wp2
          go_round
          case rel => exact ⟨(x + 1) % (2 * h), l - t, by go_num, by go_num, HX.out, ⟨m1, m2⟩, by omega, by omega⟩
          case measure => simp [intOf]; omega
        · rw [hw_done hlt] at hx
          subst hx
          go_wp2
          (refine bodyPost_ret (by simp [results, Try.results20, go_sem, *]; try rfl) rfl ?_)
          exact ⟨ret_nv HR.out, by (repeat' (first | (with_reducible exact Below.refl _ _) | (with_reducible assumption) | (with_reducible refine Below.alloc ?_ ?_ _) | (with_reducible refine Below.drew ?_) | (with_reducible refine below_drewN ?_ _) | (with_reducible refine Below.setCell ?_ ?_ _) | (with_reducible refine below_call ?_ ?_ (by assumption)) | go_size))⟩

end Go.Proofs.Yteamijcnejjmjaa
