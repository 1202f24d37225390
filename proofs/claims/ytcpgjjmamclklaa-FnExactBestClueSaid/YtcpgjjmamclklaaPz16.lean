/- Puzzles: BestClue: by the program and by the model. -/
import Derived.Test.YtcpgjjmamclklaaPz15
set_option linter.unusedSimpArgs false
set_option linter.unusedVariables false
set_option maxRecDepth 100000
namespace Go.Proofs.Ytcpgjjmamclklaa
open Go.RowKit

set_option maxHeartbeats 800000 in
theorem tellBest_any (h : Int) (a : Option Addr) (c : Nat) (L : List (Int × Int × Int)) (hm : L.length ≤ maxLen) (hn : 1 ≤ L.length) (w : World) (hin : CIn w a L) :
    Calls Try.prog 78 #[pzv h (.slice a L.length c), .func (.func 97) #[] #[]] w fun e w' => e = .returned (jv9 (besR h L)) ∧ Below w.heap.size w w' := by
  have HN : Hid (okZ h L = true → (((bst (cntO h L) L.length).1 : Int), true) = besR h L) := Lib.hid (fun hx => by unfold besR; rw [hx]; simp; intro e; subst e; simp at hn)
  have HC := Lib.hid (fun W (hb : Below w.heap.size w W) => openPuzzle_any h a c L hm W (hin.below hb))
  clear hin
  (go_enter Try.func78, Try.ntmps78)
  go_wp2_with fail
  refine (HC.out _ (by (repeat' (first | (with_reducible exact Below.refl _ _) | (with_reducible assumption) | (with_reducible refine Below.alloc ?_ ?_ _) | (with_reducible refine Below.drew ?_) | (with_reducible refine below_drewN ?_ _) | (with_reducible refine Below.setCell ?_ ?_ _) | (with_reducible refine below_call ?_ ?_ (by assumption)) | go_size)))).mono ?_
  rintro e1 w1 ⟨hb1, ⟨hok, v, rfl, hr⟩ | ⟨hok, rfl⟩⟩
  · obtain ⟨hh, hl6, hall⟩ := okZ_bd hok
    obtain ⟨a1, c1, rfl, hi1, hcap, hcmx⟩ := hr.inn
    have HM := Lib.hid hok
    have HI := Lib.hid hi1
    have hz1 := hb1.size
    simp only [World.size_alloc] at hz1
    obtain ⟨hc1, hf1⟩ := bcell hb1
    clear hr hok hi1
    go_wp2_with fail
    refine (bestClue_any h a1 c1 L hn hh hall hcap hcmx (by omega) _ (HI.out.below (by (repeat' (first | (with_reducible exact Below.refl _ _) | (with_reducible assumption) | (with_reducible refine Below.alloc ?_ ?_ _) | (with_reducible refine Below.drew ?_) | (with_reducible refine below_drewN ?_ _) | (with_reducible refine Below.setCell ?_ ?_ _) | (with_reducible refine below_call ?_ ?_ (by assumption)) | go_size))))).mono ?_
    rintro e2 w2 ⟨rfl, hb2⟩
    have hz2 := hb2.size
    simp only [World.size_alloc] at hz2
    go_wp2
    (refine bodyPost_ret (by simp [results, Try.results78, go_sem, *]; try rfl) rfl ?_)
    exact ⟨ret_jv9 (a := ((bst (cntO h L) L.length).1, true)) (b := besR h L) (HN.out HM.out), by (repeat' (first | (with_reducible exact Below.refl _ _) | (with_reducible assumption) | (with_reducible refine Below.alloc ?_ ?_ _) | (with_reducible refine Below.drew ?_) | (with_reducible refine below_drewN ?_ _) | (with_reducible refine Below.setCell ?_ ?_ _) | (with_reducible refine below_call ?_ ?_ (by assumption)) | go_size))⟩
  · have HM := Lib.hid hok
    have hz1 := hb1.size
    simp only [World.size_alloc] at hz1
    clear hok
    go_wp2
    (refine bodyPost_ret (by simp [results, Try.results78, go_sem, *]; try rfl) rfl ?_)
    exact ⟨ret_jv9 (b := besR h L) (a := (0, false)) (by simp [besR, HM.out]), by (repeat' (first | (with_reducible exact Below.refl _ _) | (with_reducible assumption) | (with_reducible refine Below.alloc ?_ ?_ _) | (with_reducible refine Below.drew ?_) | (with_reducible refine below_drewN ?_ _) | (with_reducible refine Below.setCell ?_ ?_ _) | (with_reducible refine below_call ?_ ?_ (by assumption)) | go_size))⟩
set_option maxHeartbeats 800000 in
theorem implBestClue_any (h : Int) (a : Option Addr) (c : Nat) (L : List (Int × Int × Int)) (hm : L.length ≤ maxLen) (w : World) (hin : CIn w a L) :
    Calls Try.prog 55 #[pzv h (.slice a L.length c)] w fun e w' => e = .returned (jv9 (besR h L)) ∧ Below w.heap.size w w' := by
  by_cases hn : L.length = 0
  · have HM := Lib.hid (show (0, false) = besR h L from by simp [besR, hn])
    have hn' : ((L.length : Int) == 0) = true := by rw [beq_iff_eq]; omega
    clear hin hn
    (go_enter Try.func55, Try.ntmps55)
    go_wp2
    (refine bodyPost_ret (by simp [results, Try.results55, go_sem, *]; try rfl) rfl ?_)
    exact ⟨ret_jv9 HM.out, by (repeat' (first | (with_reducible exact Below.refl _ _) | (with_reducible assumption) | (with_reducible refine Below.alloc ?_ ?_ _) | (with_reducible refine Below.drew ?_) | (with_reducible refine below_drewN ?_ _) | (with_reducible refine Below.setCell ?_ ?_ _) | (with_reducible refine below_call ?_ ?_ (by assumption)) | go_size))⟩
  · have hn' : ((L.length : Int) == 0) = false := by rw [beq_eq_false_iff_ne]; omega
    have HC := Lib.hid (fun W (hb : Below w.heap.size w W) => tellBest_any h a c L hm (by omega) W (hin.below hb))
    clear hin hn
    (go_enter Try.func55, Try.ntmps55)
    go_wp2_with fail
    refine (HC.out _ (by (repeat' (first | (with_reducible exact Below.refl _ _) | (with_reducible assumption) | (with_reducible refine Below.alloc ?_ ?_ _) | (with_reducible refine Below.drew ?_) | (with_reducible refine below_drewN ?_ _) | (with_reducible refine Below.setCell ?_ ?_ _) | (with_reducible refine below_call ?_ ?_ (by assumption)) | go_size)))).mono ?_
    (rintro e1 w1 ⟨rfl, hb1⟩; obtain ⟨hc1, hf1⟩ := bcell hb1; have hz1 := hb1.size; (try simp only [World.size_alloc, World.size_setCell, World.size_drew] at hz1); have q1 : w.heap.size ≤ w1.heap.size := (by omega); (try have q1_0 : w.heap.size < w1.heap.size := (by omega)); (try have q1_1 : w.heap.size + 1 < w1.heap.size := (by omega)); (try have q1_2 : w.heap.size + 2 < w1.heap.size := (by omega)); (try have q1_3 : w.heap.size + 3 < w1.heap.size := (by omega)))
    go_wp2
    (refine bodyPost_ret (by simp [results, Try.results55, go_sem, *]; try rfl) rfl ?_)
    exact ⟨rfl, by (repeat' (first | (with_reducible exact Below.refl _ _) | (with_reducible assumption) | (with_reducible refine Below.alloc ?_ ?_ _) | (with_reducible refine Below.drew ?_) | (with_reducible refine below_drewN ?_ _) | (with_reducible refine Below.setCell ?_ ?_ _) | (with_reducible refine below_call ?_ ?_ (by assumption)) | go_size))⟩
set_option maxHeartbeats 1600000 in
theorem specBestClue_any (h : Int) (a : Option Addr) (c : Nat) (L : List (Int × Int × Int)) (hm : L.length ≤ maxLen) (hc : L.length ≤ c) (hcm : c ≤ maxLen) (w : World) (hin : CIn w a L) :
    Calls Try.prog 54 #[pzv h (.slice a L.length c)] w fun e w' => e = .returned (jv9 (besR h L)) ∧ Below w.heap.size w w' := by
  obtain ⟨i0, hi0, hz0, hz1, hz2⟩ := info_parts Try.infoClue
  have I0 := Lib.hid hi0
  have Z0 := Lib.hid hz0
  have Z1 := Lib.hid hz1
  have Z2 := Lib.hid hz2
  clear hi0 hz0 hz1 hz2
  have HX := Lib.hid (fun W (hb : Below w.heap.size w W) => hin.below hb)
  cases hok : okZ h L
  · have HC := Lib.hid (fun W (hb : Below w.heap.size w W) => pzGood_is h a c L hm hok W (hin.below hb))
    have HM := Lib.hid hok
    clear hin hok
    (go_enter Try.func54, Try.ntmps54)
    go_wp2_with fail
    refine (HC.out _ (by (repeat' (first | (with_reducible exact Below.refl _ _) | (with_reducible assumption) | (with_reducible refine Below.alloc ?_ ?_ _) | (with_reducible refine Below.drew ?_) | (with_reducible refine below_drewN ?_ _) | (with_reducible refine Below.setCell ?_ ?_ _) | (with_reducible refine below_call ?_ ?_ (by assumption)) | go_size)))).mono ?_
    (rintro e1 w1 ⟨rfl, hb1⟩; obtain ⟨hc1, hf1⟩ := bcell hb1; have hz1 := hb1.size; (try simp only [World.size_alloc, World.size_setCell, World.size_drew] at hz1); have q1 : w.heap.size ≤ w1.heap.size := (by omega); (try have q1_0 : w.heap.size < w1.heap.size := (by omega)); (try have q1_1 : w.heap.size + 1 < w1.heap.size := (by omega)); (try have q1_2 : w.heap.size + 2 < w1.heap.size := (by omega)); (try have q1_3 : w.heap.size + 3 < w1.heap.size := (by omega)))
    go_wp2
    (refine bodyPost_ret (by simp [results, Try.results54, go_sem, *]; try rfl) rfl ?_)
    exact ⟨ret_jv9 (b := besR h L) (a := (0, false)) (by simp [besR, HM.out]), by (repeat' (first | (with_reducible exact Below.refl _ _) | (with_reducible assumption) | (with_reducible refine Below.alloc ?_ ?_ _) | (with_reducible refine Below.drew ?_) | (with_reducible refine below_drewN ?_ _) | (with_reducible refine Below.setCell ?_ ?_ _) | (with_reducible refine below_call ?_ ?_ (by assumption)) | go_size))⟩
  · have HC := Lib.hid (fun W (hb : Below w.heap.size w W) => pzGood_is h a c L hm hok W (hin.below hb))
    have HM := Lib.hid hok
    obtain ⟨hh, hl6, hall⟩ := okZ_bd hok
    clear hin hok
    (go_enter Try.func54, Try.ntmps54)
    go_wp2_with fail
    refine (HC.out _ (by (repeat' (first | (with_reducible exact Below.refl _ _) | (with_reducible assumption) | (with_reducible refine Below.alloc ?_ ?_ _) | (with_reducible refine Below.drew ?_) | (with_reducible refine below_drewN ?_ _) | (with_reducible refine Below.setCell ?_ ?_ _) | (with_reducible refine below_call ?_ ?_ (by assumption)) | go_size)))).mono ?_
    (rintro e1 w1 ⟨rfl, hb1⟩; obtain ⟨hc1, hf1⟩ := bcell hb1; have hz1 := hb1.size; (try simp only [World.size_alloc, World.size_setCell, World.size_drew] at hz1); have q1 : w.heap.size ≤ w1.heap.size := (by omega); (try have q1_0 : w.heap.size < w1.heap.size := (by omega)); (try have q1_1 : w.heap.size + 1 < w1.heap.size := (by omega)); (try have q1_2 : w.heap.size + 2 < w1.heap.size := (by omega)); (try have q1_3 : w.heap.size + 3 < w1.heap.size := (by omega)))
    by_cases hn : L.length = 0
    · have HM2 := Lib.hid (show (0, false) = besR h L from by simp [besR, hn])
      have hn' : ((L.length : Int) == 0) = true := by rw [beq_iff_eq]; omega
      clear hn
      go_wp2
      (refine bodyPost_ret (by simp [results, Try.results54, go_sem, *]; try rfl) rfl ?_)
      exact ⟨ret_jv9 HM2.out, by (repeat' (first | (with_reducible exact Below.refl _ _) | (with_reducible assumption) | (with_reducible refine Below.alloc ?_ ?_ _) | (with_reducible refine Below.drew ?_) | (with_reducible refine below_drewN ?_ _) | (with_reducible refine Below.setCell ?_ ?_ _) | (with_reducible refine below_call ?_ ?_ (by assumption)) | go_size))⟩
    · have hn' : ((L.length : Int) == 0) = false := by rw [beq_eq_false_iff_ne]; omega
      have HM2 := Lib.hid (show (((bst (cntO h L) L.length).1 : Int), true) = besR h L from by unfold besR; rw [HM.out]; simp; intro e; subst e; simp at hn)
      have HD := Lib.hid (fun (k : Nat) (hk : k < L.length) W (hb : Below w.heap.size w W) => pzOne_any h a c L k hk hc hh hall W (HX.out W hb))
      have HB := Lib.hid (fun k => cntO_bd hh L k)
      have HSH := Lib.hid (fun (k : Nat) (hk : k < L.length) W => (run_cutLH Try.underlying33 I0.out Z1.out a L.length c k (k + 1) (by omega) (by omega) W))
      have x0 : w1.cell? ⟨w.heap.size, 0, none⟩ = some (.int .i64 h) := (hc1 _ _ (by go_size)).trans (by go_simp)
      have x1 : w1.cell? ⟨w.heap.size, 1, none⟩ = some (.slice a L.length c) := (hc1 _ _ (by go_size)).trans (by go_simp)
      have hbw1 : Below w.heap.size w w1 := by (repeat' (first | (with_reducible exact Below.refl _ _) | (with_reducible assumption) | (with_reducible refine Below.alloc ?_ ?_ _) | (with_reducible refine Below.drew ?_) | (with_reducible refine below_drewN ?_ _) | (with_reducible refine Below.setCell ?_ ?_ _) | (with_reducible refine below_call ?_ ?_ (by assumption)) | go_size))
      have hzz : w.heap.size + 1 ≤ w1.heap.size := by omega
      have HN0 := Lib.hid hn
      clear hc1 hf1 hb1 hn
      go_wp2
      go_loopw [4, 5, 20] (fun p q i wr => ∃ (k : Nat), k ≤ L.length ∧ i = .int .i64 k ∧ p = .int .i64 (bst (cntO h L) k).1 ∧ q = .int .i64 (bst (cntO h L) k).2 ∧ wr.cell? ⟨w.heap.size, 0, none⟩ = some (.int .i64 h) ∧ wr.cell? ⟨w.heap.size, 1, none⟩ = some (.slice a L.length c) ∧ w.heap.size + 1 ≤ wr.heap.size ∧ Below w.heap.size w wr) (fun _ _ i _ => L.length - (intOf i).toNat)
      case atStart => exact ⟨0, by omega, rfl, rfl, rfl, x0, x1, hzz, hbw1⟩
      case round =>
        obtain ⟨k, hk, rfl, rfl, rfl, c0, c1, hz3, hbr⟩ := hrel
        have n0' : (0 : Int) ≤ (k : Int) := Int.natCast_nonneg _
        have p0 : w.heap.size < wr.heap.size := by omega
        by_cases hlt : k < L.length
        · have k1 : (k : Int) < (L.length : Int) := by omega
          have HD2 := Lib.hid (HD.out k hlt)
          have hsh := HSH.out k hlt
          rw [show (((k + 1 : Nat)) : Int) = (k : Int) + 1 from by omega, show k + 1 - k = 1 from by omega] at hsh
          have v1 := zw64 (n := (k : Int) + 1) (by omega)
          have hb := HB.out k
          go_wp2_with fail
          have hS1 : wr.drew.cell? ⟨w.heap.size, 0, none⟩ = some (.int .i64 h) ∧ wr.drew.cell? ⟨w.heap.size, 1, none⟩ = some (.slice a L.length c) := ⟨c0, c1⟩
          refine wp_region_held (by kernel_rfl) (S := fun W => W.cell? ⟨w.heap.size, 0, none⟩ = some (.int .i64 h) ∧ W.cell? ⟨w.heap.size, 1, none⟩ = some (.slice a L.length c)) ?_
          refine take_first (i := 0) (v := .pointer (some ⟨w.heap.size, 0, none⟩)) _ rfl rfl (by kernel_rfl) (by kernel_rfl) (by kernel_rfl) (fun _ _ _ h => h) (by rfl) ?_ (by assumption) ?_
          · intro wq hq
            obtain ⟨s0, s1⟩ := hq
            go_simp
            try rfl
          simp only [Act.put, List.setIfInBounds_toArray, List.set_cons_zero, List.set_cons_succ]
          refine take_first (i := 1) (v := .int .i64 h) _ rfl rfl (by kernel_rfl) (by kernel_rfl) (by kernel_rfl) (fun _ _ _ h => h) (by rfl) ?_ (by assumption) ?_
          · intro wq hq
            obtain ⟨s0, s1⟩ := hq
            go_simp
            try rfl
          simp only [Act.put, List.setIfInBounds_toArray, List.set_cons_zero, List.set_cons_succ]
          refine take_first (i := 2) (v := .pointer (some ⟨w.heap.size, 1, none⟩)) _ rfl rfl (by kernel_rfl) (by kernel_rfl) (by kernel_rfl) (fun _ _ _ h => h) (by rfl) ?_ (by assumption) ?_
          · intro wq hq
            obtain ⟨s0, s1⟩ := hq
            go_simp
            try rfl
          simp only [Act.put, List.setIfInBounds_toArray, List.set_cons_zero, List.set_cons_succ]
          refine take_first (i := 3) (v := .slice a L.length c) _ rfl rfl (by kernel_rfl) (by kernel_rfl) (by kernel_rfl) (fun _ _ _ h => h) (by rfl) ?_ (by assumption) ?_
          · intro wq hq
            obtain ⟨s0, s1⟩ := hq
            go_simp
            try rfl
          simp only [Act.put, List.setIfInBounds_toArray, List.set_cons_zero, List.set_cons_succ]
          refine take_first (i := 4) (v := .int .i64 k) _ rfl rfl (by kernel_rfl) (by kernel_rfl) (by kernel_rfl) (fun _ _ _ h => h) (by rfl) ?_ (by assumption) ?_
          · intro wq hq
            obtain ⟨s0, s1⟩ := hq
            go_simp
            try rfl
          simp only [Act.put, List.setIfInBounds_toArray, List.set_cons_zero, List.set_cons_succ]
          refine take_first (i := 5) (v := .int .i64 k) _ rfl rfl (by kernel_rfl) (by kernel_rfl) (by kernel_rfl) (fun _ _ _ h => h) (by rfl) ?_ (by assumption) ?_
          · intro wq hq
            obtain ⟨s0, s1⟩ := hq
            go_simp
            try rfl
          simp only [Act.put, List.setIfInBounds_toArray, List.set_cons_zero, List.set_cons_succ]
          refine take_first (i := 6) (v := .int .i64 ((k : Int) + 1)) _ rfl rfl (by kernel_rfl) (by kernel_rfl) (by kernel_rfl) (fun _ _ _ h => h) (by rfl) ?_ (by assumption) ?_
          · intro wq hq
            obtain ⟨s0, s1⟩ := hq
            go_simp
            try rfl
          simp only [Act.put, List.setIfInBounds_toArray, List.set_cons_zero, List.set_cons_succ]
          refine take_first (i := 7) (v := .slice (cutA a k c) 1 (c - k)) _ rfl rfl (by kernel_rfl) (by kernel_rfl) (by kernel_rfl) (fun _ _ _ h => h) (by rfl) ?_ (by assumption) ?_
          · intro wq hq
            obtain ⟨s0, s1⟩ := hq
            go_simp
            try rfl
          simp only [Act.put, List.setIfInBounds_toArray, List.set_cons_zero, List.set_cons_succ]
          refine wpAnyH_all (rs := [8]) (by kernel_rfl) (by decide) (List.forall_mem_cons.2 ⟨?_, fun _ h => absurd h List.not_mem_nil⟩)
          refine wpOp_wp rfl rfl (wp_call_at _ rfl (f := 74) (args := #[.int .i64 h, .slice (cutA a k c) 1 (c - k)]) (by go_simp) ((HD2.out _ hbr.drew).mono ?_))
          rintro e2 w2 ⟨v2, rfl, hr2, hb2⟩
          obtain ⟨a2, c2, rfl, -⟩ := hr2.inn
          have hE2 : Below wr.heap.size wr w2 := (Below.refl _ _).drew.trans hb2
          obtain ⟨hc2, hf2⟩ := bcell hE2
          have hz2 := hE2.size
          have s0 := (hc2 _ _ p0).trans c0
          have s1 := (hc2 _ _ p0).trans c1
          have hbw : Below w.heap.size w w2 := hbr.trans (hE2.mono hbr.size)
          obtain ⟨t, ht⟩ : ∃ t : Int, t = ((sol h ((L.take (k + 1)).drop k)).length : Int) := ⟨_, rfl⟩
          have HTT : Hid (cntO h L k = t) := Lib.hid ht.symm
          clear hr2 hc2 hf2 hS1
          refine ⟨_, rfl, ⟨s0, s1⟩, ?_⟩
          simp only [Act.put, List.setIfInBounds_toArray, List.set_cons_zero, List.set_cons_succ]
          refine wpAnyH_all (rs := [9]) (by kernel_rfl) (by decide) (List.forall_mem_cons.2 ⟨?_, fun _ h => absurd h List.not_mem_nil⟩)
          refine wpOp_value (v := .int .i64 t) (w' := w2) _ rfl rfl rfl (by rw [ht]; clear ht; go_simp; try rfl) ⟨⟨s0, s1⟩, ?_⟩
          clear ht
          simp only [Act.put, List.setIfInBounds_toArray, List.set_cons_zero, List.set_cons_succ]
          refine wpAnyH_all (rs := [10]) (by kernel_rfl) (by decide) (List.forall_mem_cons.2 ⟨?_, fun _ h => absurd h List.not_mem_nil⟩)
          refine wpOp_value (v := .int .i64 t) (w' := w2) _ rfl rfl rfl (by go_simp; try rfl) ⟨⟨s0, s1⟩, ?_⟩
          simp only [Act.put, List.setIfInBounds_toArray, List.set_cons_zero, List.set_cons_succ]
          refine wpAnyH_done (by kernel_rfl) ?_ _
          have HST : Hid (bst (cntO h L) (k + 1) = if k = 0 ∨ t < (bst (cntO h L) k).2 then (k, t) else bst (cntO h L) k) := Lib.hid (by rw [← HTT.out]; rfl)
          generalize hB : bst (cntO h L) k = B at *
          obtain ⟨bi, bl⟩ := B
          clear hB
          by_cases hk0 : k = 0
          · subst hk0
            have HS2 : Hid (bst (cntO h L) (0 + 1) = (0, t)) := Lib.hid (by rw [HST.out]; simp)
            clear HST
            go_wp2
            go_roundw
            case rel => exact ⟨0 + 1, by omega, by go_num, by rw [HS2.out], by rw [HS2.out], s0, s1, by omega, hbw⟩
            case measure => simp [intOf]; omega
          · have hk1 : ((k : Int) == 0) = false := by rw [beq_eq_false_iff_ne]; omega
            by_cases hlt2 : t < bl
            · have HS2 : Hid (bst (cntO h L) (k + 1) = (k, t)) := Lib.hid (by rw [HST.out, if_pos (.inr hlt2)])
              clear HST
              go_wp2
              go_roundw
              case rel => exact ⟨k + 1, by omega, by go_num, by rw [HS2.out], by rw [HS2.out], s0, s1, by omega, hbw⟩
              case measure => simp [intOf]; omega
            · have HS2 : Hid (bst (cntO h L) (k + 1) = (bi, bl)) := Lib.hid (by rw [HST.out, if_neg (by intro e; rcases e with e | e; exact hk0 e; exact hlt2 e)])
              clear HST
              go_wp2
              go_roundw
              case rel => exact ⟨k + 1, by omega, by go_num, by rw [HS2.out], by rw [HS2.out], s0, s1, by omega, hbw⟩
              case measure => simp [intOf]; omega

        · obtain rfl : k = L.length := by omega
          go_wp2
          (refine bodyPost_ret (by simp [results, Try.results54, go_sem, *]; try rfl) rfl ?_)
          exact ⟨ret_jv9 HM2.out, hbr⟩

end Go.Proofs.Ytcpgjjmamclklaa
