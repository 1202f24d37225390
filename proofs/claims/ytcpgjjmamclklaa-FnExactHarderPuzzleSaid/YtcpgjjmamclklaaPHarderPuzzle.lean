/- FnExactHarderPuzzle: called with any arguments, the law returns true, and its arguments read behind the call as before. Conditions: none but the row's own. -/
import Derived.Test.YtcpgjjmamclklaaFacts
import Derived.Test.YtcpgjjmamclklaaZLaw
import Derived.Test.YtcpgjjmamclklaaPz19
set_option linter.unusedSimpArgs false
set_option linter.unusedVariables false
set_option maxRecDepth 100000
namespace Go.Proofs.Ytcpgjjmamclklaa.fnExactHarderPuzzle
open Go.ChangeShapes Go.WideShapes Go.ChangeAt Go.RowKit

set_option maxHeartbeats 4000000 in
theorem walk (w : World) (h0 : Int) (a0 : Option Addr) (c0 : Nat) (L0 : List (Int × Int × Int)) (kh0 : I64 h0) (hin0 : CIn w a0 L0) (hi0 : AllI L0) (hm0 : L0.length ≤ maxLen) :
    Calls Try.prog 16 #[pzv h0 (.slice a0 L0.length c0)] w fun e w' => e = .returned (.bool true) ∧ Below w.heap.size w w' := by
  have B0 : Below w.heap.size w w := Below.refl _ _
  have y0 := B0.size
  have HIN0 := Lib.hid hin0
  clear hin0
  have hsz := fun W => szPuzzle_any h0 a0 L0.length c0 W hm0
  by_cases hl0 : L0.length ≤ 1048576
  · rw [if_neg (by omega)] at hsz
    have hn0 : ¬ ((1048576 : Int) - (L0.length : Int) < 0) := by omega
    have HSZ := Lib.hid hsz
    clear hsz
    (go_enter Try.func16, Try.ntmps16)
    go_wp2_with fail
    refine (HSZ.out _).mono ?_
    rintro e0 w0 ⟨rfl, hb0⟩
    have B0 : Below w.heap.size w w0 := by (repeat' (first | (with_reducible exact Below.refl _ _) | (with_reducible assumption) | (with_reducible refine Below.alloc ?_ ?_ _) | (with_reducible refine Below.drew ?_) | (with_reducible refine below_drewN ?_ _) | (with_reducible refine Below.setCell ?_ ?_ _) | (with_reducible refine below_call ?_ ?_ (by assumption)) | go_size))
    have y0 : w.heap.size + 1 ≤ w0.heap.size := by have := hb0.size; simp only [World.size_alloc] at this; omega
    have x0_0 : w0.cell? ⟨w.heap.size, 0, none⟩ = some (.int .i64 h0) := ((bcell hb0).1 _ _ (by go_size)).trans (by go_simp)
    have x0_1 : w0.cell? ⟨w.heap.size, 1, none⟩ = some (.slice a0 L0.length c0) := ((bcell hb0).1 _ _ (by go_size)).trans (by go_simp)
    have HLEN := Lib.hid (show ((hrdR h0 L0).2.1).length ≤ 2000000 from hrdR_len h0 L0)
    go_wp2_with fail
    refine (toPuzzle_any h0 a0 c0 L0 _ (HIN0.out.below B0) hl0).mono ?_
    rintro e1 w1 ⟨v1, rfl, hr1, hb1⟩
    have B1 : Below w.heap.size w w1 := B0.trans (hb1.mono B0.size)
    have y1 := B1.size
    have z1 : w0.heap.size ≤ w1.heap.size := hb1.size
    have x1_0 : w1.cell? ⟨w.heap.size, 0, none⟩ = some (.int .i64 h0) := ((bcell hb1).1 _ _ (by omega)).trans x0_0
    have x1_1 : w1.cell? ⟨w.heap.size, 1, none⟩ = some (.slice a0 L0.length c0) := ((bcell hb1).1 _ _ (by omega)).trans x0_1
    clear x0_0 x0_1
    obtain ⟨a1k, c1k, rfl, hi1, hcap1, hcmx1⟩ := hr1.inn
    have IX_1 := Lib.hid hi1
    clear hi1
    have X_1 := Lib.hid hr1
    have X_at := Lib.hid hr1
    clear hr1
    go_wp2_with fail
    refine (specHarderPuzzle_any h0 a1k c1k L0 (by unfold maxLen; omega) hcap1 hcmx1 _ IX_1.out).mono ?_
    rintro e2 w2 ⟨v2, rfl, hr2, hb2⟩
    have B2 : Below w.heap.size w w2 := B1.trans (hb2.mono B1.size)
    have y2 := B2.size
    have z2 : w1.heap.size ≤ w2.heap.size := hb2.size
    have x2_0 : w2.cell? ⟨w.heap.size, 0, none⟩ = some (.int .i64 h0) := ((bcell hb2).1 _ _ (by omega)).trans x1_0
    have x2_1 : w2.cell? ⟨w.heap.size, 1, none⟩ = some (.slice a0 L0.length c0) := ((bcell hb2).1 _ _ (by omega)).trans x1_1
    clear x1_0 x1_1
    have IX_2 := Lib.hid (CIn.below IX_1.out hb2)
    clear IX_1
    obtain ⟨a2k, c2k, rfl, hi2, hcap2, hcmx2⟩ := hr2.inn
    have IS_2 := Lib.hid hi2
    clear hi2
    have S_2 := Lib.hid hr2
    have S_at := Lib.hid hr2
    clear hr2
    have lb3_0 : w.heap.size < w2.heap.size := by omega
    go_wp2_with fail
    generalize hw3 : (World.alloc w2 (Obj.cells #[Value.int .i64 ((hrdR h0 L0).1), (.slice a2k ((hrdR h0 L0).2.1).length c2k)] 35)) = w3
    have hb3 : Below w2.heap.size w2 w3 := by rw [← hw3]; exact Below.alloc (Below.refl _ _) (Nat.le_refl _) _
    have zz3 : w3.heap.size = w2.heap.size + 1 := by rw [← hw3]; simp
    have B3 : Below w.heap.size w w3 := B2.trans (hb3.mono B2.size)
    have y3 := B3.size
    have z3 : w2.heap.size ≤ w3.heap.size := hb3.size
    have x3_0 : w3.cell? ⟨w.heap.size, 0, none⟩ = some (.int .i64 h0) := ((bcell hb3).1 _ _ (by omega)).trans x2_0
    have x3_1 : w3.cell? ⟨w.heap.size, 1, none⟩ = some (.slice a0 L0.length c0) := ((bcell hb3).1 _ _ (by omega)).trans x2_1
    clear x2_0 x2_1
    have IX_3 := Lib.hid (CIn.below IX_2.out hb3)
    clear IX_2
    have S_3 := Lib.hid (CRow.below S_2.out hb3)
    clear S_2
    have x3_2 : w3.cell? ⟨w2.heap.size, 0, none⟩ = some (.int .i64 ((hrdR h0 L0).1)) := by rw [← hw3]; exact ((cells_of_block (heap_alloc_new w2 (Obj.cells #[Value.int .i64 ((hrdR h0 L0).1), (.slice a2k ((hrdR h0 L0).2.1).length c2k)] 35))).1 0).trans rfl
    have x3_3 : w3.cell? ⟨w2.heap.size, 1, none⟩ = some ((.slice a2k ((hrdR h0 L0).2.1).length c2k)) := by rw [← hw3]; exact ((cells_of_block (heap_alloc_new w2 (Obj.cells #[Value.int .i64 ((hrdR h0 L0).1), (.slice a2k ((hrdR h0 L0).2.1).length c2k)] 35))).1 1).trans rfl
    clear hw3
    go_wp2_with fail
    refine (toPuzzle_any h0 a0 c0 L0 _ (HIN0.out.below B3) hl0).mono ?_
    rintro e4 w4 ⟨v4, rfl, hr4, hb4⟩
    have B4 : Below w.heap.size w w4 := B3.trans (hb4.mono B3.size)
    have y4 := B4.size
    have z4 : w3.heap.size ≤ w4.heap.size := hb4.size
    have x4_0 : w4.cell? ⟨w.heap.size, 0, none⟩ = some (.int .i64 h0) := ((bcell hb4).1 _ _ (by omega)).trans x3_0
    have x4_1 : w4.cell? ⟨w.heap.size, 1, none⟩ = some (.slice a0 L0.length c0) := ((bcell hb4).1 _ _ (by omega)).trans x3_1
    have x4_2 : w4.cell? ⟨w2.heap.size, 0, none⟩ = some (.int .i64 ((hrdR h0 L0).1)) := ((bcell hb4).1 _ _ (by omega)).trans x3_2
    have x4_3 : w4.cell? ⟨w2.heap.size, 1, none⟩ = some ((.slice a2k ((hrdR h0 L0).2.1).length c2k)) := ((bcell hb4).1 _ _ (by omega)).trans x3_3
    clear x3_0 x3_1 x3_2 x3_3
    have S_4 := Lib.hid (CRow.below S_3.out hb4)
    clear S_3
    obtain ⟨a4k, c4k, rfl, hi4, hcap4, hcmx4⟩ := hr4.inn
    have IY_4 := Lib.hid hi4
    clear hi4
    have Y_4 := Lib.hid hr4
    have Y_at := Lib.hid hr4
    clear hr4
    have lb5_0 : w.heap.size < w4.heap.size := by omega
    have lb5_1 : w2.heap.size < w4.heap.size := by omega
    go_wp2_with fail
    generalize hw5 : (World.alloc w4 (Obj.cells #[Value.int .i64 (h0), (.slice a4k L0.length c4k)] 35)) = w5
    have hb5 : Below w4.heap.size w4 w5 := by rw [← hw5]; exact Below.alloc (Below.refl _ _) (Nat.le_refl _) _
    have zz5 : w5.heap.size = w4.heap.size + 1 := by rw [← hw5]; simp
    have B5 : Below w.heap.size w w5 := B4.trans (hb5.mono B4.size)
    have y5 := B5.size
    have z5 : w4.heap.size ≤ w5.heap.size := hb5.size
    have x5_0 : w5.cell? ⟨w.heap.size, 0, none⟩ = some (.int .i64 h0) := ((bcell hb5).1 _ _ (by omega)).trans x4_0
    have x5_1 : w5.cell? ⟨w.heap.size, 1, none⟩ = some (.slice a0 L0.length c0) := ((bcell hb5).1 _ _ (by omega)).trans x4_1
    have x5_2 : w5.cell? ⟨w2.heap.size, 0, none⟩ = some (.int .i64 ((hrdR h0 L0).1)) := ((bcell hb5).1 _ _ (by omega)).trans x4_2
    have x5_3 : w5.cell? ⟨w2.heap.size, 1, none⟩ = some ((.slice a2k ((hrdR h0 L0).2.1).length c2k)) := ((bcell hb5).1 _ _ (by omega)).trans x4_3
    clear x4_0 x4_1 x4_2 x4_3
    have S_5 := Lib.hid (CRow.below S_4.out hb5)
    clear S_4
    have IY_5 := Lib.hid (CIn.below IY_4.out hb5)
    clear IY_4
    have Y_5 := Lib.hid (CRow.below Y_4.out hb5)
    clear Y_4
    have x5_4 : w5.cell? ⟨w4.heap.size, 0, none⟩ = some (.int .i64 (h0)) := by rw [← hw5]; exact ((cells_of_block (heap_alloc_new w4 (Obj.cells #[Value.int .i64 (h0), (.slice a4k L0.length c4k)] 35))).1 0).trans rfl
    have x5_5 : w5.cell? ⟨w4.heap.size, 1, none⟩ = some ((.slice a4k L0.length c4k)) := by rw [← hw5]; exact ((cells_of_block (heap_alloc_new w4 (Obj.cells #[Value.int .i64 (h0), (.slice a4k L0.length c4k)] 35))).1 1).trans rfl
    clear hw5
    go_wp2_with fail
    refine (implHarderPuzzle_any h0 a4k c4k L0 (by unfold maxLen; omega) _ IY_5.out).mono ?_
    rintro e6 w6 ⟨v6, rfl, hr6, hb6⟩
    have B6 : Below w.heap.size w w6 := B5.trans (hb6.mono B5.size)
    have y6 := B6.size
    have z6 : w5.heap.size ≤ w6.heap.size := hb6.size
    have x6_0 : w6.cell? ⟨w.heap.size, 0, none⟩ = some (.int .i64 h0) := ((bcell hb6).1 _ _ (by omega)).trans x5_0
    have x6_1 : w6.cell? ⟨w.heap.size, 1, none⟩ = some (.slice a0 L0.length c0) := ((bcell hb6).1 _ _ (by omega)).trans x5_1
    have x6_2 : w6.cell? ⟨w2.heap.size, 0, none⟩ = some (.int .i64 ((hrdR h0 L0).1)) := ((bcell hb6).1 _ _ (by omega)).trans x5_2
    have x6_3 : w6.cell? ⟨w2.heap.size, 1, none⟩ = some ((.slice a2k ((hrdR h0 L0).2.1).length c2k)) := ((bcell hb6).1 _ _ (by omega)).trans x5_3
    have x6_4 : w6.cell? ⟨w4.heap.size, 0, none⟩ = some (.int .i64 (h0)) := ((bcell hb6).1 _ _ (by omega)).trans x5_4
    have x6_5 : w6.cell? ⟨w4.heap.size, 1, none⟩ = some ((.slice a4k L0.length c4k)) := ((bcell hb6).1 _ _ (by omega)).trans x5_5
    clear x5_0 x5_1 x5_2 x5_3 x5_4 x5_5
    have S_6 := Lib.hid (CRow.below S_5.out hb6)
    clear S_5
    have IY_6 := Lib.hid (CIn.below IY_5.out hb6)
    clear IY_5
    have Y_6 := Lib.hid (CRow.below Y_5.out hb6)
    clear Y_5
    obtain ⟨a6k, c6k, rfl, hi6, hcap6, hcmx6⟩ := hr6.inn
    have IG_6 := Lib.hid hi6
    clear hi6
    have G_6 := Lib.hid hr6
    have G_at := Lib.hid hr6
    clear hr6
    have lb7_0 : w.heap.size < w6.heap.size := by omega
    have lb7_1 : w2.heap.size < w6.heap.size := by omega
    have lb7_2 : w4.heap.size < w6.heap.size := by omega
    go_wp2_with fail
    generalize hw7 : (World.alloc w6 (Obj.cells #[Value.int .i64 ((hrdR h0 L0).1), (.slice a6k ((hrdR h0 L0).2.1).length c6k)] 35)) = w7
    have hb7 : Below w6.heap.size w6 w7 := by rw [← hw7]; exact Below.alloc (Below.refl _ _) (Nat.le_refl _) _
    have zz7 : w7.heap.size = w6.heap.size + 1 := by rw [← hw7]; simp
    have B7 : Below w.heap.size w w7 := B6.trans (hb7.mono B6.size)
    have y7 := B7.size
    have z7 : w6.heap.size ≤ w7.heap.size := hb7.size
    have x7_0 : w7.cell? ⟨w.heap.size, 0, none⟩ = some (.int .i64 h0) := ((bcell hb7).1 _ _ (by omega)).trans x6_0
    have x7_1 : w7.cell? ⟨w.heap.size, 1, none⟩ = some (.slice a0 L0.length c0) := ((bcell hb7).1 _ _ (by omega)).trans x6_1
    have x7_2 : w7.cell? ⟨w2.heap.size, 0, none⟩ = some (.int .i64 ((hrdR h0 L0).1)) := ((bcell hb7).1 _ _ (by omega)).trans x6_2
    have x7_3 : w7.cell? ⟨w2.heap.size, 1, none⟩ = some ((.slice a2k ((hrdR h0 L0).2.1).length c2k)) := ((bcell hb7).1 _ _ (by omega)).trans x6_3
    have x7_4 : w7.cell? ⟨w4.heap.size, 0, none⟩ = some (.int .i64 (h0)) := ((bcell hb7).1 _ _ (by omega)).trans x6_4
    have x7_5 : w7.cell? ⟨w4.heap.size, 1, none⟩ = some ((.slice a4k L0.length c4k)) := ((bcell hb7).1 _ _ (by omega)).trans x6_5
    clear x6_0 x6_1 x6_2 x6_3 x6_4 x6_5
    have S_7 := Lib.hid (CRow.below S_6.out hb7)
    clear S_6
    have IY_7 := Lib.hid (CIn.below IY_6.out hb7)
    clear IY_6
    have Y_7 := Lib.hid (CRow.below Y_6.out hb7)
    clear Y_6
    have G_7 := Lib.hid (CRow.below G_6.out hb7)
    clear G_6
    have x7_6 : w7.cell? ⟨w6.heap.size, 0, none⟩ = some (.int .i64 ((hrdR h0 L0).1)) := by rw [← hw7]; exact ((cells_of_block (heap_alloc_new w6 (Obj.cells #[Value.int .i64 ((hrdR h0 L0).1), (.slice a6k ((hrdR h0 L0).2.1).length c6k)] 35))).1 0).trans rfl
    have x7_7 : w7.cell? ⟨w6.heap.size, 1, none⟩ = some ((.slice a6k ((hrdR h0 L0).2.1).length c6k)) := by rw [← hw7]; exact ((cells_of_block (heap_alloc_new w6 (Obj.cells #[Value.int .i64 ((hrdR h0 L0).1), (.slice a6k ((hrdR h0 L0).2.1).length c6k)] 35))).1 1).trans rfl
    clear hw7
    go_wp2_with fail
    refine (eqPuzzle_same (hrdR h0 L0).1 (hrdR h0 L0).2.1 (.slice a6k ((hrdR h0 L0).2.1).length c6k) (.slice a2k ((hrdR h0 L0).2.1).length c2k) _ _ _ G_7.out S_7.out HLEN.out).mono ?_
    rintro e8 w8 ⟨rfl, hb8⟩
    have B8 : Below w.heap.size w w8 := B7.trans (hb8.mono B7.size)
    have y8 := B8.size
    have z8 : w7.heap.size ≤ w8.heap.size := hb8.size
    have x8_0 : w8.cell? ⟨w.heap.size, 0, none⟩ = some (.int .i64 h0) := ((bcell hb8).1 _ _ (by omega)).trans x7_0
    have x8_1 : w8.cell? ⟨w.heap.size, 1, none⟩ = some (.slice a0 L0.length c0) := ((bcell hb8).1 _ _ (by omega)).trans x7_1
    have x8_2 : w8.cell? ⟨w2.heap.size, 0, none⟩ = some (.int .i64 ((hrdR h0 L0).1)) := ((bcell hb8).1 _ _ (by omega)).trans x7_2
    have x8_3 : w8.cell? ⟨w2.heap.size, 1, none⟩ = some ((.slice a2k ((hrdR h0 L0).2.1).length c2k)) := ((bcell hb8).1 _ _ (by omega)).trans x7_3
    have x8_4 : w8.cell? ⟨w4.heap.size, 0, none⟩ = some (.int .i64 (h0)) := ((bcell hb8).1 _ _ (by omega)).trans x7_4
    have x8_5 : w8.cell? ⟨w4.heap.size, 1, none⟩ = some ((.slice a4k L0.length c4k)) := ((bcell hb8).1 _ _ (by omega)).trans x7_5
    have x8_6 : w8.cell? ⟨w6.heap.size, 0, none⟩ = some (.int .i64 ((hrdR h0 L0).1)) := ((bcell hb8).1 _ _ (by omega)).trans x7_6
    have x8_7 : w8.cell? ⟨w6.heap.size, 1, none⟩ = some ((.slice a6k ((hrdR h0 L0).2.1).length c6k)) := ((bcell hb8).1 _ _ (by omega)).trans x7_7
    clear x7_0 x7_1 x7_2 x7_3 x7_4 x7_5 x7_6 x7_7
    have S_8 := Lib.hid (CRow.below S_7.out hb8)
    clear S_7
    have Y_8 := Lib.hid (CRow.below Y_7.out hb8)
    clear Y_7
    have G_8 := Lib.hid (CRow.below G_7.out hb8)
    clear G_7
    go_wp2_with fail
    have hS8 : Below w8.heap.size w8 w8.drew := (Below.refl _ _).drew
    refine wp_region_held (by kernel_rfl) (S := fun W => Below w8.heap.size w8 W) ?_
    refine take_first (i := 0) (v := pzv h0 (.slice a4k L0.length c4k)) _ rfl rfl (by kernel_rfl) (by kernel_rfl) (by kernel_rfl) (fun _ _ _ h => h) (by rfl) ?_ (by assumption) ?_
    · intro wq hq
      obtain ⟨hcq, hfq⟩ := bcell hq
      have xq_0 := (hcq _ _ (by omega)).trans x8_0
      have xq_1 := (hcq _ _ (by omega)).trans x8_1
      have xq_2 := (hcq _ _ (by omega)).trans x8_2
      have xq_3 := (hcq _ _ (by omega)).trans x8_3
      have xq_4 := (hcq _ _ (by omega)).trans x8_4
      have xq_5 := (hcq _ _ (by omega)).trans x8_5
      have xq_6 := (hcq _ _ (by omega)).trans x8_6
      have xq_7 := (hcq _ _ (by omega)).trans x8_7
      go_simp
      try rfl
    simp only [Act.put, List.setIfInBounds_toArray, List.set_cons_zero, List.set_cons_succ]
    refine take_first (i := 1) (v := pzv h0 (.slice a0 L0.length c0)) _ rfl rfl (by kernel_rfl) (by kernel_rfl) (by kernel_rfl) (fun _ _ _ h => h) (by rfl) ?_ (by assumption) ?_
    · intro wq hq
      obtain ⟨hcq, hfq⟩ := bcell hq
      have xq_0 := (hcq _ _ (by omega)).trans x8_0
      have xq_1 := (hcq _ _ (by omega)).trans x8_1
      have xq_2 := (hcq _ _ (by omega)).trans x8_2
      have xq_3 := (hcq _ _ (by omega)).trans x8_3
      have xq_4 := (hcq _ _ (by omega)).trans x8_4
      have xq_5 := (hcq _ _ (by omega)).trans x8_5
      have xq_6 := (hcq _ _ (by omega)).trans x8_6
      have xq_7 := (hcq _ _ (by omega)).trans x8_7
      go_simp
      try rfl
    simp only [Act.put, List.setIfInBounds_toArray, List.set_cons_zero, List.set_cons_succ]
    refine wpAnyH_all (rs := [2]) (by kernel_rfl) (by decide) (List.forall_mem_cons.2 ⟨?_, fun _ h => absurd h List.not_mem_nil⟩)
    refine wpOp_wp rfl rfl (wp_call_at _ rfl (f := 23) (args := #[pzv h0 (.slice a0 L0.length c0)]) (by go_simp) ((toPuzzle_any h0 a0 c0 L0 _ (HIN0.out.below (B8.trans (hS8.mono B8.size))) hl0).mono ?_))
    rintro e9 w9 ⟨v9, rfl, hr9, hbx9⟩
    have hb9 : Below w8.heap.size w8 w9 := hS8.trans (hbx9.mono hS8.size)
    have hS9 := hb9
    have B9 : Below w.heap.size w w9 := B8.trans (hb9.mono B8.size)
    have y9 := B9.size
    have z9 : w8.heap.size ≤ w9.heap.size := hb9.size
    have x9_0 : w9.cell? ⟨w.heap.size, 0, none⟩ = some (.int .i64 h0) := ((bcell hb9).1 _ _ (by omega)).trans x8_0
    have x9_1 : w9.cell? ⟨w.heap.size, 1, none⟩ = some (.slice a0 L0.length c0) := ((bcell hb9).1 _ _ (by omega)).trans x8_1
    have x9_2 : w9.cell? ⟨w2.heap.size, 0, none⟩ = some (.int .i64 ((hrdR h0 L0).1)) := ((bcell hb9).1 _ _ (by omega)).trans x8_2
    have x9_3 : w9.cell? ⟨w2.heap.size, 1, none⟩ = some ((.slice a2k ((hrdR h0 L0).2.1).length c2k)) := ((bcell hb9).1 _ _ (by omega)).trans x8_3
    have x9_4 : w9.cell? ⟨w4.heap.size, 0, none⟩ = some (.int .i64 (h0)) := ((bcell hb9).1 _ _ (by omega)).trans x8_4
    have x9_5 : w9.cell? ⟨w4.heap.size, 1, none⟩ = some ((.slice a4k L0.length c4k)) := ((bcell hb9).1 _ _ (by omega)).trans x8_5
    have x9_6 : w9.cell? ⟨w6.heap.size, 0, none⟩ = some (.int .i64 ((hrdR h0 L0).1)) := ((bcell hb9).1 _ _ (by omega)).trans x8_6
    have x9_7 : w9.cell? ⟨w6.heap.size, 1, none⟩ = some ((.slice a6k ((hrdR h0 L0).2.1).length c6k)) := ((bcell hb9).1 _ _ (by omega)).trans x8_7
    clear x8_0 x8_1 x8_2 x8_3 x8_4 x8_5 x8_6 x8_7
    have S_9 := Lib.hid (CRow.below S_8.out hb9)
    clear S_8
    have Y_9 := Lib.hid (CRow.below Y_8.out hb9)
    clear Y_8
    have G_9 := Lib.hid (CRow.below G_8.out hb9)
    clear G_8
    obtain ⟨aa9, cc9, rfl, -⟩ := hr9.inn
    have V_9 := Lib.hid hr9
    clear hr9
    refine ⟨_, rfl, hS9, ?_⟩
    simp only [Act.put, List.setIfInBounds_toArray, List.set_cons_zero, List.set_cons_succ]
    refine wpAnyH_all (rs := [3]) (by kernel_rfl) (by decide) (List.forall_mem_cons.2 ⟨?_, fun _ h => absurd h List.not_mem_nil⟩)
    refine wpOp_wp rfl rfl (wp_call_at _ rfl (f := 25) (args := #[pzv h0 (.slice a4k L0.length c4k), pzv h0 (.slice aa9 L0.length cc9)]) (by go_simp) ((eqPuzzle_same h0 L0 (.slice a4k L0.length c4k) (.slice aa9 L0.length cc9) _ _ _ Y_9.out V_9.out (by omega)).mono ?_))
    rintro e10 w10 ⟨rfl, hb10⟩
    have hS10 := hS9.trans (hb10.mono hS9.size)
    have B10 : Below w.heap.size w w10 := B9.trans (hb10.mono B9.size)
    have y10 := B10.size
    have z10 : w9.heap.size ≤ w10.heap.size := hb10.size
    have x10_0 : w10.cell? ⟨w.heap.size, 0, none⟩ = some (.int .i64 h0) := ((bcell hb10).1 _ _ (by omega)).trans x9_0
    have x10_1 : w10.cell? ⟨w.heap.size, 1, none⟩ = some (.slice a0 L0.length c0) := ((bcell hb10).1 _ _ (by omega)).trans x9_1
    have x10_2 : w10.cell? ⟨w2.heap.size, 0, none⟩ = some (.int .i64 ((hrdR h0 L0).1)) := ((bcell hb10).1 _ _ (by omega)).trans x9_2
    have x10_3 : w10.cell? ⟨w2.heap.size, 1, none⟩ = some ((.slice a2k ((hrdR h0 L0).2.1).length c2k)) := ((bcell hb10).1 _ _ (by omega)).trans x9_3
    have x10_4 : w10.cell? ⟨w4.heap.size, 0, none⟩ = some (.int .i64 (h0)) := ((bcell hb10).1 _ _ (by omega)).trans x9_4
    have x10_5 : w10.cell? ⟨w4.heap.size, 1, none⟩ = some ((.slice a4k L0.length c4k)) := ((bcell hb10).1 _ _ (by omega)).trans x9_5
    have x10_6 : w10.cell? ⟨w6.heap.size, 0, none⟩ = some (.int .i64 ((hrdR h0 L0).1)) := ((bcell hb10).1 _ _ (by omega)).trans x9_6
    have x10_7 : w10.cell? ⟨w6.heap.size, 1, none⟩ = some ((.slice a6k ((hrdR h0 L0).2.1).length c6k)) := ((bcell hb10).1 _ _ (by omega)).trans x9_7
    clear x9_0 x9_1 x9_2 x9_3 x9_4 x9_5 x9_6 x9_7
    have S_10 := Lib.hid (CRow.below S_9.out hb10)
    clear S_9
    have Y_10 := Lib.hid (CRow.below Y_9.out hb10)
    clear Y_9
    have G_10 := Lib.hid (CRow.below G_9.out hb10)
    clear G_9
    refine ⟨_, rfl, hS10, ?_⟩
    simp only [Act.put, List.setIfInBounds_toArray, List.set_cons_zero, List.set_cons_succ]
    refine take_first (i := 4) (v := .bool false) _ rfl rfl (by kernel_rfl) (by kernel_rfl) (by kernel_rfl) (fun _ _ _ h => h) (by rfl) ?_ (by assumption) ?_
    · intro wq hq
      obtain ⟨hcq, hfq⟩ := bcell hq
      go_simp
      try rfl
    simp only [Act.put, List.setIfInBounds_toArray, List.set_cons_zero, List.set_cons_succ]
    refine wpAnyH_done (by kernel_rfl) ?_ _
    go_wp2_with fail
    refine (markPuzzle_any h0 L0 (.slice a4k L0.length c4k) _ 1 _ Y_10.out (by omega) (by omega) (by omega)).mono ?_
    rintro e11 w11 ⟨rfl, hr11, hg11⟩
    have B11 : Below w.heap.size w w11 := Below.grown (w := w10) B10 hg11 (by omega) (fun j hj => by have := CRow.low Y_at.out j hj; omega)
    have y11 := B11.size
    have z11 : w10.heap.size ≤ w11.heap.size := hg11.size
    have x11_0 : w11.cell? ⟨w.heap.size, 0, none⟩ = some (.int .i64 h0) := (cell_of_heap (hg11.block _ (by omega) (fun e => by have e1 := CRow.low Y_at.out _ e.symm; have e2 := CRow.top Y_at.out _ e.symm; omega))).trans x10_0
    have x11_1 : w11.cell? ⟨w.heap.size, 1, none⟩ = some (.slice a0 L0.length c0) := (cell_of_heap (hg11.block _ (by omega) (fun e => by have e1 := CRow.low Y_at.out _ e.symm; have e2 := CRow.top Y_at.out _ e.symm; omega))).trans x10_1
    have x11_2 : w11.cell? ⟨w2.heap.size, 0, none⟩ = some (.int .i64 ((hrdR h0 L0).1)) := (cell_of_heap (hg11.block _ (by omega) (fun e => by have e1 := CRow.low Y_at.out _ e.symm; have e2 := CRow.top Y_at.out _ e.symm; omega))).trans x10_2
    have x11_3 : w11.cell? ⟨w2.heap.size, 1, none⟩ = some ((.slice a2k ((hrdR h0 L0).2.1).length c2k)) := (cell_of_heap (hg11.block _ (by omega) (fun e => by have e1 := CRow.low Y_at.out _ e.symm; have e2 := CRow.top Y_at.out _ e.symm; omega))).trans x10_3
    have x11_4 : w11.cell? ⟨w4.heap.size, 0, none⟩ = some (.int .i64 (h0)) := (cell_of_heap (hg11.block _ (by omega) (fun e => by have e1 := CRow.low Y_at.out _ e.symm; have e2 := CRow.top Y_at.out _ e.symm; omega))).trans x10_4
    have x11_5 : w11.cell? ⟨w4.heap.size, 1, none⟩ = some ((.slice a4k L0.length c4k)) := (cell_of_heap (hg11.block _ (by omega) (fun e => by have e1 := CRow.low Y_at.out _ e.symm; have e2 := CRow.top Y_at.out _ e.symm; omega))).trans x10_5
    have x11_6 : w11.cell? ⟨w6.heap.size, 0, none⟩ = some (.int .i64 ((hrdR h0 L0).1)) := (cell_of_heap (hg11.block _ (by omega) (fun e => by have e1 := CRow.low Y_at.out _ e.symm; have e2 := CRow.top Y_at.out _ e.symm; omega))).trans x10_6
    have x11_7 : w11.cell? ⟨w6.heap.size, 1, none⟩ = some ((.slice a6k ((hrdR h0 L0).2.1).length c6k)) := (cell_of_heap (hg11.block _ (by omega) (fun e => by have e1 := CRow.low Y_at.out _ e.symm; have e2 := CRow.top Y_at.out _ e.symm; omega))).trans x10_7
    clear x10_0 x10_1 x10_2 x10_3 x10_4 x10_5 x10_6 x10_7
    have S_11 := Lib.hid (CRow.kept S_10.out hg11 (apart_rows (fun j hj => CRow.top S_at.out j hj) (fun j hj => CRow.low Y_at.out j hj) (by omega)))
    have G_11 := Lib.hid (CRow.kept G_10.out hg11 (apart_sym' (apart_rows (fun j hj => CRow.top Y_at.out j hj) (fun j hj => CRow.low G_at.out j hj) (by omega))))
    have Ym_11 := Lib.hid hr11
    clear hr11 hg11
    have p8 : ¬ (1 + 3 * (L0.length : Int)) < 0 := by omega
    go_wp2_with fail
    refine (eqPuzzle_same (hrdR h0 L0).1 (hrdR h0 L0).2.1 (.slice a6k ((hrdR h0 L0).2.1).length c6k) (.slice a2k ((hrdR h0 L0).2.1).length c2k) _ _ _ G_11.out S_11.out HLEN.out).mono ?_
    rintro e12 w12 ⟨rfl, hb12⟩
    have B12 : Below w.heap.size w w12 := B11.trans (hb12.mono B11.size)
    have y12 := B12.size
    have z12 : w11.heap.size ≤ w12.heap.size := hb12.size
    have x12_0 : w12.cell? ⟨w.heap.size, 0, none⟩ = some (.int .i64 h0) := ((bcell hb12).1 _ _ (by omega)).trans x11_0
    have x12_1 : w12.cell? ⟨w.heap.size, 1, none⟩ = some (.slice a0 L0.length c0) := ((bcell hb12).1 _ _ (by omega)).trans x11_1
    have x12_2 : w12.cell? ⟨w2.heap.size, 0, none⟩ = some (.int .i64 ((hrdR h0 L0).1)) := ((bcell hb12).1 _ _ (by omega)).trans x11_2
    have x12_3 : w12.cell? ⟨w2.heap.size, 1, none⟩ = some ((.slice a2k ((hrdR h0 L0).2.1).length c2k)) := ((bcell hb12).1 _ _ (by omega)).trans x11_3
    have x12_4 : w12.cell? ⟨w4.heap.size, 0, none⟩ = some (.int .i64 (h0)) := ((bcell hb12).1 _ _ (by omega)).trans x11_4
    have x12_5 : w12.cell? ⟨w4.heap.size, 1, none⟩ = some ((.slice a4k L0.length c4k)) := ((bcell hb12).1 _ _ (by omega)).trans x11_5
    have x12_6 : w12.cell? ⟨w6.heap.size, 0, none⟩ = some (.int .i64 ((hrdR h0 L0).1)) := ((bcell hb12).1 _ _ (by omega)).trans x11_6
    have x12_7 : w12.cell? ⟨w6.heap.size, 1, none⟩ = some ((.slice a6k ((hrdR h0 L0).2.1).length c6k)) := ((bcell hb12).1 _ _ (by omega)).trans x11_7
    clear x11_0 x11_1 x11_2 x11_3 x11_4 x11_5 x11_6 x11_7
    have S_12 := Lib.hid (CRow.below S_11.out hb12)
    clear S_11
    have G_12 := Lib.hid (CRow.below G_11.out hb12)
    clear G_11
    go_wp2_with fail
    refine (markPuzzle_any (hrdR h0 L0).1 (hrdR h0 L0).2.1 (.slice a6k ((hrdR h0 L0).2.1).length c6k) _ 1 _ G_12.out HLEN.out (by omega) (by omega)).mono ?_
    rintro e13 w13 ⟨rfl, hr13, hg13⟩
    have B13 : Below w.heap.size w w13 := Below.grown (w := w12) B12 hg13 (by omega) (fun j hj => by have := CRow.low G_at.out j hj; omega)
    have y13 := B13.size
    have z13 : w12.heap.size ≤ w13.heap.size := hg13.size
    have x13_0 : w13.cell? ⟨w.heap.size, 0, none⟩ = some (.int .i64 h0) := (cell_of_heap (hg13.block _ (by omega) (fun e => by have e1 := CRow.low G_at.out _ e.symm; have e2 := CRow.top G_at.out _ e.symm; omega))).trans x12_0
    have x13_1 : w13.cell? ⟨w.heap.size, 1, none⟩ = some (.slice a0 L0.length c0) := (cell_of_heap (hg13.block _ (by omega) (fun e => by have e1 := CRow.low G_at.out _ e.symm; have e2 := CRow.top G_at.out _ e.symm; omega))).trans x12_1
    have x13_2 : w13.cell? ⟨w2.heap.size, 0, none⟩ = some (.int .i64 ((hrdR h0 L0).1)) := (cell_of_heap (hg13.block _ (by omega) (fun e => by have e1 := CRow.low G_at.out _ e.symm; have e2 := CRow.top G_at.out _ e.symm; omega))).trans x12_2
    have x13_3 : w13.cell? ⟨w2.heap.size, 1, none⟩ = some ((.slice a2k ((hrdR h0 L0).2.1).length c2k)) := (cell_of_heap (hg13.block _ (by omega) (fun e => by have e1 := CRow.low G_at.out _ e.symm; have e2 := CRow.top G_at.out _ e.symm; omega))).trans x12_3
    have x13_4 : w13.cell? ⟨w4.heap.size, 0, none⟩ = some (.int .i64 (h0)) := (cell_of_heap (hg13.block _ (by omega) (fun e => by have e1 := CRow.low G_at.out _ e.symm; have e2 := CRow.top G_at.out _ e.symm; omega))).trans x12_4
    have x13_5 : w13.cell? ⟨w4.heap.size, 1, none⟩ = some ((.slice a4k L0.length c4k)) := (cell_of_heap (hg13.block _ (by omega) (fun e => by have e1 := CRow.low G_at.out _ e.symm; have e2 := CRow.top G_at.out _ e.symm; omega))).trans x12_5
    have x13_6 : w13.cell? ⟨w6.heap.size, 0, none⟩ = some (.int .i64 ((hrdR h0 L0).1)) := (cell_of_heap (hg13.block _ (by omega) (fun e => by have e1 := CRow.low G_at.out _ e.symm; have e2 := CRow.top G_at.out _ e.symm; omega))).trans x12_6
    have x13_7 : w13.cell? ⟨w6.heap.size, 1, none⟩ = some ((.slice a6k ((hrdR h0 L0).2.1).length c6k)) := (cell_of_heap (hg13.block _ (by omega) (fun e => by have e1 := CRow.low G_at.out _ e.symm; have e2 := CRow.top G_at.out _ e.symm; omega))).trans x12_7
    clear x12_0 x12_1 x12_2 x12_3 x12_4 x12_5 x12_6 x12_7
    have S_13 := Lib.hid (CRow.kept S_12.out hg13 (apart_rows (fun j hj => CRow.top S_at.out j hj) (fun j hj => CRow.low G_at.out j hj) (by omega)))
    have Gm_13 := Lib.hid hr13
    clear hr13 hg13
    have p10 : ¬ (1 + 3 * (((hrdR h0 L0).2.1).length : Int) : Int) < 0 := by omega
    go_wp2_with fail
    refine (heldPuzzle_marked (hrdR h0 L0).1 (hrdR h0 L0).2.1 (.slice a6k ((hrdR h0 L0).2.1).length c6k) _ 1 _ Gm_13.out HLEN.out (by omega) (by omega)).mono ?_
    rintro e14 w14 ⟨rfl, hb14⟩
    have B14 : Below w.heap.size w w14 := B13.trans (hb14.mono B13.size)
    have y14 := B14.size
    have z14 : w13.heap.size ≤ w14.heap.size := hb14.size
    have x14_0 : w14.cell? ⟨w.heap.size, 0, none⟩ = some (.int .i64 h0) := ((bcell hb14).1 _ _ (by omega)).trans x13_0
    have x14_1 : w14.cell? ⟨w.heap.size, 1, none⟩ = some (.slice a0 L0.length c0) := ((bcell hb14).1 _ _ (by omega)).trans x13_1
    have x14_2 : w14.cell? ⟨w2.heap.size, 0, none⟩ = some (.int .i64 ((hrdR h0 L0).1)) := ((bcell hb14).1 _ _ (by omega)).trans x13_2
    have x14_3 : w14.cell? ⟨w2.heap.size, 1, none⟩ = some ((.slice a2k ((hrdR h0 L0).2.1).length c2k)) := ((bcell hb14).1 _ _ (by omega)).trans x13_3
    have x14_4 : w14.cell? ⟨w4.heap.size, 0, none⟩ = some (.int .i64 (h0)) := ((bcell hb14).1 _ _ (by omega)).trans x13_4
    have x14_5 : w14.cell? ⟨w4.heap.size, 1, none⟩ = some ((.slice a4k L0.length c4k)) := ((bcell hb14).1 _ _ (by omega)).trans x13_5
    have x14_6 : w14.cell? ⟨w6.heap.size, 0, none⟩ = some (.int .i64 ((hrdR h0 L0).1)) := ((bcell hb14).1 _ _ (by omega)).trans x13_6
    have x14_7 : w14.cell? ⟨w6.heap.size, 1, none⟩ = some ((.slice a6k ((hrdR h0 L0).2.1).length c6k)) := ((bcell hb14).1 _ _ (by omega)).trans x13_7
    clear x13_0 x13_1 x13_2 x13_3 x13_4 x13_5 x13_6 x13_7
    have S_14 := Lib.hid (CRow.below S_13.out hb14)
    clear S_13
    have Gm_14 := Lib.hid (CRow.below Gm_13.out hb14)
    clear Gm_13
    go_wp2_with fail
    refine (toPuzzle_any h0 a0 c0 L0 _ (HIN0.out.below B14) hl0).mono ?_
    rintro e15 w15 ⟨v15, rfl, hr15, hb15⟩
    have B15 : Below w.heap.size w w15 := B14.trans (hb15.mono B14.size)
    have y15 := B15.size
    have z15 : w14.heap.size ≤ w15.heap.size := hb15.size
    have x15_0 : w15.cell? ⟨w.heap.size, 0, none⟩ = some (.int .i64 h0) := ((bcell hb15).1 _ _ (by omega)).trans x14_0
    have x15_1 : w15.cell? ⟨w.heap.size, 1, none⟩ = some (.slice a0 L0.length c0) := ((bcell hb15).1 _ _ (by omega)).trans x14_1
    have x15_2 : w15.cell? ⟨w2.heap.size, 0, none⟩ = some (.int .i64 ((hrdR h0 L0).1)) := ((bcell hb15).1 _ _ (by omega)).trans x14_2
    have x15_3 : w15.cell? ⟨w2.heap.size, 1, none⟩ = some ((.slice a2k ((hrdR h0 L0).2.1).length c2k)) := ((bcell hb15).1 _ _ (by omega)).trans x14_3
    have x15_4 : w15.cell? ⟨w4.heap.size, 0, none⟩ = some (.int .i64 (h0)) := ((bcell hb15).1 _ _ (by omega)).trans x14_4
    have x15_5 : w15.cell? ⟨w4.heap.size, 1, none⟩ = some ((.slice a4k L0.length c4k)) := ((bcell hb15).1 _ _ (by omega)).trans x14_5
    have x15_6 : w15.cell? ⟨w6.heap.size, 0, none⟩ = some (.int .i64 ((hrdR h0 L0).1)) := ((bcell hb15).1 _ _ (by omega)).trans x14_6
    have x15_7 : w15.cell? ⟨w6.heap.size, 1, none⟩ = some ((.slice a6k ((hrdR h0 L0).2.1).length c6k)) := ((bcell hb15).1 _ _ (by omega)).trans x14_7
    clear x14_0 x14_1 x14_2 x14_3 x14_4 x14_5 x14_6 x14_7
    have S_15 := Lib.hid (CRow.below S_14.out hb15)
    clear S_14
    have Gm_15 := Lib.hid (CRow.below Gm_14.out hb15)
    clear Gm_14
    obtain ⟨a15k, c15k, rfl, hi15, hcap15, hcmx15⟩ := hr15.inn
    have IZ_15 := Lib.hid hi15
    clear hi15
    have Z_15 := Lib.hid hr15
    have Z_at := Lib.hid hr15
    clear hr15
    go_wp2_with fail
    refine (implHarderPuzzle_any h0 a15k c15k L0 (by unfold maxLen; omega) _ IZ_15.out).mono ?_
    rintro e16 w16 ⟨v16, rfl, hr16, hb16⟩
    have B16 : Below w.heap.size w w16 := B15.trans (hb16.mono B15.size)
    have y16 := B16.size
    have z16 : w15.heap.size ≤ w16.heap.size := hb16.size
    have x16_0 : w16.cell? ⟨w.heap.size, 0, none⟩ = some (.int .i64 h0) := ((bcell hb16).1 _ _ (by omega)).trans x15_0
    have x16_1 : w16.cell? ⟨w.heap.size, 1, none⟩ = some (.slice a0 L0.length c0) := ((bcell hb16).1 _ _ (by omega)).trans x15_1
    have x16_2 : w16.cell? ⟨w2.heap.size, 0, none⟩ = some (.int .i64 ((hrdR h0 L0).1)) := ((bcell hb16).1 _ _ (by omega)).trans x15_2
    have x16_3 : w16.cell? ⟨w2.heap.size, 1, none⟩ = some ((.slice a2k ((hrdR h0 L0).2.1).length c2k)) := ((bcell hb16).1 _ _ (by omega)).trans x15_3
    have x16_4 : w16.cell? ⟨w4.heap.size, 0, none⟩ = some (.int .i64 (h0)) := ((bcell hb16).1 _ _ (by omega)).trans x15_4
    have x16_5 : w16.cell? ⟨w4.heap.size, 1, none⟩ = some ((.slice a4k L0.length c4k)) := ((bcell hb16).1 _ _ (by omega)).trans x15_5
    have x16_6 : w16.cell? ⟨w6.heap.size, 0, none⟩ = some (.int .i64 ((hrdR h0 L0).1)) := ((bcell hb16).1 _ _ (by omega)).trans x15_6
    have x16_7 : w16.cell? ⟨w6.heap.size, 1, none⟩ = some ((.slice a6k ((hrdR h0 L0).2.1).length c6k)) := ((bcell hb16).1 _ _ (by omega)).trans x15_7
    clear x15_0 x15_1 x15_2 x15_3 x15_4 x15_5 x15_6 x15_7
    have S_16 := Lib.hid (CRow.below S_15.out hb16)
    clear S_15
    have Gm_16 := Lib.hid (CRow.below Gm_15.out hb16)
    clear Gm_15
    have IZ_16 := Lib.hid (CIn.below IZ_15.out hb16)
    clear IZ_15
    obtain ⟨a16k, c16k, rfl, hi16, hcap16, hcmx16⟩ := hr16.inn
    have IH_16 := Lib.hid hi16
    clear hi16
    have H_16 := Lib.hid hr16
    have H_at := Lib.hid hr16
    clear hr16
    have lb17_0 : w.heap.size < w16.heap.size := by omega
    have lb17_1 : w2.heap.size < w16.heap.size := by omega
    have lb17_2 : w4.heap.size < w16.heap.size := by omega
    have lb17_3 : w6.heap.size < w16.heap.size := by omega
    go_wp2_with fail
    generalize hw17 : (World.alloc w16 (Obj.cells #[Value.int .i64 ((hrdR h0 L0).1), (.slice a16k ((hrdR h0 L0).2.1).length c16k)] 35)) = w17
    have hb17 : Below w16.heap.size w16 w17 := by rw [← hw17]; exact Below.alloc (Below.refl _ _) (Nat.le_refl _) _
    have zz17 : w17.heap.size = w16.heap.size + 1 := by rw [← hw17]; simp
    have B17 : Below w.heap.size w w17 := B16.trans (hb17.mono B16.size)
    have y17 := B17.size
    have z17 : w16.heap.size ≤ w17.heap.size := hb17.size
    have x17_0 : w17.cell? ⟨w.heap.size, 0, none⟩ = some (.int .i64 h0) := ((bcell hb17).1 _ _ (by omega)).trans x16_0
    have x17_1 : w17.cell? ⟨w.heap.size, 1, none⟩ = some (.slice a0 L0.length c0) := ((bcell hb17).1 _ _ (by omega)).trans x16_1
    have x17_2 : w17.cell? ⟨w2.heap.size, 0, none⟩ = some (.int .i64 ((hrdR h0 L0).1)) := ((bcell hb17).1 _ _ (by omega)).trans x16_2
    have x17_3 : w17.cell? ⟨w2.heap.size, 1, none⟩ = some ((.slice a2k ((hrdR h0 L0).2.1).length c2k)) := ((bcell hb17).1 _ _ (by omega)).trans x16_3
    have x17_4 : w17.cell? ⟨w4.heap.size, 0, none⟩ = some (.int .i64 (h0)) := ((bcell hb17).1 _ _ (by omega)).trans x16_4
    have x17_5 : w17.cell? ⟨w4.heap.size, 1, none⟩ = some ((.slice a4k L0.length c4k)) := ((bcell hb17).1 _ _ (by omega)).trans x16_5
    have x17_6 : w17.cell? ⟨w6.heap.size, 0, none⟩ = some (.int .i64 ((hrdR h0 L0).1)) := ((bcell hb17).1 _ _ (by omega)).trans x16_6
    have x17_7 : w17.cell? ⟨w6.heap.size, 1, none⟩ = some ((.slice a6k ((hrdR h0 L0).2.1).length c6k)) := ((bcell hb17).1 _ _ (by omega)).trans x16_7
    clear x16_0 x16_1 x16_2 x16_3 x16_4 x16_5 x16_6 x16_7
    have S_17 := Lib.hid (CRow.below S_16.out hb17)
    clear S_16
    have Gm_17 := Lib.hid (CRow.below Gm_16.out hb17)
    clear Gm_16
    have IZ_17 := Lib.hid (CIn.below IZ_16.out hb17)
    clear IZ_16
    have H_17 := Lib.hid (CRow.below H_16.out hb17)
    clear H_16
    have x17_8 : w17.cell? ⟨w16.heap.size, 0, none⟩ = some (.int .i64 ((hrdR h0 L0).1)) := by rw [← hw17]; exact ((cells_of_block (heap_alloc_new w16 (Obj.cells #[Value.int .i64 ((hrdR h0 L0).1), (.slice a16k ((hrdR h0 L0).2.1).length c16k)] 35))).1 0).trans rfl
    have x17_9 : w17.cell? ⟨w16.heap.size, 1, none⟩ = some ((.slice a16k ((hrdR h0 L0).2.1).length c16k)) := by rw [← hw17]; exact ((cells_of_block (heap_alloc_new w16 (Obj.cells #[Value.int .i64 ((hrdR h0 L0).1), (.slice a16k ((hrdR h0 L0).2.1).length c16k)] 35))).1 1).trans rfl
    clear hw17
    go_wp2_with fail
    refine (eqPuzzle_same (hrdR h0 L0).1 (hrdR h0 L0).2.1 (.slice a16k ((hrdR h0 L0).2.1).length c16k) (.slice a2k ((hrdR h0 L0).2.1).length c2k) _ _ _ H_17.out S_17.out HLEN.out).mono ?_
    rintro e18 w18 ⟨rfl, hb18⟩
    have B18 : Below w.heap.size w w18 := B17.trans (hb18.mono B17.size)
    have y18 := B18.size
    have z18 : w17.heap.size ≤ w18.heap.size := hb18.size
    have x18_0 : w18.cell? ⟨w.heap.size, 0, none⟩ = some (.int .i64 h0) := ((bcell hb18).1 _ _ (by omega)).trans x17_0
    have x18_1 : w18.cell? ⟨w.heap.size, 1, none⟩ = some (.slice a0 L0.length c0) := ((bcell hb18).1 _ _ (by omega)).trans x17_1
    have x18_2 : w18.cell? ⟨w2.heap.size, 0, none⟩ = some (.int .i64 ((hrdR h0 L0).1)) := ((bcell hb18).1 _ _ (by omega)).trans x17_2
    have x18_3 : w18.cell? ⟨w2.heap.size, 1, none⟩ = some ((.slice a2k ((hrdR h0 L0).2.1).length c2k)) := ((bcell hb18).1 _ _ (by omega)).trans x17_3
    have x18_4 : w18.cell? ⟨w4.heap.size, 0, none⟩ = some (.int .i64 (h0)) := ((bcell hb18).1 _ _ (by omega)).trans x17_4
    have x18_5 : w18.cell? ⟨w4.heap.size, 1, none⟩ = some ((.slice a4k L0.length c4k)) := ((bcell hb18).1 _ _ (by omega)).trans x17_5
    have x18_6 : w18.cell? ⟨w6.heap.size, 0, none⟩ = some (.int .i64 ((hrdR h0 L0).1)) := ((bcell hb18).1 _ _ (by omega)).trans x17_6
    have x18_7 : w18.cell? ⟨w6.heap.size, 1, none⟩ = some ((.slice a6k ((hrdR h0 L0).2.1).length c6k)) := ((bcell hb18).1 _ _ (by omega)).trans x17_7
    have x18_8 : w18.cell? ⟨w16.heap.size, 0, none⟩ = some (.int .i64 ((hrdR h0 L0).1)) := ((bcell hb18).1 _ _ (by omega)).trans x17_8
    have x18_9 : w18.cell? ⟨w16.heap.size, 1, none⟩ = some ((.slice a16k ((hrdR h0 L0).2.1).length c16k)) := ((bcell hb18).1 _ _ (by omega)).trans x17_9
    clear x17_0 x17_1 x17_2 x17_3 x17_4 x17_5 x17_6 x17_7 x17_8 x17_9
    have S_18 := Lib.hid (CRow.below S_17.out hb18)
    clear S_17
    have Gm_18 := Lib.hid (CRow.below Gm_17.out hb18)
    clear Gm_17
    have H_18 := Lib.hid (CRow.below H_17.out hb18)
    clear H_17
    go_wp2_with fail
    refine (heldPuzzle_marked (hrdR h0 L0).1 (hrdR h0 L0).2.1 (.slice a6k ((hrdR h0 L0).2.1).length c6k) _ 1 _ Gm_18.out HLEN.out (by omega) (by omega)).mono ?_
    rintro e19 w19 ⟨rfl, hb19⟩
    have B19 : Below w.heap.size w w19 := B18.trans (hb19.mono B18.size)
    have y19 := B19.size
    have z19 : w18.heap.size ≤ w19.heap.size := hb19.size
    have x19_0 : w19.cell? ⟨w.heap.size, 0, none⟩ = some (.int .i64 h0) := ((bcell hb19).1 _ _ (by omega)).trans x18_0
    have x19_1 : w19.cell? ⟨w.heap.size, 1, none⟩ = some (.slice a0 L0.length c0) := ((bcell hb19).1 _ _ (by omega)).trans x18_1
    have x19_2 : w19.cell? ⟨w2.heap.size, 0, none⟩ = some (.int .i64 ((hrdR h0 L0).1)) := ((bcell hb19).1 _ _ (by omega)).trans x18_2
    have x19_3 : w19.cell? ⟨w2.heap.size, 1, none⟩ = some ((.slice a2k ((hrdR h0 L0).2.1).length c2k)) := ((bcell hb19).1 _ _ (by omega)).trans x18_3
    have x19_4 : w19.cell? ⟨w4.heap.size, 0, none⟩ = some (.int .i64 (h0)) := ((bcell hb19).1 _ _ (by omega)).trans x18_4
    have x19_5 : w19.cell? ⟨w4.heap.size, 1, none⟩ = some ((.slice a4k L0.length c4k)) := ((bcell hb19).1 _ _ (by omega)).trans x18_5
    have x19_6 : w19.cell? ⟨w6.heap.size, 0, none⟩ = some (.int .i64 ((hrdR h0 L0).1)) := ((bcell hb19).1 _ _ (by omega)).trans x18_6
    have x19_7 : w19.cell? ⟨w6.heap.size, 1, none⟩ = some ((.slice a6k ((hrdR h0 L0).2.1).length c6k)) := ((bcell hb19).1 _ _ (by omega)).trans x18_7
    have x19_8 : w19.cell? ⟨w16.heap.size, 0, none⟩ = some (.int .i64 ((hrdR h0 L0).1)) := ((bcell hb19).1 _ _ (by omega)).trans x18_8
    have x19_9 : w19.cell? ⟨w16.heap.size, 1, none⟩ = some ((.slice a16k ((hrdR h0 L0).2.1).length c16k)) := ((bcell hb19).1 _ _ (by omega)).trans x18_9
    clear x18_0 x18_1 x18_2 x18_3 x18_4 x18_5 x18_6 x18_7 x18_8 x18_9
    have Gm_19 := Lib.hid (CRow.below Gm_18.out hb19)
    clear Gm_18
    go_wp2
    go_ret
    exact ⟨rfl, B19⟩
  · rw [if_pos (by omega)] at hsz
    have HSZ := Lib.hid hsz
    clear hsz
    (go_enter Try.func16, Try.ntmps16)
    go_wp2_with fail
    refine (HSZ.out _).mono ?_
    rintro e0 w0 ⟨rfl, hb0⟩
    go_wp2
    go_ret
    exact ⟨rfl, by (repeat' (first | (with_reducible exact Below.refl _ _) | (with_reducible assumption) | (with_reducible refine Below.alloc ?_ ?_ _) | (with_reducible refine Below.drew ?_) | (with_reducible refine below_drewN ?_ _) | (with_reducible refine Below.setCell ?_ ?_ _) | (with_reducible refine below_call ?_ ?_ (by assumption)) | go_size))⟩

set_option maxRecDepth 100000 in
theorem lifted (os : Os) (started : os.Started) (H : Type) (enc : TypeId × Value → H) :
    ReturnsInHanded {} Try.checked os 16 .any (Rows.fnExactHarderPuzzleSpec.pre6 enc Try.prog Try.f16 Rows.fnExactHarderPuzzleRow.domain false) (Rows.fnExactHarderPuzzleSpec.post enc Try.prog Try.f16 false true false false) := by
  refine returnsInHanded_of_change (C := Try.checked) Try.own started (by kernel_rfl) Try.func16
    (ChangeSpec.witness6 (enc := enc) (C := Try.checked) false ⟨#[], #[.agg #[.int .i64 0, .slice none 0 0]], []⟩ 8 (by kernel_rfl) (by kernel_rfl) (by kernel_rfl) (by kernel_rfl)) ?_
  intro W base args ds gs before hval0 hW hcnd _
  have hval : ∀ (j : Nat) t v, Try.f16.params[j]? = some t → args[j]? = some v → Value.okWide Try.prog W .any base t v := hval0
  have hW' := hW
  obtain ⟨p, q, hA0, hV, rfl, hfz, hnd⟩ := hW
  have hA : DataW.TrodAll enc Try.prog W 0 (fun _ => true) true Try.f16.params.toList args.toList ds p := hA0
  rw [Try.params16] at hA hval
  obtain ⟨v0, vs0, d_0, ds0, p0, q0, hargs, rfl, rfl, h0_, r0⟩ := trodAll_cons hA
  obtain ⟨rfl, rfl, rfl⟩ := trodAll_nil r0
  obtain rfl : args = #[v0] := by cases args; simp_all
  obtain ⟨rfl, rfl⟩ := trodVars_none hV
  have h0k := h0_
  obtain ⟨h0, a0, c0, L0, rfl, kh0, hin0, hi0, hm0⟩ := open_puzzle (hval 0 30 v0 rfl rfl) h0_
  clear hA0 hval0
  simp only [List.append_nil, List.nil_append] at hW'
  have hlt0 : ∀ y ∈ p0, y.block < W.heap.size := fun y hy => by simpa using hW'.lt y (by simp [hy])
  refine (walk W h0 a0 c0 L0 kh0 hin0 hi0 hm0).mono fun e W' ⟨he, bel⟩ => ?_
  subst he
  have harg0 : DataW.Trod enc Try.prog W' 0 (fun b => decide (b < W.heap.size)) true 30 (pzv h0 (.slice a0 L0.length c0)) d_0 p0 :=
    Below.trod Try.laidOut (by kernel_rfl) (of_decide_eq_true (by kernel_rfl)) h0k bel hlt0
  exact ⟨_, rfl, _, _, _, [], _, [], hW', trodAll_mk1 (shut_bool Try.underlying4 _), (trodAll_cons_mk harg0 trodAll_mk0), rfl, bel.frame _, fun h => by cases h⟩

theorem closed : joinedFacts Try.prog 16 Try.f16 Rows.fnExactHarderPuzzleSpec Rows.fnExactHarderPuzzleRow = true := by
  unfold joinedFacts
  rw [Try.fMake, Try.fEnter, Try.fLifts, Try.fMaps, Try.fLaid, Try.fHeard, Try.fKeys]
  kernel_rfl
theorem over : Rows.fnExactHarderPuzzleRow.holds Try.pinned (OpenSpec.ofChange Rows.fnExactHarderPuzzleSpec) :=
  OpenClaim.holds_of_wide 16 Try.f16 rfl rfl rfl rfl rfl rfl rfl ⟨rfl, rfl, rfl, rfl, rfl⟩ rfl rfl rfl rfl rfl (by kernel_rfl) Try.func16
    closed (of_decide_eq_true (by kernel_rfl)) (by unfold Func.isWrapper; first | (rw [if_pos (by decide +kernel)]; kernel_rfl) | (rw [if_neg (by decide +kernel)]; exact ⟨rfl, rfl⟩))
    (fun os started H enc _ => lifted os started H enc)

end Go.Proofs.Ytcpgjjmamclklaa.fnExactHarderPuzzle
namespace Go.Proofs.Ytcpgjjmamclklaa
/-- The statement. -/
theorem fnExactHarderPuzzle_proved : Rows.FnExactHarderPuzzleSaid := fnExactHarderPuzzle.over
#print axioms fnExactHarderPuzzle_proved
end Go.Proofs.Ytcpgjjmamclklaa