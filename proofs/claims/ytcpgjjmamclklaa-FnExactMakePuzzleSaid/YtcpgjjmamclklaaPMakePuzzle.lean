/- FnExactMakePuzzle: called with any arguments, the law returns true, and its arguments read behind the call as before. Conditions: none but the row's own. -/
import Derived.Test.YtcpgjjmamclklaaFacts
import Derived.Test.YtcpgjjmamclklaaZLaw
import Derived.Test.YtcpgjjmamclklaaPz23
set_option linter.unusedSimpArgs false
set_option linter.unusedVariables false
set_option maxRecDepth 100000
namespace Go.Proofs.Ytcpgjjmamclklaa.fnExactMakePuzzle
open Go.ChangeShapes Go.WideShapes Go.ChangeAt Go.RowKit

set_option maxHeartbeats 4000000 in
theorem walk (w : World) (t0 : Int) (t1 : Int) (t2 : Int) (t3 : Int) (kt0 : I64 t0) (kt1 : I64 t1) (kt2 : I64 t2) (kt3 : I64 t3) :
    Calls Try.prog 17 #[.int .i64 t0, .int .i64 t1, .int .i64 t2, .int .i64 t3] w fun e w' => e = .returned (.bool true) ∧ Below w.heap.size w w' := by
  have HLEN := Lib.hid (show ((makR t0 t1 t2 t3).2.1).length ≤ 2000000 from makR_len t0 t1 t2 t3)
  (go_enter Try.func17, Try.ntmps17)
  have B0 : Below w.heap.size w w := Below.refl _ _
  have y0 := B0.size
  go_wp2_with fail
  refine (specMake_any t0 t1 t2 t3 _).mono ?_
  rintro e1 w1 ⟨v1, rfl, hr1, hb1⟩
  have B1 : Below w.heap.size w w1 := B0.trans (hb1.mono B0.size)
  have y1 := B1.size
  have z1 : w.heap.size ≤ w1.heap.size := hb1.size
  obtain ⟨a1k, c1k, rfl, hi1, hcap1, hcmx1⟩ := hr1.inn
  have IS_1 := Lib.hid hi1
  clear hi1
  have S_1 := Lib.hid hr1
  have S_at := Lib.hid hr1
  clear hr1
  go_wp2_with fail
  generalize hw2 : (World.alloc w1 (Obj.cells #[Value.int .i64 ((makR t0 t1 t2 t3).1), (.slice a1k ((makR t0 t1 t2 t3).2.1).length c1k)] 35)) = w2
  have hb2 : Below w1.heap.size w1 w2 := by rw [← hw2]; exact Below.alloc (Below.refl _ _) (Nat.le_refl _) _
  have zz2 : w2.heap.size = w1.heap.size + 1 := by rw [← hw2]; simp
  have B2 : Below w.heap.size w w2 := B1.trans (hb2.mono B1.size)
  have y2 := B2.size
  have z2 : w1.heap.size ≤ w2.heap.size := hb2.size
  have S_2 := Lib.hid (CRow.below S_1.out hb2)
  clear S_1
  have x2_0 : w2.cell? ⟨w1.heap.size, 0, none⟩ = some (.int .i64 ((makR t0 t1 t2 t3).1)) := by rw [← hw2]; exact ((cells_of_block (heap_alloc_new w1 (Obj.cells #[Value.int .i64 ((makR t0 t1 t2 t3).1), (.slice a1k ((makR t0 t1 t2 t3).2.1).length c1k)] 35))).1 0).trans rfl
  have x2_1 : w2.cell? ⟨w1.heap.size, 1, none⟩ = some ((.slice a1k ((makR t0 t1 t2 t3).2.1).length c1k)) := by rw [← hw2]; exact ((cells_of_block (heap_alloc_new w1 (Obj.cells #[Value.int .i64 ((makR t0 t1 t2 t3).1), (.slice a1k ((makR t0 t1 t2 t3).2.1).length c1k)] 35))).1 1).trans rfl
  clear hw2
  go_wp2_with fail
  refine (implMake_any t0 t1 t2 t3 _).mono ?_
  rintro e3 w3 ⟨v3, rfl, hr3, hb3⟩
  have B3 : Below w.heap.size w w3 := B2.trans (hb3.mono B2.size)
  have y3 := B3.size
  have z3 : w2.heap.size ≤ w3.heap.size := hb3.size
  have x3_0 : w3.cell? ⟨w1.heap.size, 0, none⟩ = some (.int .i64 ((makR t0 t1 t2 t3).1)) := ((bcell hb3).1 _ _ (by omega)).trans x2_0
  have x3_1 : w3.cell? ⟨w1.heap.size, 1, none⟩ = some ((.slice a1k ((makR t0 t1 t2 t3).2.1).length c1k)) := ((bcell hb3).1 _ _ (by omega)).trans x2_1
  clear x2_0 x2_1
  have S_3 := Lib.hid (CRow.below S_2.out hb3)
  clear S_2
  obtain ⟨a3k, c3k, rfl, hi3, hcap3, hcmx3⟩ := hr3.inn
  have IG_3 := Lib.hid hi3
  clear hi3
  have G_3 := Lib.hid hr3
  have G_at := Lib.hid hr3
  clear hr3
  have lb4_0 : w1.heap.size < w3.heap.size := by omega
  go_wp2_with fail
  generalize hw4 : (World.alloc w3 (Obj.cells #[Value.int .i64 ((makR t0 t1 t2 t3).1), (.slice a3k ((makR t0 t1 t2 t3).2.1).length c3k)] 35)) = w4
  have hb4 : Below w3.heap.size w3 w4 := by rw [← hw4]; exact Below.alloc (Below.refl _ _) (Nat.le_refl _) _
  have zz4 : w4.heap.size = w3.heap.size + 1 := by rw [← hw4]; simp
  have B4 : Below w.heap.size w w4 := B3.trans (hb4.mono B3.size)
  have y4 := B4.size
  have z4 : w3.heap.size ≤ w4.heap.size := hb4.size
  have x4_0 : w4.cell? ⟨w1.heap.size, 0, none⟩ = some (.int .i64 ((makR t0 t1 t2 t3).1)) := ((bcell hb4).1 _ _ (by omega)).trans x3_0
  have x4_1 : w4.cell? ⟨w1.heap.size, 1, none⟩ = some ((.slice a1k ((makR t0 t1 t2 t3).2.1).length c1k)) := ((bcell hb4).1 _ _ (by omega)).trans x3_1
  clear x3_0 x3_1
  have S_4 := Lib.hid (CRow.below S_3.out hb4)
  clear S_3
  have G_4 := Lib.hid (CRow.below G_3.out hb4)
  clear G_3
  have x4_2 : w4.cell? ⟨w3.heap.size, 0, none⟩ = some (.int .i64 ((makR t0 t1 t2 t3).1)) := by rw [← hw4]; exact ((cells_of_block (heap_alloc_new w3 (Obj.cells #[Value.int .i64 ((makR t0 t1 t2 t3).1), (.slice a3k ((makR t0 t1 t2 t3).2.1).length c3k)] 35))).1 0).trans rfl
  have x4_3 : w4.cell? ⟨w3.heap.size, 1, none⟩ = some ((.slice a3k ((makR t0 t1 t2 t3).2.1).length c3k)) := by rw [← hw4]; exact ((cells_of_block (heap_alloc_new w3 (Obj.cells #[Value.int .i64 ((makR t0 t1 t2 t3).1), (.slice a3k ((makR t0 t1 t2 t3).2.1).length c3k)] 35))).1 1).trans rfl
  clear hw4
  go_wp2_with fail
  refine (eqPuzzle_same (makR t0 t1 t2 t3).1 (makR t0 t1 t2 t3).2.1 (.slice a3k ((makR t0 t1 t2 t3).2.1).length c3k) (.slice a1k ((makR t0 t1 t2 t3).2.1).length c1k) _ _ _ G_4.out S_4.out HLEN.out).mono ?_
  rintro e5 w5 ⟨rfl, hb5⟩
  have B5 : Below w.heap.size w w5 := B4.trans (hb5.mono B4.size)
  have y5 := B5.size
  have z5 : w4.heap.size ≤ w5.heap.size := hb5.size
  have x5_0 : w5.cell? ⟨w1.heap.size, 0, none⟩ = some (.int .i64 ((makR t0 t1 t2 t3).1)) := ((bcell hb5).1 _ _ (by omega)).trans x4_0
  have x5_1 : w5.cell? ⟨w1.heap.size, 1, none⟩ = some ((.slice a1k ((makR t0 t1 t2 t3).2.1).length c1k)) := ((bcell hb5).1 _ _ (by omega)).trans x4_1
  have x5_2 : w5.cell? ⟨w3.heap.size, 0, none⟩ = some (.int .i64 ((makR t0 t1 t2 t3).1)) := ((bcell hb5).1 _ _ (by omega)).trans x4_2
  have x5_3 : w5.cell? ⟨w3.heap.size, 1, none⟩ = some ((.slice a3k ((makR t0 t1 t2 t3).2.1).length c3k)) := ((bcell hb5).1 _ _ (by omega)).trans x4_3
  clear x4_0 x4_1 x4_2 x4_3
  have S_5 := Lib.hid (CRow.below S_4.out hb5)
  clear S_4
  have G_5 := Lib.hid (CRow.below G_4.out hb5)
  clear G_4
  go_wp2_with fail
  refine (markPuzzle_any (makR t0 t1 t2 t3).1 (makR t0 t1 t2 t3).2.1 (.slice a3k ((makR t0 t1 t2 t3).2.1).length c3k) _ 1 _ G_5.out HLEN.out (by omega) (by omega)).mono ?_
  rintro e6 w6 ⟨rfl, hr6, hg6⟩
  have B6 : Below w.heap.size w w6 := Below.grown (w := w5) B5 hg6 (by omega) (fun j hj => by have := CRow.low G_at.out j hj; omega)
  have y6 := B6.size
  have z6 : w5.heap.size ≤ w6.heap.size := hg6.size
  have x6_0 : w6.cell? ⟨w1.heap.size, 0, none⟩ = some (.int .i64 ((makR t0 t1 t2 t3).1)) := (cell_of_heap (hg6.block _ (by omega) (fun e => by have e1 := CRow.low G_at.out _ e.symm; have e2 := CRow.top G_at.out _ e.symm; omega))).trans x5_0
  have x6_1 : w6.cell? ⟨w1.heap.size, 1, none⟩ = some ((.slice a1k ((makR t0 t1 t2 t3).2.1).length c1k)) := (cell_of_heap (hg6.block _ (by omega) (fun e => by have e1 := CRow.low G_at.out _ e.symm; have e2 := CRow.top G_at.out _ e.symm; omega))).trans x5_1
  have x6_2 : w6.cell? ⟨w3.heap.size, 0, none⟩ = some (.int .i64 ((makR t0 t1 t2 t3).1)) := (cell_of_heap (hg6.block _ (by omega) (fun e => by have e1 := CRow.low G_at.out _ e.symm; have e2 := CRow.top G_at.out _ e.symm; omega))).trans x5_2
  have x6_3 : w6.cell? ⟨w3.heap.size, 1, none⟩ = some ((.slice a3k ((makR t0 t1 t2 t3).2.1).length c3k)) := (cell_of_heap (hg6.block _ (by omega) (fun e => by have e1 := CRow.low G_at.out _ e.symm; have e2 := CRow.top G_at.out _ e.symm; omega))).trans x5_3
  clear x5_0 x5_1 x5_2 x5_3
  have S_6 := Lib.hid (CRow.kept S_5.out hg6 (apart_rows (fun j hj => CRow.top S_at.out j hj) (fun j hj => CRow.low G_at.out j hj) (by omega)))
  have Gm_6 := Lib.hid hr6
  clear hr6 hg6
  have p10 : ¬ (1 + 3 * (((makR t0 t1 t2 t3).2.1).length : Int) : Int) < 0 := by omega
  go_wp2_with fail
  refine (heldPuzzle_marked (makR t0 t1 t2 t3).1 (makR t0 t1 t2 t3).2.1 (.slice a3k ((makR t0 t1 t2 t3).2.1).length c3k) _ 1 _ Gm_6.out HLEN.out (by omega) (by omega)).mono ?_
  rintro e7 w7 ⟨rfl, hb7⟩
  have B7 : Below w.heap.size w w7 := B6.trans (hb7.mono B6.size)
  have y7 := B7.size
  have z7 : w6.heap.size ≤ w7.heap.size := hb7.size
  have x7_0 : w7.cell? ⟨w1.heap.size, 0, none⟩ = some (.int .i64 ((makR t0 t1 t2 t3).1)) := ((bcell hb7).1 _ _ (by omega)).trans x6_0
  have x7_1 : w7.cell? ⟨w1.heap.size, 1, none⟩ = some ((.slice a1k ((makR t0 t1 t2 t3).2.1).length c1k)) := ((bcell hb7).1 _ _ (by omega)).trans x6_1
  have x7_2 : w7.cell? ⟨w3.heap.size, 0, none⟩ = some (.int .i64 ((makR t0 t1 t2 t3).1)) := ((bcell hb7).1 _ _ (by omega)).trans x6_2
  have x7_3 : w7.cell? ⟨w3.heap.size, 1, none⟩ = some ((.slice a3k ((makR t0 t1 t2 t3).2.1).length c3k)) := ((bcell hb7).1 _ _ (by omega)).trans x6_3
  clear x6_0 x6_1 x6_2 x6_3
  have S_7 := Lib.hid (CRow.below S_6.out hb7)
  clear S_6
  have Gm_7 := Lib.hid (CRow.below Gm_6.out hb7)
  clear Gm_6
  go_wp2_with fail
  refine (implMake_any t0 t1 t2 t3 _).mono ?_
  rintro e8 w8 ⟨v8, rfl, hr8, hb8⟩
  have B8 : Below w.heap.size w w8 := B7.trans (hb8.mono B7.size)
  have y8 := B8.size
  have z8 : w7.heap.size ≤ w8.heap.size := hb8.size
  have x8_0 : w8.cell? ⟨w1.heap.size, 0, none⟩ = some (.int .i64 ((makR t0 t1 t2 t3).1)) := ((bcell hb8).1 _ _ (by omega)).trans x7_0
  have x8_1 : w8.cell? ⟨w1.heap.size, 1, none⟩ = some ((.slice a1k ((makR t0 t1 t2 t3).2.1).length c1k)) := ((bcell hb8).1 _ _ (by omega)).trans x7_1
  have x8_2 : w8.cell? ⟨w3.heap.size, 0, none⟩ = some (.int .i64 ((makR t0 t1 t2 t3).1)) := ((bcell hb8).1 _ _ (by omega)).trans x7_2
  have x8_3 : w8.cell? ⟨w3.heap.size, 1, none⟩ = some ((.slice a3k ((makR t0 t1 t2 t3).2.1).length c3k)) := ((bcell hb8).1 _ _ (by omega)).trans x7_3
  clear x7_0 x7_1 x7_2 x7_3
  have S_8 := Lib.hid (CRow.below S_7.out hb8)
  clear S_7
  have Gm_8 := Lib.hid (CRow.below Gm_7.out hb8)
  clear Gm_7
  obtain ⟨a8k, c8k, rfl, hi8, hcap8, hcmx8⟩ := hr8.inn
  have IH_8 := Lib.hid hi8
  clear hi8
  have H_8 := Lib.hid hr8
  have H_at := Lib.hid hr8
  clear hr8
  have lb9_0 : w1.heap.size < w8.heap.size := by omega
  have lb9_1 : w3.heap.size < w8.heap.size := by omega
  go_wp2_with fail
  generalize hw9 : (World.alloc w8 (Obj.cells #[Value.int .i64 ((makR t0 t1 t2 t3).1), (.slice a8k ((makR t0 t1 t2 t3).2.1).length c8k)] 35)) = w9
  have hb9 : Below w8.heap.size w8 w9 := by rw [← hw9]; exact Below.alloc (Below.refl _ _) (Nat.le_refl _) _
  have zz9 : w9.heap.size = w8.heap.size + 1 := by rw [← hw9]; simp
  have B9 : Below w.heap.size w w9 := B8.trans (hb9.mono B8.size)
  have y9 := B9.size
  have z9 : w8.heap.size ≤ w9.heap.size := hb9.size
  have x9_0 : w9.cell? ⟨w1.heap.size, 0, none⟩ = some (.int .i64 ((makR t0 t1 t2 t3).1)) := ((bcell hb9).1 _ _ (by omega)).trans x8_0
  have x9_1 : w9.cell? ⟨w1.heap.size, 1, none⟩ = some ((.slice a1k ((makR t0 t1 t2 t3).2.1).length c1k)) := ((bcell hb9).1 _ _ (by omega)).trans x8_1
  have x9_2 : w9.cell? ⟨w3.heap.size, 0, none⟩ = some (.int .i64 ((makR t0 t1 t2 t3).1)) := ((bcell hb9).1 _ _ (by omega)).trans x8_2
  have x9_3 : w9.cell? ⟨w3.heap.size, 1, none⟩ = some ((.slice a3k ((makR t0 t1 t2 t3).2.1).length c3k)) := ((bcell hb9).1 _ _ (by omega)).trans x8_3
  clear x8_0 x8_1 x8_2 x8_3
  have S_9 := Lib.hid (CRow.below S_8.out hb9)
  clear S_8
  have Gm_9 := Lib.hid (CRow.below Gm_8.out hb9)
  clear Gm_8
  have H_9 := Lib.hid (CRow.below H_8.out hb9)
  clear H_8
  have x9_4 : w9.cell? ⟨w8.heap.size, 0, none⟩ = some (.int .i64 ((makR t0 t1 t2 t3).1)) := by rw [← hw9]; exact ((cells_of_block (heap_alloc_new w8 (Obj.cells #[Value.int .i64 ((makR t0 t1 t2 t3).1), (.slice a8k ((makR t0 t1 t2 t3).2.1).length c8k)] 35))).1 0).trans rfl
  have x9_5 : w9.cell? ⟨w8.heap.size, 1, none⟩ = some ((.slice a8k ((makR t0 t1 t2 t3).2.1).length c8k)) := by rw [← hw9]; exact ((cells_of_block (heap_alloc_new w8 (Obj.cells #[Value.int .i64 ((makR t0 t1 t2 t3).1), (.slice a8k ((makR t0 t1 t2 t3).2.1).length c8k)] 35))).1 1).trans rfl
  clear hw9
  go_wp2_with fail
  refine (eqPuzzle_same (makR t0 t1 t2 t3).1 (makR t0 t1 t2 t3).2.1 (.slice a8k ((makR t0 t1 t2 t3).2.1).length c8k) (.slice a1k ((makR t0 t1 t2 t3).2.1).length c1k) _ _ _ H_9.out S_9.out HLEN.out).mono ?_
  rintro e10 w10 ⟨rfl, hb10⟩
  have B10 : Below w.heap.size w w10 := B9.trans (hb10.mono B9.size)
  have y10 := B10.size
  have z10 : w9.heap.size ≤ w10.heap.size := hb10.size
  have x10_0 : w10.cell? ⟨w1.heap.size, 0, none⟩ = some (.int .i64 ((makR t0 t1 t2 t3).1)) := ((bcell hb10).1 _ _ (by omega)).trans x9_0
  have x10_1 : w10.cell? ⟨w1.heap.size, 1, none⟩ = some ((.slice a1k ((makR t0 t1 t2 t3).2.1).length c1k)) := ((bcell hb10).1 _ _ (by omega)).trans x9_1
  have x10_2 : w10.cell? ⟨w3.heap.size, 0, none⟩ = some (.int .i64 ((makR t0 t1 t2 t3).1)) := ((bcell hb10).1 _ _ (by omega)).trans x9_2
  have x10_3 : w10.cell? ⟨w3.heap.size, 1, none⟩ = some ((.slice a3k ((makR t0 t1 t2 t3).2.1).length c3k)) := ((bcell hb10).1 _ _ (by omega)).trans x9_3
  have x10_4 : w10.cell? ⟨w8.heap.size, 0, none⟩ = some (.int .i64 ((makR t0 t1 t2 t3).1)) := ((bcell hb10).1 _ _ (by omega)).trans x9_4
  have x10_5 : w10.cell? ⟨w8.heap.size, 1, none⟩ = some ((.slice a8k ((makR t0 t1 t2 t3).2.1).length c8k)) := ((bcell hb10).1 _ _ (by omega)).trans x9_5
  clear x9_0 x9_1 x9_2 x9_3 x9_4 x9_5
  have S_10 := Lib.hid (CRow.below S_9.out hb10)
  clear S_9
  have Gm_10 := Lib.hid (CRow.below Gm_9.out hb10)
  clear Gm_9
  have H_10 := Lib.hid (CRow.below H_9.out hb10)
  clear H_9
  go_wp2_with fail
  refine (heldPuzzle_marked (makR t0 t1 t2 t3).1 (makR t0 t1 t2 t3).2.1 (.slice a3k ((makR t0 t1 t2 t3).2.1).length c3k) _ 1 _ Gm_10.out HLEN.out (by omega) (by omega)).mono ?_
  rintro e11 w11 ⟨rfl, hb11⟩
  have B11 : Below w.heap.size w w11 := B10.trans (hb11.mono B10.size)
  have y11 := B11.size
  have z11 : w10.heap.size ≤ w11.heap.size := hb11.size
  have x11_0 : w11.cell? ⟨w1.heap.size, 0, none⟩ = some (.int .i64 ((makR t0 t1 t2 t3).1)) := ((bcell hb11).1 _ _ (by omega)).trans x10_0
  have x11_1 : w11.cell? ⟨w1.heap.size, 1, none⟩ = some ((.slice a1k ((makR t0 t1 t2 t3).2.1).length c1k)) := ((bcell hb11).1 _ _ (by omega)).trans x10_1
  have x11_2 : w11.cell? ⟨w3.heap.size, 0, none⟩ = some (.int .i64 ((makR t0 t1 t2 t3).1)) := ((bcell hb11).1 _ _ (by omega)).trans x10_2
  have x11_3 : w11.cell? ⟨w3.heap.size, 1, none⟩ = some ((.slice a3k ((makR t0 t1 t2 t3).2.1).length c3k)) := ((bcell hb11).1 _ _ (by omega)).trans x10_3
  have x11_4 : w11.cell? ⟨w8.heap.size, 0, none⟩ = some (.int .i64 ((makR t0 t1 t2 t3).1)) := ((bcell hb11).1 _ _ (by omega)).trans x10_4
  have x11_5 : w11.cell? ⟨w8.heap.size, 1, none⟩ = some ((.slice a8k ((makR t0 t1 t2 t3).2.1).length c8k)) := ((bcell hb11).1 _ _ (by omega)).trans x10_5
  clear x10_0 x10_1 x10_2 x10_3 x10_4 x10_5
  have Gm_11 := Lib.hid (CRow.below Gm_10.out hb11)
  clear Gm_10
  go_wp2
  go_ret
  exact ⟨rfl, B11⟩

set_option maxRecDepth 100000 in
theorem lifted (os : Os) (started : os.Started) (H : Type) (enc : TypeId × Value → H) :
    ReturnsInHanded {} Try.checked os 17 .any (Rows.fnExactMakePuzzleSpec.pre6 enc Try.prog Try.f17 Rows.fnExactMakePuzzleRow.domain false) (Rows.fnExactMakePuzzleSpec.post enc Try.prog Try.f17 false true false false) := by
  refine returnsInHanded_of_change (C := Try.checked) Try.own started (by kernel_rfl) Try.func17
    (ChangeSpec.witness6 (enc := enc) (C := Try.checked) false ⟨#[], #[.int .i64 0, .int .i64 0, .int .i64 0, .int .i64 0], []⟩ 8 (by kernel_rfl) (by kernel_rfl) (by kernel_rfl) (by kernel_rfl)) ?_
  intro W base args ds gs before hval0 hW hcnd _
  have hval : ∀ (j : Nat) t v, Try.f17.params[j]? = some t → args[j]? = some v → Value.okWide Try.prog W .any base t v := hval0
  have hW' := hW
  obtain ⟨p, q, hA0, hV, rfl, hfz, hnd⟩ := hW
  have hA : DataW.TrodAll enc Try.prog W 0 (fun _ => true) true Try.f17.params.toList args.toList ds p := hA0
  rw [Try.params17] at hA hval
  obtain ⟨v0, vs0, d_0, ds0, p0, q0, hargs, rfl, rfl, h0_, r0⟩ := trodAll_cons hA
  obtain ⟨v1, vs1, d_1, ds1, p1, q1, rfl, rfl, rfl, h1_, r1⟩ := trodAll_cons r0
  obtain ⟨v2, vs2, d_2, ds2, p2, q2, rfl, rfl, rfl, h2_, r2⟩ := trodAll_cons r1
  obtain ⟨v3, vs3, d_3, ds3, p3, q3, rfl, rfl, rfl, h3_, r3⟩ := trodAll_cons r2
  obtain ⟨rfl, rfl, rfl⟩ := trodAll_nil r3
  obtain rfl : args = #[v0, v1, v2, v3] := by cases args; simp_all
  obtain ⟨rfl, rfl⟩ := trodVars_none hV
  obtain ⟨t0, rfl, rfl, rfl, wt0⟩ := open_int Try.underlying3 (hval 0 3 v0 rfl rfl) h0_
  obtain ⟨t1, rfl, rfl, rfl, wt1⟩ := open_int Try.underlying3 (hval 1 3 v1 rfl rfl) h1_
  obtain ⟨t2, rfl, rfl, rfl, wt2⟩ := open_int Try.underlying3 (hval 2 3 v2 rfl rfl) h2_
  obtain ⟨t3, rfl, rfl, rfl, wt3⟩ := open_int Try.underlying3 (hval 3 3 v3 rfl rfl) h3_
  clear hA0 hval0
  refine (walk W t0 t1 t2 t3 (i64_of_wf wt0) (i64_of_wf wt1) (i64_of_wf wt2) (i64_of_wf wt3)).mono fun e W' ⟨he, bel⟩ => ?_
  subst he
  exact ⟨_, rfl, _, _, _, [], _, [], hW', trodAll_mk1 (shut_bool Try.underlying4 _), (trodAll_cons_mk (shut_int Try.underlying3 wt0) (trodAll_cons_mk (shut_int Try.underlying3 wt1) (trodAll_cons_mk (shut_int Try.underlying3 wt2) (trodAll_cons_mk (shut_int Try.underlying3 wt3) trodAll_mk0)))), rfl, bel.frame _, fun h => by cases h⟩

theorem closed : joinedFacts Try.prog 17 Try.f17 Rows.fnExactMakePuzzleSpec Rows.fnExactMakePuzzleRow = true := by
  unfold joinedFacts
  rw [Try.fMake, Try.fEnter, Try.fLifts, Try.fMaps, Try.fLaid, Try.fHeard, Try.fKeys]
  kernel_rfl
theorem over : Rows.fnExactMakePuzzleRow.holds Try.pinned (OpenSpec.ofChange Rows.fnExactMakePuzzleSpec) :=
  OpenClaim.holds_of_wide 17 Try.f17 rfl rfl rfl rfl rfl rfl rfl ⟨rfl, rfl, rfl, rfl, rfl⟩ rfl rfl rfl rfl rfl (by kernel_rfl) Try.func17
    closed (of_decide_eq_true (by kernel_rfl)) (by unfold Func.isWrapper; first | (rw [if_pos (by decide +kernel)]; kernel_rfl) | (rw [if_neg (by decide +kernel)]; exact ⟨rfl, rfl⟩))
    (fun os started H enc _ => lifted os started H enc)

end Go.Proofs.Ytcpgjjmamclklaa.fnExactMakePuzzle
namespace Go.Proofs.Ytcpgjjmamclklaa
/-- The statement. -/
theorem fnExactMakePuzzle_proved : Rows.FnExactMakePuzzleSaid := fnExactMakePuzzle.over
#print axioms fnExactMakePuzzle_proved
end Go.Proofs.Ytcpgjjmamclklaa