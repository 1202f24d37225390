/- FnExactSolutions: called with any arguments, the law returns true, and its arguments read behind the call as before. Conditions: none but the row's own. -/
import Derived.Test.YtcpgjjmamclklaaFacts
import Derived.Test.YtcpgjjmamclklaaZLaw
import Derived.Test.YtcpgjjmamclklaaPz9
set_option linter.unusedSimpArgs false
set_option linter.unusedVariables false
set_option maxRecDepth 100000
namespace Go.Proofs.Ytcpgjjmamclklaa.fnExactSolutions
open Go.ChangeShapes Go.WideShapes Go.ChangeAt Go.RowKit

set_option maxHeartbeats 4000000 in
theorem walk (w : World) (h0 : Int) (a0 : Option Addr) (c0 : Nat) (L0 : List (Int × Int × Int)) (kh0 : I64 h0) (hin0 : CIn w a0 L0) (hi0 : AllI L0) (hm0 : L0.length ≤ maxLen) :
    Calls Try.prog 6 #[pzv h0 (.slice a0 L0.length c0)] w fun e w' => e = .returned (.bool true) ∧ Below w.heap.size w w' := by
  have B0 : Below w.heap.size w w := Below.refl _ _
  have y0 := B0.size
  have HIN0 := Lib.hid hin0
  clear hin0
  have hsz := fun W => szPuzzle_any h0 a0 L0.length c0 W hm0
  by_cases hl0 : L0.length ≤ 1048576
  · rw [if_neg (by omega)] at hsz
    have hn0 : ¬ ((1048576 : Int) - (L0.length : Int) < 0) := by omega
    have HSZ := Lib.hid hsz
    clear hsz
    (go_enter Try.func6, Try.ntmps6)
    go_wp2_with fail
    refine (HSZ.out _).mono ?_
    rintro e0 w0 ⟨rfl, hb0⟩
    have B0 : Below w.heap.size w w0 := by (repeat' (first | (with_reducible exact Below.refl _ _) | (with_reducible assumption) | (with_reducible refine Below.alloc ?_ ?_ _) | (with_reducible refine Below.drew ?_) | (with_reducible refine below_drewN ?_ _) | (with_reducible refine Below.setCell ?_ ?_ _) | (with_reducible refine below_call ?_ ?_ (by assumption)) | go_size))
    have y0 : w.heap.size + 1 ≤ w0.heap.size := by have := hb0.size; simp only [World.size_alloc] at this; omega
    have x0_0 : w0.cell? ⟨w.heap.size, 0, none⟩ = some (.int .i64 h0) := ((bcell hb0).1 _ _ (by go_size)).trans (by go_simp)
    have x0_1 : w0.cell? ⟨w.heap.size, 1, none⟩ = some (.slice a0 L0.length c0) := ((bcell hb0).1 _ _ (by go_size)).trans (by go_simp)
    have HLEN := Lib.hid (show ((solR h0 L0).1).length ≤ 2000000 from solR_len h0 L0)
    go_wp2_with fail
    refine (toPuzzle_any h0 a0 c0 L0 _ (HIN0.out.below B0) hl0).mono ?_
    rintro e1 w1 ⟨v1, rfl, hr1, hb1⟩
    have B1 : Below w.heap.size w w1 := B0.trans (hb1.mono B0.size)
    have y1 := B1.size
    have z1 : w0.heap.size ≤ w1.heap.size := hb1.size
    have x1_0 : w1.cell? ⟨w.heap.size, 0, none⟩ = some (.int .i64 h0) := ((bcell hb1).1 _ _ (by omega)).trans x0_0
    have x1_1 : w1.cell? ⟨w.heap.size, 1, none⟩ = some (.slice a0 L0.length c0) := ((bcell hb1).1 _ _ (by omega)).trans x0_1
    clear x0_0 x0_1
    obtain ⟨a1k, c1k, rfl, hi1, hcap1, hcmx1⟩ := hr1.inn
    have IX_1 := Lib.hid hi1
    clear hi1
    have X_1 := Lib.hid hr1
    have X_at := Lib.hid hr1
    clear hr1
    go_wp2_with fail
    refine (specSolutions_any h0 a1k c1k L0 (by unfold maxLen; omega) _ IX_1.out).mono ?_
    rintro e2 w2 ⟨v2, rfl, hr2, hb2⟩
    have B2 : Below w.heap.size w w2 := B1.trans (hb2.mono B1.size)
    have y2 := B2.size
    have z2 : w1.heap.size ≤ w2.heap.size := hb2.size
    have x2_0 : w2.cell? ⟨w.heap.size, 0, none⟩ = some (.int .i64 h0) := ((bcell hb2).1 _ _ (by omega)).trans x1_0
    have x2_1 : w2.cell? ⟨w.heap.size, 1, none⟩ = some (.slice a0 L0.length c0) := ((bcell hb2).1 _ _ (by omega)).trans x1_1
    clear x1_0 x1_1
    have IX_2 := Lib.hid (CIn.below IX_1.out hb2)
    clear IX_1
    have S_2 := Lib.hid hr2
    have S_at := Lib.hid hr2
    clear hr2
    go_wp2_with fail
    refine (toPuzzle_any h0 a0 c0 L0 _ (HIN0.out.below B2) hl0).mono ?_
    rintro e3 w3 ⟨v3, rfl, hr3, hb3⟩
    have B3 : Below w.heap.size w w3 := B2.trans (hb3.mono B2.size)
    have y3 := B3.size
    have z3 : w2.heap.size ≤ w3.heap.size := hb3.size
    have x3_0 : w3.cell? ⟨w.heap.size, 0, none⟩ = some (.int .i64 h0) := ((bcell hb3).1 _ _ (by omega)).trans x2_0
    have x3_1 : w3.cell? ⟨w.heap.size, 1, none⟩ = some (.slice a0 L0.length c0) := ((bcell hb3).1 _ _ (by omega)).trans x2_1
    clear x2_0 x2_1
    have S_3 := Lib.hid (IRow.below S_2.out hb3)
    clear S_2
    obtain ⟨a3k, c3k, rfl, hi3, hcap3, hcmx3⟩ := hr3.inn
    have IY_3 := Lib.hid hi3
    clear hi3
    have Y_3 := Lib.hid hr3
    have Y_at := Lib.hid hr3
    clear hr3
    go_wp2_with fail
    generalize hw4 : (World.alloc w3 (Obj.cells #[Value.int .i64 (h0), (.slice a3k L0.length c3k)] 35)) = w4
    have hb4 : Below w3.heap.size w3 w4 := by rw [← hw4]; exact Below.alloc (Below.refl _ _) (Nat.le_refl _) _
    have zz4 : w4.heap.size = w3.heap.size + 1 := by rw [← hw4]; simp
    have B4 : Below w.heap.size w w4 := B3.trans (hb4.mono B3.size)
    have y4 := B4.size
    have z4 : w3.heap.size ≤ w4.heap.size := hb4.size
    have x4_0 : w4.cell? ⟨w.heap.size, 0, none⟩ = some (.int .i64 h0) := ((bcell hb4).1 _ _ (by omega)).trans x3_0
    have x4_1 : w4.cell? ⟨w.heap.size, 1, none⟩ = some (.slice a0 L0.length c0) := ((bcell hb4).1 _ _ (by omega)).trans x3_1
    clear x3_0 x3_1
    have S_4 := Lib.hid (IRow.below S_3.out hb4)
    clear S_3
    have IY_4 := Lib.hid (CIn.below IY_3.out hb4)
    clear IY_3
    have Y_4 := Lib.hid (CRow.below Y_3.out hb4)
    clear Y_3
    have x4_2 : w4.cell? ⟨w3.heap.size, 0, none⟩ = some (.int .i64 (h0)) := by rw [← hw4]; exact ((cells_of_block (heap_alloc_new w3 (Obj.cells #[Value.int .i64 (h0), (.slice a3k L0.length c3k)] 35))).1 0).trans rfl
    have x4_3 : w4.cell? ⟨w3.heap.size, 1, none⟩ = some ((.slice a3k L0.length c3k)) := by rw [← hw4]; exact ((cells_of_block (heap_alloc_new w3 (Obj.cells #[Value.int .i64 (h0), (.slice a3k L0.length c3k)] 35))).1 1).trans rfl
    clear hw4
    go_wp2_with fail
    refine (implSolutions_any h0 a3k c3k L0 (by unfold maxLen; omega) _ IY_4.out).mono ?_
    rintro e5 w5 ⟨v5, rfl, hr5, hb5⟩
    have B5 : Below w.heap.size w w5 := B4.trans (hb5.mono B4.size)
    have y5 := B5.size
    have z5 : w4.heap.size ≤ w5.heap.size := hb5.size
    have x5_0 : w5.cell? ⟨w.heap.size, 0, none⟩ = some (.int .i64 h0) := ((bcell hb5).1 _ _ (by omega)).trans x4_0
    have x5_1 : w5.cell? ⟨w.heap.size, 1, none⟩ = some (.slice a0 L0.length c0) := ((bcell hb5).1 _ _ (by omega)).trans x4_1
    have x5_2 : w5.cell? ⟨w3.heap.size, 0, none⟩ = some (.int .i64 (h0)) := ((bcell hb5).1 _ _ (by omega)).trans x4_2
    have x5_3 : w5.cell? ⟨w3.heap.size, 1, none⟩ = some ((.slice a3k L0.length c3k)) := ((bcell hb5).1 _ _ (by omega)).trans x4_3
    clear x4_0 x4_1 x4_2 x4_3
    have S_5 := Lib.hid (IRow.below S_4.out hb5)
    clear S_4
    have IY_5 := Lib.hid (CIn.below IY_4.out hb5)
    clear IY_4
    have Y_5 := Lib.hid (CRow.below Y_4.out hb5)
    clear Y_4
    have G_5 := Lib.hid hr5
    have G_at := Lib.hid hr5
    clear hr5
    go_wp2_with fail
    refine (eqIntS_same (solR h0 L0).1 v5 v2 _ _ _ G_5.out S_5.out HLEN.out).mono ?_
    rintro e6 w6 ⟨rfl, hb6⟩
    have B6 : Below w.heap.size w w6 := B5.trans (hb6.mono B5.size)
    have y6 := B6.size
    have z6 : w5.heap.size ≤ w6.heap.size := hb6.size
    have x6_0 : w6.cell? ⟨w.heap.size, 0, none⟩ = some (.int .i64 h0) := ((bcell hb6).1 _ _ (by omega)).trans x5_0
    have x6_1 : w6.cell? ⟨w.heap.size, 1, none⟩ = some (.slice a0 L0.length c0) := ((bcell hb6).1 _ _ (by omega)).trans x5_1
    have x6_2 : w6.cell? ⟨w3.heap.size, 0, none⟩ = some (.int .i64 (h0)) := ((bcell hb6).1 _ _ (by omega)).trans x5_2
    have x6_3 : w6.cell? ⟨w3.heap.size, 1, none⟩ = some ((.slice a3k L0.length c3k)) := ((bcell hb6).1 _ _ (by omega)).trans x5_3
    clear x5_0 x5_1 x5_2 x5_3
    have S_6 := Lib.hid (IRow.below S_5.out hb6)
    clear S_5
    have Y_6 := Lib.hid (CRow.below Y_5.out hb6)
    clear Y_5
    have G_6 := Lib.hid (IRow.below G_5.out hb6)
    clear G_5
    go_wp2_with fail
    have hS6 : Below w6.heap.size w6 w6.drew := (Below.refl _ _).drew
    refine wp_region_held (by kernel_rfl) (S := fun W => Below w6.heap.size w6 W) ?_
    refine take_first (i := 0) (v := pzv h0 (.slice a3k L0.length c3k)) _ rfl rfl (by kernel_rfl) (by kernel_rfl) (by kernel_rfl) (fun _ _ _ h => h) (by rfl) ?_ (by assumption) ?_
    · intro wq hq
      obtain ⟨hcq, hfq⟩ := bcell hq
      have xq_0 := (hcq _ _ (by omega)).trans x6_0
      have xq_1 := (hcq _ _ (by omega)).trans x6_1
      have xq_2 := (hcq _ _ (by omega)).trans x6_2
      have xq_3 := (hcq _ _ (by omega)).trans x6_3
      go_simp
      try rfl
    simp only [Act.put, List.setIfInBounds_toArray, List.set_cons_zero, List.set_cons_succ]
    refine take_first (i := 1) (v := pzv h0 (.slice a0 L0.length c0)) _ rfl rfl (by kernel_rfl) (by kernel_rfl) (by kernel_rfl) (fun _ _ _ h => h) (by rfl) ?_ (by assumption) ?_
    · intro wq hq
      obtain ⟨hcq, hfq⟩ := bcell hq
      have xq_0 := (hcq _ _ (by omega)).trans x6_0
      have xq_1 := (hcq _ _ (by omega)).trans x6_1
      have xq_2 := (hcq _ _ (by omega)).trans x6_2
      have xq_3 := (hcq _ _ (by omega)).trans x6_3
      go_simp
      try rfl
    simp only [Act.put, List.setIfInBounds_toArray, List.set_cons_zero, List.set_cons_succ]
    refine wpAnyH_all (rs := [2]) (by kernel_rfl) (by decide) (List.forall_mem_cons.2 ⟨?_, fun _ h => absurd h List.not_mem_nil⟩)
    refine wpOp_wp rfl rfl (wp_call_at _ rfl (f := 23) (args := #[pzv h0 (.slice a0 L0.length c0)]) (by go_simp) ((toPuzzle_any h0 a0 c0 L0 _ (HIN0.out.below (B6.trans (hS6.mono B6.size))) hl0).mono ?_))
    rintro e7 w7 ⟨v7, rfl, hr7, hbx7⟩
    have hb7 : Below w6.heap.size w6 w7 := hS6.trans (hbx7.mono hS6.size)
    have hS7 := hb7
    have B7 : Below w.heap.size w w7 := B6.trans (hb7.mono B6.size)
    have y7 := B7.size
    have z7 : w6.heap.size ≤ w7.heap.size := hb7.size
    have x7_0 : w7.cell? ⟨w.heap.size, 0, none⟩ = some (.int .i64 h0) := ((bcell hb7).1 _ _ (by omega)).trans x6_0
    have x7_1 : w7.cell? ⟨w.heap.size, 1, none⟩ = some (.slice a0 L0.length c0) := ((bcell hb7).1 _ _ (by omega)).trans x6_1
    have x7_2 : w7.cell? ⟨w3.heap.size, 0, none⟩ = some (.int .i64 (h0)) := ((bcell hb7).1 _ _ (by omega)).trans x6_2
    have x7_3 : w7.cell? ⟨w3.heap.size, 1, none⟩ = some ((.slice a3k L0.length c3k)) := ((bcell hb7).1 _ _ (by omega)).trans x6_3
    clear x6_0 x6_1 x6_2 x6_3
    have S_7 := Lib.hid (IRow.below S_6.out hb7)
    clear S_6
    have Y_7 := Lib.hid (CRow.below Y_6.out hb7)
    clear Y_6
    have G_7 := Lib.hid (IRow.below G_6.out hb7)
    clear G_6
    obtain ⟨aa7, cc7, rfl, -⟩ := hr7.inn
    have V_7 := Lib.hid hr7
    clear hr7
    refine ⟨_, rfl, hS7, ?_⟩
    simp only [Act.put, List.setIfInBounds_toArray, List.set_cons_zero, List.set_cons_succ]
    refine wpAnyH_all (rs := [3]) (by kernel_rfl) (by decide) (List.forall_mem_cons.2 ⟨?_, fun _ h => absurd h List.not_mem_nil⟩)
    refine wpOp_wp rfl rfl (wp_call_at _ rfl (f := 25) (args := #[pzv h0 (.slice a3k L0.length c3k), pzv h0 (.slice aa7 L0.length cc7)]) (by go_simp) ((eqPuzzle_same h0 L0 (.slice a3k L0.length c3k) (.slice aa7 L0.length cc7) _ _ _ Y_7.out V_7.out (by omega)).mono ?_))
    rintro e8 w8 ⟨rfl, hb8⟩
    have hS8 := hS7.trans (hb8.mono hS7.size)
    have B8 : Below w.heap.size w w8 := B7.trans (hb8.mono B7.size)
    have y8 := B8.size
    have z8 : w7.heap.size ≤ w8.heap.size := hb8.size
    have x8_0 : w8.cell? ⟨w.heap.size, 0, none⟩ = some (.int .i64 h0) := ((bcell hb8).1 _ _ (by omega)).trans x7_0
    have x8_1 : w8.cell? ⟨w.heap.size, 1, none⟩ = some (.slice a0 L0.length c0) := ((bcell hb8).1 _ _ (by omega)).trans x7_1
    have x8_2 : w8.cell? ⟨w3.heap.size, 0, none⟩ = some (.int .i64 (h0)) := ((bcell hb8).1 _ _ (by omega)).trans x7_2
    have x8_3 : w8.cell? ⟨w3.heap.size, 1, none⟩ = some ((.slice a3k L0.length c3k)) := ((bcell hb8).1 _ _ (by omega)).trans x7_3
    clear x7_0 x7_1 x7_2 x7_3
    have S_8 := Lib.hid (IRow.below S_7.out hb8)
    clear S_7
    have Y_8 := Lib.hid (CRow.below Y_7.out hb8)
    clear Y_7
    have G_8 := Lib.hid (IRow.below G_7.out hb8)
    clear G_7
    refine ⟨_, rfl, hS8, ?_⟩
    simp only [Act.put, List.setIfInBounds_toArray, List.set_cons_zero, List.set_cons_succ]
    refine take_first (i := 4) (v := .bool false) _ rfl rfl (by kernel_rfl) (by kernel_rfl) (by kernel_rfl) (fun _ _ _ h => h) (by rfl) ?_ (by assumption) ?_
    · intro wq hq
      obtain ⟨hcq, hfq⟩ := bcell hq
      go_simp
      try rfl
    simp only [Act.put, List.setIfInBounds_toArray, List.set_cons_zero, List.set_cons_succ]
    refine wpAnyH_done (by kernel_rfl) ?_ _
    go_wp2_with fail
    refine (markPuzzle_any h0 L0 (.slice a3k L0.length c3k) _ 1 _ Y_8.out (by omega) (by omega) (by omega)).mono ?_
    rintro e9 w9 ⟨rfl, hr9, hg9⟩
    have B9 : Below w.heap.size w w9 := Below.grown (w := w8) B8 hg9 (by omega) (fun j hj => by have := CRow.low Y_at.out j hj; omega)
    have y9 := B9.size
    have z9 : w8.heap.size ≤ w9.heap.size := hg9.size
    have x9_0 : w9.cell? ⟨w.heap.size, 0, none⟩ = some (.int .i64 h0) := (cell_of_heap (hg9.block _ (by omega) (fun e => by have e1 := CRow.low Y_at.out _ e.symm; have e2 := CRow.top Y_at.out _ e.symm; omega))).trans x8_0
    have x9_1 : w9.cell? ⟨w.heap.size, 1, none⟩ = some (.slice a0 L0.length c0) := (cell_of_heap (hg9.block _ (by omega) (fun e => by have e1 := CRow.low Y_at.out _ e.symm; have e2 := CRow.top Y_at.out _ e.symm; omega))).trans x8_1
    have x9_2 : w9.cell? ⟨w3.heap.size, 0, none⟩ = some (.int .i64 (h0)) := (cell_of_heap (hg9.block _ (by omega) (fun e => by have e1 := CRow.low Y_at.out _ e.symm; have e2 := CRow.top Y_at.out _ e.symm; omega))).trans x8_2
    have x9_3 : w9.cell? ⟨w3.heap.size, 1, none⟩ = some ((.slice a3k L0.length c3k)) := (cell_of_heap (hg9.block _ (by omega) (fun e => by have e1 := CRow.low Y_at.out _ e.symm; have e2 := CRow.top Y_at.out _ e.symm; omega))).trans x8_3
    clear x8_0 x8_1 x8_2 x8_3
    have S_9 := Lib.hid (IRow.kept S_8.out hg9 (apart_rows (fun j hj => IRow.top S_at.out j hj) (fun j hj => CRow.low Y_at.out j hj) (by omega)))
    have G_9 := Lib.hid (IRow.kept G_8.out hg9 (apart_sym' (apart_rows (fun j hj => CRow.top Y_at.out j hj) (fun j hj => IRow.low G_at.out j hj) (by omega))))
    have Ym_9 := Lib.hid hr9
    clear hr9 hg9
    have p8 : ¬ (1 + 3 * (L0.length : Int)) < 0 := by omega
    go_wp2_with fail
    refine (eqIntS_same (solR h0 L0).1 v5 v2 _ _ _ G_9.out S_9.out HLEN.out).mono ?_
    rintro e10 w10 ⟨rfl, hb10⟩
    have B10 : Below w.heap.size w w10 := B9.trans (hb10.mono B9.size)
    have y10 := B10.size
    have z10 : w9.heap.size ≤ w10.heap.size := hb10.size
    have x10_0 : w10.cell? ⟨w.heap.size, 0, none⟩ = some (.int .i64 h0) := ((bcell hb10).1 _ _ (by omega)).trans x9_0
    have x10_1 : w10.cell? ⟨w.heap.size, 1, none⟩ = some (.slice a0 L0.length c0) := ((bcell hb10).1 _ _ (by omega)).trans x9_1
    have x10_2 : w10.cell? ⟨w3.heap.size, 0, none⟩ = some (.int .i64 (h0)) := ((bcell hb10).1 _ _ (by omega)).trans x9_2
    have x10_3 : w10.cell? ⟨w3.heap.size, 1, none⟩ = some ((.slice a3k L0.length c3k)) := ((bcell hb10).1 _ _ (by omega)).trans x9_3
    clear x9_0 x9_1 x9_2 x9_3
    have S_10 := Lib.hid (IRow.below S_9.out hb10)
    clear S_9
    have G_10 := Lib.hid (IRow.below G_9.out hb10)
    clear G_9
    go_wp2_with fail
    refine (markIntS_any (solR h0 L0).1 v5 _ 1 _ G_10.out HLEN.out (by omega) (by omega)).mono ?_
    rintro e11 w11 ⟨rfl, hr11, hg11⟩
    have B11 : Below w.heap.size w w11 := Below.grown (w := w10) B10 hg11 (by omega) (fun j hj => by have := IRow.low G_at.out j hj; omega)
    have y11 := B11.size
    have z11 : w10.heap.size ≤ w11.heap.size := hg11.size
    have x11_0 : w11.cell? ⟨w.heap.size, 0, none⟩ = some (.int .i64 h0) := (cell_of_heap (hg11.block _ (by omega) (fun e => by have e1 := IRow.low G_at.out _ e.symm; have e2 := IRow.top G_at.out _ e.symm; omega))).trans x10_0
    have x11_1 : w11.cell? ⟨w.heap.size, 1, none⟩ = some (.slice a0 L0.length c0) := (cell_of_heap (hg11.block _ (by omega) (fun e => by have e1 := IRow.low G_at.out _ e.symm; have e2 := IRow.top G_at.out _ e.symm; omega))).trans x10_1
    have x11_2 : w11.cell? ⟨w3.heap.size, 0, none⟩ = some (.int .i64 (h0)) := (cell_of_heap (hg11.block _ (by omega) (fun e => by have e1 := IRow.low G_at.out _ e.symm; have e2 := IRow.top G_at.out _ e.symm; omega))).trans x10_2
    have x11_3 : w11.cell? ⟨w3.heap.size, 1, none⟩ = some ((.slice a3k L0.length c3k)) := (cell_of_heap (hg11.block _ (by omega) (fun e => by have e1 := IRow.low G_at.out _ e.symm; have e2 := IRow.top G_at.out _ e.symm; omega))).trans x10_3
    clear x10_0 x10_1 x10_2 x10_3
    have S_11 := Lib.hid (IRow.kept S_10.out hg11 (apart_rows (fun j hj => IRow.top S_at.out j hj) (fun j hj => IRow.low G_at.out j hj) (by omega)))
    have Gm_11 := Lib.hid hr11
    clear hr11 hg11
    have p10 : ¬ (1 + (((solR h0 L0).1).length : Int) : Int) < 0 := by omega
    go_wp2_with fail
    refine (heldIntS_marked (solR h0 L0).1 v5 _ 1 _ Gm_11.out HLEN.out (by omega) (by omega)).mono ?_
    rintro e12 w12 ⟨rfl, hb12⟩
    have B12 : Below w.heap.size w w12 := B11.trans (hb12.mono B11.size)
    have y12 := B12.size
    have z12 : w11.heap.size ≤ w12.heap.size := hb12.size
    have x12_0 : w12.cell? ⟨w.heap.size, 0, none⟩ = some (.int .i64 h0) := ((bcell hb12).1 _ _ (by omega)).trans x11_0
    have x12_1 : w12.cell? ⟨w.heap.size, 1, none⟩ = some (.slice a0 L0.length c0) := ((bcell hb12).1 _ _ (by omega)).trans x11_1
    have x12_2 : w12.cell? ⟨w3.heap.size, 0, none⟩ = some (.int .i64 (h0)) := ((bcell hb12).1 _ _ (by omega)).trans x11_2
    have x12_3 : w12.cell? ⟨w3.heap.size, 1, none⟩ = some ((.slice a3k L0.length c3k)) := ((bcell hb12).1 _ _ (by omega)).trans x11_3
    clear x11_0 x11_1 x11_2 x11_3
    have S_12 := Lib.hid (IRow.below S_11.out hb12)
    clear S_11
    have Gm_12 := Lib.hid (IRow.below Gm_11.out hb12)
    clear Gm_11
    go_wp2_with fail
    refine (toPuzzle_any h0 a0 c0 L0 _ (HIN0.out.below B12) hl0).mono ?_
    rintro e13 w13 ⟨v13, rfl, hr13, hb13⟩
    have B13 : Below w.heap.size w w13 := B12.trans (hb13.mono B12.size)
    have y13 := B13.size
    have z13 : w12.heap.size ≤ w13.heap.size := hb13.size
    have x13_0 : w13.cell? ⟨w.heap.size, 0, none⟩ = some (.int .i64 h0) := ((bcell hb13).1 _ _ (by omega)).trans x12_0
    have x13_1 : w13.cell? ⟨w.heap.size, 1, none⟩ = some (.slice a0 L0.length c0) := ((bcell hb13).1 _ _ (by omega)).trans x12_1
    have x13_2 : w13.cell? ⟨w3.heap.size, 0, none⟩ = some (.int .i64 (h0)) := ((bcell hb13).1 _ _ (by omega)).trans x12_2
    have x13_3 : w13.cell? ⟨w3.heap.size, 1, none⟩ = some ((.slice a3k L0.length c3k)) := ((bcell hb13).1 _ _ (by omega)).trans x12_3
    clear x12_0 x12_1 x12_2 x12_3
    have S_13 := Lib.hid (IRow.below S_12.out hb13)
    clear S_12
    have Gm_13 := Lib.hid (IRow.below Gm_12.out hb13)
    clear Gm_12
    obtain ⟨a13k, c13k, rfl, hi13, hcap13, hcmx13⟩ := hr13.inn
    have IZ_13 := Lib.hid hi13
    clear hi13
    have Z_13 := Lib.hid hr13
    have Z_at := Lib.hid hr13
    clear hr13
    go_wp2_with fail
    refine (implSolutions_any h0 a13k c13k L0 (by unfold maxLen; omega) _ IZ_13.out).mono ?_
    rintro e14 w14 ⟨v14, rfl, hr14, hb14⟩
    have B14 : Below w.heap.size w w14 := B13.trans (hb14.mono B13.size)
    have y14 := B14.size
    have z14 : w13.heap.size ≤ w14.heap.size := hb14.size
    have x14_0 : w14.cell? ⟨w.heap.size, 0, none⟩ = some (.int .i64 h0) := ((bcell hb14).1 _ _ (by omega)).trans x13_0
    have x14_1 : w14.cell? ⟨w.heap.size, 1, none⟩ = some (.slice a0 L0.length c0) := ((bcell hb14).1 _ _ (by omega)).trans x13_1
    have x14_2 : w14.cell? ⟨w3.heap.size, 0, none⟩ = some (.int .i64 (h0)) := ((bcell hb14).1 _ _ (by omega)).trans x13_2
    have x14_3 : w14.cell? ⟨w3.heap.size, 1, none⟩ = some ((.slice a3k L0.length c3k)) := ((bcell hb14).1 _ _ (by omega)).trans x13_3
    clear x13_0 x13_1 x13_2 x13_3
    have S_14 := Lib.hid (IRow.below S_13.out hb14)
    clear S_13
    have Gm_14 := Lib.hid (IRow.below Gm_13.out hb14)
    clear Gm_13
    have IZ_14 := Lib.hid (CIn.below IZ_13.out hb14)
    clear IZ_13
    have H_14 := Lib.hid hr14
    have H_at := Lib.hid hr14
    clear hr14
    go_wp2_with fail
    refine (eqIntS_same (solR h0 L0).1 v14 v2 _ _ _ H_14.out S_14.out HLEN.out).mono ?_
    rintro e15 w15 ⟨rfl, hb15⟩
    have B15 : Below w.heap.size w w15 := B14.trans (hb15.mono B14.size)
    have y15 := B15.size
    have z15 : w14.heap.size ≤ w15.heap.size := hb15.size
    have x15_0 : w15.cell? ⟨w.heap.size, 0, none⟩ = some (.int .i64 h0) := ((bcell hb15).1 _ _ (by omega)).trans x14_0
    have x15_1 : w15.cell? ⟨w.heap.size, 1, none⟩ = some (.slice a0 L0.length c0) := ((bcell hb15).1 _ _ (by omega)).trans x14_1
    have x15_2 : w15.cell? ⟨w3.heap.size, 0, none⟩ = some (.int .i64 (h0)) := ((bcell hb15).1 _ _ (by omega)).trans x14_2
    have x15_3 : w15.cell? ⟨w3.heap.size, 1, none⟩ = some ((.slice a3k L0.length c3k)) := ((bcell hb15).1 _ _ (by omega)).trans x14_3
    clear x14_0 x14_1 x14_2 x14_3
    have S_15 := Lib.hid (IRow.below S_14.out hb15)
    clear S_14
    have Gm_15 := Lib.hid (IRow.below Gm_14.out hb15)
    clear Gm_14
    have H_15 := Lib.hid (IRow.below H_14.out hb15)
    clear H_14
    go_wp2_with fail
    refine (heldIntS_marked (solR h0 L0).1 v5 _ 1 _ Gm_15.out HLEN.out (by omega) (by omega)).mono ?_
    rintro e16 w16 ⟨rfl, hb16⟩
    have B16 : Below w.heap.size w w16 := B15.trans (hb16.mono B15.size)
    have y16 := B16.size
    have z16 : w15.heap.size ≤ w16.heap.size := hb16.size
    have x16_0 : w16.cell? ⟨w.heap.size, 0, none⟩ = some (.int .i64 h0) := ((bcell hb16).1 _ _ (by omega)).trans x15_0
    have x16_1 : w16.cell? ⟨w.heap.size, 1, none⟩ = some (.slice a0 L0.length c0) := ((bcell hb16).1 _ _ (by omega)).trans x15_1
    have x16_2 : w16.cell? ⟨w3.heap.size, 0, none⟩ = some (.int .i64 (h0)) := ((bcell hb16).1 _ _ (by omega)).trans x15_2
    have x16_3 : w16.cell? ⟨w3.heap.size, 1, none⟩ = some ((.slice a3k L0.length c3k)) := ((bcell hb16).1 _ _ (by omega)).trans x15_3
    clear x15_0 x15_1 x15_2 x15_3
    have Gm_16 := Lib.hid (IRow.below Gm_15.out hb16)
    clear Gm_15
    go_wp2
    go_ret
    exact ⟨rfl, B16⟩
  · rw [if_pos (by omega)] at hsz
    have HSZ := Lib.hid hsz
    clear hsz
    (go_enter Try.func6, Try.ntmps6)
    go_wp2_with fail
    refine (HSZ.out _).mono ?_
    rintro e0 w0 ⟨rfl, hb0⟩
    go_wp2
    go_ret
    exact ⟨rfl, by (repeat' (first | (with_reducible exact Below.refl _ _) | (with_reducible assumption) | (with_reducible refine Below.alloc ?_ ?_ _) | (with_reducible refine Below.drew ?_) | (with_reducible refine below_drewN ?_ _) | (with_reducible refine Below.setCell ?_ ?_ _) | (with_reducible refine below_call ?_ ?_ (by assumption)) | go_size))⟩

set_option maxRecDepth 100000 in
theorem lifted (os : Os) (started : os.Started) (H : Type) (enc : TypeId × Value → H) :
    ReturnsInHanded {} Try.checked os 6 .any (Rows.fnExactSolutionsSpec.pre6 enc Try.prog Try.f6 Rows.fnExactSolutionsRow.domain false) (Rows.fnExactSolutionsSpec.post enc Try.prog Try.f6 false true false false) := by
  refine returnsInHanded_of_change (C := Try.checked) Try.own started (by kernel_rfl) Try.func6
    (ChangeSpec.witness6 (enc := enc) (C := Try.checked) false ⟨#[], #[.agg #[.int .i64 0, .slice none 0 0]], []⟩ 8 (by kernel_rfl) (by kernel_rfl) (by kernel_rfl) (by kernel_rfl)) ?_
  intro W base args ds gs before hval0 hW hcnd _
  have hval : ∀ (j : Nat) t v, Try.f6.params[j]? = some t → args[j]? = some v → Value.okWide Try.prog W .any base t v := hval0
  have hW' := hW
  obtain ⟨p, q, hA0, hV, rfl, hfz, hnd⟩ := hW
  have hA : DataW.TrodAll enc Try.prog W 0 (fun _ => true) true Try.f6.params.toList args.toList ds p := hA0
  rw [Try.params6] at hA hval
  obtain ⟨v0, vs0, d_0, ds0, p0, q0, hargs, rfl, rfl, h0_, r0⟩ := trodAll_cons hA
  obtain ⟨rfl, rfl, rfl⟩ := trodAll_nil r0
  obtain rfl : args = #[v0] := by cases args; simp_all
  obtain ⟨rfl, rfl⟩ := trodVars_none hV
  have h0k := h0_
  obtain ⟨h0, a0, c0, L0, rfl, kh0, hin0, hi0, hm0⟩ := open_puzzle (hval 0 30 v0 rfl rfl) h0_
  clear hA0 hval0
  simp only [List.append_nil, List.nil_append] at hW'
  have hlt0 : ∀ y ∈ p0, y.block < W.heap.size := fun y hy => by simpa using hW'.lt y (by simp [hy])
  refine (walk W h0 a0 c0 L0 kh0 hin0 hi0 hm0).mono fun e W' ⟨he, bel⟩ => ?_
  subst he
  have harg0 : DataW.Trod enc Try.prog W' 0 (fun b => decide (b < W.heap.size)) true 30 (pzv h0 (.slice a0 L0.length c0)) d_0 p0 :=
    Below.trod Try.laidOut (by kernel_rfl) (of_decide_eq_true (by kernel_rfl)) h0k bel hlt0
  exact ⟨_, rfl, _, _, _, [], _, [], hW', trodAll_mk1 (shut_bool Try.underlying4 _), (trodAll_cons_mk harg0 trodAll_mk0), rfl, bel.frame _, fun h => by cases h⟩

theorem closed : joinedFacts Try.prog 6 Try.f6 Rows.fnExactSolutionsSpec Rows.fnExactSolutionsRow = true := by
  unfold joinedFacts
  rw [Try.fMake, Try.fEnter, Try.fLifts, Try.fMaps, Try.fLaid, Try.fHeard, Try.fKeys]
  kernel_rfl
theorem over : Rows.fnExactSolutionsRow.holds Try.pinned (OpenSpec.ofChange Rows.fnExactSolutionsSpec) :=
  OpenClaim.holds_of_wide 6 Try.f6 rfl rfl rfl rfl rfl rfl rfl ⟨rfl, rfl, rfl, rfl, rfl⟩ rfl rfl rfl rfl rfl (by kernel_rfl) Try.func6
    closed (of_decide_eq_true (by kernel_rfl)) (by unfold Func.isWrapper; first | (rw [if_pos (by decide +kernel)]; kernel_rfl) | (rw [if_neg (by decide +kernel)]; exact ⟨rfl, rfl⟩))
    (fun os started H enc _ => lifted os started H enc)

end Go.Proofs.Ytcpgjjmamclklaa.fnExactSolutions
namespace Go.Proofs.Ytcpgjjmamclklaa
/-- The statement. -/
theorem fnExactSolutions_proved : Rows.FnExactSolutionsSaid := fnExactSolutions.over
#print axioms fnExactSolutions_proved
end Go.Proofs.Ytcpgjjmamclklaa