/- FnExactIsPuzzle: called with any arguments, the law returns true, and its arguments read behind the call as before. Conditions: none but the row's own. -/
import Derived.Test.YtcpgjjmamclklaaFacts
import Derived.Test.YtcpgjjmamclklaaPz7
set_option linter.unusedSimpArgs false
set_option linter.unusedVariables false
set_option maxRecDepth 100000
namespace Go.Proofs.Ytcpgjjmamclklaa.fnExactIsPuzzle
open Go.ChangeShapes Go.WideShapes Go.ChangeAt Go.RowKit

set_option maxHeartbeats 4000000 in
theorem walk (w : World) (h0 : Int) (a0 : Option Addr) (c0 : Nat) (L0 : List (Int × Int × Int)) (kh0 : I64 h0) (hin0 : CIn w a0 L0) (hi0 : AllI L0) (hm0 : L0.length ≤ maxLen) :
    Calls Try.prog 4 #[pzv h0 (.slice a0 L0.length c0)] w fun e w' => e = .returned (.bool true) ∧ Below w.heap.size w w' := by
  have B0 : Below w.heap.size w w := Below.refl _ _
  have y0 := B0.size
  have HIN0 := Lib.hid hin0
  clear hin0
  have hsz := fun W => szPuzzle_any h0 a0 L0.length c0 W hm0
  by_cases hl0 : L0.length ≤ 1048576
  · rw [if_neg (by omega)] at hsz
    have hn0 : ¬ ((1048576 : Int) - (L0.length : Int) < 0) := by omega
    have HSZ := Lib.hid hsz
    clear hsz
    (go_enter Try.func4, Try.ntmps4)
    go_wp2_with fail
    refine (HSZ.out _).mono ?_
    rintro e0 w0 ⟨rfl, hb0⟩
    have B0 : Below w.heap.size w w0 := by (repeat' (first | (with_reducible exact Below.refl _ _) | (with_reducible assumption) | (with_reducible refine Below.alloc ?_ ?_ _) | (with_reducible refine Below.drew ?_) | (with_reducible refine below_drewN ?_ _) | (with_reducible refine Below.setCell ?_ ?_ _) | (with_reducible refine below_call ?_ ?_ (by assumption)) | go_size))
    have y0 : w.heap.size + 1 ≤ w0.heap.size := by have := hb0.size; simp only [World.size_alloc] at this; omega
    have x0_0 : w0.cell? ⟨w.heap.size, 0, none⟩ = some (.int .i64 h0) := ((bcell hb0).1 _ _ (by go_size)).trans (by go_simp)
    have x0_1 : w0.cell? ⟨w.heap.size, 1, none⟩ = some (.slice a0 L0.length c0) := ((bcell hb0).1 _ _ (by go_size)).trans (by go_simp)
    go_wp2_with fail
    refine (toPuzzle_any h0 a0 c0 L0 _ (HIN0.out.below B0) hl0).mono ?_
    rintro e1 w1 ⟨v1, rfl, hr1, hb1⟩
    have B1 : Below w.heap.size w w1 := B0.trans (hb1.mono B0.size)
    have y1 := B1.size
    have z1 : w0.heap.size ≤ w1.heap.size := hb1.size
    have x1_0 : w1.cell? ⟨w.heap.size, 0, none⟩ = some (.int .i64 h0) := ((bcell hb1).1 _ _ (by omega)).trans x0_0
    have x1_1 : w1.cell? ⟨w.heap.size, 1, none⟩ = some (.slice a0 L0.length c0) := ((bcell hb1).1 _ _ (by omega)).trans x0_1
    clear x0_0 x0_1
    obtain ⟨a1k, c1k, rfl, hi1, hcap1, hcmx1⟩ := hr1.inn
    have IX_1 := Lib.hid hi1
    clear hi1
    have X_1 := Lib.hid hr1
    have X_at := Lib.hid hr1
    clear hr1
    go_wp2_with fail
    refine (specIsPuzzle_any h0 a1k c1k L0 (by unfold maxLen; omega) _ IX_1.out).mono ?_
    rintro e2 w2 ⟨rfl, hb2⟩
    have B2 : Below w.heap.size w w2 := B1.trans (hb2.mono B1.size)
    have y2 := B2.size
    have z2 : w1.heap.size ≤ w2.heap.size := hb2.size
    have x2_0 : w2.cell? ⟨w.heap.size, 0, none⟩ = some (.int .i64 h0) := ((bcell hb2).1 _ _ (by omega)).trans x1_0
    have x2_1 : w2.cell? ⟨w.heap.size, 1, none⟩ = some (.slice a0 L0.length c0) := ((bcell hb2).1 _ _ (by omega)).trans x1_1
    clear x1_0 x1_1
    have IX_2 := Lib.hid (CIn.below IX_1.out hb2)
    clear IX_1
    go_wp2_with fail
    refine (toPuzzle_any h0 a0 c0 L0 _ (HIN0.out.below B2) hl0).mono ?_
    rintro e3 w3 ⟨v3, rfl, hr3, hb3⟩
    have B3 : Below w.heap.size w w3 := B2.trans (hb3.mono B2.size)
    have y3 := B3.size
    have z3 : w2.heap.size ≤ w3.heap.size := hb3.size
    have x3_0 : w3.cell? ⟨w.heap.size, 0, none⟩ = some (.int .i64 h0) := ((bcell hb3).1 _ _ (by omega)).trans x2_0
    have x3_1 : w3.cell? ⟨w.heap.size, 1, none⟩ = some (.slice a0 L0.length c0) := ((bcell hb3).1 _ _ (by omega)).trans x2_1
    clear x2_0 x2_1
    obtain ⟨a3k, c3k, rfl, hi3, hcap3, hcmx3⟩ := hr3.inn
    have IY_3 := Lib.hid hi3
    clear hi3
    have Y_3 := Lib.hid hr3
    have Y_at := Lib.hid hr3
    clear hr3
    go_wp2_with fail
    generalize hw4 : (World.alloc w3 (Obj.cells #[Value.int .i64 (h0), (.slice a3k L0.length c3k)] 35)) = w4
    have hb4 : Below w3.heap.size w3 w4 := by rw [← hw4]; exact Below.alloc (Below.refl _ _) (Nat.le_refl _) _
    have zz4 : w4.heap.size = w3.heap.size + 1 := by rw [← hw4]; simp
    have B4 : Below w.heap.size w w4 := B3.trans (hb4.mono B3.size)
    have y4 := B4.size
    have z4 : w3.heap.size ≤ w4.heap.size := hb4.size
    have x4_0 : w4.cell? ⟨w.heap.size, 0, none⟩ = some (.int .i64 h0) := ((bcell hb4).1 _ _ (by omega)).trans x3_0
    have x4_1 : w4.cell? ⟨w.heap.size, 1, none⟩ = some (.slice a0 L0.length c0) := ((bcell hb4).1 _ _ (by omega)).trans x3_1
    clear x3_0 x3_1
    have IY_4 := Lib.hid (CIn.below IY_3.out hb4)
    clear IY_3
    have Y_4 := Lib.hid (CRow.below Y_3.out hb4)
    clear Y_3
    have x4_2 : w4.cell? ⟨w3.heap.size, 0, none⟩ = some (.int .i64 (h0)) := by rw [← hw4]; exact ((cells_of_block (heap_alloc_new w3 (Obj.cells #[Value.int .i64 (h0), (.slice a3k L0.length c3k)] 35))).1 0).trans rfl
    have x4_3 : w4.cell? ⟨w3.heap.size, 1, none⟩ = some ((.slice a3k L0.length c3k)) := by rw [← hw4]; exact ((cells_of_block (heap_alloc_new w3 (Obj.cells #[Value.int .i64 (h0), (.slice a3k L0.length c3k)] 35))).1 1).trans rfl
    clear hw4
    go_wp2_with fail
    refine (implIsPuzzle_any h0 a3k c3k L0 (by unfold maxLen; omega) _ IY_4.out).mono ?_
    rintro e5 w5 ⟨rfl, hb5⟩
    have B5 : Below w.heap.size w w5 := B4.trans (hb5.mono B4.size)
    have y5 := B5.size
    have z5 : w4.heap.size ≤ w5.heap.size := hb5.size
    have x5_0 : w5.cell? ⟨w.heap.size, 0, none⟩ = some (.int .i64 h0) := ((bcell hb5).1 _ _ (by omega)).trans x4_0
    have x5_1 : w5.cell? ⟨w.heap.size, 1, none⟩ = some (.slice a0 L0.length c0) := ((bcell hb5).1 _ _ (by omega)).trans x4_1
    have x5_2 : w5.cell? ⟨w3.heap.size, 0, none⟩ = some (.int .i64 (h0)) := ((bcell hb5).1 _ _ (by omega)).trans x4_2
    have x5_3 : w5.cell? ⟨w3.heap.size, 1, none⟩ = some ((.slice a3k L0.length c3k)) := ((bcell hb5).1 _ _ (by omega)).trans x4_3
    clear x4_0 x4_1 x4_2 x4_3
    have IY_5 := Lib.hid (CIn.below IY_4.out hb5)
    clear IY_4
    have Y_5 := Lib.hid (CRow.below Y_4.out hb5)
    clear Y_4
    go_wp2_with fail
    have hS5 : Below w5.heap.size w5 w5.drew := (Below.refl _ _).drew
    refine wp_region_held (by kernel_rfl) (S := fun W => Below w5.heap.size w5 W) ?_
    refine take_first (i := 0) (v := pzv h0 (.slice a3k L0.length c3k)) _ rfl rfl (by kernel_rfl) (by kernel_rfl) (by kernel_rfl) (fun _ _ _ h => h) (by rfl) ?_ (by assumption) ?_
    · intro wq hq
      obtain ⟨hcq, hfq⟩ := bcell hq
      have xq_0 := (hcq _ _ (by omega)).trans x5_0
      have xq_1 := (hcq _ _ (by omega)).trans x5_1
      have xq_2 := (hcq _ _ (by omega)).trans x5_2
      have xq_3 := (hcq _ _ (by omega)).trans x5_3
      go_simp
      try rfl
    simp only [Act.put, List.setIfInBounds_toArray, List.set_cons_zero, List.set_cons_succ]
    refine take_first (i := 1) (v := pzv h0 (.slice a0 L0.length c0)) _ rfl rfl (by kernel_rfl) (by kernel_rfl) (by kernel_rfl) (fun _ _ _ h => h) (by rfl) ?_ (by assumption) ?_
    · intro wq hq
      obtain ⟨hcq, hfq⟩ := bcell hq
      have xq_0 := (hcq _ _ (by omega)).trans x5_0
      have xq_1 := (hcq _ _ (by omega)).trans x5_1
      have xq_2 := (hcq _ _ (by omega)).trans x5_2
      have xq_3 := (hcq _ _ (by omega)).trans x5_3
      go_simp
      try rfl
    simp only [Act.put, List.setIfInBounds_toArray, List.set_cons_zero, List.set_cons_succ]
    refine wpAnyH_all (rs := [2]) (by kernel_rfl) (by decide) (List.forall_mem_cons.2 ⟨?_, fun _ h => absurd h List.not_mem_nil⟩)
    refine wpOp_wp rfl rfl (wp_call_at _ rfl (f := 23) (args := #[pzv h0 (.slice a0 L0.length c0)]) (by go_simp) ((toPuzzle_any h0 a0 c0 L0 _ (HIN0.out.below (B5.trans (hS5.mono B5.size))) hl0).mono ?_))
    rintro e6 w6 ⟨v6, rfl, hr6, hbx6⟩
    have hb6 : Below w5.heap.size w5 w6 := hS5.trans (hbx6.mono hS5.size)
    have hS6 := hb6
    have B6 : Below w.heap.size w w6 := B5.trans (hb6.mono B5.size)
    have y6 := B6.size
    have z6 : w5.heap.size ≤ w6.heap.size := hb6.size
    have x6_0 : w6.cell? ⟨w.heap.size, 0, none⟩ = some (.int .i64 h0) := ((bcell hb6).1 _ _ (by omega)).trans x5_0
    have x6_1 : w6.cell? ⟨w.heap.size, 1, none⟩ = some (.slice a0 L0.length c0) := ((bcell hb6).1 _ _ (by omega)).trans x5_1
    have x6_2 : w6.cell? ⟨w3.heap.size, 0, none⟩ = some (.int .i64 (h0)) := ((bcell hb6).1 _ _ (by omega)).trans x5_2
    have x6_3 : w6.cell? ⟨w3.heap.size, 1, none⟩ = some ((.slice a3k L0.length c3k)) := ((bcell hb6).1 _ _ (by omega)).trans x5_3
    clear x5_0 x5_1 x5_2 x5_3
    have Y_6 := Lib.hid (CRow.below Y_5.out hb6)
    clear Y_5
    obtain ⟨aa6, cc6, rfl, -⟩ := hr6.inn
    have V_6 := Lib.hid hr6
    clear hr6
    refine ⟨_, rfl, hS6, ?_⟩
    simp only [Act.put, List.setIfInBounds_toArray, List.set_cons_zero, List.set_cons_succ]
    refine wpAnyH_all (rs := [3]) (by kernel_rfl) (by decide) (List.forall_mem_cons.2 ⟨?_, fun _ h => absurd h List.not_mem_nil⟩)
    refine wpOp_wp rfl rfl (wp_call_at _ rfl (f := 25) (args := #[pzv h0 (.slice a3k L0.length c3k), pzv h0 (.slice aa6 L0.length cc6)]) (by go_simp) ((eqPuzzle_same h0 L0 (.slice a3k L0.length c3k) (.slice aa6 L0.length cc6) _ _ _ Y_6.out V_6.out (by omega)).mono ?_))
    rintro e7 w7 ⟨rfl, hb7⟩
    have hS7 := hS6.trans (hb7.mono hS6.size)
    have B7 : Below w.heap.size w w7 := B6.trans (hb7.mono B6.size)
    have y7 := B7.size
    have z7 : w6.heap.size ≤ w7.heap.size := hb7.size
    have x7_0 : w7.cell? ⟨w.heap.size, 0, none⟩ = some (.int .i64 h0) := ((bcell hb7).1 _ _ (by omega)).trans x6_0
    have x7_1 : w7.cell? ⟨w.heap.size, 1, none⟩ = some (.slice a0 L0.length c0) := ((bcell hb7).1 _ _ (by omega)).trans x6_1
    have x7_2 : w7.cell? ⟨w3.heap.size, 0, none⟩ = some (.int .i64 (h0)) := ((bcell hb7).1 _ _ (by omega)).trans x6_2
    have x7_3 : w7.cell? ⟨w3.heap.size, 1, none⟩ = some ((.slice a3k L0.length c3k)) := ((bcell hb7).1 _ _ (by omega)).trans x6_3
    clear x6_0 x6_1 x6_2 x6_3
    have Y_7 := Lib.hid (CRow.below Y_6.out hb7)
    clear Y_6
    refine ⟨_, rfl, hS7, ?_⟩
    simp only [Act.put, List.setIfInBounds_toArray, List.set_cons_zero, List.set_cons_succ]
    refine take_first (i := 4) (v := .bool false) _ rfl rfl (by kernel_rfl) (by kernel_rfl) (by kernel_rfl) (fun _ _ _ h => h) (by rfl) ?_ (by assumption) ?_
    · intro wq hq
      obtain ⟨hcq, hfq⟩ := bcell hq
      go_simp
      try rfl
    simp only [Act.put, List.setIfInBounds_toArray, List.set_cons_zero, List.set_cons_succ]
    refine wpAnyH_done (by kernel_rfl) ?_ _
    go_wp2
    go_ret
    exact ⟨rfl, B7⟩
  · rw [if_pos (by omega)] at hsz
    have HSZ := Lib.hid hsz
    clear hsz
    (go_enter Try.func4, Try.ntmps4)
    go_wp2_with fail
    refine (HSZ.out _).mono ?_
    rintro e0 w0 ⟨rfl, hb0⟩
    go_wp2
    go_ret
    exact ⟨rfl, by (repeat' (first | (with_reducible exact Below.refl _ _) | (with_reducible assumption) | (with_reducible refine Below.alloc ?_ ?_ _) | (with_reducible refine Below.drew ?_) | (with_reducible refine below_drewN ?_ _) | (with_reducible refine Below.setCell ?_ ?_ _) | (with_reducible refine below_call ?_ ?_ (by assumption)) | go_size))⟩

set_option maxRecDepth 100000 in
theorem lifted (os : Os) (started : os.Started) (H : Type) (enc : TypeId × Value → H) :
    ReturnsInHanded {} Try.checked os 4 .any (Rows.fnExactIsPuzzleSpec.pre6 enc Try.prog Try.f4 Rows.fnExactIsPuzzleRow.domain false) (Rows.fnExactIsPuzzleSpec.post enc Try.prog Try.f4 false true false false) := by
  refine returnsInHanded_of_change (C := Try.checked) Try.own started (by kernel_rfl) Try.func4
    (ChangeSpec.witness6 (enc := enc) (C := Try.checked) false ⟨#[], #[.agg #[.int .i64 0, .slice none 0 0]], []⟩ 8 (by kernel_rfl) (by kernel_rfl) (by kernel_rfl) (by kernel_rfl)) ?_
  intro W base args ds gs before hval0 hW hcnd _
  have hval : ∀ (j : Nat) t v, Try.f4.params[j]? = some t → args[j]? = some v → Value.okWide Try.prog W .any base t v := hval0
  have hW' := hW
  obtain ⟨p, q, hA0, hV, rfl, hfz, hnd⟩ := hW
  have hA : DataW.TrodAll enc Try.prog W 0 (fun _ => true) true Try.f4.params.toList args.toList ds p := hA0
  rw [Try.params4] at hA hval
  obtain ⟨v0, vs0, d_0, ds0, p0, q0, hargs, rfl, rfl, h0_, r0⟩ := trodAll_cons hA
  obtain ⟨rfl, rfl, rfl⟩ := trodAll_nil r0
  obtain rfl : args = #[v0] := by cases args; simp_all
  obtain ⟨rfl, rfl⟩ := trodVars_none hV
  have h0k := h0_
  obtain ⟨h0, a0, c0, L0, rfl, kh0, hin0, hi0, hm0⟩ := open_puzzle (hval 0 30 v0 rfl rfl) h0_
  clear hA0 hval0
  simp only [List.append_nil, List.nil_append] at hW'
  have hlt0 : ∀ y ∈ p0, y.block < W.heap.size := fun y hy => by simpa using hW'.lt y (by simp [hy])
  refine (walk W h0 a0 c0 L0 kh0 hin0 hi0 hm0).mono fun e W' ⟨he, bel⟩ => ?_
  subst he
  have harg0 : DataW.Trod enc Try.prog W' 0 (fun b => decide (b < W.heap.size)) true 30 (pzv h0 (.slice a0 L0.length c0)) d_0 p0 :=
    Below.trod Try.laidOut (by kernel_rfl) (of_decide_eq_true (by kernel_rfl)) h0k bel hlt0
  exact ⟨_, rfl, _, _, _, [], _, [], hW', trodAll_mk1 (shut_bool Try.underlying4 _), (trodAll_cons_mk harg0 trodAll_mk0), rfl, bel.frame _, fun h => by cases h⟩

theorem closed : joinedFacts Try.prog 4 Try.f4 Rows.fnExactIsPuzzleSpec Rows.fnExactIsPuzzleRow = true := by
  unfold joinedFacts
  rw [Try.fMake, Try.fEnter, Try.fLifts, Try.fMaps, Try.fLaid, Try.fHeard, Try.fKeys]
  kernel_rfl
theorem over : Rows.fnExactIsPuzzleRow.holds Try.pinned (OpenSpec.ofChange Rows.fnExactIsPuzzleSpec) :=
  OpenClaim.holds_of_wide 4 Try.f4 rfl rfl rfl rfl rfl rfl rfl ⟨rfl, rfl, rfl, rfl, rfl⟩ rfl rfl rfl rfl rfl (by kernel_rfl) Try.func4
    closed (of_decide_eq_true (by kernel_rfl)) (by unfold Func.isWrapper; first | (rw [if_pos (by decide +kernel)]; kernel_rfl) | (rw [if_neg (by decide +kernel)]; exact ⟨rfl, rfl⟩))
    (fun os started H enc _ => lifted os started H enc)

end Go.Proofs.Ytcpgjjmamclklaa.fnExactIsPuzzle
namespace Go.Proofs.Ytcpgjjmamclklaa
/-- The statement. -/
theorem fnExactIsPuzzle_proved : Rows.FnExactIsPuzzleSaid := fnExactIsPuzzle.over
#print axioms fnExactIsPuzzle_proved
end Go.Proofs.Ytcpgjjmamclklaa