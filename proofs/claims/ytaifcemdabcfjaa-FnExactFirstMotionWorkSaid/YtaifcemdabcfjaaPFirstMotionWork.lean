/- FnExactFirstMotionWork: called with any arguments, the law returns true, and its arguments read behind the call as before. Conditions: none but the row's own. -/
import Derived.Test.YtaifcemdabcfjaaFacts
import Derived.Test.YtaifcemdabcfjaaFm2
set_option linter.unusedSimpArgs false
set_option linter.unusedVariables false
set_option maxRecDepth 100000
namespace Go.Proofs.Ytaifcemdabcfjaa.fnExactFirstMotionWork
open Go.ChangeShapes Go.WideShapes Go.ChangeAt Go.RowKit

set_option maxHeartbeats 4000000 in
theorem walk (w : World) (t0 : Int) (t1 : Int) (kt0 : I64 t0) (kt1 : I64 t1) :
    Calls Try.prog 16 #[.int .i64 t0, .int .i64 t1] w fun e w' => e = .returned (.bool true) ∧ Below w.heap.size w w' := by
  (go_enter Try.func16, Try.ntmps16)
  have B0 : Below w.heap.size w w := Below.refl _ _
  have HLEN := Lib.hid (show (trL (fmR t0 t1)).length ≤ 2000000 from trL_len _)
  go_wp2_with fail
  refine (specFirstMotionWork_any t0 t1 _).mono ?_
  rintro e1 w1 ⟨v1, rfl, hr1, hb1⟩
  have R1 := Lib.hid hr1
  clear hr1
  have B1 : Below w.heap.size w w1 := B0.trans (hb1.mono B0.size)
  have y1 := B1.size
  go_wp2_with fail
  refine (implFirstMotionWork_any t0 t1 _).mono ?_
  rintro e2 w2 ⟨v2, rfl, hr2, hb2⟩
  have R2 := Lib.hid hr2
  clear hr2
  have B2 : Below w.heap.size w w2 := B1.trans (hb2.mono B1.size)
  have y2 := B2.size
  have S2 := Lib.hid (R1.out.below hb2)
  go_wp2_with fail
  refine (eqPairS_same (trL (fmR t0 t1)) v2 v1 _ _ _ R2.out S2.out HLEN.out).mono ?_
  rintro e3 w3 ⟨rfl, hb3⟩
  have B3 : Below w.heap.size w w3 := B2.trans (hb3.mono B2.size)
  have y3 := B3.size
  have S3 := Lib.hid (S2.out.below hb3)
  have R3 := Lib.hid (R2.out.below hb3)
  go_wp2_with fail
  refine (markPairS_any (trL (fmR t0 t1)) v2 _ 1 _ R3.out HLEN.out (by omega) (by omega)).mono ?_
  rintro e4 w4 ⟨rfl, hr4, hg4⟩
  have R4 := Lib.hid hr4
  clear hr4
  have S4 := Lib.hid (S3.out.kept hg4 (RowPair.apart R1.out R2.out (Nat.le_refl _)))
  have B4 : Below w.heap.size w w4 := Below.grown (w := w3) B3 hg4 (by omega) (fun j hj => by have := R2.out.low j hj; omega)
  have y4 := B4.size
  clear hg4
  go_wp2_with fail
  refine (heldPairS_marked (trL (fmR t0 t1)) v2 _ 1 _ R4.out HLEN.out (by omega) (by omega)).mono ?_
  rintro e5 w5 ⟨rfl, hb5⟩
  have B5 : Below w.heap.size w w5 := B4.trans (hb5.mono B4.size)
  have y5 := B5.size
  have S5 := Lib.hid (S4.out.below hb5)
  have R5 := Lib.hid (R4.out.below hb5)
  have p2 : ¬ (1 + 2 * (((trL (fmR t0 t1)).length : Nat) : Int)) < 0 := by omega
  go_wp2_with fail
  refine (implFirstMotionWork_any t0 t1 _).mono ?_
  rintro e6 w6 ⟨v6, rfl, hr6, hb6⟩
  have R6 := Lib.hid hr6
  clear hr6
  have B6 : Below w.heap.size w w6 := B5.trans (hb6.mono B5.size)
  have y6 := B6.size
  have S6 := Lib.hid (S5.out.below hb6)
  have T6 := Lib.hid (R5.out.below hb6)
  go_wp2_with fail
  refine (eqPairS_same (trL (fmR t0 t1)) v6 v1 _ _ _ R6.out S6.out HLEN.out).mono ?_
  rintro e7 w7 ⟨rfl, hb7⟩
  have B7 : Below w.heap.size w w7 := B6.trans (hb7.mono B6.size)
  have y7 := B7.size
  have T7 := Lib.hid (T6.out.below hb7)
  go_wp2_with fail
  refine (heldPairS_marked (trL (fmR t0 t1)) v2 _ 1 _ T7.out HLEN.out (by omega) (by omega)).mono ?_
  rintro e8 w8 ⟨rfl, hb8⟩
  have B8 : Below w.heap.size w w8 := B7.trans (hb8.mono B7.size)
  have y8 := B8.size
  go_wp2
  go_ret
  exact ⟨rfl, B8⟩

set_option maxRecDepth 100000 in
theorem lifted (os : Os) (started : os.Started) (H : Type) (enc : TypeId × Value → H) :
    ReturnsInHanded {} Try.checked os 16 .any (Rows.fnExactFirstMotionWorkSpec.pre6 enc Try.prog Try.f16 Rows.fnExactFirstMotionWorkRow.domain false) (Rows.fnExactFirstMotionWorkSpec.post enc Try.prog Try.f16 false true false false) := by
  refine returnsInHanded_of_change (C := Try.checked) Try.own started (by kernel_rfl) Try.func16
    (ChangeSpec.witness6 (enc := enc) (C := Try.checked) false ⟨#[], #[.int .i64 0, .int .i64 0], []⟩ 8 (by kernel_rfl) (by kernel_rfl) (by kernel_rfl) (by kernel_rfl)) ?_
  intro W base args ds gs before hval0 hW hcnd _
  have hval : ∀ (j : Nat) t v, Try.f16.params[j]? = some t → args[j]? = some v → Value.okWide Try.prog W .any base t v := hval0
  have hW' := hW
  obtain ⟨p, q, hA0, hV, rfl, hfz, hnd⟩ := hW
  have hA : DataW.TrodAll enc Try.prog W 0 (fun _ => true) true Try.f16.params.toList args.toList ds p := hA0
  rw [Try.params16] at hA hval
  obtain ⟨v0, vs0, d_0, ds0, p0, q0, hargs, rfl, rfl, h0, r0⟩ := trodAll_cons hA
  obtain ⟨v1, vs1, d_1, ds1, p1, q1, rfl, rfl, rfl, h1, r1⟩ := trodAll_cons r0
  obtain ⟨rfl, rfl, rfl⟩ := trodAll_nil r1
  obtain rfl : args = #[v0, v1] := by cases args; simp_all
  obtain ⟨rfl, rfl⟩ := trodVars_none hV
  obtain ⟨t0, rfl, rfl, rfl, wt0⟩ := open_int Try.underlying3 (hval 0 3 v0 rfl rfl) h0
  obtain ⟨t1, rfl, rfl, rfl, wt1⟩ := open_int Try.underlying3 (hval 1 3 v1 rfl rfl) h1
  clear hA0 hval0
  refine (walk W t0 t1 (i64_of_wf wt0) (i64_of_wf wt1)).mono fun e W' ⟨he, bel⟩ => ?_
  subst he
  exact ⟨_, rfl, _, _, _, [], _, [], hW', trodAll_mk1 (shut_bool Try.underlying4 _), (trodAll_cons_mk (shut_int Try.underlying3 wt0) (trodAll_cons_mk (shut_int Try.underlying3 wt1) trodAll_mk0)), rfl, bel.frame _, fun h => by cases h⟩

theorem closed : joinedFacts Try.prog 16 Try.f16 Rows.fnExactFirstMotionWorkSpec Rows.fnExactFirstMotionWorkRow = true := by
  unfold joinedFacts
  rw [Try.fMake, Try.fEnter, Try.fLifts, Try.fMaps, Try.fLaid, Try.fHeard, Try.fKeys]
  kernel_rfl
theorem over : Rows.fnExactFirstMotionWorkRow.holds Try.pinned (OpenSpec.ofChange Rows.fnExactFirstMotionWorkSpec) :=
  OpenClaim.holds_of_wide 16 Try.f16 rfl rfl rfl rfl rfl rfl rfl ⟨rfl, rfl, rfl, rfl, rfl⟩ rfl rfl rfl rfl rfl (by kernel_rfl) Try.func16
    closed (of_decide_eq_true (by kernel_rfl)) (by unfold Func.isWrapper; first | (rw [if_pos (by decide +kernel)]; kernel_rfl) | (rw [if_neg (by decide +kernel)]; exact ⟨rfl, rfl⟩))
    (fun os started H enc _ => lifted os started H enc)

end Go.Proofs.Ytaifcemdabcfjaa.fnExactFirstMotionWork
namespace Go.Proofs.Ytaifcemdabcfjaa
/-- The statement. -/
theorem fnExactFirstMotionWork_proved : Rows.FnExactFirstMotionWorkSaid := fnExactFirstMotionWork.over
#print axioms fnExactFirstMotionWork_proved
end Go.Proofs.Ytaifcemdabcfjaa