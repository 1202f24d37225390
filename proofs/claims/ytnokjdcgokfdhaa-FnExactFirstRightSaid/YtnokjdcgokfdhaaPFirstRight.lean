/- FnExactFirstRight: called with any arguments, the law returns true, and its arguments read behind the call as before. Conditions: none but the row's own. -/
import Derived.Test.YtnokjdcgokfdhaaFacts
import Derived.Test.YtnokjdcgokfdhaaRow
import Derived.Test.YtnokjdcgokfdhaaCRow
import Derived.Test.YtnokjdcgokfdhaaLate4
import Derived.Test.YtnokjdcgokfdhaaDrift4
import Derived.Test.YtnokjdcgokfdhaaDrift7
set_option linter.unusedSimpArgs false
set_option linter.unusedVariables false
set_option maxRecDepth 100000
namespace Go.Proofs.Ytnokjdcgokfdhaa.fnExactFirstRight
open Go.ChangeShapes Go.WideShapes Go.ChangeAt Go.RowKit

set_option maxHeartbeats 1600000 in
theorem walk (n0 d0 x0 y0 : Int) (kn0 : I64 n0) (kd0 : I64 d0) (kx0 : I64 x0) (ky0 : I64 y0) (w : World) :
    Calls Try.prog 12 #[cv n0 d0 x0 y0] w fun e w' => e = .returned (.bool true) ∧ Below w.heap.size w w' := by
  (go_enter Try.func12, Try.ntmps12)
  go_wp2_with fail
  refine (toClock_any _ _ _ _ _).mono ?_
  (rintro e1 w1 ⟨rfl, hb1⟩; obtain ⟨hc1, hf1⟩ := bcell hb1; have hz1 := hb1.size; (try simp only [World.size_alloc, World.size_setCell, World.size_drew] at hz1); have q1 : w.heap.size ≤ w1.heap.size := (by omega); (try have q1_0 : w.heap.size < w1.heap.size := (by omega)); (try have q1_1 : w.heap.size + 1 < w1.heap.size := (by omega)); (try have q1_2 : w.heap.size + 2 < w1.heap.size := (by omega)); (try have q1_3 : w.heap.size + 3 < w1.heap.size := (by omega)))
  go_wp2_with fail
  refine (specFirstRight_any n0 d0 x0 y0 kd0 _).mono ?_
  (rintro e2 w2 ⟨rfl, hb2⟩; obtain ⟨hc2, hf2⟩ := bcell hb2; have hz2 := hb2.size; (try simp only [World.size_alloc, World.size_setCell, World.size_drew] at hz2); have q2 : w.heap.size ≤ w2.heap.size := (by omega); (try have q2_0 : w.heap.size < w2.heap.size := (by omega)); (try have q2_1 : w.heap.size + 1 < w2.heap.size := (by omega)); (try have q2_2 : w.heap.size + 2 < w2.heap.size := (by omega)); (try have q2_3 : w.heap.size + 3 < w2.heap.size := (by omega)); (try have q2_1_0 : w1.heap.size < w2.heap.size := (by omega)); (try have q2_1_1 : w1.heap.size + 1 < w2.heap.size := (by omega)))
  go_wp2_with fail
  refine (toClock_any _ _ _ _ _).mono ?_
  (rintro e3 w3 ⟨rfl, hb3⟩; obtain ⟨hc3, hf3⟩ := bcell hb3; have hz3 := hb3.size; (try simp only [World.size_alloc, World.size_setCell, World.size_drew] at hz3); have q3 : w.heap.size ≤ w3.heap.size := (by omega); (try have q3_0 : w.heap.size < w3.heap.size := (by omega)); (try have q3_1 : w.heap.size + 1 < w3.heap.size := (by omega)); (try have q3_2 : w.heap.size + 2 < w3.heap.size := (by omega)); (try have q3_3 : w.heap.size + 3 < w3.heap.size := (by omega)); (try have q3_1_0 : w1.heap.size < w3.heap.size := (by omega)); (try have q3_1_1 : w1.heap.size + 1 < w3.heap.size := (by omega)); (try have q3_2_0 : w2.heap.size < w3.heap.size := (by omega)); (try have q3_2_1 : w2.heap.size + 1 < w3.heap.size := (by omega)))
  go_wp2_with fail
  refine (implFirstRight_any n0 d0 x0 y0 _).mono ?_
  (rintro e4 w4 ⟨rfl, hb4⟩; obtain ⟨hc4, hf4⟩ := bcell hb4; have hz4 := hb4.size; (try simp only [World.size_alloc, World.size_setCell, World.size_drew] at hz4); have q4 : w.heap.size ≤ w4.heap.size := (by omega); (try have q4_0 : w.heap.size < w4.heap.size := (by omega)); (try have q4_1 : w.heap.size + 1 < w4.heap.size := (by omega)); (try have q4_2 : w.heap.size + 2 < w4.heap.size := (by omega)); (try have q4_3 : w.heap.size + 3 < w4.heap.size := (by omega)); (try have q4_1_0 : w1.heap.size < w4.heap.size := (by omega)); (try have q4_1_1 : w1.heap.size + 1 < w4.heap.size := (by omega)); (try have q4_2_0 : w2.heap.size < w4.heap.size := (by omega)); (try have q4_2_1 : w2.heap.size + 1 < w4.heap.size := (by omega)); (try have q4_3_0 : w3.heap.size < w4.heap.size := (by omega)); (try have q4_3_1 : w3.heap.size + 1 < w4.heap.size := (by omega)))
  go_wp2_with fail
  refine (eqSpan_self _ _ _).mono ?_
  (rintro e5 w5 ⟨rfl, hb5⟩; obtain ⟨hc5, hf5⟩ := bcell hb5; have hz5 := hb5.size; (try simp only [World.size_alloc, World.size_setCell, World.size_drew] at hz5); have q5 : w.heap.size ≤ w5.heap.size := (by omega); (try have q5_0 : w.heap.size < w5.heap.size := (by omega)); (try have q5_1 : w.heap.size + 1 < w5.heap.size := (by omega)); (try have q5_2 : w.heap.size + 2 < w5.heap.size := (by omega)); (try have q5_3 : w.heap.size + 3 < w5.heap.size := (by omega)); (try have q5_1_0 : w1.heap.size < w5.heap.size := (by omega)); (try have q5_1_1 : w1.heap.size + 1 < w5.heap.size := (by omega)); (try have q5_2_0 : w2.heap.size < w5.heap.size := (by omega)); (try have q5_2_1 : w2.heap.size + 1 < w5.heap.size := (by omega)); (try have q5_3_0 : w3.heap.size < w5.heap.size := (by omega)); (try have q5_3_1 : w3.heap.size + 1 < w5.heap.size := (by omega)); (try have q5_4_0 : w4.heap.size < w5.heap.size := (by omega)); (try have q5_4_1 : w4.heap.size + 1 < w5.heap.size := (by omega)))
  go_wp2
  go_ret
  exact ⟨rfl, by (repeat' (first | (with_reducible exact Below.refl _ _) | (with_reducible assumption) | (with_reducible refine Below.alloc ?_ ?_ _) | (with_reducible refine Below.drew ?_) | (with_reducible refine below_drewN ?_ _) | (with_reducible refine Below.setCell ?_ ?_ _) | (with_reducible refine below_call ?_ ?_ (by assumption)) | go_size))⟩

set_option maxRecDepth 100000 in
theorem lifted (os : Os) (started : os.Started) (H : Type) (enc : TypeId × Value → H) :
    ReturnsInHanded {} Try.checked os 12 .any (Rows.fnExactFirstRightSpec.pre6 enc Try.prog Try.f12 Rows.fnExactFirstRightRow.domain false) (Rows.fnExactFirstRightSpec.post enc Try.prog Try.f12 false true false false) := by
  refine returnsInHanded_of_change (C := Try.checked) Try.own started (by kernel_rfl) Try.func12
    (ChangeSpec.witness6 (enc := enc) (C := Try.checked) false ⟨#[], #[.agg #[.int .i64 0, .int .i64 0, .int .i64 0, .int .i64 0]], []⟩ 8 (by kernel_rfl) (by kernel_rfl) (by kernel_rfl) (by kernel_rfl)) ?_
  intro W base args ds gs before hval0 hW hcnd _
  have hval : ∀ (j : Nat) t v, Try.f12.params[j]? = some t → args[j]? = some v → Value.okWide Try.prog W .any base t v := hval0
  have hW' := hW
  obtain ⟨p, q, hA0, hV, rfl, hfz, hnd⟩ := hW
  have hA : DataW.TrodAll enc Try.prog W 0 (fun _ => true) true Try.f12.params.toList args.toList ds p := hA0
  rw [Try.params12] at hA hval
  obtain ⟨v0, vs0, d_0, ds0, p0, q0, hargs, rfl, rfl, h0, r0⟩ := trodAll_cons hA
  obtain ⟨rfl, rfl, rfl⟩ := trodAll_nil r0
  obtain rfl : args = #[v0] := by cases args; simp_all
  obtain ⟨rfl, rfl⟩ := trodVars_none hV
  obtain ⟨n0, d0, x0, y0, rfl, rfl, rfl, wn0, wd0, wx0, wy0⟩ := open_clock (hval 0 38 v0 rfl rfl) h0
  clear hA0 hval0
  refine (walk n0 d0 x0 y0 (i64_of_wf wn0) (i64_of_wf wd0) (i64_of_wf wx0) (i64_of_wf wy0) W).mono fun e W' ⟨he, bel⟩ => ?_
  subst he
  exact ⟨_, rfl, _, _, _, [], _, [], hW', trodAll_mk1 (shut_bool Try.underlying4 _), (trodAll_cons_mk (shut_clock wn0 wd0 wx0 wy0) trodAll_mk0), rfl, bel.frame _, fun h => by cases h⟩

theorem closed : joinedFacts Try.prog 12 Try.f12 Rows.fnExactFirstRightSpec Rows.fnExactFirstRightRow = true := by
  unfold joinedFacts
  rw [Try.fMake, Try.fEnter, Try.fLifts, Try.fMaps, Try.fLaid, Try.fHeard, Try.fKeys]
  kernel_rfl
theorem over : Rows.fnExactFirstRightRow.holds Try.pinned (OpenSpec.ofChange Rows.fnExactFirstRightSpec) :=
  OpenClaim.holds_of_wide 12 Try.f12 rfl rfl rfl rfl rfl rfl rfl ⟨rfl, rfl, rfl, rfl, rfl⟩ rfl rfl rfl rfl rfl (by kernel_rfl) Try.func12
    closed (of_decide_eq_true (by kernel_rfl)) (by unfold Func.isWrapper; first | (rw [if_pos (by decide +kernel)]; kernel_rfl) | (rw [if_neg (by decide +kernel)]; exact ⟨rfl, rfl⟩))
    (fun os started H enc _ => lifted os started H enc)

end Go.Proofs.Ytnokjdcgokfdhaa.fnExactFirstRight
namespace Go.Proofs.Ytnokjdcgokfdhaa
/-- The statement. -/
theorem fnExactFirstRight_proved : Rows.FnExactFirstRightSaid := fnExactFirstRight.over
#print axioms fnExactFirstRight_proved
end Go.Proofs.Ytnokjdcgokfdhaa
