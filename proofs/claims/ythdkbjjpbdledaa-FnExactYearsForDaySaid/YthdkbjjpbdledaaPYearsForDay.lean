/- FnExactYearsForDay: called with any arguments, the law returns true, and its arguments read behind the call as before. Conditions: none but the row's own. -/
import Derived.Test.YthdkbjjpbdledaaFacts
import Derived.Test.YthdkbjjpbdledaaRow
import Derived.Test.YthdkbjjpbdledaaDRow
import Derived.Test.YthdkbjjpbdledaaDay4
import Derived.Test.YthdkbjjpbdledaaLate
set_option linter.unusedSimpArgs false
set_option linter.unusedVariables false
set_option maxRecDepth 100000
namespace Go.Proofs.Ythdkbjjpbdledaa.fnExactYearsForDay
open Go.ChangeShapes Go.WideShapes Go.ChangeAt Go.RowKit

set_option maxHeartbeats 1600000 in
theorem walk (n0 d0 s0 : Int) (a1 : Int) (a2 : Int) (kn0 : I64 n0) (kd0 : I64 d0) (ks0 : I64 s0) (k1 : I64 a1) (k2 : I64 a2) (w : World) :
    Calls Try.prog 13 #[lv n0 d0 s0, .int .i64 a1, .int .i64 a2] w fun e w' => e = .returned (.bool true) ∧ Below w.heap.size w w' := by
  (go_enter Try.func13, Try.ntmps13)
  go_wp2_with fail
  refine (toLeapRule_any _ _ _ _).mono ?_
  (rintro e1 w1 ⟨rfl, hb1⟩; obtain ⟨hc1, hf1⟩ := bcell hb1; have hz1 := hb1.size; (try simp only [World.size_alloc, World.size_setCell, World.size_drew] at hz1); have q1 : w.heap.size ≤ w1.heap.size := (by omega); (try have q1_0 : w.heap.size < w1.heap.size := (by omega)); (try have q1_1 : w.heap.size + 1 < w1.heap.size := (by omega)); (try have q1_2 : w.heap.size + 2 < w1.heap.size := (by omega)); (try have q1_3 : w.heap.size + 3 < w1.heap.size := (by omega)))
  go_wp2_with fail
  refine (specYearsForDay_any n0 d0 s0 a1 a2 _).mono ?_
  (rintro e2 w2 ⟨rfl, hb2⟩; obtain ⟨hc2, hf2⟩ := bcell hb2; have hz2 := hb2.size; (try simp only [World.size_alloc, World.size_setCell, World.size_drew] at hz2); have q2 : w.heap.size ≤ w2.heap.size := (by omega); (try have q2_0 : w.heap.size < w2.heap.size := (by omega)); (try have q2_1 : w.heap.size + 1 < w2.heap.size := (by omega)); (try have q2_2 : w.heap.size + 2 < w2.heap.size := (by omega)); (try have q2_3 : w.heap.size + 3 < w2.heap.size := (by omega)); (try have q2_1_0 : w1.heap.size < w2.heap.size := (by omega)); (try have q2_1_1 : w1.heap.size + 1 < w2.heap.size := (by omega)))
  go_wp2_with fail
  refine (toLeapRule_any _ _ _ _).mono ?_
  (rintro e3 w3 ⟨rfl, hb3⟩; obtain ⟨hc3, hf3⟩ := bcell hb3; have hz3 := hb3.size; (try simp only [World.size_alloc, World.size_setCell, World.size_drew] at hz3); have q3 : w.heap.size ≤ w3.heap.size := (by omega); (try have q3_0 : w.heap.size < w3.heap.size := (by omega)); (try have q3_1 : w.heap.size + 1 < w3.heap.size := (by omega)); (try have q3_2 : w.heap.size + 2 < w3.heap.size := (by omega)); (try have q3_3 : w.heap.size + 3 < w3.heap.size := (by omega)); (try have q3_1_0 : w1.heap.size < w3.heap.size := (by omega)); (try have q3_1_1 : w1.heap.size + 1 < w3.heap.size := (by omega)); (try have q3_2_0 : w2.heap.size < w3.heap.size := (by omega)); (try have q3_2_1 : w2.heap.size + 1 < w3.heap.size := (by omega)))
  go_wp2_with fail
  refine (implYearsForDay_any n0 d0 s0 a1 a2 _).mono ?_
  (rintro e4 w4 ⟨rfl, hb4⟩; obtain ⟨hc4, hf4⟩ := bcell hb4; have hz4 := hb4.size; (try simp only [World.size_alloc, World.size_setCell, World.size_drew] at hz4); have q4 : w.heap.size ≤ w4.heap.size := (by omega); (try have q4_0 : w.heap.size < w4.heap.size := (by omega)); (try have q4_1 : w.heap.size + 1 < w4.heap.size := (by omega)); (try have q4_2 : w.heap.size + 2 < w4.heap.size := (by omega)); (try have q4_3 : w.heap.size + 3 < w4.heap.size := (by omega)); (try have q4_1_0 : w1.heap.size < w4.heap.size := (by omega)); (try have q4_1_1 : w1.heap.size + 1 < w4.heap.size := (by omega)); (try have q4_2_0 : w2.heap.size < w4.heap.size := (by omega)); (try have q4_2_1 : w2.heap.size + 1 < w4.heap.size := (by omega)); (try have q4_3_0 : w3.heap.size < w4.heap.size := (by omega)); (try have q4_3_1 : w3.heap.size + 1 < w4.heap.size := (by omega)))
  go_wp2
  go_ret
  exact ⟨rfl, by (repeat' (first | (with_reducible exact Below.refl _ _) | (with_reducible assumption) | (with_reducible refine Below.alloc ?_ ?_ _) | (with_reducible refine Below.drew ?_) | (with_reducible refine below_drewN ?_ _) | (with_reducible refine Below.setCell ?_ ?_ _) | (with_reducible refine below_call ?_ ?_ (by assumption)) | go_size))⟩

set_option maxRecDepth 100000 in
theorem lifted (os : Os) (started : os.Started) (H : Type) (enc : TypeId × Value → H) :
    ReturnsInHanded {} Try.checked os 13 .any (Rows.fnExactYearsForDaySpec.pre6 enc Try.prog Try.f13 Rows.fnExactYearsForDayRow.domain false) (Rows.fnExactYearsForDaySpec.post enc Try.prog Try.f13 false true false false) := by
  refine returnsInHanded_of_change (C := Try.checked) Try.own started (by kernel_rfl) Try.func13
    (ChangeSpec.witness6 (enc := enc) (C := Try.checked) false ⟨#[], #[.agg #[.int .i64 0, .int .i64 0, .int .i64 0], .int .i64 0, .int .i64 0], []⟩ 8 (by kernel_rfl) (by kernel_rfl) (by kernel_rfl) (by kernel_rfl)) ?_
  intro W base args ds gs before hval0 hW hcnd _
  have hval : ∀ (j : Nat) t v, Try.f13.params[j]? = some t → args[j]? = some v → Value.okWide Try.prog W .any base t v := hval0
  have hW' := hW
  obtain ⟨p, q, hA0, hV, rfl, hfz, hnd⟩ := hW
  have hA : DataW.TrodAll enc Try.prog W 0 (fun _ => true) true Try.f13.params.toList args.toList ds p := hA0
  rw [Try.params13] at hA hval
  obtain ⟨v0, vs0, d_0, ds0, p0, q0, hargs, rfl, rfl, h0, r0⟩ := trodAll_cons hA
  obtain ⟨v1, vs1, d_1, ds1, p1, q1, rfl, rfl, rfl, h1, r1⟩ := trodAll_cons r0
  obtain ⟨v2, vs2, d_2, ds2, p2, q2, rfl, rfl, rfl, h2, r2⟩ := trodAll_cons r1
  obtain ⟨rfl, rfl, rfl⟩ := trodAll_nil r2
  obtain rfl : args = #[v0, v1, v2] := by cases args; simp_all
  obtain ⟨rfl, rfl⟩ := trodVars_none hV
  obtain ⟨n0, d0, s0, rfl, rfl, rfl, wn0, wd0, ws0⟩ := open_rule (hval 0 29 v0 rfl rfl) h0
  obtain ⟨a1, rfl, rfl, rfl, w1⟩ := open_int Try.underlying3 (hval 1 3 v1 rfl rfl) h1
  obtain ⟨a2, rfl, rfl, rfl, w2⟩ := open_int Try.underlying3 (hval 2 3 v2 rfl rfl) h2
  clear hA0 hval0
  refine (walk n0 d0 s0 a1 a2 (i64_of_wf wn0) (i64_of_wf wd0) (i64_of_wf ws0) (i64_of_wf w1) (i64_of_wf w2) W).mono fun e W' ⟨he, bel⟩ => ?_
  subst he
  exact ⟨_, rfl, _, _, _, [], _, [], hW', trodAll_mk1 (shut_bool Try.underlying4 _), (trodAll_cons_mk (shut_rule wn0 wd0 ws0) (trodAll_cons_mk (shut_int Try.underlying3 w1) (trodAll_cons_mk (shut_int Try.underlying3 w2) trodAll_mk0))), rfl, bel.frame _, fun h => by cases h⟩

theorem closed : joinedFacts Try.prog 13 Try.f13 Rows.fnExactYearsForDaySpec Rows.fnExactYearsForDayRow = true := by
  unfold joinedFacts
  rw [Try.fMake, Try.fEnter, Try.fLifts, Try.fMaps, Try.fLaid, Try.fHeard, Try.fKeys]
  kernel_rfl
theorem over : Rows.fnExactYearsForDayRow.holds Try.pinned (OpenSpec.ofChange Rows.fnExactYearsForDaySpec) :=
  OpenClaim.holds_of_wide 13 Try.f13 rfl rfl rfl rfl rfl rfl rfl ⟨rfl, rfl, rfl, rfl, rfl⟩ rfl rfl rfl rfl rfl (by kernel_rfl) Try.func13
    closed (of_decide_eq_true (by kernel_rfl)) (by unfold Func.isWrapper; first | (rw [if_pos (by decide +kernel)]; kernel_rfl) | (rw [if_neg (by decide +kernel)]; exact ⟨rfl, rfl⟩))
    (fun os started H enc _ => lifted os started H enc)

end Go.Proofs.Ythdkbjjpbdledaa.fnExactYearsForDay
namespace Go.Proofs.Ythdkbjjpbdledaa
/-- The statement. -/
theorem fnExactYearsForDay_proved : Rows.FnExactYearsForDaySaid := fnExactYearsForDay.over
#print axioms fnExactYearsForDay_proved
end Go.Proofs.Ythdkbjjpbdledaa
