/- FnExactBestRules: called with any arguments, the law returns true, and its arguments read behind the call as before. Conditions: none but the row's own. -/
import Derived.Test.YthdkbjjpbdledaaFacts
import Derived.Test.YthdkbjjpbdledaaDay8
set_option linter.unusedSimpArgs false
set_option linter.unusedVariables false
set_option maxRecDepth 100000
namespace Go.Proofs.Ythdkbjjpbdledaa.fnExactBestRules
open Go.ChangeShapes Go.WideShapes Go.ChangeAt Go.RowKit

set_option maxHeartbeats 4000000 in
theorem walk (w : World) (t0 : Int) (t1 : Int) (t2 : Int) (kt0 : I64 t0) (kt1 : I64 t1) (kt2 : I64 t2) :
    Calls Try.prog 14 #[.int .i64 t0, .int .i64 t1, .int .i64 t2] w fun e w' => e = .returned (.bool true) ∧ Below w.heap.size w w' := by
  have B0 : Below w.heap.size w w := Below.refl _ _
  have HN := Lib.hid (brL_len t0 t1 t2)
  have HC := Lib.hid (fun j (hj : j < (brL t0 t1 t2).length) => Cof2_len hj)
  (go_enter Try.func14, Try.ntmps14)
  go_wp2_with fail
  refine (specBestRules_any t0 t1 t2 _).mono ?_
  rintro e1 w1 ⟨v1, ts1, rfl, hm1, hr1, hb1⟩
  have l1 := congrArg List.length hm1
  simp only [List.length_map] at l1
  have R1 := Lib.hid (hr1.rows hm1)
  have L1 : (ts1.map (·.1)).length = (brL t0 t1 t2).length := by simpa using l1
  generalize ts1.map (·.1) = gs1 at *
  clear hr1 hm1 l1
  have B1 : Below w.heap.size w w1 := B0.trans (hb1.mono B0.size)
  have y1 := B1.size
  go_wp2_with fail
  refine (implBestRules_any t0 t1 t2 _).mono ?_
  rintro e2 w2 ⟨v2, ts2, rfl, hm2, hr2, hb2⟩
  have l2 := congrArg List.length hm2
  simp only [List.length_map] at l2
  have R2 := Lib.hid (hr2.rows hm2)
  have L2 : (ts2.map (·.1)).length = (brL t0 t1 t2).length := by simpa using l2
  have ND := Lib.hid hr2.2.2
  generalize ts2.map (·.1) = gs2 at *
  clear hr2 hm2 l2
  have B2 : Below w.heap.size w w2 := B1.trans (hb2.mono B1.size)
  have y2 := B2.size
  have S2 := Lib.hid (R1.out.below hb2)
  go_wp2_with fail
  refine (eqIntSS_same gs2 gs1 (Cof2 (brL t0 t1 t2)) v2 v1 _ _ _ R2.out S2.out (L1.trans L2.symm) (fun j hj => HC.out j (L2 ▸ hj)) (by have := HN.out; omega)).mono ?_
  rintro e3 w3 ⟨rfl, hb3⟩
  have B3 : Below w.heap.size w w3 := B2.trans (hb3.mono B2.size)
  have y3 := B3.size
  have S3 := Lib.hid (S2.out.below hb3)
  have R3 := Lib.hid (R2.out.below hb3)
  go_wp2_with fail
  refine (markIntSS_any gs2 (Cof2 (brL t0 t1 t2)) v2 _ 1 _ R3.out ND.out (fun j hj => HC.out j (L2 ▸ hj)) (by have := HN.out; omega) (by omega) (by omega)).mono ?_
  rintro e4 w4 ⟨rfl, hr4, hk4⟩
  have R4 := Lib.hid hr4
  clear hr4
  have hge : ∀ x, x ∈ gs2 → w1.heap.size ≤ x := fun x hx => by
    obtain ⟨j, hj, rfl⟩ := List.getElem_of_mem hx
    exact (R2.out.lt hj).1
  have S4 := Lib.hid (S3.out.same (fun k e => hk4.block k (World.ownsRow.lt S3.out.1 k e).2 (fun hx => by have := (World.ownsRow.lt R1.out.1 k e).2; have := hge k hx; omega)) (fun j hj => hk4.block _ (S3.out.lt hj).2 (fun hx => by have := (R1.out.lt hj).2; have := hge _ hx; omega)))
  have B4 : Below w.heap.size w w4 := B3.trans (hk4.below B3.size (fun k hk hx => by have := hge k hx; omega))
  have y4 := B4.size
  clear hk4
  have p2 : ¬ (1 + 2 * ((gs2.length : Nat) : Int)) < 0 := by omega
  go_wp2_with fail
  refine (heldIntSS_marked gs2 (Cof2 (brL t0 t1 t2)) v2 _ 1 _ R4.out (fun j hj => HC.out j (L2 ▸ hj)) (by have := HN.out; omega) (by omega) (by omega)).mono ?_
  rintro e5 w5 ⟨rfl, hb5⟩
  have B5 : Below w.heap.size w w5 := B4.trans (hb5.mono B4.size)
  have y5 := B5.size
  have S5 := Lib.hid (S4.out.below hb5)
  have R5 := Lib.hid (R4.out.below hb5)
  go_wp2_with fail
  refine (implBestRules_any t0 t1 t2 _).mono ?_
  rintro e6 w6 ⟨v6, ts6, rfl, hm6, hr6, hb6⟩
  have l6 := congrArg List.length hm6
  simp only [List.length_map] at l6
  have R6 := Lib.hid (hr6.rows hm6)
  have L6 : (ts6.map (·.1)).length = (brL t0 t1 t2).length := by simpa using l6
  generalize ts6.map (·.1) = gs6 at *
  clear hr6 hm6 l6
  have B6 : Below w.heap.size w w6 := B5.trans (hb6.mono B5.size)
  have y6 := B6.size
  have S6 := Lib.hid (S5.out.below hb6)
  have T6 := Lib.hid (R5.out.below hb6)
  go_wp2_with fail
  refine (eqIntSS_same gs6 gs1 (Cof2 (brL t0 t1 t2)) v6 v1 _ _ _ R6.out S6.out (L1.trans L6.symm) (fun j hj => HC.out j (L6 ▸ hj)) (by have := HN.out; omega)).mono ?_
  rintro e7 w7 ⟨rfl, hb7⟩
  have B7 : Below w.heap.size w w7 := B6.trans (hb7.mono B6.size)
  have y7 := B7.size
  have T7 := Lib.hid (T6.out.below hb7)
  go_wp2_with fail
  refine (heldIntSS_marked gs2 (Cof2 (brL t0 t1 t2)) v2 _ 1 _ T7.out (fun j hj => HC.out j (L2 ▸ hj)) (by have := HN.out; omega) (by omega) (by omega)).mono ?_
  rintro e8 w8 ⟨rfl, hb8⟩
  have B8 : Below w.heap.size w w8 := B7.trans (hb8.mono B7.size)
  have y8 := B8.size
  go_wp2
  go_ret
  exact ⟨rfl, B8⟩

set_option maxRecDepth 100000 in
theorem lifted (os : Os) (started : os.Started) (H : Type) (enc : TypeId × Value → H) :
    ReturnsInHanded {} Try.checked os 14 .any (Rows.fnExactBestRulesSpec.pre6 enc Try.prog Try.f14 Rows.fnExactBestRulesRow.domain false) (Rows.fnExactBestRulesSpec.post enc Try.prog Try.f14 false true false false) := by
  refine returnsInHanded_of_change (C := Try.checked) Try.own started (by kernel_rfl) Try.func14
    (ChangeSpec.witness6 (enc := enc) (C := Try.checked) false ⟨#[], #[.int .i64 0, .int .i64 0, .int .i64 0], []⟩ 8 (by kernel_rfl) (by kernel_rfl) (by kernel_rfl) (by kernel_rfl)) ?_
  intro W base args ds gs before hval0 hW hcnd _
  have hval : ∀ (j : Nat) t v, Try.f14.params[j]? = some t → args[j]? = some v → Value.okWide Try.prog W .any base t v := hval0
  have hW' := hW
  obtain ⟨p, q, hA0, hV, rfl, hfz, hnd⟩ := hW
  have hA : DataW.TrodAll enc Try.prog W 0 (fun _ => true) true Try.f14.params.toList args.toList ds p := hA0
  rw [Try.params14] at hA hval
  obtain ⟨v0, vs0, d_0, ds0, p0, q0, hargs, rfl, rfl, h0, r0⟩ := trodAll_cons hA
  obtain ⟨v1, vs1, d_1, ds1, p1, q1, rfl, rfl, rfl, h1, r1⟩ := trodAll_cons r0
  obtain ⟨v2, vs2, d_2, ds2, p2, q2, rfl, rfl, rfl, h2, r2⟩ := trodAll_cons r1
  obtain ⟨rfl, rfl, rfl⟩ := trodAll_nil r2
  obtain rfl : args = #[v0, v1, v2] := by cases args; simp_all
  obtain ⟨rfl, rfl⟩ := trodVars_none hV
  obtain ⟨t0, rfl, rfl, rfl, wt0⟩ := open_int Try.underlying3 (hval 0 3 v0 rfl rfl) h0
  obtain ⟨t1, rfl, rfl, rfl, wt1⟩ := open_int Try.underlying3 (hval 1 3 v1 rfl rfl) h1
  obtain ⟨t2, rfl, rfl, rfl, wt2⟩ := open_int Try.underlying3 (hval 2 3 v2 rfl rfl) h2
  clear hA0 hval0
  refine (walk W t0 t1 t2 (i64_of_wf wt0) (i64_of_wf wt1) (i64_of_wf wt2)).mono fun e W' ⟨he, bel⟩ => ?_
  subst he
  exact ⟨_, rfl, _, _, _, [], _, [], hW', trodAll_mk1 (shut_bool Try.underlying4 _), (trodAll_cons_mk (shut_int Try.underlying3 wt0) (trodAll_cons_mk (shut_int Try.underlying3 wt1) (trodAll_cons_mk (shut_int Try.underlying3 wt2) trodAll_mk0))), rfl, bel.frame _, fun h => by cases h⟩

theorem closed : joinedFacts Try.prog 14 Try.f14 Rows.fnExactBestRulesSpec Rows.fnExactBestRulesRow = true := by
  unfold joinedFacts
  rw [Try.fMake, Try.fEnter, Try.fLifts, Try.fMaps, Try.fLaid, Try.fHeard, Try.fKeys]
  kernel_rfl
theorem over : Rows.fnExactBestRulesRow.holds Try.pinned (OpenSpec.ofChange Rows.fnExactBestRulesSpec) :=
  OpenClaim.holds_of_wide 14 Try.f14 rfl rfl rfl rfl rfl rfl rfl ⟨rfl, rfl, rfl, rfl, rfl⟩ rfl rfl rfl rfl rfl (by kernel_rfl) Try.func14
    closed (of_decide_eq_true (by kernel_rfl)) (by unfold Func.isWrapper; first | (rw [if_pos (by decide +kernel)]; kernel_rfl) | (rw [if_neg (by decide +kernel)]; exact ⟨rfl, rfl⟩))
    (fun os started H enc _ => lifted os started H enc)

end Go.Proofs.Ythdkbjjpbdledaa.fnExactBestRules
namespace Go.Proofs.Ythdkbjjpbdledaa
/-- The statement. -/
theorem fnExactBestRules_proved : Rows.FnExactBestRulesSaid := fnExactBestRules.over
#print axioms fnExactBestRules_proved
end Go.Proofs.Ythdkbjjpbdledaa