/- FnExactIsTrain: called with any arguments, the law returns true, and its arguments read behind the call as before. Conditions: none but the row's own. -/
import Derived.Test.YtaifcemdabcfjaaFacts
import Derived.Test.YtaifcemdabcfjaaGe7
set_option linter.unusedSimpArgs false
set_option linter.unusedVariables false
set_option maxRecDepth 100000
namespace Go.Proofs.Ytaifcemdabcfjaa.fnExactIsTrain
open Go.ChangeShapes Go.WideShapes Go.ChangeAt Go.RowKit

set_option maxHeartbeats 4000000 in
theorem walk (w : World) (a0 : Option Addr) (c0 : Nat) (L0 : List (Int × Int)) (hin0 : PIn w a0 L0) (hm0 : L0.length ≤ maxLen) :
    Calls Try.prog 4 #[.slice a0 L0.length c0] w fun e w' => e = .returned (.bool true) ∧ Below w.heap.size w w' := by
  have B0 : Below w.heap.size w w := Below.refl _ _
  have HIN0 := Lib.hid hin0
  clear hin0
  by_cases hl0 : L0.length ≤ 1048576 ∧ ¬ 1048576 - (L0.length : Int) < 0
  · obtain ⟨hl0, hl0n⟩ := hl0
    have hsz0 := fun W => szPairS_any a0 L0.length c0 (1048576) W (by omega) hm0
    rw [if_neg hl0n] at hsz0
    have HSZ0 := Lib.hid hsz0
    clear hsz0
    (go_enter Try.func4, Try.ntmps4)
    go_wp2_with fail
    refine (HSZ0.out _).mono ?_
    (rintro e1 w1 ⟨rfl, rfl⟩)
    go_wp2_with fail
    refine (toPairS_any a0 c0 L0 _ (HIN0.out.below B0) hl0).mono ?_
    rintro e1 w1 ⟨v1, rfl, hr1, hb1⟩
    obtain ⟨x1, z1, rfl, hi1, hc1, hma1⟩ := hr1.inn
    have HR1 := Lib.hid hr1
    have HI1 := Lib.hid hi1
    clear hr1 hi1
    have B1 : Below w.heap.size w w1 := B0.trans (hb1.mono B0.size)
    have y1 := B1.size
    go_wp2_with fail
    refine (specIsTrain_is x1 z1 L0 rfl _ HI1.out (Nat.le_trans hc1 hma1)).mono ?_
    rintro e2 w2 ⟨rfl, hb2⟩
    have B2 : Below w.heap.size w w2 := B1.trans (hb2.mono B1.size)
    have y2 := B2.size
    go_wp2_with fail
    refine (toPairS_any a0 c0 L0 _ (HIN0.out.below B2) hl0).mono ?_
    rintro e3 w3 ⟨v3, rfl, hr3, hb3⟩
    obtain ⟨x3, z3, rfl, hi3, hc3, hma3⟩ := hr3.inn
    have HR3 := Lib.hid hr3
    have HI3 := Lib.hid hi3
    clear hr3 hi3
    have B3 : Below w.heap.size w w3 := B2.trans (hb3.mono B2.size)
    have y3 := B3.size
    go_wp2_with fail
    refine (implIsTrain_is x3 z3 L0 rfl _ HI3.out (Nat.le_trans hc3 hma3)).mono ?_
    rintro e4 w4 ⟨rfl, hb4⟩
    have B4 : Below w.heap.size w w4 := B3.trans (hb4.mono B3.size)
    have y4 := B4.size
    go_wp2_with fail
    refine (toPairS_any a0 c0 L0 _ (HIN0.out.below B4) hl0).mono ?_
    rintro e5 w5 ⟨v5, rfl, hr5, hb5⟩
    obtain ⟨x5, z5, rfl, hi5, hc5, hma5⟩ := hr5.inn
    have HR5 := Lib.hid hr5
    have HI5 := Lib.hid hi5
    clear hr5 hi5
    have B5 : Below w.heap.size w w5 := B4.trans (hb5.mono B4.size)
    have y5 := B5.size
    go_wp2_with fail
    refine (eqPairS_same L0 (.slice x3 L0.length z3) (.slice x5 L0.length z5) _ _ _ ((HR3.out.below hb4).below hb5) HR5.out (by omega)).mono ?_
    rintro e6 w6 ⟨rfl, hb6⟩
    have B6 : Below w.heap.size w w6 := B5.trans (hb6.mono B5.size)
    have y6 := B6.size
    go_wp2
    go_ret
    exact ⟨rfl, B6⟩
  · have hln0 : 1048576 - (L0.length : Int) < 0 := by omega
    have hsz0 := fun W => szPairS_any a0 L0.length c0 (1048576) W (by omega) hm0
    rw [if_pos hln0] at hsz0
    have HSZ0 := Lib.hid hsz0
    clear hsz0
    (go_enter Try.func4, Try.ntmps4)
    go_wp2_with fail
    refine (HSZ0.out _).mono ?_
    (rintro e1 w1 ⟨rfl, rfl⟩)
    go_wp2
    go_ret
    exact ⟨rfl, B0⟩

set_option maxRecDepth 100000 in
theorem lifted (os : Os) (started : os.Started) (H : Type) (enc : TypeId × Value → H) :
    ReturnsInHanded {} Try.checked os 4 .any (Rows.fnExactIsTrainSpec.pre6 enc Try.prog Try.f4 Rows.fnExactIsTrainRow.domain false) (Rows.fnExactIsTrainSpec.post enc Try.prog Try.f4 false true false false) := by
  refine returnsInHanded_of_change (C := Try.checked) Try.own started (by kernel_rfl) Try.func4
    (ChangeSpec.witness6 (enc := enc) (C := Try.checked) false ⟨#[], #[.slice none 0 0], []⟩ 8 (by kernel_rfl) (by kernel_rfl) (by kernel_rfl) (by kernel_rfl)) ?_
  intro W base args ds gs before hval0 hW hcnd _
  have hval : ∀ (j : Nat) t v, Try.f4.params[j]? = some t → args[j]? = some v → Value.okWide Try.prog W .any base t v := hval0
  have hW' := hW
  obtain ⟨p, q, hA0, hV, rfl, hfz, hnd⟩ := hW
  have hA : DataW.TrodAll enc Try.prog W 0 (fun _ => true) true Try.f4.params.toList args.toList ds p := hA0
  rw [Try.params4] at hA hval
  obtain ⟨v0, vs0, d_0, ds0, p0, q0, hargs, rfl, rfl, h0, r0⟩ := trodAll_cons hA
  obtain ⟨rfl, rfl, rfl⟩ := trodAll_nil r0
  obtain rfl : args = #[v0] := by cases args; simp_all
  obtain ⟨rfl, rfl⟩ := trodVars_none hV
  have h0k := h0
  obtain ⟨a0, c0, L0, rfl, hin0, hi0, hm0⟩ := open_pairs (hval 0 28 v0 rfl rfl) h0
  clear hA0 hval0
  simp only [List.append_nil, List.nil_append] at hW'
  have hlt0 : ∀ y ∈ p0, y.block < W.heap.size := fun y hy => by simpa using hW'.lt y (by simp [hy])
  refine (walk W a0 c0 L0 hin0 hm0).mono fun e W' ⟨he, bel⟩ => ?_
  subst he
  have harg0 : DataW.Trod enc Try.prog W' 0 (fun b => decide (b < W.heap.size)) true 28 (.slice a0 L0.length c0) d_0 p0 :=
    Below.trod Try.laidOut (by kernel_rfl) (of_decide_eq_true (by kernel_rfl)) h0k bel hlt0
  exact ⟨_, rfl, _, _, _, [], _, [], hW', trodAll_mk1 (shut_bool Try.underlying4 _), (trodAll_cons_mk harg0 trodAll_mk0), rfl, bel.frame _, fun h => by cases h⟩

theorem closed : joinedFacts Try.prog 4 Try.f4 Rows.fnExactIsTrainSpec Rows.fnExactIsTrainRow = true := by
  unfold joinedFacts
  rw [Try.fMake, Try.fEnter, Try.fLifts, Try.fMaps, Try.fLaid, Try.fHeard, Try.fKeys]
  kernel_rfl
theorem over : Rows.fnExactIsTrainRow.holds Try.pinned (OpenSpec.ofChange Rows.fnExactIsTrainSpec) :=
  OpenClaim.holds_of_wide 4 Try.f4 rfl rfl rfl rfl rfl rfl rfl ⟨rfl, rfl, rfl, rfl, rfl⟩ rfl rfl rfl rfl rfl (by kernel_rfl) Try.func4
    closed (of_decide_eq_true (by kernel_rfl)) (by unfold Func.isWrapper; first | (rw [if_pos (by decide +kernel)]; kernel_rfl) | (rw [if_neg (by decide +kernel)]; exact ⟨rfl, rfl⟩))
    (fun os started H enc _ => lifted os started H enc)

end Go.Proofs.Ytaifcemdabcfjaa.fnExactIsTrain
namespace Go.Proofs.Ytaifcemdabcfjaa
/-- The statement. -/
theorem fnExactIsTrain_proved : Rows.FnExactIsTrainSaid := fnExactIsTrain.over
#print axioms fnExactIsTrain_proved
end Go.Proofs.Ytaifcemdabcfjaa