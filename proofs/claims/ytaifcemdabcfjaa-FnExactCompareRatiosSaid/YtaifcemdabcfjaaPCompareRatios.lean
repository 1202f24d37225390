/- FnExactCompareRatios: called with any arguments, the law returns true, and its arguments read behind the call as before. Conditions: none but the row's own. -/
import Derived.Test.YtaifcemdabcfjaaFacts
import Derived.Test.YtaifcemdabcfjaaGe7
set_option linter.unusedSimpArgs false
set_option linter.unusedVariables false
set_option maxRecDepth 100000
namespace Go.Proofs.Ytaifcemdabcfjaa.fnExactCompareRatios
open Go.ChangeShapes Go.WideShapes Go.ChangeAt Go.RowKit

set_option maxHeartbeats 4000000 in
theorem walk (w : World) (a0 : Option Addr) (c0 : Nat) (L0 : List (Int × Int)) (a1 : Option Addr) (c1 : Nat) (L1 : List (Int × Int)) (hin0 : PIn w a0 L0) (hm0 : L0.length ≤ maxLen) (hin1 : PIn w a1 L1) (hm1 : L1.length ≤ maxLen) :
    Calls Try.prog 18 #[.slice a0 L0.length c0, .slice a1 L1.length c1] w fun e w' => e = .returned (.bool true) ∧ Below w.heap.size w w' := by
  have B0 : Below w.heap.size w w := Below.refl _ _
  have HIN0 := Lib.hid hin0
  have HIN1 := Lib.hid hin1
  clear hin0 hin1
  by_cases hl0 : L0.length ≤ 1048576 ∧ ¬ 1048576 - (L0.length : Int) < 0
  · obtain ⟨hl0, hl0n⟩ := hl0
    have hsz0 := fun W => szPairS_any a0 L0.length c0 (1048576) W (by omega) hm0
    rw [if_neg hl0n] at hsz0
    have HSZ0 := Lib.hid hsz0
    clear hsz0
    by_cases hl1 : L1.length ≤ 1048576 ∧ ¬ (1048576 - (L0.length : Int)) - (L1.length : Int) < 0
    · obtain ⟨hl1, hl1n⟩ := hl1
      have hsz1 := fun W => szPairS_any a1 L1.length c1 ((1048576 - (L0.length : Int))) W (by omega) hm1
      rw [if_neg hl1n] at hsz1
      have HSZ1 := Lib.hid hsz1
      clear hsz1
      (go_enter Try.func18, Try.ntmps18)
      go_wp2_with fail
      refine (HSZ0.out _).mono ?_
      (rintro e1 w1 ⟨rfl, rfl⟩)
      go_wp2_with fail
      refine (HSZ1.out _).mono ?_
      (rintro e1 w1 ⟨rfl, rfl⟩)
      go_wp2_with fail
      refine (toPairS_any a0 c0 L0 _ (HIN0.out.below B0) hl0).mono ?_
      rintro e1 w1 ⟨v1, rfl, hr1, hb1⟩
      obtain ⟨x1, z1, rfl, hi1, hc1, hma1⟩ := hr1.inn
      have HR1 := Lib.hid hr1
      have HI1 := Lib.hid hi1
      clear hr1 hi1
      have B1 : Below w.heap.size w w1 := B0.trans (hb1.mono B0.size)
      have y1 := B1.size
      go_wp2_with fail
      refine (toPairS_any a1 c1 L1 _ (HIN1.out.below B1) hl1).mono ?_
      rintro e2 w2 ⟨v2, rfl, hr2, hb2⟩
      obtain ⟨x2, z2, rfl, hi2, hc2, hma2⟩ := hr2.inn
      have HR2 := Lib.hid hr2
      have HI2 := Lib.hid hi2
      clear hr2 hi2
      have B2 : Below w.heap.size w w2 := B1.trans (hb2.mono B1.size)
      have y2 := B2.size
      go_wp2_with fail
      refine (specCompareRatios_any x1 z1 L0 x2 z2 L1 _ (HI1.out.below hb2) (Nat.le_trans hc1 hma1) HI2.out (Nat.le_trans hc2 hma2)).mono ?_
      rintro e3 w3 ⟨rfl, hb3⟩
      have B3 : Below w.heap.size w w3 := B2.trans (hb3.mono B2.size)
      have y3 := B3.size
      go_wp2_with fail
      refine (toPairS_any a0 c0 L0 _ (HIN0.out.below B3) hl0).mono ?_
      rintro e4 w4 ⟨v4, rfl, hr4, hb4⟩
      obtain ⟨x4, z4, rfl, hi4, hc4, hma4⟩ := hr4.inn
      have HR4 := Lib.hid hr4
      have HI4 := Lib.hid hi4
      clear hr4 hi4
      have B4 : Below w.heap.size w w4 := B3.trans (hb4.mono B3.size)
      have y4 := B4.size
      go_wp2_with fail
      refine (toPairS_any a1 c1 L1 _ (HIN1.out.below B4) hl1).mono ?_
      rintro e5 w5 ⟨v5, rfl, hr5, hb5⟩
      obtain ⟨x5, z5, rfl, hi5, hc5, hma5⟩ := hr5.inn
      have HR5 := Lib.hid hr5
      have HI5 := Lib.hid hi5
      clear hr5 hi5
      have B5 : Below w.heap.size w w5 := B4.trans (hb5.mono B4.size)
      have y5 := B5.size
      go_wp2_with fail
      refine (implCompareRatios_any x4 z4 L0 x5 z5 L1 _ (HI4.out.below hb5) (Nat.le_trans hc4 hma4) HI5.out (Nat.le_trans hc5 hma5)).mono ?_
      rintro e6 w6 ⟨rfl, hb6⟩
      have B6 : Below w.heap.size w w6 := B5.trans (hb6.mono B5.size)
      have y6 := B6.size
      go_wp2_with fail
      refine (toPairS_any a0 c0 L0 _ (HIN0.out.below B6) hl0).mono ?_
      rintro e7 w7 ⟨v7, rfl, hr7, hb7⟩
      obtain ⟨x7, z7, rfl, hi7, hc7, hma7⟩ := hr7.inn
      have HR7 := Lib.hid hr7
      have HI7 := Lib.hid hi7
      clear hr7 hi7
      have B7 : Below w.heap.size w w7 := B6.trans (hb7.mono B6.size)
      have y7 := B7.size
      go_wp2_with fail
      refine (eqPairS_same L0 (.slice x4 L0.length z4) (.slice x7 L0.length z7) _ _ _ (((HR4.out.below hb5).below hb6).below hb7) HR7.out (by omega)).mono ?_
      rintro e8 w8 ⟨rfl, hb8⟩
      have B8 : Below w.heap.size w w8 := B7.trans (hb8.mono B7.size)
      have y8 := B8.size
      go_wp2_with fail
      refine (toPairS_any a1 c1 L1 _ (HIN1.out.below B8) hl1).mono ?_
      rintro e9 w9 ⟨v9, rfl, hr9, hb9⟩
      obtain ⟨x9, z9, rfl, hi9, hc9, hma9⟩ := hr9.inn
      have HR9 := Lib.hid hr9
      have HI9 := Lib.hid hi9
      clear hr9 hi9
      have B9 : Below w.heap.size w w9 := B8.trans (hb9.mono B8.size)
      have y9 := B9.size
      go_wp2_with fail
      refine (eqPairS_same L1 (.slice x5 L1.length z5) (.slice x9 L1.length z9) _ _ _ ((((HR5.out.below hb6).below hb7).below hb8).below hb9) HR9.out (by omega)).mono ?_
      rintro e10 w10 ⟨rfl, hb10⟩
      have B10 : Below w.heap.size w w10 := B9.trans (hb10.mono B9.size)
      have y10 := B10.size
      go_wp2
      go_ret
      exact ⟨rfl, B10⟩
    · have hln1 : (1048576 - (L0.length : Int)) - (L1.length : Int) < 0 := by omega
      have hsz1 := fun W => szPairS_any a1 L1.length c1 ((1048576 - (L0.length : Int))) W (by omega) hm1
      rw [if_pos hln1] at hsz1
      have HSZ1 := Lib.hid hsz1
      clear hsz1
      (go_enter Try.func18, Try.ntmps18)
      go_wp2_with fail
      refine (HSZ0.out _).mono ?_
      (rintro e1 w1 ⟨rfl, rfl⟩)
      go_wp2_with fail
      refine (HSZ1.out _).mono ?_
      (rintro e1 w1 ⟨rfl, rfl⟩)
      go_wp2
      go_ret
      exact ⟨rfl, B0⟩
  · have hln0 : 1048576 - (L0.length : Int) < 0 := by omega
    have hsz0 := fun W => szPairS_any a0 L0.length c0 (1048576) W (by omega) hm0
    rw [if_pos hln0] at hsz0
    have HSZ0 := Lib.hid hsz0
    clear hsz0
    (go_enter Try.func18, Try.ntmps18)
    go_wp2_with fail
    refine (HSZ0.out _).mono ?_
    (rintro e1 w1 ⟨rfl, rfl⟩)
    go_wp2
    go_ret
    exact ⟨rfl, B0⟩

set_option maxRecDepth 100000 in
theorem lifted (os : Os) (started : os.Started) (H : Type) (enc : TypeId × Value → H) :
    ReturnsInHanded {} Try.checked os 18 .any (Rows.fnExactCompareRatiosSpec.pre6 enc Try.prog Try.f18 Rows.fnExactCompareRatiosRow.domain false) (Rows.fnExactCompareRatiosSpec.post enc Try.prog Try.f18 false true false false) := by
  refine returnsInHanded_of_change (C := Try.checked) Try.own started (by kernel_rfl) Try.func18
    (ChangeSpec.witness6 (enc := enc) (C := Try.checked) false ⟨#[], #[.slice none 0 0, .slice none 0 0], []⟩ 8 (by kernel_rfl) (by kernel_rfl) (by kernel_rfl) (by kernel_rfl)) ?_
  intro W base args ds gs before hval0 hW hcnd _
  have hval : ∀ (j : Nat) t v, Try.f18.params[j]? = some t → args[j]? = some v → Value.okWide Try.prog W .any base t v := hval0
  have hW' := hW
  obtain ⟨p, q, hA0, hV, rfl, hfz, hnd⟩ := hW
  have hA : DataW.TrodAll enc Try.prog W 0 (fun _ => true) true Try.f18.params.toList args.toList ds p := hA0
  rw [Try.params18] at hA hval
  obtain ⟨v0, vs0, d_0, ds0, p0, q0, hargs, rfl, rfl, h0, r0⟩ := trodAll_cons hA
  obtain ⟨v1, vs1, d_1, ds1, p1, q1, rfl, rfl, rfl, h1, r1⟩ := trodAll_cons r0
  obtain ⟨rfl, rfl, rfl⟩ := trodAll_nil r1
  obtain rfl : args = #[v0, v1] := by cases args; simp_all
  obtain ⟨rfl, rfl⟩ := trodVars_none hV
  have h0k := h0
  obtain ⟨a0, c0, L0, rfl, hin0, hi0, hm0⟩ := open_pairs (hval 0 28 v0 rfl rfl) h0
  have h1k := h1
  obtain ⟨a1, c1, L1, rfl, hin1, hi1, hm1⟩ := open_pairs (hval 1 28 v1 rfl rfl) h1
  clear hA0 hval0
  simp only [List.append_nil, List.nil_append] at hW'
  have hlt0 : ∀ y ∈ p0, y.block < W.heap.size := fun y hy => by simpa using hW'.lt y (by simp [hy])
  have hlt1 : ∀ y ∈ p1, y.block < W.heap.size := fun y hy => by simpa using hW'.lt y (by simp [hy])
  refine (walk W a0 c0 L0 a1 c1 L1 hin0 hm0 hin1 hm1).mono fun e W' ⟨he, bel⟩ => ?_
  subst he
  have harg1 : DataW.Trod enc Try.prog W' 0 (fun b => decide (b < W.heap.size)) true 28 (.slice a1 L1.length c1) d_1 p1 :=
    Below.trod Try.laidOut (by kernel_rfl) (of_decide_eq_true (by kernel_rfl)) h1k bel hlt1
  have harg0 : DataW.Trod enc Try.prog W' 0 (fun b => decide (b < W.heap.size)) true 28 (.slice a0 L0.length c0) d_0 p0 :=
    Below.trod Try.laidOut (by kernel_rfl) (of_decide_eq_true (by kernel_rfl)) h0k bel hlt0
  exact ⟨_, rfl, _, _, _, [], _, [], hW', trodAll_mk1 (shut_bool Try.underlying4 _), (trodAll_cons_mk harg0 (trodAll_cons_mk harg1 trodAll_mk0)), rfl, bel.frame _, fun h => by cases h⟩

theorem closed : joinedFacts Try.prog 18 Try.f18 Rows.fnExactCompareRatiosSpec Rows.fnExactCompareRatiosRow = true := by
  unfold joinedFacts
  rw [Try.fMake, Try.fEnter, Try.fLifts, Try.fMaps, Try.fLaid, Try.fHeard, Try.fKeys]
  kernel_rfl
theorem over : Rows.fnExactCompareRatiosRow.holds Try.pinned (OpenSpec.ofChange Rows.fnExactCompareRatiosSpec) :=
  OpenClaim.holds_of_wide 18 Try.f18 rfl rfl rfl rfl rfl rfl rfl ⟨rfl, rfl, rfl, rfl, rfl⟩ rfl rfl rfl rfl rfl (by kernel_rfl) Try.func18
    closed (of_decide_eq_true (by kernel_rfl)) (by unfold Func.isWrapper; first | (rw [if_pos (by decide +kernel)]; kernel_rfl) | (rw [if_neg (by decide +kernel)]; exact ⟨rfl, rfl⟩))
    (fun os started H enc _ => lifted os started H enc)

end Go.Proofs.Ytaifcemdabcfjaa.fnExactCompareRatios
namespace Go.Proofs.Ytaifcemdabcfjaa
/-- The statement. -/
theorem fnExactCompareRatios_proved : Rows.FnExactCompareRatiosSaid := fnExactCompareRatios.over
#print axioms fnExactCompareRatios_proved
end Go.Proofs.Ytaifcemdabcfjaa