/- FnExactBackTrain: called with any arguments, the law returns true, and its arguments read behind the call as before. Conditions: none but the row's own. -/
import Derived.Test.YtaifcemdabcfjaaFacts
import Derived.Test.YtaifcemdabcfjaaBack2
set_option linter.unusedSimpArgs false
set_option linter.unusedVariables false
set_option maxRecDepth 100000
namespace Go.Proofs.Ytaifcemdabcfjaa.fnExactBackTrain
open Go.ChangeShapes Go.WideShapes Go.ChangeAt Go.RowKit

theorem apart_symm {x y : Option Nat} (h : x = none ∨ x ≠ y) : y = none ∨ y ≠ x := by
  rcases h with rfl | h
  · exact Classical.em _
  · exact .inr fun e => h e.symm
set_option maxHeartbeats 4000000 in
theorem walk (w : World) (a0 : Option Addr) (c0 : Nat) (L0 : List (Int × Int)) (hin0 : PIn w a0 L0) (hm0 : L0.length ≤ maxLen) :
    Calls Try.prog 8 #[.slice a0 L0.length c0] w fun e w' => e = .returned (.bool true) ∧ Below w.heap.size w w' := by
  have B0 : Below w.heap.size w w := Below.refl _ _
  have HIN := Lib.hid hin0
  have HLEN := Lib.hid (show (backR L0).1.length ≤ 2000000 from by unfold backR; split <;> simp [backK_len]; rename_i h; have := (trainB_bd h).1; omega)
  clear hin0
  by_cases hl0 : L0.length ≤ 1048576 ∧ ¬ (1048576 : Int) - (L0.length : Int) < 0
  · obtain ⟨hl0, hl0n⟩ := hl0
    have hsz := fun W => szPairS_any a0 L0.length c0 1048576 W (by omega) hm0
    rw [if_neg hl0n] at hsz
    have HSZ := Lib.hid hsz
    clear hsz
    (go_enter Try.func8, Try.ntmps8)
    go_wp2_with fail
    refine (HSZ.out _).mono ?_
    (rintro e1 w1 ⟨rfl, rfl⟩)
    go_wp2_with fail
    refine (toPairS_any a0 c0 L0 _ (HIN.out.below B0) hl0).mono ?_
    rintro e1 w1 ⟨v1, rfl, hr1, hb1⟩
    obtain ⟨x1, z1, rfl, hi1, hc1, hma1⟩ := hr1.inn
    have RR1 := Lib.hid hr1
    have HI1 := Lib.hid hi1
    clear hr1 hi1
    have B1 : Below w.heap.size w w1 := B0.trans (hb1.mono B0.size)
    have y1 := B1.size
    go_wp2_with fail
    refine (specBackTrain_any x1 z1 L0 _ HI1.out (Nat.le_trans hc1 hma1)).mono ?_
    rintro e2 w2 ⟨v2, rfl, hr2, hb2⟩
    have RR2 := Lib.hid hr2
    clear hr2
    have B2 : Below w.heap.size w w2 := B1.trans (hb2.mono B1.size)
    have y2 := B2.size
    go_wp2_with fail
    refine (toPairS_any a0 c0 L0 _ (HIN.out.below B2) hl0).mono ?_
    rintro e3 w3 ⟨v3, rfl, hr3, hb3⟩
    obtain ⟨x3, z3, rfl, hi3, hc3, hma3⟩ := hr3.inn
    have RR3 := Lib.hid hr3
    have HI3 := Lib.hid hi3
    clear hr3 hi3
    have B3 : Below w.heap.size w w3 := B2.trans (hb3.mono B2.size)
    have y3 := B3.size
    go_wp2_with fail
    refine (implBackTrain_any x3 z3 L0 _ HI3.out (Nat.le_trans hc3 hma3)).mono ?_
    rintro e4 w4 ⟨v4, rfl, hr4, hb4⟩
    have RR4 := Lib.hid hr4
    clear hr4
    have B4 : Below w.heap.size w w4 := B3.trans (hb4.mono B3.size)
    have y4 := B4.size
    have S4 := Lib.hid ((RR2.out.below hb3).below hb4)
    go_wp2_with fail
    refine (eqPairS_same (backR L0).1 v4 v2 _ _ _ RR4.out S4.out HLEN.out).mono ?_
    rintro e5 w5 ⟨rfl, hb5⟩
    have B5 : Below w.heap.size w w5 := B4.trans (hb5.mono B4.size)
    have y5 := B5.size
    go_wp2_with fail
    refine (toPairS_any a0 c0 L0 _ (HIN.out.below B5) hl0).mono ?_
    rintro e6 w6 ⟨v6, rfl, hr6, hb6⟩
    obtain ⟨x6, z6, rfl, hi6, hc6, hma6⟩ := hr6.inn
    have RR6 := Lib.hid hr6
    have HI6 := Lib.hid hi6
    clear hr6 hi6
    have B6 : Below w.heap.size w w6 := B5.trans (hb6.mono B5.size)
    have y6 := B6.size
    have G6 := Lib.hid (((RR3.out.below hb4).below hb5).below hb6)
    go_wp2_with fail
    refine (eqPairS_same L0 (.slice x3 L0.length z3) (.slice x6 L0.length z6) _ _ _ G6.out RR6.out (by omega)).mono ?_
    rintro e7 w7 ⟨rfl, hb7⟩
    have B7 : Below w.heap.size w w7 := B6.trans (hb7.mono B6.size)
    have y7 := B7.size
    have G7 := Lib.hid (G6.out.below hb7)
    have S7 := Lib.hid ((S4.out.below hb5).below hb6 |>.below hb7)
    have N7 := Lib.hid (((RR4.out.below hb5).below hb6).below hb7)
    have p3 : ¬ (1 + 2 * (L0.length : Int)) < 0 := by omega
    go_wp2_with fail
    refine (markPairS_any L0 (.slice x3 L0.length z3) _ 1 _ G7.out (by omega) (by omega) (by omega)).mono ?_
    rintro e8 w8 ⟨rfl, hr8, hg8⟩
    clear hr8
    have B8 : Below w.heap.size w w8 := Below.grown (w := w7) B7 hg8 (by omega) (fun j hj => by have := RR3.out.low j hj; omega)
    have y8 := B8.size
    have S8 := Lib.hid (S7.out.kept hg8 (RowPair.apart RR2.out RR3.out (by omega)))
    have N8 := Lib.hid (N7.out.kept hg8 (apart_symm (RowPair.apart RR3.out RR4.out (by omega))))
    clear hg8
    go_wp2_with fail
    refine (eqPairS_same (backR L0).1 v4 v2 _ _ _ N8.out S8.out HLEN.out).mono ?_
    rintro e9 w9 ⟨rfl, hb9⟩
    have B9 : Below w.heap.size w w9 := B8.trans (hb9.mono B8.size)
    have y9 := B9.size
    have S9 := Lib.hid (S8.out.below hb9)
    have N9 := Lib.hid (N8.out.below hb9)
    go_wp2_with fail
    refine (markPairS_any (backR L0).1 v4 _ 1 _ N9.out HLEN.out (by omega) (by omega)).mono ?_
    rintro e10 w10 ⟨rfl, hr10, hg10⟩
    have M10 := Lib.hid hr10
    clear hr10
    have B10 : Below w.heap.size w w10 := Below.grown (w := w9) B9 hg10 (by omega) (fun j hj => by have := RR4.out.low j hj; omega)
    have y10 := B10.size
    have S10 := Lib.hid (S9.out.kept hg10 (RowPair.apart RR2.out RR4.out hb3.size))
    clear hg10
    have p2 : ¬ (1 + 2 * (((backR L0).1.length : Nat) : Int)) < 0 := by omega
    go_wp2_with fail
    refine (heldPairS_marked (backR L0).1 v4 _ 1 _ M10.out HLEN.out (by omega) (by omega)).mono ?_
    rintro e11 w11 ⟨rfl, hb11⟩
    have B11 : Below w.heap.size w w11 := B10.trans (hb11.mono B10.size)
    have y11 := B11.size
    go_wp2_with fail
    refine (toPairS_any a0 c0 L0 _ (HIN.out.below B11) hl0).mono ?_
    rintro e12 w12 ⟨v12, rfl, hr12, hb12⟩
    obtain ⟨x12, z12, rfl, hi12, hc12, hma12⟩ := hr12.inn
    have RR12 := Lib.hid hr12
    have HI12 := Lib.hid hi12
    clear hr12 hi12
    have B12 : Below w.heap.size w w12 := B11.trans (hb12.mono B11.size)
    have y12 := B12.size
    go_wp2_with fail
    refine (implBackTrain_any x12 z12 L0 _ HI12.out (Nat.le_trans hc12 hma12)).mono ?_
    rintro e13 w13 ⟨v13, rfl, hr13, hb13⟩
    have RR13 := Lib.hid hr13
    clear hr13
    have B13 : Below w.heap.size w w13 := B12.trans (hb13.mono B12.size)
    have y13 := B13.size
    have S13 := Lib.hid ((S10.out.below hb11).below hb12 |>.below hb13)
    have M13 := Lib.hid ((M10.out.below hb11).below hb12 |>.below hb13)
    go_wp2_with fail
    refine (eqPairS_same (backR L0).1 v13 v2 _ _ _ RR13.out S13.out HLEN.out).mono ?_
    rintro e14 w14 ⟨rfl, hb14⟩
    have B14 : Below w.heap.size w w14 := B13.trans (hb14.mono B13.size)
    have y14 := B14.size
    go_wp2_with fail
    refine (heldPairS_marked (backR L0).1 v4 _ 1 _ (M13.out.below hb14) HLEN.out (by omega) (by omega)).mono ?_
    rintro e15 w15 ⟨rfl, hb15⟩
    have B15 : Below w.heap.size w w15 := B14.trans (hb15.mono B14.size)
    have y15 := B15.size
    go_wp2
    go_ret
    exact ⟨rfl, B15⟩
  · have hln : (1048576 : Int) - (L0.length : Int) < 0 := by omega
    have hsz := fun W => szPairS_any a0 L0.length c0 1048576 W (by omega) hm0
    rw [if_pos hln] at hsz
    have HSZ := Lib.hid hsz
    clear hsz
    (go_enter Try.func8, Try.ntmps8)
    go_wp2_with fail
    refine (HSZ.out _).mono ?_
    (rintro e1 w1 ⟨rfl, rfl⟩)
    go_wp2
    go_ret
    exact ⟨rfl, B0⟩

set_option maxRecDepth 100000 in
theorem lifted (os : Os) (started : os.Started) (H : Type) (enc : TypeId × Value → H) :
    ReturnsInHanded {} Try.checked os 8 .any (Rows.fnExactBackTrainSpec.pre6 enc Try.prog Try.f8 Rows.fnExactBackTrainRow.domain false) (Rows.fnExactBackTrainSpec.post enc Try.prog Try.f8 false true false false) := by
  refine returnsInHanded_of_change (C := Try.checked) Try.own started (by kernel_rfl) Try.func8
    (ChangeSpec.witness6 (enc := enc) (C := Try.checked) false ⟨#[], #[.slice none 0 0], []⟩ 8 (by kernel_rfl) (by kernel_rfl) (by kernel_rfl) (by kernel_rfl)) ?_
  intro W base args ds gs before hval0 hW hcnd _
  have hval : ∀ (j : Nat) t v, Try.f8.params[j]? = some t → args[j]? = some v → Value.okWide Try.prog W .any base t v := hval0
  have hW' := hW
  obtain ⟨p, q, hA0, hV, rfl, hfz, hnd⟩ := hW
  have hA : DataW.TrodAll enc Try.prog W 0 (fun _ => true) true Try.f8.params.toList args.toList ds p := hA0
  rw [Try.params8] at hA hval
  obtain ⟨v0, vs0, d_0, ds0, p0, q0, hargs, rfl, rfl, h0, r0⟩ := trodAll_cons hA
  obtain ⟨rfl, rfl, rfl⟩ := trodAll_nil r0
  obtain rfl : args = #[v0] := by cases args; simp_all
  obtain ⟨rfl, rfl⟩ := trodVars_none hV
  have h0k := h0
  obtain ⟨a0, c0, L0, rfl, hin0, hi0, hm0⟩ := open_pairs (hval 0 28 v0 rfl rfl) h0
  clear hA0 hval0
  simp only [List.append_nil, List.nil_append] at hW'
  have hlt0 : ∀ y ∈ p0, y.block < W.heap.size := fun y hy => by simpa using hW'.lt y (by simp [hy])
  refine (walk W a0 c0 L0 hin0 hm0).mono fun e W' ⟨he, bel⟩ => ?_
  subst he
  have harg0 : DataW.Trod enc Try.prog W' 0 (fun b => decide (b < W.heap.size)) true 28 (.slice a0 L0.length c0) d_0 p0 :=
    Below.trod Try.laidOut (by kernel_rfl) (of_decide_eq_true (by kernel_rfl)) h0k bel hlt0
  exact ⟨_, rfl, _, _, _, [], _, [], hW', trodAll_mk1 (shut_bool Try.underlying4 _), (trodAll_cons_mk harg0 trodAll_mk0), rfl, bel.frame _, fun h => by cases h⟩

theorem closed : joinedFacts Try.prog 8 Try.f8 Rows.fnExactBackTrainSpec Rows.fnExactBackTrainRow = true := by
  unfold joinedFacts
  rw [Try.fMake, Try.fEnter, Try.fLifts, Try.fMaps, Try.fLaid, Try.fHeard, Try.fKeys]
  kernel_rfl
theorem over : Rows.fnExactBackTrainRow.holds Try.pinned (OpenSpec.ofChange Rows.fnExactBackTrainSpec) :=
  OpenClaim.holds_of_wide 8 Try.f8 rfl rfl rfl rfl rfl rfl rfl ⟨rfl, rfl, rfl, rfl, rfl⟩ rfl rfl rfl rfl rfl (by kernel_rfl) Try.func8
    closed (of_decide_eq_true (by kernel_rfl)) (by unfold Func.isWrapper; first | (rw [if_pos (by decide +kernel)]; kernel_rfl) | (rw [if_neg (by decide +kernel)]; exact ⟨rfl, rfl⟩))
    (fun os started H enc _ => lifted os started H enc)

end Go.Proofs.Ytaifcemdabcfjaa.fnExactBackTrain
namespace Go.Proofs.Ytaifcemdabcfjaa
/-- The statement. -/
theorem fnExactBackTrain_proved : Rows.FnExactBackTrainSaid := fnExactBackTrain.over
#print axioms fnExactBackTrain_proved
end Go.Proofs.Ytaifcemdabcfjaa