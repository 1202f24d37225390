/- FnExactTuneText: called with any arguments, the law returns true, and its arguments read behind the call as before. Conditions: none but the row's own. -/
import Derived.Test.YtijnppomeoaebaaFacts
import Derived.Test.YtijnppomeoaebaaBLaw
import Derived.Test.YtijnppomeoaebaaBel8
set_option linter.unusedSimpArgs false
set_option linter.unusedVariables false
set_option maxRecDepth 100000
namespace Go.Proofs.Ytijnppomeoaebaa.fnExactTuneText
open Go.ChangeShapes Go.WideShapes Go.ChangeAt Go.RowKit

set_option maxHeartbeats 4000000 in
theorem walk (w : World) (a0 : Option Addr) (c0 : Nat) (L0 : List (List UInt8)) (hin0 : XIn w a0 L0) (hx0 : ∀ x ∈ L0, x.length ≤ maxLen) (hm0 : L0.length ≤ maxLen) :
    Calls Try.prog 11 #[.slice a0 L0.length c0] w fun e w' => e = .returned (.bool true) ∧ Below w.heap.size w w' := by
  have B0 : Below w.heap.size w w := Below.refl _ _
  have y0 := B0.size
  have HIN0 := Lib.hid hin0
  clear hin0
  obtain ⟨q0, hq0⟩ : ∃ q, szS L0 (1048576) = q := ⟨_, rfl⟩
  have hsz0 := szStringS_any a0 c0 L0 (1048576) w (by omega) hm0 hx0 HIN0.out
  rw [hq0] at hsz0
  have HSZ0 := Lib.hid hsz0
  clear hsz0
  by_cases hn0 : q0 < 0
  · clear hq0
    (go_enter Try.func11, Try.ntmps11)
    go_wp2_with fail
    refine (HSZ0.out).mono ?_
    (rintro e1 w1 ⟨rfl, rfl⟩)
    go_wp2
    go_ret
    exact ⟨rfl, B0⟩
  · obtain ⟨hl0, hs0, hq0_⟩ := szS_bd (by omega) hq0 hn0
    have HS0 := Lib.hid hs0
    clear hq0 hs0 hx0
    (go_enter Try.func11, Try.ntmps11)
    go_wp2_with fail
    refine (HSZ0.out).mono ?_
    (rintro e1 w1 ⟨rfl, rfl⟩)
    go_wp2_with fail
    refine (toStringS_any a0 c0 L0 _ (HIN0.out.below B0) (by omega)).mono ?_
    rintro e1 w1 ⟨v1, rfl, hr1, hb1⟩
    have B1 : Below w.heap.size w w1 := B0.trans (hb1.mono B0.size)
    have y1 := B1.size
    have z1 : w.heap.size ≤ w1.heap.size := hb1.size
    obtain ⟨a1k, c1k, rfl, hi1, hcap1, -⟩ := hr1.inn
    have IX0_1 := Lib.hid hi1
    clear hi1
    have X0_1 := Lib.hid hr1
    have X0_at := Lib.hid hr1
    clear hr1
    go_wp2_with fail
    refine (specTuneText_any a1k c1k L0 hcap1 hm0 (fun k hk => Nat.le_trans (HS0.out k hk) (by unfold maxLen; omega)) _ IX0_1.out).mono ?_
    rintro e2 w2 ⟨rfl, hb2⟩
    have B2 : Below w.heap.size w w2 := B1.trans (hb2.mono B1.size)
    have y2 := B2.size
    have z2 : w1.heap.size ≤ w2.heap.size := hb2.size
    have IX0_2 := Lib.hid (XIn.below IX0_1.out hb2)
    clear IX0_1
    have X0_2 := Lib.hid (XRow.below X0_1.out hb2)
    clear X0_1
    go_wp2_with fail
    refine (toStringS_any a0 c0 L0 _ (HIN0.out.below B2) (by omega)).mono ?_
    rintro e3 w3 ⟨v3, rfl, hr3, hb3⟩
    have B3 : Below w.heap.size w w3 := B2.trans (hb3.mono B2.size)
    have y3 := B3.size
    have z3 : w2.heap.size ≤ w3.heap.size := hb3.size
    obtain ⟨a3k, c3k, rfl, hi3, hcap3, -⟩ := hr3.inn
    have IY0_3 := Lib.hid hi3
    clear hi3
    have Y0_3 := Lib.hid hr3
    have Y0_at := Lib.hid hr3
    clear hr3
    go_wp2_with fail
    refine (implTuneText_any a3k c3k L0 hcap3 hm0 (fun k hk => Nat.le_trans (HS0.out k hk) (by unfold maxLen; omega)) _ IY0_3.out).mono ?_
    rintro e4 w4 ⟨rfl, hb4⟩
    have B4 : Below w.heap.size w w4 := B3.trans (hb4.mono B3.size)
    have y4 := B4.size
    have z4 : w3.heap.size ≤ w4.heap.size := hb4.size
    have IY0_4 := Lib.hid (XIn.below IY0_3.out hb4)
    clear IY0_3
    have Y0_4 := Lib.hid (XRow.below Y0_3.out hb4)
    clear Y0_3
    go_wp2_with fail
    refine (toStringS_any a0 c0 L0 _ (HIN0.out.below B4) (by omega)).mono ?_
    rintro e5 w5 ⟨v5, rfl, hr5, hb5⟩
    have B5 : Below w.heap.size w w5 := B4.trans (hb5.mono B4.size)
    have y5 := B5.size
    have z5 : w4.heap.size ≤ w5.heap.size := hb5.size
    have Y0_5 := Lib.hid (XRow.below Y0_4.out hb5)
    clear Y0_4
    have V0_5 := Lib.hid hr5
    have V0_at := Lib.hid hr5
    clear hr5
    go_wp2_with fail
    refine (eqStringS_same L0 (.slice a3k L0.length c3k) v5 _ _ _ Y0_5.out V0_5.out (by omega)).mono ?_
    rintro e6 w6 ⟨rfl, hb6⟩
    have B6 : Below w.heap.size w w6 := B5.trans (hb6.mono B5.size)
    have y6 := B6.size
    have z6 : w5.heap.size ≤ w6.heap.size := hb6.size
    have Y0_6 := Lib.hid (XRow.below Y0_5.out hb6)
    clear Y0_5
    have V0_6 := Lib.hid (XRow.below V0_5.out hb6)
    clear V0_5
    go_wp2
    go_ret
    exact ⟨rfl, B6⟩


set_option maxRecDepth 100000 in
theorem lifted (os : Os) (started : os.Started) (H : Type) (enc : TypeId × Value → H) :
    ReturnsInHanded {} Try.checked os 11 .any (Rows.fnExactTuneTextSpec.pre6 enc Try.prog Try.f11 Rows.fnExactTuneTextRow.domain false) (Rows.fnExactTuneTextSpec.post enc Try.prog Try.f11 false true false false) := by
  refine returnsInHanded_of_change (C := Try.checked) Try.own started (by kernel_rfl) Try.func11
    (ChangeSpec.witness6 (enc := enc) (C := Try.checked) false ⟨#[], #[.slice none 0 0], []⟩ 8 (by kernel_rfl) (by kernel_rfl) (by kernel_rfl) (by kernel_rfl)) ?_
  intro W base args ds gs before hval0 hW hcnd _
  have hval : ∀ (j : Nat) t v, Try.f11.params[j]? = some t → args[j]? = some v → Value.okWide Try.prog W .any base t v := hval0
  have hW' := hW
  obtain ⟨p, q, hA0, hV, rfl, hfz, hnd⟩ := hW
  have hA : DataW.TrodAll enc Try.prog W 0 (fun _ => true) true Try.f11.params.toList args.toList ds p := hA0
  rw [Try.params11] at hA hval
  obtain ⟨v0, vs0, d_0, ds0, p0, q0, hargs, rfl, rfl, h0, r0⟩ := trodAll_cons hA
  obtain ⟨rfl, rfl, rfl⟩ := trodAll_nil r0
  obtain rfl : args = #[v0] := by cases args; simp_all
  obtain ⟨rfl, rfl⟩ := trodVars_none hV
  have h0k := h0
  obtain ⟨a0, c0, L0, rfl, hin0, hx0, hm0⟩ := open_texts (hval 0 22 v0 rfl rfl) h0
  clear hA0 hval0
  simp only [List.append_nil, List.nil_append] at hW'
  have hlt0 : ∀ y ∈ p0, y.block < W.heap.size := fun y hy => by simpa using hW'.lt y (by simp [hy])
  refine (walk W a0 c0 L0 hin0 hx0 hm0).mono fun e W' ⟨he, bel⟩ => ?_
  subst he
  have harg0 : DataW.Trod enc Try.prog W' 0 (fun b => decide (b < W.heap.size)) true 22 (.slice a0 L0.length c0) d_0 p0 :=
    Below.trod Try.laidOut (by kernel_rfl) (of_decide_eq_true (by kernel_rfl)) h0k bel hlt0
  exact ⟨_, rfl, _, _, _, [], _, [], hW', trodAll_mk1 (shut_bool Try.underlying4 _), (trodAll_cons_mk harg0 trodAll_mk0), rfl, bel.frame _, fun h => by cases h⟩

theorem closed : joinedFacts Try.prog 11 Try.f11 Rows.fnExactTuneTextSpec Rows.fnExactTuneTextRow = true := by
  unfold joinedFacts
  rw [Try.fMake, Try.fEnter, Try.fLifts, Try.fMaps, Try.fLaid, Try.fHeard, Try.fKeys]
  kernel_rfl
theorem over : Rows.fnExactTuneTextRow.holds Try.pinned (OpenSpec.ofChange Rows.fnExactTuneTextSpec) :=
  OpenClaim.holds_of_wide 11 Try.f11 rfl rfl rfl rfl rfl rfl rfl ⟨rfl, rfl, rfl, rfl, rfl⟩ rfl rfl rfl rfl rfl (by kernel_rfl) Try.func11
    closed (of_decide_eq_true (by kernel_rfl)) (by unfold Func.isWrapper; first | (rw [if_pos (by decide +kernel)]; kernel_rfl) | (rw [if_neg (by decide +kernel)]; exact ⟨rfl, rfl⟩))
    (fun os started H enc _ => lifted os started H enc)

end Go.Proofs.Ytijnppomeoaebaa.fnExactTuneText
namespace Go.Proofs.Ytijnppomeoaebaa
/-- The statement. -/
theorem fnExactTuneText_proved : Rows.FnExactTuneTextSaid := fnExactTuneText.over
#print axioms fnExactTuneText_proved
end Go.Proofs.Ytijnppomeoaebaa