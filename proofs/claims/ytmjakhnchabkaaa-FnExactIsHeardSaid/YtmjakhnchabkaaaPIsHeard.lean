/- FnExactIsHeard: called with any arguments, the law returns true, and its arguments read behind the call as before. Conditions: none but the row's own. -/
import Derived.Test.YtmjakhnchabkaaaFacts
import Derived.Test.YtmjakhnchabkaaaRow
import Derived.Test.YtmjakhnchabkaaaStr12
import Derived.Test.YtmjakhnchabkaaaLate
set_option linter.unusedSimpArgs false
set_option linter.unusedVariables false
set_option maxRecDepth 100000
namespace Go.Proofs.Ytmjakhnchabkaaa.fnExactIsHeard
open Go.ChangeShapes Go.WideShapes Go.ChangeAt Go.RowKit

set_option maxHeartbeats 4000000 in
theorem walk (w : World) (a0 : Int) (a : Option Addr) (c : Nat) (L : List Int) (k0 : I64 a0) (hin : IIn w a L) (hm : L.length ≤ maxLen) :
    Calls Try.prog 9 #[.int .i64 a0, .slice a L.length c] w fun e w' => e = .returned (.bool true) ∧ Below w.heap.size w w' := by
  by_cases hl : L.length ≤ 1048576
  · have HIN := Lib.hid hin
    have hl' : ¬ (1048576 : Int) < (L.length : Int) := by omega
    clear hin
    (go_enter Try.func9, Try.ntmps9)
    go_wp2_with fail
    refine (toIntS_any a c L _ HIN.out hl).mono ?_
    rintro e1 w1 ⟨v1, rfl, hr1, hb1⟩
    have B1 := hb1
    have y1 := B1.size
    have z1 : w.heap.size ≤ w1.heap.size := hb1.size
    obtain ⟨a1, c1, rfl, hi1, -, -⟩ := hr1.inn
    have IX_1 := Lib.hid hi1
    clear hi1
    have X_1 := Lib.hid hr1
    have X_at := Lib.hid hr1
    clear hr1
    go_wp2_with fail
    refine (specIsHeard_any a0 L L.length rfl a1 c1 (by omega) _ IX_1.out).mono ?_
    rintro e2 w2 ⟨rfl, hb2⟩
    have B2 : Below w.heap.size w w2 := B1.trans (hb2.mono B1.size)
    have y2 := B2.size
    have z2 : w1.heap.size ≤ w2.heap.size := hb2.size
    have IX_2 := Lib.hid (IIn.below IX_1.out hb2)
    clear IX_1
    go_wp2_with fail
    refine (toIntS_any a c L _ (IIn.below HIN.out B2) hl).mono ?_
    rintro e3 w3 ⟨v3, rfl, hr3, hb3⟩
    have B3 : Below w.heap.size w w3 := B2.trans (hb3.mono B2.size)
    have y3 := B3.size
    have z3 : w2.heap.size ≤ w3.heap.size := hb3.size
    obtain ⟨a3, c3, rfl, hi3, -, -⟩ := hr3.inn
    have IY_3 := Lib.hid hi3
    clear hi3
    have Y_3 := Lib.hid hr3
    have Y_at := Lib.hid hr3
    clear hr3
    go_wp2_with fail
    refine (implIsHeard_any a0 L L.length rfl a3 c3 (by omega) _ IY_3.out).mono ?_
    rintro e4 w4 ⟨rfl, hb4⟩
    have B4 : Below w.heap.size w w4 := B3.trans (hb4.mono B3.size)
    have y4 := B4.size
    have z4 : w3.heap.size ≤ w4.heap.size := hb4.size
    have IY_4 := Lib.hid (IIn.below IY_3.out hb4)
    clear IY_3
    have Y_4 := Lib.hid (IRow.below Y_3.out hb4)
    clear Y_3
    go_wp2_with fail
    refine (toIntS_any a c L _ (IIn.below HIN.out B4) hl).mono ?_
    rintro e5 w5 ⟨v5, rfl, hr5, hb5⟩
    have B5 : Below w.heap.size w w5 := B4.trans (hb5.mono B4.size)
    have y5 := B5.size
    have z5 : w4.heap.size ≤ w5.heap.size := hb5.size
    have Y_5 := Lib.hid (IRow.below Y_4.out hb5)
    clear Y_4
    have V_5 := Lib.hid hr5
    have V_at := Lib.hid hr5
    clear hr5
    go_wp2_with fail
    refine (eqIntS_same L (.slice a3 L.length c3) v5 _ _ _ Y_5.out V_5.out (by omega)).mono ?_
    rintro e6 w6 ⟨rfl, hb6⟩
    have B6 : Below w.heap.size w w6 := B5.trans (hb6.mono B5.size)
    have y6 := B6.size
    have z6 : w5.heap.size ≤ w6.heap.size := hb6.size
    have Y_6 := Lib.hid (IRow.below Y_5.out hb6)
    clear Y_5
    have V_6 := Lib.hid (IRow.below V_5.out hb6)
    clear V_5
    go_wp2
    go_ret
    exact ⟨rfl, B6⟩
  · have hl' : (1048576 : Int) < (L.length : Int) := by omega
    (go_enter Try.func9, Try.ntmps9)
    go_wp2
    go_ret
    exact ⟨rfl, Below.refl _ _⟩

set_option maxRecDepth 100000 in
theorem lifted (os : Os) (started : os.Started) (H : Type) (enc : TypeId × Value → H) :
    ReturnsInHanded {} Try.checked os 9 .any (Rows.fnExactIsHeardSpec.pre6 enc Try.prog Try.f9 Rows.fnExactIsHeardRow.domain false) (Rows.fnExactIsHeardSpec.post enc Try.prog Try.f9 false true false false) := by
  refine returnsInHanded_of_change (C := Try.checked) Try.own started (by kernel_rfl) Try.func9
    (ChangeSpec.witness6 (enc := enc) (C := Try.checked) false ⟨#[], #[.int .i64 0, .slice none 0 0], []⟩ 8 (by kernel_rfl) (by kernel_rfl) (by kernel_rfl) (by kernel_rfl)) ?_
  intro W base args ds gs before hval0 hW hcnd _
  have hval : ∀ (j : Nat) t v, Try.f9.params[j]? = some t → args[j]? = some v → Value.okWide Try.prog W .any base t v := hval0
  have hW' := hW
  obtain ⟨p, q, hA0, hV, rfl, hfz, hnd⟩ := hW
  have hA : DataW.TrodAll enc Try.prog W 0 (fun _ => true) true Try.f9.params.toList args.toList ds p := hA0
  rw [Try.params9] at hA hval
  obtain ⟨v0, vs0, d_0, ds0, p0, q0, hargs, rfl, rfl, h0, r0⟩ := trodAll_cons hA
  obtain ⟨v1, vs1, d_1, ds1, p1, q1, rfl, rfl, rfl, h1, r1⟩ := trodAll_cons r0
  obtain ⟨rfl, rfl, rfl⟩ := trodAll_nil r1
  obtain rfl : args = #[v0, v1] := by cases args; simp_all
  obtain ⟨rfl, rfl⟩ := trodVars_none hV
  have h1k := h1
  obtain ⟨a0, rfl, rfl, rfl, w0⟩ := open_int Try.underlying3 (hval 0 3 v0 rfl rfl) h0
  obtain ⟨a, c, L, rfl, hin, hi, hm⟩ := open_ints' (hval 1 31 v1 rfl rfl) h1
  clear hA0 hval0
  simp only [List.append_nil, List.nil_append] at hW'
  have hlt : ∀ y ∈ p1, y.block < W.heap.size := fun y hy => by simpa using hW'.lt y (by simp [hy])
  refine (walk W a0 a c L (i64_of_wf w0) hin hm).mono fun e W' ⟨he, bel⟩ => ?_
  subst he
  have harg1 : DataW.Trod enc Try.prog W' 0 (fun b => decide (b < W.heap.size)) true 31 (.slice a L.length c) d_1 p1 :=
    Below.trod Try.laidOut (by kernel_rfl) (of_decide_eq_true (by kernel_rfl)) h1k bel hlt
  exact ⟨_, rfl, _, _, _, [], _, [], hW', trodAll_mk1 (shut_bool Try.underlying4 _), (trodAll_cons_mk (shut_int Try.underlying3 w0) (trodAll_cons_mk harg1 trodAll_mk0)), rfl, bel.frame _, fun h => by cases h⟩

theorem closed : joinedFacts Try.prog 9 Try.f9 Rows.fnExactIsHeardSpec Rows.fnExactIsHeardRow = true := by
  unfold joinedFacts
  rw [Try.fMake, Try.fEnter, Try.fLifts, Try.fMaps, Try.fLaid, Try.fHeard, Try.fKeys]
  kernel_rfl
theorem over : Rows.fnExactIsHeardRow.holds Try.pinned (OpenSpec.ofChange Rows.fnExactIsHeardSpec) :=
  OpenClaim.holds_of_wide 9 Try.f9 rfl rfl rfl rfl rfl rfl rfl ⟨rfl, rfl, rfl, rfl, rfl⟩ rfl rfl rfl rfl rfl (by kernel_rfl) Try.func9
    closed (of_decide_eq_true (by kernel_rfl)) (by unfold Func.isWrapper; first | (rw [if_pos (by decide +kernel)]; kernel_rfl) | (rw [if_neg (by decide +kernel)]; exact ⟨rfl, rfl⟩))
    (fun os started H enc _ => lifted os started H enc)

end Go.Proofs.Ytmjakhnchabkaaa.fnExactIsHeard
namespace Go.Proofs.Ytmjakhnchabkaaa
/-- The statement. -/
theorem fnExactIsHeard_proved : Rows.FnExactIsHeardSaid := fnExactIsHeard.over
#print axioms fnExactIsHeard_proved
end Go.Proofs.Ytmjakhnchabkaaa