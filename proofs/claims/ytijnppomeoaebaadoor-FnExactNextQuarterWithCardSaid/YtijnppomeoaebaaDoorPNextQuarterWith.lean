/- FnExactNextQuarterWith: called with any arguments, the law returns true, and its arguments read behind the call as before. Conditions: none but the row's own (the library's listed tables hold what the program's text lays; the card ties that). -/
import Derived.Test.YtijnppomeoaebaaDoorRow
import Derived.Test.YtijnppomeoaebaaDoorBLaw
import Derived.Test.YtijnppomeoaebaaDoorBel12
import Derived.Test.YtijnppomeoaebaaDoorCards
import Derived.Test.YtijnppomeoaebaaDoorTie
import Derived.LaidMore
import Derived.ChangeMaps5
import Derived.HandedShaped
import Derived.Stop.Joined
import Derived.Stop.LaidErr
import Derived.Lib.LaidTab
import Derived.SevenTiedAt
set_option linter.unusedSimpArgs false
set_option linter.unusedVariables false
set_option maxRecDepth 100000
namespace Go.Proofs.YtijnppomeoaebaaDoor.nextQuarterWith
open Go.ChangeShapes Go.WideShapes Go.ChangeAt Go.WideMaps Go.WideElems Go.RowKit

set_option maxHeartbeats 4000000 in
theorem walk (w : World)  (a0 : Option Addr) (c0 : Nat) (L0 : List (List UInt8)) (t1 : Int) (t2 : Int) (hin0 : XIn w a0 L0) (hx0 : ∀ x ∈ L0, x.length ≤ maxLen) (hm0 : L0.length ≤ maxLen) (kt1 : I64 t1) (kt2 : I64 t2) :
    Calls Tryd.prog 4 #[.slice a0 L0.length c0, .int .i64 t1, .int .i64 t2] w fun e w' => e = .returned (.bool true) ∧ Below w.heap.size w w' := by
  have B0 : Below w.heap.size w w := Below.refl _ _
  have y0 := B0.size
  have HIN0 := Lib.hid hin0
  clear hin0
  obtain ⟨q0, hq0⟩ : ∃ q, szS L0 (1048576) = q := ⟨_, rfl⟩
  have hsz0 := szStringS_any a0 c0 L0 (1048576) w (by omega) hm0 hx0 HIN0.out
  rw [hq0] at hsz0
  have HSZ0 := Lib.hid hsz0
  clear hsz0
  by_cases hn0 : q0 < 0
  · clear hq0
    (go_enter Tryd.func4, Tryd.ntmps4)
    go_wp2_with fail
    refine (HSZ0.out).mono ?_
    (rintro e1 w1 ⟨rfl, rfl⟩)
    go_wp2
    go_ret
    exact ⟨rfl, B0⟩
  · obtain ⟨hl0, hs0, hq0_⟩ := szS_bd (by omega) hq0 hn0
    have HS0 := Lib.hid hs0
    clear hq0 hs0 hx0
    (go_enter Tryd.func4, Tryd.ntmps4)
    go_wp2_with fail
    refine (HSZ0.out).mono ?_
    (rintro e1 w1 ⟨rfl, rfl⟩)
    go_wp2_with fail
    refine (toStringS_any a0 c0 L0 _ (HIN0.out.below B0) (by omega)).mono ?_
    rintro e1 w1 ⟨v1, rfl, hr1, hb1⟩
    have B1 : Below w.heap.size w w1 := B0.trans (hb1.mono B0.size)
    have y1 := B1.size
    have z1 : w.heap.size ≤ w1.heap.size := hb1.size
    obtain ⟨a1k, c1k, rfl, hi1, hcap1, hcmx1⟩ := hr1.inn
    have IX0_1 := Lib.hid hi1
    clear hi1
    have X0_1 := Lib.hid hr1
    have X0_at := Lib.hid hr1
    clear hr1
    go_wp2_with fail
    refine (specNextQuarterWith_any a1k c1k L0 t1 t2 hm0 (fun k hk => Nat.le_trans (HS0.out k hk) (by unfold maxLen; omega)) _ IX0_1.out).mono ?_
    rintro e2 w2 ⟨rfl, hb2⟩
    have B2 : Below w.heap.size w w2 := B1.trans (hb2.mono B1.size)
    have y2 := B2.size
    have z2 : w1.heap.size ≤ w2.heap.size := hb2.size
    have IX0_2 := Lib.hid (XIn.below IX0_1.out hb2)
    clear IX0_1
    have X0_2 := Lib.hid (XRow.below X0_1.out hb2)
    clear X0_1
    go_wp2_with fail
    refine (toStringS_any a0 c0 L0 _ (HIN0.out.below B2) (by omega)).mono ?_
    rintro e3 w3 ⟨v3, rfl, hr3, hb3⟩
    have B3 : Below w.heap.size w w3 := B2.trans (hb3.mono B2.size)
    have y3 := B3.size
    have z3 : w2.heap.size ≤ w3.heap.size := hb3.size
    obtain ⟨a3k, c3k, rfl, hi3, hcap3, hcmx3⟩ := hr3.inn
    have IY0_3 := Lib.hid hi3
    clear hi3
    have Y0_3 := Lib.hid hr3
    have Y0_at := Lib.hid hr3
    clear hr3
    go_wp2_with fail
    refine (implNextQuarterWith_any a3k c3k L0 t1 t2 hm0 (fun k hk => Nat.le_trans (HS0.out k hk) (by unfold maxLen; omega)) _ IY0_3.out).mono ?_
    rintro e4 w4 ⟨rfl, hb4⟩
    have B4 : Below w.heap.size w w4 := B3.trans (hb4.mono B3.size)
    have y4 := B4.size
    have z4 : w3.heap.size ≤ w4.heap.size := hb4.size
    have IY0_4 := Lib.hid (XIn.below IY0_3.out hb4)
    clear IY0_3
    have Y0_4 := Lib.hid (XRow.below Y0_3.out hb4)
    clear Y0_3
    go_wp2_with fail
    refine (toStringS_any a0 c0 L0 _ (HIN0.out.below B4) (by omega)).mono ?_
    rintro e5 w5 ⟨v5, rfl, hr5, hb5⟩
    have B5 : Below w.heap.size w w5 := B4.trans (hb5.mono B4.size)
    have y5 := B5.size
    have z5 : w4.heap.size ≤ w5.heap.size := hb5.size
    have Y0_5 := Lib.hid (XRow.below Y0_4.out hb5)
    clear Y0_4
    have V0_5 := Lib.hid hr5
    have V0_at := Lib.hid hr5
    clear hr5
    go_wp2_with fail
    refine (eqStringS_same L0 (.slice a3k L0.length c3k) v5 _ _ _ Y0_5.out V0_5.out (by omega)).mono ?_
    rintro e6 w6 ⟨rfl, hb6⟩
    have B6 : Below w.heap.size w w6 := B5.trans (hb6.mono B5.size)
    have y6 := B6.size
    have z6 : w5.heap.size ≤ w6.heap.size := hb6.size
    have Y0_6 := Lib.hid (XRow.below Y0_5.out hb6)
    clear Y0_5
    have V0_6 := Lib.hid (XRow.below V0_5.out hb6)
    clear V0_5
    go_wp2
    go_ret
    exact ⟨rfl, B6⟩

theorem plain {W : World} (h : laidMetH Tryd.prog Rows.fnExactNextQuarterWithRow.laid W) : laidMet Tryd.prog Rows.fnExactNextQuarterWithRow.laid W := by
  rwa [MakeChecks.laidMetH_plain _ _ _ (by kernel_rfl)] at h

theorem door_met (os : Os) (args : Array Value) : laidMetH Tryd.prog Rows.fnExactNextQuarterWithRow.laid ((World.doorLaid Tryd.prog 400 os).forCall (fun _ _ => 0) ⟨#[], args, []⟩).memory :=
  laidMetH_of_parts3 (fuel := 8) (laidMet_of_run' 8 (by kernel_rfl) (by kernel_rfl)) (by kernel_rfl) (by kernel_rfl)

set_option maxRecDepth 100000 in
theorem body (H : Type) (enc : TypeId × Value → H) (W : World) (base : Nat) (args : Array Value) (ds gs : List (DataW H)) (before : List MemPlace)
    (hval : ∀ (j : Nat) t v, Tryd.f4.params[j]? = some t → args[j]? = some v → Value.okWide Tryd.prog W .any base t v)
    (hW : DataW.Whole enc Tryd.prog Tryd.f4.params.toList Rows.fnExactNextQuarterWithSpec.vars false W args.toList ds gs before)
    (hL : laidMetH Tryd.prog Rows.fnExactNextQuarterWithRow.laid W) (hS : W.ShapedOpen Tryd.prog) :
    Calls Tryd.prog 4 args W fun e W' => ∃ v, e = .returned v ∧ Rows.fnExactNextQuarterWithSpec.post enc Tryd.prog Tryd.f4 false true false false W args v W' := by
  have hW' := hW
  obtain ⟨p, q, hA0, hV, rfl, hfz, hnd⟩ := hW
  have hA : DataW.TrodAll enc Tryd.prog W 0 (fun _ => true) true Tryd.f4.params.toList args.toList ds p := hA0
  rw [Tryd.params4] at hA hval
  obtain ⟨v0, vs0, d_0, ds0, p0, q0, hargs, rfl, rfl, h0, r0⟩ := trodAll_cons hA
  obtain ⟨v1, vs1, d_1, ds1, p1, q1, rfl, rfl, rfl, h1, r1⟩ := trodAll_cons r0
  obtain ⟨v2, vs2, d_2, ds2, p2, q2, rfl, rfl, rfl, h2, r2⟩ := trodAll_cons r1
  obtain ⟨rfl, rfl, rfl⟩ := trodAll_nil r2
  obtain rfl : args = #[v0, v1, v2] := by cases args; simp_all
  obtain ⟨rfl, rfl⟩ := trodVars_none hV
  have h0k := h0
  obtain ⟨a0, c0, L0, rfl, hin0, hx0, hm0⟩ := open_texts (hval 0 22 v0 rfl rfl) h0
  obtain ⟨t1, rfl, rfl, rfl, wt1⟩ := open_int Tryd.underlying3 (hval 1 3 v1 rfl rfl) h1
  obtain ⟨t2, rfl, rfl, rfl, wt2⟩ := open_int Tryd.underlying3 (hval 2 3 v2 rfl rfl) h2
  clear hA0
  simp only [List.append_nil, List.nil_append] at hW'
  have hlt0 : ∀ y ∈ p0, y.block < W.heap.size := fun y hy => by simpa using hW'.lt y (by simp [hy])
  refine (walk W  a0 c0 L0 t1 t2 hin0 hx0 hm0 (i64_of_wf wt1) (i64_of_wf wt2)).mono fun e W' ⟨he, bel⟩ => ?_
  subst he
  have harg0 : DataW.Trod enc Tryd.prog W' 0 (fun b => decide (b < W.heap.size)) true 22 (.slice a0 L0.length c0) d_0 p0 :=
    Below.trod Tryd.laidOut (by kernel_rfl) (of_decide_eq_true (by kernel_rfl)) h0k bel hlt0
  exact ⟨_, rfl, _, _, _, [], _, [], hW', trodAll_mk1 (shut_bool Tryd.underlying4 _), (trodAll_cons_mk harg0 (trodAll_cons_mk (shut_int Tryd.underlying3 wt1) (trodAll_cons_mk (shut_int Tryd.underlying3 wt2) trodAll_mk0))), rfl, bel.frame _, fun h => by cases h⟩

set_option maxRecDepth 100000 in
theorem lifted (os : Os) (started : os.Started) (H : Type) (enc : TypeId × Value → H) :
    ReturnsInHanded {} Tryd.checked os 4 .any (fun w args => (Rows.fnExactNextQuarterWithSpec.pre enc Tryd.prog Tryd.f4 [] false w args ∧ laidMetH Tryd.prog Rows.fnExactNextQuarterWithRow.laid w) ∧ sizedMet enc Tryd.prog Tryd.f4 (OpenSpec.ofChange Rows.fnExactNextQuarterWithSpec) false w args)
      (Rows.fnExactNextQuarterWithSpec.post enc Tryd.prog Tryd.f4 false true false false) := by
  refine returnsInHanded_of_calls (C := Tryd.checked) Tryd.own started (by kernel_rfl)
    (ChangeSpec.witness_shaped (enc := enc) (C := Tryd.checked) (os := os) (X := fun w _ => laidMetH Tryd.prog Rows.fnExactNextQuarterWithRow.laid w) false (World.doorLaid Tryd.prog 400 os) #[.slice none 0 0, .int .i64 0, .int .i64 0] 8 rfl (World.shaped_of_RefB (by kernel_rfl) (by kernel_rfl)) (by kernel_rfl) (by kernel_rfl) (by kernel_rfl) (door_met os _)) ?_
  intro w tape i _ hsh _ hok hpre _
  obtain ⟨-, -, -, g, hg, -, -, -, -, hv⟩ := hok
  obtain rfl : g = Tryd.f4 := Option.some.inj (hg.symm.trans Tryd.func4)
  obtain ⟨⟨⟨ds, gs, before, hw, -⟩, hx⟩, -⟩ := hpre
  refine (body H enc (w.forCall tape i) w.heap.size i.args ds gs before hv (DataW.Whole.of_heap (by rfl) hw) (hx.of_heap (by rfl)) hsh).mono fun e W' he => ?_
  obtain ⟨v, rfl, hp⟩ := he
  exact ChangeSpec.post_blind hp

theorem over : Rows.FnExactNextQuarterWithSaid :=
  OpenClaim.holds_of_wide 4 Tryd.f4 rfl rfl rfl rfl rfl rfl rfl ⟨rfl, rfl, rfl, rfl, rfl⟩ rfl rfl rfl rfl rfl (by kernel_rfl) Tryd.func4 (by kernel_rfl)
    (of_decide_eq_true (by kernel_rfl)) (by unfold Func.isWrapper; first | (rw [if_pos (by decide +kernel)]; kernel_rfl) | (rw [if_neg (by decide +kernel)]; exact ⟨rfl, rfl⟩))
    (fun os started H enc _ => lifted os started H enc)
end Go.Proofs.YtijnppomeoaebaaDoor.nextQuarterWith
namespace Go.Proofs.YtijnppomeoaebaaDoor
/-- The statement: the card. -/
theorem fnExactNextQuarterWith_proved : Rows.FnExactNextQuarterWithCardSaid :=
  Claim7.holds_tied_plain_at .later [] [.data, .data, .data] true Rows.fnExactNextQuarterWithCard.stood.harness Rows.fnExactNextQuarterWithCard.stood.looks
    nextQuarterWith.over (fun _ h => by cases h) (by kernel_rfl) (fun _ h => by cases h) fnExactNextQuarterWith_row_tie rfl ⟨rfl, rfl⟩ (by kernel_rfl) rfl
    (fun f fn hf hfn => by
      obtain rfl : f = 4 := Option.some.inj ((show Tryd.prog.funcNamed Rows.fnExactNextQuarterWithRow.func = some 4 by kernel_rfl).symm.trans hf) |>.symm
      obtain rfl : fn = Tryd.f4 := (Option.some.inj (Tryd.func4.symm.trans hfn)).symm
      exact ⟨by kernel_rfl, fun j t ht => by
        rw [Tryd.params4] at ht
        have hm : t ∈ [22, 3, 3] := by simpa using Array.mem_of_getElem? ht
        have hall : ([22, 3, 3].all fun u => !Tryd.prog.wantsStandIn u) = true := by kernel_rfl
        exact (show Tryd.prog.wantsStandIn t = false by simpa using List.all_eq_true.1 hall t hm)⟩)
    (by kernel_rfl)
#print axioms fnExactNextQuarterWith_proved
end Go.Proofs.YtijnppomeoaebaaDoor