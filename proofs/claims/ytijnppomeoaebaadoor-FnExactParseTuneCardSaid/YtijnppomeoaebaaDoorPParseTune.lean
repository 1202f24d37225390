/- FnExactParseTune: called with any arguments, the law returns true, and its arguments read behind the call as before. Conditions: none but the row's own (the library's listed tables hold what the program's text lays; the card ties that). -/
import Derived.Test.YtijnppomeoaebaaDoorRow
import Derived.Test.YtijnppomeoaebaaDoorBLaw
import Derived.Test.YtijnppomeoaebaaDoorBel14
import Derived.PinnedBridge
import Derived.Lay
import Derived.LaidOnce
import Derived.Test.YtijnppomeoaebaaDoorCards
import Derived.Test.YtijnppomeoaebaaDoorTie
import Derived.LaidMore
import Derived.ChangeMaps5
import Derived.HandedShaped
import Derived.Stop.Joined
import Derived.Stop.LaidErr
import Derived.Lib.LaidTab
import Derived.SevenTiedAt
set_option linter.unusedSimpArgs false
set_option linter.unusedVariables false
set_option maxRecDepth 100000
namespace Go.Proofs.YtijnppomeoaebaaDoor.parseTune
open Go.ChangeShapes Go.WideShapes Go.ChangeAt Go.WideMaps Go.WideElems Go.RowKit

set_option maxHeartbeats 4000000 in
theorem walk (w : World) (hC : CutW w) (l0 : List UInt8)  :
    Calls Tryd.prog 6 #[str l0] w fun e w' => e = .returned (.bool true) ∧ Below w.heap.size w w' := by
  have HC := Lib.hid hC
  clear hC
  have B0 : Below w.heap.size w w := Below.refl _ _
  have y0 := B0.size
  by_cases hl : l0.length ≤ 1048576
  · have i1 : ¬ (1048576 : Int) < (l0.length : Int) := by omega
    have HLEN := Lib.hid (show ((ptR l0).1).length ≤ 2000000 from ptR_len l0)
    (go_enter Tryd.func6, Tryd.ntmps6)
    go_wp2_with fail
    refine (specParseTune_any l0 hl _).mono ?_
    rintro e1 w1 ⟨v1, rfl, hr1, hb1⟩
    have B1 : Below w.heap.size w w1 := B0.trans (hb1.mono B0.size)
    have y1 := B1.size
    have z1 : w.heap.size ≤ w1.heap.size := hb1.size
    have S_1 := Lib.hid hr1
    have S_at := Lib.hid hr1
    clear hr1
    go_wp2_with fail
    refine (implParseTune_any l0 hl _ (CutW.below HC.out B1)).mono ?_
    rintro e2 w2 ⟨v2, rfl, hr2, hb2⟩
    have B2 : Below w.heap.size w w2 := B1.trans (hb2.mono B1.size)
    have y2 := B2.size
    have z2 : w1.heap.size ≤ w2.heap.size := hb2.size
    have S_2 := Lib.hid (XRow.below S_1.out hb2)
    clear S_1
    have G_2 := Lib.hid hr2
    have G_at := Lib.hid hr2
    clear hr2
    go_wp2_with fail
    refine (eqStringS_same (ptR l0).1 v2 v1 _ _ _ G_2.out S_2.out HLEN.out).mono ?_
    rintro e3 w3 ⟨rfl, hb3⟩
    have B3 : Below w.heap.size w w3 := B2.trans (hb3.mono B2.size)
    have y3 := B3.size
    have z3 : w2.heap.size ≤ w3.heap.size := hb3.size
    have S_3 := Lib.hid (XRow.below S_2.out hb3)
    clear S_2
    have G_3 := Lib.hid (XRow.below G_2.out hb3)
    clear G_2
    go_wp2_with fail
    refine (markStringS_any (ptR l0).1 v2 _ 1 _ G_3.out HLEN.out (by omega) (by omega)).mono ?_
    rintro e4 w4 ⟨rfl, hr4, hg4⟩
    have B4 : Below w.heap.size w w4 := Below.grown (w := w3) B3 hg4 (by omega) (fun j hj => by have := XRow.low G_at.out j hj; omega)
    have y4 := B4.size
    have z4 : w3.heap.size ≤ w4.heap.size := hg4.size
    have S_4 := Lib.hid (XRow.kept S_3.out hg4 (apart_rows (fun j hj => XRow.top S_at.out j hj) (fun j hj => XRow.low G_at.out j hj) (by omega)))
    have Gm_4 := Lib.hid hr4
    clear hr4 hg4
    have p10 : ¬ (1 + (((ptR l0).1).length : Int)) < 0 := by omega
    go_wp2_with fail
    refine (heldStringS_marked (ptR l0).1 v2 _ 1 _ Gm_4.out HLEN.out (by omega) (by omega)).mono ?_
    rintro e5 w5 ⟨rfl, hb5⟩
    have B5 : Below w.heap.size w w5 := B4.trans (hb5.mono B4.size)
    have y5 := B5.size
    have z5 : w4.heap.size ≤ w5.heap.size := hb5.size
    have S_5 := Lib.hid (XRow.below S_4.out hb5)
    clear S_4
    have Gm_5 := Lib.hid (XRow.below Gm_4.out hb5)
    clear Gm_4
    go_wp2_with fail
    refine (implParseTune_any l0 hl _ (CutW.below HC.out B5)).mono ?_
    rintro e6 w6 ⟨v6, rfl, hr6, hb6⟩
    have B6 : Below w.heap.size w w6 := B5.trans (hb6.mono B5.size)
    have y6 := B6.size
    have z6 : w5.heap.size ≤ w6.heap.size := hb6.size
    have S_6 := Lib.hid (XRow.below S_5.out hb6)
    clear S_5
    have Gm_6 := Lib.hid (XRow.below Gm_5.out hb6)
    clear Gm_5
    have H_6 := Lib.hid hr6
    have H_at := Lib.hid hr6
    clear hr6
    go_wp2_with fail
    refine (eqStringS_same (ptR l0).1 v6 v1 _ _ _ H_6.out S_6.out HLEN.out).mono ?_
    rintro e7 w7 ⟨rfl, hb7⟩
    have B7 : Below w.heap.size w w7 := B6.trans (hb7.mono B6.size)
    have y7 := B7.size
    have z7 : w6.heap.size ≤ w7.heap.size := hb7.size
    have S_7 := Lib.hid (XRow.below S_6.out hb7)
    clear S_6
    have Gm_7 := Lib.hid (XRow.below Gm_6.out hb7)
    clear Gm_6
    have H_7 := Lib.hid (XRow.below H_6.out hb7)
    clear H_6
    go_wp2_with fail
    refine (heldStringS_marked (ptR l0).1 v2 _ 1 _ Gm_7.out HLEN.out (by omega) (by omega)).mono ?_
    rintro e8 w8 ⟨rfl, hb8⟩
    have B8 : Below w.heap.size w w8 := B7.trans (hb8.mono B7.size)
    have y8 := B8.size
    have z8 : w7.heap.size ≤ w8.heap.size := hb8.size
    have Gm_8 := Lib.hid (XRow.below Gm_7.out hb8)
    clear Gm_7
    go_wp2
    go_ret
    exact ⟨rfl, B8⟩
  · have i1 : (1048576 : Int) < (l0.length : Int) := by omega
    (go_enter Tryd.func6, Tryd.ntmps6)
    go_wp2
    go_ret
    exact ⟨rfl, Below.refl _ _⟩
theorem plain {W : World} (h : laidMetH Tryd.prog Rows.fnExactParseTuneRow.laid W) : laidMet Tryd.prog Rows.fnExactParseTuneRow.laid W := by
  rwa [MakeChecks.laidMetH_plain _ _ _ (by kernel_rfl)] at h
theorem cutw_of {W : World} (h : W.ShapedOpen Tryd.prog) : CutW W :=
  Go.Proofs.cell_of_shapedOpen_int (zero := #[.int .i64 0]) (t := 3) h (of_decide_eq_true (by kernel_rfl)) (by kernel_rfl) rfl (by kernel_rfl) (by kernel_rfl) Tryd.underlying3

theorem door_met (os : Os) (args : Array Value) : laidMetH Tryd.prog Rows.fnExactParseTuneRow.laid ((World.laidAll Tryd.prog os Rows.fnExactParseTuneRow.laid).forCall (fun _ _ => 0) ⟨#[], args, []⟩).memory := by
  rw [MakeChecks.laidMetH_plain _ _ _ (by kernel_rfl)]; exact laidMet_laidAll _ (by kernel_rfl) (by kernel_rfl)

set_option maxRecDepth 100000 in
theorem body (H : Type) (enc : TypeId × Value → H) (W : World) (base : Nat) (args : Array Value) (ds gs : List (DataW H)) (before : List MemPlace)
    (hval : ∀ (j : Nat) t v, Tryd.f6.params[j]? = some t → args[j]? = some v → Value.okWide Tryd.prog W .any base t v)
    (hW : DataW.Whole enc Tryd.prog Tryd.f6.params.toList Rows.fnExactParseTuneSpec.vars false W args.toList ds gs before)
    (hL : laidMetH Tryd.prog Rows.fnExactParseTuneRow.laid W) (hS : W.ShapedOpen Tryd.prog) :
    Calls Tryd.prog 6 args W fun e W' => ∃ v, e = .returned v ∧ Rows.fnExactParseTuneSpec.post enc Tryd.prog Tryd.f6 false true false false W args v W' := by
  have hW' := hW
  obtain ⟨p, q, hA0, hV, rfl, hfz, hnd⟩ := hW
  have hA : DataW.TrodAll enc Tryd.prog W 0 (fun _ => true) true Tryd.f6.params.toList args.toList ds p := hA0
  rw [Tryd.params6] at hA hval
  obtain ⟨v0, vs0, d_0, ds0, p0, q0, hargs, rfl, rfl, h0, r0⟩ := trodAll_cons hA
  obtain ⟨rfl, rfl, rfl⟩ := trodAll_nil r0
  obtain rfl : args = #[v0] := by cases args; simp_all
  obtain ⟨rfl, rfl⟩ := trodVars_none hV
  obtain ⟨s0, rfl, rfl, rfl, w0⟩ := Go.ChangeMaps.open_string Tryd.underlying9 (hval 0 9 v0 rfl rfl) h0
  obtain ⟨l0, hl0⟩ : ∃ l : List UInt8, s0 = ⟨l.toArray⟩ := ⟨s0.data.toList, by cases s0; simp⟩
  subst hl0
  clear hA0
  refine (walk W (cutw_of hS) l0 ).mono fun e W' ⟨he, bel⟩ => ?_
  subst he
  exact ⟨_, rfl, _, _, _, [], _, [], hW', trodAll_mk1 (shut_bool Tryd.underlying4 _), (trodAll_cons_mk (Go.ChangeMaps.shut_string Tryd.underlying9 w0) trodAll_mk0), rfl, bel.frame _, fun h => by cases h⟩

set_option maxRecDepth 100000 in
theorem lifted (os : Os) (started : os.Started) (H : Type) (enc : TypeId × Value → H) :
    ReturnsInHanded {} Tryd.checked os 6 .any (fun w args => (Rows.fnExactParseTuneSpec.pre enc Tryd.prog Tryd.f6 [] false w args ∧ laidMetH Tryd.prog Rows.fnExactParseTuneRow.laid w) ∧ sizedMet enc Tryd.prog Tryd.f6 (OpenSpec.ofChange Rows.fnExactParseTuneSpec) false w args)
      (Rows.fnExactParseTuneSpec.post enc Tryd.prog Tryd.f6 false true false false) := by
  refine returnsInHanded_of_calls (C := Tryd.checked) Tryd.own started (by kernel_rfl)
    (ChangeSpec.witness_shaped (enc := enc) (C := Tryd.checked) (os := os) (X := fun w _ => laidMetH Tryd.prog Rows.fnExactParseTuneRow.laid w) false (World.laidAll Tryd.prog os Rows.fnExactParseTuneRow.laid) #[.string ⟨#[]⟩] 8 (World.laidAll_os _ _ _) (World.shaped_of_ZipB (by kernel_rfl) (by kernel_rfl)) (by kernel_rfl) (by kernel_rfl) (by kernel_rfl) (door_met os _)) ?_
  intro w tape i _ hsh _ hok hpre _
  obtain ⟨-, -, -, g, hg, -, -, -, -, hv⟩ := hok
  obtain rfl : g = Tryd.f6 := Option.some.inj (hg.symm.trans Tryd.func6)
  obtain ⟨⟨⟨ds, gs, before, hw, -⟩, hx⟩, -⟩ := hpre
  refine (body H enc (w.forCall tape i) w.heap.size i.args ds gs before hv (DataW.Whole.of_heap (by rfl) hw) (hx.of_heap (by rfl)) hsh).mono fun e W' he => ?_
  obtain ⟨v, rfl, hp⟩ := he
  exact ChangeSpec.post_blind hp

theorem over : Rows.FnExactParseTuneSaid :=
  OpenClaim.holds_of_wide 6 Tryd.f6 rfl rfl rfl rfl rfl rfl rfl ⟨rfl, rfl, rfl, rfl, rfl⟩ rfl rfl rfl rfl rfl (by kernel_rfl) Tryd.func6 (by kernel_rfl)
    (of_decide_eq_true (by kernel_rfl)) (by unfold Func.isWrapper; first | (rw [if_pos (by decide +kernel)]; kernel_rfl) | (rw [if_neg (by decide +kernel)]; exact ⟨rfl, rfl⟩))
    (fun os started H enc _ => lifted os started H enc)
end Go.Proofs.YtijnppomeoaebaaDoor.parseTune
namespace Go.Proofs.YtijnppomeoaebaaDoor
/-- The statement: the card. -/
theorem fnExactParseTune_proved : Rows.FnExactParseTuneCardSaid :=
  Claim7.holds_tied_plain_at .later [] [.data, .pinned] true Rows.fnExactParseTuneCard.stood.harness Rows.fnExactParseTuneCard.stood.looks
    parseTune.over (fun _ h => by cases h) (by kernel_rfl) (fun _ h => by cases h) fnExactParseTune_row_tie rfl ⟨rfl, rfl⟩ (by kernel_rfl) rfl
    (fun f fn hf hfn => by
      obtain rfl : f = 6 := Option.some.inj ((show Tryd.prog.funcNamed Rows.fnExactParseTuneRow.func = some 6 by kernel_rfl).symm.trans hf) |>.symm
      obtain rfl : fn = Tryd.f6 := (Option.some.inj (Tryd.func6.symm.trans hfn)).symm
      exact ⟨by kernel_rfl, fun j t ht => by
        rw [Tryd.params6] at ht
        have hm : t ∈ [9] := by simpa using Array.mem_of_getElem? ht
        have hall : ([9].all fun u => !Tryd.prog.wantsStandIn u) = true := by kernel_rfl
        exact (show Tryd.prog.wantsStandIn t = false by simpa using List.all_eq_true.1 hall t hm)⟩)
    (by kernel_rfl)
#print axioms fnExactParseTune_proved
end Go.Proofs.YtijnppomeoaebaaDoor