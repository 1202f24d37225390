/- FnExactMirrorTune: called with any arguments, the law returns true, and its arguments read behind the call as before. Conditions: none but the row's own (the library's listed tables hold what the program's text lays; the card ties that). -/
import Derived.Test.YtijnppomeoaebaaDoorRow
import Derived.Test.YtijnppomeoaebaaDoorBLaw
import Derived.Test.YtijnppomeoaebaaDoorBel13
import Derived.PinnedBridge
import Derived.Lay
import Derived.LaidOnce
import Derived.Lib.LaidU8T
import Derived.Test.YtijnppomeoaebaaDoorCards
import Derived.Test.YtijnppomeoaebaaDoorTie
import Derived.LaidMore
import Derived.ChangeMaps5
import Derived.HandedShaped
import Derived.Stop.Joined
import Derived.Stop.LaidErr
import Derived.Lib.LaidTab
import Derived.SevenTiedAt
set_option linter.unusedSimpArgs false
set_option linter.unusedVariables false
set_option maxRecDepth 100000
namespace Go.Proofs.YtijnppomeoaebaaDoor.mirrorTune
open Go.ChangeShapes Go.WideShapes Go.ChangeAt Go.WideMaps Go.WideElems Go.RowKit

set_option maxHeartbeats 4000000 in
theorem walk (w : World) (hU : U8W w) (a0 : Option Addr) (c0 : Nat) (L0 : List (List UInt8)) (hin0 : XIn w a0 L0) (hx0 : ∀ x ∈ L0, x.length ≤ maxLen) (hm0 : L0.length ≤ maxLen) :
    Calls Tryd.prog 5 #[.slice a0 L0.length c0] w fun e w' => e = .returned (.bool true) ∧ Below w.heap.size w w' := by
  have HU := Lib.hid hU
  clear hU
  have B0 : Below w.heap.size w w := Below.refl _ _
  have y0 := B0.size
  have HIN0 := Lib.hid hin0
  clear hin0
  obtain ⟨q0, hq0⟩ : ∃ q, szS L0 (1048576) = q := ⟨_, rfl⟩
  have hsz0 := szStringS_any a0 c0 L0 (1048576) w (by omega) hm0 hx0 HIN0.out
  rw [hq0] at hsz0
  have HSZ0 := Lib.hid hsz0
  clear hsz0
  by_cases hn0 : q0 < 0
  · clear hq0
    (go_enter Tryd.func5, Tryd.ntmps5)
    go_wp2_with fail
    refine (HSZ0.out).mono ?_
    (rintro e1 w1 ⟨rfl, rfl⟩)
    go_wp2
    go_ret
    exact ⟨rfl, B0⟩
  · obtain ⟨hl0, hs0, hq0_⟩ := szS_bd (by omega) hq0 hn0
    have HS0 := Lib.hid hs0
    clear hq0 hs0 hx0
    (go_enter Tryd.func5, Tryd.ntmps5)
    go_wp2_with fail
    refine (HSZ0.out).mono ?_
    (rintro e1 w1 ⟨rfl, rfl⟩)
    have HLEN := Lib.hid (show ((mirR L0).1).length ≤ 2000000 from mirR_len L0)
    go_wp2_with fail
    refine (toStringS_any a0 c0 L0 _ (HIN0.out.below B0) (by omega)).mono ?_
    rintro e1 w1 ⟨v1, rfl, hr1, hb1⟩
    have B1 : Below w.heap.size w w1 := B0.trans (hb1.mono B0.size)
    have y1 := B1.size
    have z1 : w.heap.size ≤ w1.heap.size := hb1.size
    obtain ⟨a1k, c1k, rfl, hi1, hcap1, hcmx1⟩ := hr1.inn
    have IX_1 := Lib.hid hi1
    clear hi1
    have X_1 := Lib.hid hr1
    have X_at := Lib.hid hr1
    clear hr1
    go_wp2_with fail
    refine (specMirrorTune_any a1k c1k L0 hm0 (fun k hk => Nat.le_trans (HS0.out k hk) (by unfold maxLen; omega)) _ IX_1.out).mono ?_
    rintro e2 w2 ⟨v2, rfl, hr2, hb2⟩
    have B2 : Below w.heap.size w w2 := B1.trans (hb2.mono B1.size)
    have y2 := B2.size
    have z2 : w1.heap.size ≤ w2.heap.size := hb2.size
    have IX_2 := Lib.hid (XIn.below IX_1.out hb2)
    clear IX_1
    have S_2 := Lib.hid hr2
    have S_at := Lib.hid hr2
    clear hr2
    go_wp2_with fail
    refine (toStringS_any a0 c0 L0 _ (HIN0.out.below B2) (by omega)).mono ?_
    rintro e3 w3 ⟨v3, rfl, hr3, hb3⟩
    have B3 : Below w.heap.size w w3 := B2.trans (hb3.mono B2.size)
    have y3 := B3.size
    have z3 : w2.heap.size ≤ w3.heap.size := hb3.size
    have S_3 := Lib.hid (XRow.below S_2.out hb3)
    clear S_2
    obtain ⟨a3k, c3k, rfl, hi3, hcap3, hcmx3⟩ := hr3.inn
    have IY_3 := Lib.hid hi3
    clear hi3
    have Y_3 := Lib.hid hr3
    have Y_at := Lib.hid hr3
    clear hr3
    go_wp2_with fail
    refine (implMirrorTune_any a3k c3k L0 hm0 (fun k hk => Nat.le_trans (HS0.out k hk) (by unfold maxLen; omega)) _ IY_3.out (U8W.below HU.out B3)).mono ?_
    rintro e4 w4 ⟨v4, rfl, hr4, hb4⟩
    have B4 : Below w.heap.size w w4 := B3.trans (hb4.mono B3.size)
    have y4 := B4.size
    have z4 : w3.heap.size ≤ w4.heap.size := hb4.size
    have S_4 := Lib.hid (XRow.below S_3.out hb4)
    clear S_3
    have IY_4 := Lib.hid (XIn.below IY_3.out hb4)
    clear IY_3
    have Y_4 := Lib.hid (XRow.below Y_3.out hb4)
    clear Y_3
    have G_4 := Lib.hid hr4
    have G_at := Lib.hid hr4
    clear hr4
    go_wp2_with fail
    refine (eqStringS_same (mirR L0).1 v4 v2 _ _ _ G_4.out S_4.out HLEN.out).mono ?_
    rintro e5 w5 ⟨rfl, hb5⟩
    have B5 : Below w.heap.size w w5 := B4.trans (hb5.mono B4.size)
    have y5 := B5.size
    have z5 : w4.heap.size ≤ w5.heap.size := hb5.size
    have S_5 := Lib.hid (XRow.below S_4.out hb5)
    clear S_4
    have Y_5 := Lib.hid (XRow.below Y_4.out hb5)
    clear Y_4
    have G_5 := Lib.hid (XRow.below G_4.out hb5)
    clear G_4
    go_wp2_with fail
    refine (toStringS_any a0 c0 L0 _ (HIN0.out.below B5) (by omega)).mono ?_
    rintro e6 w6 ⟨v6, rfl, hr6, hb6⟩
    have B6 : Below w.heap.size w w6 := B5.trans (hb6.mono B5.size)
    have y6 := B6.size
    have z6 : w5.heap.size ≤ w6.heap.size := hb6.size
    have S_6 := Lib.hid (XRow.below S_5.out hb6)
    clear S_5
    have Y_6 := Lib.hid (XRow.below Y_5.out hb6)
    clear Y_5
    have G_6 := Lib.hid (XRow.below G_5.out hb6)
    clear G_5
    have V_6 := Lib.hid hr6
    have V_at := Lib.hid hr6
    clear hr6
    go_wp2_with fail
    refine (eqStringS_same L0 (.slice a3k L0.length c3k) v6 _ _ _ Y_6.out V_6.out (by omega)).mono ?_
    rintro e7 w7 ⟨rfl, hb7⟩
    have B7 : Below w.heap.size w w7 := B6.trans (hb7.mono B6.size)
    have y7 := B7.size
    have z7 : w6.heap.size ≤ w7.heap.size := hb7.size
    have S_7 := Lib.hid (XRow.below S_6.out hb7)
    clear S_6
    have Y_7 := Lib.hid (XRow.below Y_6.out hb7)
    clear Y_6
    have G_7 := Lib.hid (XRow.below G_6.out hb7)
    clear G_6
    have V_7 := Lib.hid (XRow.below V_6.out hb7)
    clear V_6
    go_wp2_with fail
    refine (markStringS_any L0 (.slice a3k L0.length c3k) _ 1 _ Y_7.out (by omega) (by omega) (by omega)).mono ?_
    rintro e8 w8 ⟨rfl, hr8, hg8⟩
    have B8 : Below w.heap.size w w8 := Below.grown (w := w7) B7 hg8 (by omega) (fun j hj => by have := XRow.low Y_at.out j hj; omega)
    have y8 := B8.size
    have z8 : w7.heap.size ≤ w8.heap.size := hg8.size
    have S_8 := Lib.hid (XRow.kept S_7.out hg8 (apart_rows (fun j hj => XRow.top S_at.out j hj) (fun j hj => XRow.low Y_at.out j hj) (by omega)))
    have G_8 := Lib.hid (XRow.kept G_7.out hg8 (apart_sym' (apart_rows (fun j hj => XRow.top Y_at.out j hj) (fun j hj => XRow.low G_at.out j hj) (by omega))))
    have Ym_8 := Lib.hid hr8
    clear hr8 hg8
    have p8 : ¬ (1 + (L0.length : Int)) < 0 := by omega
    go_wp2_with fail
    refine (eqStringS_same (mirR L0).1 v4 v2 _ _ _ G_8.out S_8.out HLEN.out).mono ?_
    rintro e9 w9 ⟨rfl, hb9⟩
    have B9 : Below w.heap.size w w9 := B8.trans (hb9.mono B8.size)
    have y9 := B9.size
    have z9 : w8.heap.size ≤ w9.heap.size := hb9.size
    have S_9 := Lib.hid (XRow.below S_8.out hb9)
    clear S_8
    have G_9 := Lib.hid (XRow.below G_8.out hb9)
    clear G_8
    go_wp2_with fail
    refine (markStringS_any (mirR L0).1 v4 _ 1 _ G_9.out HLEN.out (by omega) (by omega)).mono ?_
    rintro e10 w10 ⟨rfl, hr10, hg10⟩
    have B10 : Below w.heap.size w w10 := Below.grown (w := w9) B9 hg10 (by omega) (fun j hj => by have := XRow.low G_at.out j hj; omega)
    have y10 := B10.size
    have z10 : w9.heap.size ≤ w10.heap.size := hg10.size
    have S_10 := Lib.hid (XRow.kept S_9.out hg10 (apart_rows (fun j hj => XRow.top S_at.out j hj) (fun j hj => XRow.low G_at.out j hj) (by omega)))
    have Gm_10 := Lib.hid hr10
    clear hr10 hg10
    have p10 : ¬ (1 + (((mirR L0).1).length : Int)) < 0 := by omega
    go_wp2_with fail
    refine (heldStringS_marked (mirR L0).1 v4 _ 1 _ Gm_10.out HLEN.out (by omega) (by omega)).mono ?_
    rintro e11 w11 ⟨rfl, hb11⟩
    have B11 : Below w.heap.size w w11 := B10.trans (hb11.mono B10.size)
    have y11 := B11.size
    have z11 : w10.heap.size ≤ w11.heap.size := hb11.size
    have S_11 := Lib.hid (XRow.below S_10.out hb11)
    clear S_10
    have Gm_11 := Lib.hid (XRow.below Gm_10.out hb11)
    clear Gm_10
    go_wp2_with fail
    refine (toStringS_any a0 c0 L0 _ (HIN0.out.below B11) (by omega)).mono ?_
    rintro e12 w12 ⟨v12, rfl, hr12, hb12⟩
    have B12 : Below w.heap.size w w12 := B11.trans (hb12.mono B11.size)
    have y12 := B12.size
    have z12 : w11.heap.size ≤ w12.heap.size := hb12.size
    have S_12 := Lib.hid (XRow.below S_11.out hb12)
    clear S_11
    have Gm_12 := Lib.hid (XRow.below Gm_11.out hb12)
    clear Gm_11
    obtain ⟨a12k, c12k, rfl, hi12, hcap12, hcmx12⟩ := hr12.inn
    have IZ_12 := Lib.hid hi12
    clear hi12
    have Z_12 := Lib.hid hr12
    have Z_at := Lib.hid hr12
    clear hr12
    go_wp2_with fail
    refine (implMirrorTune_any a12k c12k L0 hm0 (fun k hk => Nat.le_trans (HS0.out k hk) (by unfold maxLen; omega)) _ IZ_12.out (U8W.below HU.out B12)).mono ?_
    rintro e13 w13 ⟨v13, rfl, hr13, hb13⟩
    have B13 : Below w.heap.size w w13 := B12.trans (hb13.mono B12.size)
    have y13 := B13.size
    have z13 : w12.heap.size ≤ w13.heap.size := hb13.size
    have S_13 := Lib.hid (XRow.below S_12.out hb13)
    clear S_12
    have Gm_13 := Lib.hid (XRow.below Gm_12.out hb13)
    clear Gm_12
    have IZ_13 := Lib.hid (XIn.below IZ_12.out hb13)
    clear IZ_12
    have H_13 := Lib.hid hr13
    have H_at := Lib.hid hr13
    clear hr13
    go_wp2_with fail
    refine (eqStringS_same (mirR L0).1 v13 v2 _ _ _ H_13.out S_13.out HLEN.out).mono ?_
    rintro e14 w14 ⟨rfl, hb14⟩
    have B14 : Below w.heap.size w w14 := B13.trans (hb14.mono B13.size)
    have y14 := B14.size
    have z14 : w13.heap.size ≤ w14.heap.size := hb14.size
    have S_14 := Lib.hid (XRow.below S_13.out hb14)
    clear S_13
    have Gm_14 := Lib.hid (XRow.below Gm_13.out hb14)
    clear Gm_13
    have H_14 := Lib.hid (XRow.below H_13.out hb14)
    clear H_13
    go_wp2_with fail
    refine (heldStringS_marked (mirR L0).1 v4 _ 1 _ Gm_14.out HLEN.out (by omega) (by omega)).mono ?_
    rintro e15 w15 ⟨rfl, hb15⟩
    have B15 : Below w.heap.size w w15 := B14.trans (hb15.mono B14.size)
    have y15 := B15.size
    have z15 : w14.heap.size ≤ w15.heap.size := hb15.size
    have Gm_15 := Lib.hid (XRow.below Gm_14.out hb15)
    clear Gm_14
    go_wp2
    go_ret
    exact ⟨rfl, B15⟩

theorem plain {W : World} (h : laidMetH Tryd.prog Rows.fnExactMirrorTuneRow.laid W) : laidMet Tryd.prog Rows.fnExactMirrorTuneRow.laid W := by
  rwa [MakeChecks.laidMetH_plain _ _ _ (by kernel_rfl)] at h
theorem u8_of {W : World} (h : laidMetH Tryd.prog Rows.fnExactMirrorTuneRow.laid W) : U8W W :=
  Go.Proofs.utf8Tabs_of_readsT (ρ := Tryd.lays230_ren) ⟨Tryd.underlying5, by kernel_rfl, by kernel_rfl, by kernel_rfl⟩ ⟨by kernel_rfl, by kernel_rfl, by kernel_rfl, by kernel_rfl, by kernel_rfl, by kernel_rfl, by kernel_rfl⟩
    (Pinned.utf8First_eq ▸ Lib.laidMet.reads (plain h) (.tail _ (.head _))) (Lib.laidMet.reads (plain h) (.head _))

theorem door_met (os : Os) (args : Array Value) : laidMetH Tryd.prog Rows.fnExactMirrorTuneRow.laid ((World.laidAll Tryd.prog os Rows.fnExactMirrorTuneRow.laid).forCall (fun _ _ => 0) ⟨#[], args, []⟩).memory := by
  rw [MakeChecks.laidMetH_plain _ _ _ (by kernel_rfl)]; exact laidMet_laidAll _ (by kernel_rfl) (by kernel_rfl)

set_option maxRecDepth 100000 in
theorem body (H : Type) (enc : TypeId × Value → H) (W : World) (base : Nat) (args : Array Value) (ds gs : List (DataW H)) (before : List MemPlace)
    (hval : ∀ (j : Nat) t v, Tryd.f5.params[j]? = some t → args[j]? = some v → Value.okWide Tryd.prog W .any base t v)
    (hW : DataW.Whole enc Tryd.prog Tryd.f5.params.toList Rows.fnExactMirrorTuneSpec.vars false W args.toList ds gs before)
    (hL : laidMetH Tryd.prog Rows.fnExactMirrorTuneRow.laid W) (hS : W.ShapedOpen Tryd.prog) :
    Calls Tryd.prog 5 args W fun e W' => ∃ v, e = .returned v ∧ Rows.fnExactMirrorTuneSpec.post enc Tryd.prog Tryd.f5 false true false false W args v W' := by
  have hW' := hW
  obtain ⟨p, q, hA0, hV, rfl, hfz, hnd⟩ := hW
  have hA : DataW.TrodAll enc Tryd.prog W 0 (fun _ => true) true Tryd.f5.params.toList args.toList ds p := hA0
  rw [Tryd.params5] at hA hval
  obtain ⟨v0, vs0, d_0, ds0, p0, q0, hargs, rfl, rfl, h0, r0⟩ := trodAll_cons hA
  obtain ⟨rfl, rfl, rfl⟩ := trodAll_nil r0
  obtain rfl : args = #[v0] := by cases args; simp_all
  obtain ⟨rfl, rfl⟩ := trodVars_none hV
  have h0k := h0
  obtain ⟨a0, c0, L0, rfl, hin0, hx0, hm0⟩ := open_texts (hval 0 22 v0 rfl rfl) h0
  clear hA0
  simp only [List.append_nil, List.nil_append] at hW'
  have hlt0 : ∀ y ∈ p0, y.block < W.heap.size := fun y hy => by simpa using hW'.lt y (by simp [hy])
  refine (walk W (u8_of hL) a0 c0 L0 hin0 hx0 hm0).mono fun e W' ⟨he, bel⟩ => ?_
  subst he
  have harg0 : DataW.Trod enc Tryd.prog W' 0 (fun b => decide (b < W.heap.size)) true 22 (.slice a0 L0.length c0) d_0 p0 :=
    Below.trod Tryd.laidOut (by kernel_rfl) (of_decide_eq_true (by kernel_rfl)) h0k bel hlt0
  exact ⟨_, rfl, _, _, _, [], _, [], hW', trodAll_mk1 (shut_bool Tryd.underlying4 _), (trodAll_cons_mk harg0 trodAll_mk0), rfl, bel.frame _, fun h => by cases h⟩

set_option maxRecDepth 100000 in
theorem lifted (os : Os) (started : os.Started) (H : Type) (enc : TypeId × Value → H) :
    ReturnsInHanded {} Tryd.checked os 5 .any (fun w args => (Rows.fnExactMirrorTuneSpec.pre enc Tryd.prog Tryd.f5 [] false w args ∧ laidMetH Tryd.prog Rows.fnExactMirrorTuneRow.laid w) ∧ sizedMet enc Tryd.prog Tryd.f5 (OpenSpec.ofChange Rows.fnExactMirrorTuneSpec) false w args)
      (Rows.fnExactMirrorTuneSpec.post enc Tryd.prog Tryd.f5 false true false false) := by
  refine returnsInHanded_of_calls (C := Tryd.checked) Tryd.own started (by kernel_rfl)
    (ChangeSpec.witness_shaped (enc := enc) (C := Tryd.checked) (os := os) (X := fun w _ => laidMetH Tryd.prog Rows.fnExactMirrorTuneRow.laid w) false (World.laidAll Tryd.prog os Rows.fnExactMirrorTuneRow.laid) #[.slice none 0 0] 8 (World.laidAll_os _ _ _) (World.shaped_of_ZipB (by kernel_rfl) (by kernel_rfl)) (by kernel_rfl) (by kernel_rfl) (by kernel_rfl) (door_met os _)) ?_
  intro w tape i _ hsh _ hok hpre _
  obtain ⟨-, -, -, g, hg, -, -, -, -, hv⟩ := hok
  obtain rfl : g = Tryd.f5 := Option.some.inj (hg.symm.trans Tryd.func5)
  obtain ⟨⟨⟨ds, gs, before, hw, -⟩, hx⟩, -⟩ := hpre
  refine (body H enc (w.forCall tape i) w.heap.size i.args ds gs before hv (DataW.Whole.of_heap (by rfl) hw) (hx.of_heap (by rfl)) hsh).mono fun e W' he => ?_
  obtain ⟨v, rfl, hp⟩ := he
  exact ChangeSpec.post_blind hp

theorem over : Rows.FnExactMirrorTuneSaid :=
  OpenClaim.holds_of_wide 5 Tryd.f5 rfl rfl rfl rfl rfl rfl rfl ⟨rfl, rfl, rfl, rfl, rfl⟩ rfl rfl rfl rfl rfl (by kernel_rfl) Tryd.func5 (by kernel_rfl)
    (of_decide_eq_true (by kernel_rfl)) (by unfold Func.isWrapper; first | (rw [if_pos (by decide +kernel)]; kernel_rfl) | (rw [if_neg (by decide +kernel)]; exact ⟨rfl, rfl⟩))
    (fun os started H enc _ => lifted os started H enc)
end Go.Proofs.YtijnppomeoaebaaDoor.mirrorTune
namespace Go.Proofs.YtijnppomeoaebaaDoor
/-- The statement: the card. -/
theorem fnExactMirrorTune_proved : Rows.FnExactMirrorTuneCardSaid :=
  Claim7.holds_tied_plain_at .later [] [.data, .pinned] true Rows.fnExactMirrorTuneCard.stood.harness Rows.fnExactMirrorTuneCard.stood.looks
    mirrorTune.over (fun _ h => by cases h) (by kernel_rfl) (fun _ h => by cases h) fnExactMirrorTune_row_tie rfl ⟨rfl, rfl⟩ (by kernel_rfl) rfl
    (fun f fn hf hfn => by
      obtain rfl : f = 5 := Option.some.inj ((show Tryd.prog.funcNamed Rows.fnExactMirrorTuneRow.func = some 5 by kernel_rfl).symm.trans hf) |>.symm
      obtain rfl : fn = Tryd.f5 := (Option.some.inj (Tryd.func5.symm.trans hfn)).symm
      exact ⟨by kernel_rfl, fun j t ht => by
        rw [Tryd.params5] at ht
        have hm : t ∈ [22] := by simpa using Array.mem_of_getElem? ht
        have hall : ([22].all fun u => !Tryd.prog.wantsStandIn u) = true := by kernel_rfl
        exact (show Tryd.prog.wantsStandIn t = false by simpa using List.all_eq_true.1 hall t hm)⟩)
    (by kernel_rfl)
#print axioms fnExactMirrorTune_proved
end Go.Proofs.YtijnppomeoaebaaDoor