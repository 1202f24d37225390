/- FnExactParseTime: called with any arguments, the law returns true, and its arguments read behind the call as before. Conditions: none but the row's own (the library's listed tables and errors hold what the program's text lays; the card ties that). -/
import Derived.Test.YtebjlaajddpbhaaDoorRow
import Derived.Test.YtebjlaajddpbhaaDoorPtW7
import Derived.Test.YtebjlaajddpbhaaDoorCards
import Derived.Test.YtebjlaajddpbhaaDoorTie
import Derived.LaidMore
import Derived.ChangeMaps5
import Derived.HandedShaped
import Derived.Stop.Joined
import Derived.Stop.LaidErr
import Derived.Lib.LaidTab
import Derived.SevenTiedAt
set_option linter.unusedSimpArgs false
set_option linter.unusedVariables false
set_option maxRecDepth 100000
namespace Go.Proofs.YtebjlaajddpbhaaDoor.parseTime
open Go.ChangeShapes Go.WideShapes Go.ChangeAt Go.WideMaps Go.WideElems Go.RowKit

set_option maxHeartbeats 1600000 in
theorem walk (a0 : Int) (l : List UInt8) (w : World) (hE : Errs w) (hC : CutW w) (hT : Tens w) :
    Calls Tryd.prog 4 #[.int .i64 a0, str l] w fun e w' => e = .returned (.bool true) ∧ Below w.heap.size w w' := by
  have HE := Lib.hid hE
  have HC := Lib.hid hC
  have HT := Lib.hid hT
  clear hE hC hT
  by_cases hl : l.length ≤ 1048576
  · have i1 : (l.length : Int) ≤ 1048576 := by omega
    have h1 := fun W => specParseTime_any a0 l hl W
    have h2 := fun W hE hC hT => implParseTime_any a0 l hl W hE hC hT
    rw [impl_model] at h2
    generalize specT a0 l = R at *
    have H1 := Lib.hid h1
    have H2 := Lib.hid h2
    clear h1 h2
    obtain ⟨p, q, ok⟩ := R
    (go_enter Tryd.func4, Tryd.ntmps4)
    go_wp2_with fail
    refine (H1.out _).mono ?_
    (rintro e1 w1 ⟨rfl, hb1⟩; obtain ⟨hc1, hf1⟩ := bcell hb1; have hz1 := hb1.size; (try simp only [World.size_alloc, World.size_setCell, World.size_drew] at hz1); have q1 : w.heap.size ≤ w1.heap.size := (by omega); (try have q1_0 : w.heap.size < w1.heap.size := (by omega)); (try have q1_1 : w.heap.size + 1 < w1.heap.size := (by omega)); (try have q1_2 : w.heap.size + 2 < w1.heap.size := (by omega)); (try have q1_3 : w.heap.size + 3 < w1.heap.size := (by omega)))
    go_wp2_with fail
    refine (H2.out _ (Errs.below (w := w) HE.out (by (repeat' (first | (with_reducible exact Below.refl _ _) | (with_reducible assumption) | (with_reducible refine Below.alloc ?_ ?_ _) | (with_reducible refine Below.drew ?_) | (with_reducible refine below_drewN ?_ _) | (with_reducible refine Below.setCell ?_ ?_ _) | (with_reducible refine below_call ?_ ?_ (by assumption)) | go_size)))) (CutW.below (w := w) HC.out (by (repeat' (first | (with_reducible exact Below.refl _ _) | (with_reducible assumption) | (with_reducible refine Below.alloc ?_ ?_ _) | (with_reducible refine Below.drew ?_) | (with_reducible refine below_drewN ?_ _) | (with_reducible refine Below.setCell ?_ ?_ _) | (with_reducible refine below_call ?_ ?_ (by assumption)) | go_size)))) (Tens.below (w := w) HT.out (by (repeat' (first | (with_reducible exact Below.refl _ _) | (with_reducible assumption) | (with_reducible refine Below.alloc ?_ ?_ _) | (with_reducible refine Below.drew ?_) | (with_reducible refine below_drewN ?_ _) | (with_reducible refine Below.setCell ?_ ?_ _) | (with_reducible refine below_call ?_ ?_ (by assumption)) | go_size))))).mono ?_
    (rintro e2 w2 ⟨rfl, hb2⟩; obtain ⟨hc2, hf2⟩ := bcell hb2; have hz2 := hb2.size; (try simp only [World.size_alloc, World.size_setCell, World.size_drew] at hz2); have q2 : w.heap.size ≤ w2.heap.size := (by omega); (try have q2_0 : w.heap.size < w2.heap.size := (by omega)); (try have q2_1 : w.heap.size + 1 < w2.heap.size := (by omega)); (try have q2_2 : w.heap.size + 2 < w2.heap.size := (by omega)); (try have q2_3 : w.heap.size + 3 < w2.heap.size := (by omega)); (try have q2_1_0 : w1.heap.size < w2.heap.size := (by omega)); (try have q2_1_1 : w1.heap.size + 1 < w2.heap.size := (by omega)))
    go_wp2_with fail
    refine (eqTurn_self _ _ _).mono ?_
    (rintro e3 w3 ⟨rfl, hb3⟩; obtain ⟨hc3, hf3⟩ := bcell hb3; have hz3 := hb3.size; (try simp only [World.size_alloc, World.size_setCell, World.size_drew] at hz3); have q3 : w.heap.size ≤ w3.heap.size := (by omega); (try have q3_0 : w.heap.size < w3.heap.size := (by omega)); (try have q3_1 : w.heap.size + 1 < w3.heap.size := (by omega)); (try have q3_2 : w.heap.size + 2 < w3.heap.size := (by omega)); (try have q3_3 : w.heap.size + 3 < w3.heap.size := (by omega)); (try have q3_1_0 : w1.heap.size < w3.heap.size := (by omega)); (try have q3_1_1 : w1.heap.size + 1 < w3.heap.size := (by omega)); (try have q3_2_0 : w2.heap.size < w3.heap.size := (by omega)); (try have q3_2_1 : w2.heap.size + 1 < w3.heap.size := (by omega)))
    go_wp2
    go_ret
    exact ⟨rfl, by (repeat' (first | (with_reducible exact Below.refl _ _) | (with_reducible assumption) | (with_reducible refine Below.alloc ?_ ?_ _) | (with_reducible refine Below.drew ?_) | (with_reducible refine below_drewN ?_ _) | (with_reducible refine Below.setCell ?_ ?_ _) | (with_reducible refine below_call ?_ ?_ (by assumption)) | go_size))⟩
  · have i1 : 1048576 < (l.length : Int) := by omega
    (go_enter Tryd.func4, Tryd.ntmps4)
    go_wp2
    go_ret
    exact ⟨rfl, by (repeat' (first | (with_reducible exact Below.refl _ _) | (with_reducible assumption) | (with_reducible refine Below.alloc ?_ ?_ _) | (with_reducible refine Below.drew ?_) | (with_reducible refine below_drewN ?_ _) | (with_reducible refine Below.setCell ?_ ?_ _) | (with_reducible refine below_call ?_ ?_ (by assumption)) | go_size))⟩

theorem starE : "*" ++ "errors.errorString" = "*errors.errorString" := by decide
theorem rowE (u : TypeId) (h : Tryd.prog.typeName? 3 u = some "*errors.errorString") : u = 99 :=
  typeName_ptr_named (nm := "errors.errorString") (by rw [starE]; kernel_rfl) (by kernel_rfl) (by decide) u (by rw [starE]; exact h)
theorem plain {W : World} (h : laidMetH Tryd.prog Rows.fnExactParseTimeRow.laid W) : laidMet Tryd.prog Rows.fnExactParseTimeRow.laid W := by
  rwa [MakeChecks.laidMetH_plain _ _ _ (by kernel_rfl)] at h
theorem tens_of {W : World} (h : laidMetH Tryd.prog Rows.fnExactParseTimeRow.laid W) : Tens W :=
  Lib.tabIs_of_head (g := 3) (t := 93) (e := 78) (n := 20) (by kernel_rfl) (by kernel_rfl) (by kernel_rfl) (by kernel_rfl) (by kernel_rfl) (by kernel_rfl) (laidMet.tail (laidMet.tail (plain h)))
theorem errs_of {W : World} (h : laidMetH Tryd.prog Rows.fnExactParseTimeRow.laid W) : Errs W := by
  have h4 := laidMet.tail (laidMet.tail (laidMet.tail (plain h)))
  have h5 := laidMet.tail h4
  have gS : Tryd.prog.globalNamed "strconv.ErrSyntax" = some 1 := by kernel_rfl
  have gR : Tryd.prog.globalNamed "strconv.ErrRange" = some 2 := by kernel_rfl
  obtain ⟨a1, s1, hv1, -⟩ := laid_sentinel (ti := 61) (tp := 99) (te := 101) (ts := 9) h5 gS (by kernel_rfl) Tryd.underlying61 rowE Tryd.underlying99 Tryd.underlying101 rfl rfl Tryd.underlying9 (by kernel_rfl) (by kernel_rfl)
  obtain ⟨a2, s2, hv2, -⟩ := laid_sentinel (ti := 61) (tp := 99) (te := 101) (ts := 9) h4 gR (by kernel_rfl) Tryd.underlying61 rowE Tryd.underlying99 Tryd.underlying101 rfl rfl Tryd.underlying9 (by kernel_rfl) (by kernel_rfl)
  exact ⟨⟨_, _, (World.var?_cell gS hv1 0).trans rfl⟩, _, _, (World.var?_cell gR hv2 0).trans rfl⟩
theorem cutw_of {W : World} (h : W.ShapedOpen Tryd.prog) : CutW W :=
  Go.Proofs.cell_of_shapedOpen_int (zero := #[.int .i64 0]) (t := 3) h (of_decide_eq_true (by kernel_rfl)) (by kernel_rfl) rfl (by kernel_rfl) (by kernel_rfl) Tryd.underlying3

theorem door_met (os : Os) (args : Array Value) : laidMetH Tryd.prog Rows.fnExactParseTimeRow.laid ((World.doorLaid Tryd.prog 400 os).forCall (fun _ _ => 0) ⟨#[], args, []⟩).memory :=
  laidMetH_of_parts3 (fuel := 8) (laidMet_of_run' 8 (by kernel_rfl) (by kernel_rfl)) (by kernel_rfl) (by kernel_rfl)

set_option maxRecDepth 100000 in
theorem body (H : Type) (enc : TypeId × Value → H) (W : World) (base : Nat) (args : Array Value) (ds gs : List (DataW H)) (before : List MemPlace)
    (hval : ∀ (j : Nat) t v, Tryd.f4.params[j]? = some t → args[j]? = some v → Value.okWide Tryd.prog W .any base t v)
    (hW : DataW.Whole enc Tryd.prog Tryd.f4.params.toList Rows.fnExactParseTimeSpec.vars false W args.toList ds gs before)
    (hL : laidMetH Tryd.prog Rows.fnExactParseTimeRow.laid W) (hS : W.ShapedOpen Tryd.prog) :
    Calls Tryd.prog 4 args W fun e W' => ∃ v, e = .returned v ∧ Rows.fnExactParseTimeSpec.post enc Tryd.prog Tryd.f4 false true false false W args v W' := by
  have hW' := hW
  obtain ⟨p, q, hA0, hV, rfl, hfz, hnd⟩ := hW
  have hA : DataW.TrodAll enc Tryd.prog W 0 (fun _ => true) true Tryd.f4.params.toList args.toList ds p := hA0
  rw [Tryd.params4] at hA hval
  obtain ⟨v0, vs0, d_0, ds0, p0, q0, hargs, rfl, rfl, h0, r0⟩ := trodAll_cons hA
  obtain ⟨v1, vs1, d_1, ds1, p1, q1, rfl, rfl, rfl, h1, r1⟩ := trodAll_cons r0
  obtain ⟨rfl, rfl, rfl⟩ := trodAll_nil r1
  obtain rfl : args = #[v0, v1] := by cases args; simp_all
  obtain ⟨rfl, rfl⟩ := trodVars_none hV
  obtain ⟨a0, rfl, rfl, rfl, w0⟩ := open_int Tryd.underlying3 (hval 0 3 v0 rfl rfl) h0
  obtain ⟨s1, rfl, rfl, rfl, w1⟩ := Go.ChangeMaps.open_string Tryd.underlying9 (hval 1 9 v1 rfl rfl) h1
  obtain ⟨l, hl⟩ : ∃ l : List UInt8, s1 = ⟨l.toArray⟩ := ⟨s1.data.toList, by cases s1; simp⟩
  subst hl
  clear hA0
  refine (walk a0 l W (errs_of hL) (cutw_of hS) (tens_of hL)).mono fun e W' ⟨he, bel⟩ => ?_
  subst he
  exact ⟨_, rfl, _, _, _, [], _, [], hW', trodAll_mk1 (shut_bool Tryd.underlying4 _), (trodAll_cons_mk (shut_int Tryd.underlying3 w0) (trodAll_cons_mk (Go.ChangeMaps.shut_string Tryd.underlying9 w1) trodAll_mk0)), rfl, bel.frame _, fun h => by cases h⟩

set_option maxRecDepth 100000 in
theorem lifted (os : Os) (started : os.Started) (H : Type) (enc : TypeId × Value → H) :
    ReturnsInHanded {} Tryd.checked os 4 .any (fun w args => (Rows.fnExactParseTimeSpec.pre enc Tryd.prog Tryd.f4 [] false w args ∧ laidMetH Tryd.prog Rows.fnExactParseTimeRow.laid w) ∧ sizedMet enc Tryd.prog Tryd.f4 (OpenSpec.ofChange Rows.fnExactParseTimeSpec) false w args)
      (Rows.fnExactParseTimeSpec.post enc Tryd.prog Tryd.f4 false true false false) := by
  refine returnsInHanded_of_calls (C := Tryd.checked) Tryd.own started (by kernel_rfl)
    (ChangeSpec.witness_shaped (enc := enc) (C := Tryd.checked) (os := os) (X := fun w _ => laidMetH Tryd.prog Rows.fnExactParseTimeRow.laid w) false (World.doorLaid Tryd.prog 400 os) #[.int .i64 0, .string ⟨#[]⟩] 8 rfl (World.shaped_of_RefB (by kernel_rfl) (by kernel_rfl)) (by kernel_rfl) (by kernel_rfl) (by kernel_rfl) (door_met os _)) ?_
  intro w tape i _ hsh _ hok hpre _
  obtain ⟨-, -, -, g, hg, -, -, -, -, hv⟩ := hok
  obtain rfl : g = Tryd.f4 := Option.some.inj (hg.symm.trans Tryd.func4)
  obtain ⟨⟨⟨ds, gs, before, hw, -⟩, hx⟩, -⟩ := hpre
  refine (body H enc (w.forCall tape i) w.heap.size i.args ds gs before hv (DataW.Whole.of_heap (by rfl) hw) (hx.of_heap (by rfl)) hsh).mono fun e W' he => ?_
  obtain ⟨v, rfl, hp⟩ := he
  exact ChangeSpec.post_blind hp

theorem over : Rows.FnExactParseTimeSaid :=
  OpenClaim.holds_of_wide 4 Tryd.f4 rfl rfl rfl rfl rfl rfl rfl ⟨rfl, rfl, rfl, rfl, rfl⟩ rfl rfl rfl rfl rfl (by kernel_rfl) Tryd.func4 (by kernel_rfl)
    (of_decide_eq_true (by kernel_rfl)) (by unfold Func.isWrapper; first | (rw [if_pos (by decide +kernel)]; kernel_rfl) | (rw [if_neg (by decide +kernel)]; exact ⟨rfl, rfl⟩))
    (fun os started H enc _ => lifted os started H enc)
end Go.Proofs.YtebjlaajddpbhaaDoor.parseTime
namespace Go.Proofs.YtebjlaajddpbhaaDoor
/-- The statement: the card. -/
theorem fnExactParseTime_proved : Rows.FnExactParseTimeCardSaid :=
  Claim7.holds_tied_plain_at .later [] [.data, .data, .data, .sentinel, .sentinel] true Rows.fnExactParseTimeCard.stood.harness Rows.fnExactParseTimeCard.stood.looks
    parseTime.over (fun _ h => by cases h) (by kernel_rfl) (fun _ h => by cases h) fnExactParseTime_row_tie rfl ⟨rfl, rfl⟩ (by kernel_rfl) rfl
    (fun f fn hf hfn => by
      obtain rfl : f = 4 := Option.some.inj ((show Tryd.prog.funcNamed Rows.fnExactParseTimeRow.func = some 4 by kernel_rfl).symm.trans hf) |>.symm
      obtain rfl : fn = Tryd.f4 := (Option.some.inj (Tryd.func4.symm.trans hfn)).symm
      exact ⟨by kernel_rfl, fun j t ht => by
        rw [Tryd.params4] at ht
        have hm : t ∈ [3, 9] := by simpa using Array.mem_of_getElem? ht
        have hall : ([3, 9].all fun u => !Tryd.prog.wantsStandIn u) = true := by kernel_rfl
        exact (show Tryd.prog.wantsStandIn t = false by simpa using List.all_eq_true.1 hall t hm)⟩)
    (by kernel_rfl)
#print axioms fnExactParseTime_proved
end Go.Proofs.YtebjlaajddpbhaaDoor
