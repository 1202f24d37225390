/- FnExactAreSpread: called with any arguments, the law returns true, and its arguments read behind the call as before. Conditions: none but the row's own. -/
import Derived.Test.YtgdjnnelonnoaaaFacts
import Derived.Test.YtgdjnnelonnoaaaRow
import Derived.Test.YtgdjnnelonnoaaaHRow
import Derived.Test.YtgdjnnelonnoaaaHArg
import Derived.Test.YtgdjnnelonnoaaaSpread
set_option linter.unusedSimpArgs false
set_option linter.unusedVariables false
set_option maxRecDepth 100000
namespace Go.Proofs.Ytgdjnnelonnoaaa.fnExactAreSpread
open Go.ChangeShapes Go.WideShapes Go.ChangeAt Go.RowKit

set_option maxHeartbeats 4000000 in
theorem walk (w : World) (a : Option Addr) (c : Nat) (L : List (Int × Int × Int)) (tn td : Int) (hin : HIn w a L) (hi : AllI L) (hm : L.length ≤ maxLen) (ktd : (-9223372036854775808 ≤ td ∧ td ≤ 9223372036854775807)) :
    Calls Try.prog 16 #[.slice a L.length c, tv tn td] w fun e w' => e = .returned (.bool true) ∧ Below w.heap.size w w' := by
  have hw0 : Below w.heap.size w (w.alloc (Obj.cells #[Value.int .i64 tn, Value.int .i64 td] 23)) := by (repeat' (first | (with_reducible exact Below.refl _ _) | (with_reducible assumption) | (with_reducible refine Below.alloc ?_ ?_ _) | (with_reducible refine Below.drew ?_) | (with_reducible refine below_drewN ?_ _) | (with_reducible refine Below.setCell ?_ ?_ _) | (with_reducible refine below_call ?_ ?_ (by assumption)) | go_size))
  by_cases hl : L.length ≤ 1048576
  · have hsz := fun W => szHandS_any a L.length c 1048576 W (by omega) hm
    rw [if_neg (by omega)] at hsz
    have HSZ := Lib.hid hsz
    have hsz' : ¬ (1048576 : Int) - (L.length : Int) < 0 := by omega
    have hin1 := Lib.hid (hin.below hw0)
    have q10 : (w.alloc (Obj.cells #[Value.int .i64 tn, Value.int .i64 td] 23)).cell? ⟨w.heap.size, 0, none⟩ = some (.int .i64 tn) := by go_simp
    have q11 : (w.alloc (Obj.cells #[Value.int .i64 tn, Value.int .i64 td] 23)).cell? ⟨w.heap.size, 1, none⟩ = some (.int .i64 td) := by go_simp
    clear hsz hin
    (go_enter Try.func16, Try.ntmps16)
    go_wp2_with fail
    refine (HSZ.out _).mono ?_
    (rintro e1 w1 ⟨rfl, rfl⟩)
    generalize w.alloc (Obj.cells #[Value.int .i64 tn, Value.int .i64 td] 23) = w1 at *
    have hz0 := hw0.size
    have hw1lt : w.heap.size < w1.heap.size := by
      have h := q10
      rcases Nat.lt_or_ge w.heap.size w1.heap.size with h' | h'
      · exact h'
      · simp [World.cell?, Array.getElem?_eq_none h'] at h
    go_wp2_with fail
    have hS0 : w1.drew.cell? ⟨w.heap.size, 0, none⟩ = some (.int .i64 tn) ∧ w1.drew.cell? ⟨w.heap.size, 1, none⟩ = some (.int .i64 td) := ⟨q10, q11⟩
    refine wp_region_held (by kernel_rfl) (S := fun W => W.cell? ⟨w.heap.size, 0, none⟩ = some (.int .i64 tn) ∧ W.cell? ⟨w.heap.size, 1, none⟩ = some (.int .i64 td)) ?_
    refine take_first (i := 0) (v := .slice a L.length c) 17 rfl rfl (by kernel_rfl) (by kernel_rfl) (by kernel_rfl) (fun _ _ _ h => h) (by rfl) ?_ (by assumption) ?_
    · intro W hS'
      obtain ⟨hSa, hSb⟩ := hS'
      go_simp
    simp only [Act.put, List.setIfInBounds_toArray, List.set_cons_zero, List.set_cons_succ]
    refine take_first (i := 2) (v := .agg #[.int .i64 tn, .int .i64 td]) 19 rfl rfl (by kernel_rfl) (by kernel_rfl) (by kernel_rfl) (fun _ _ _ h => h) (by rfl) ?_ (by assumption) ?_
    · intro W hS'
      obtain ⟨hSa, hSb⟩ := hS'
      go_simp
    simp only [Act.put, List.setIfInBounds_toArray, List.set_cons_zero, List.set_cons_succ]
    refine wpAnyH_all (rs := [1]) (by kernel_rfl) (by decide) (List.forall_mem_cons.2 ⟨?_, fun _ h => absurd h List.not_mem_nil⟩)
    refine wpOp_wp rfl rfl (wp_call_at 18 rfl (f := 54) (args := #[.slice a L.length c]) (by go_simp) ((toHandS_any a c L _ (HIn.below hin1.out (show Below w1.heap.size w1 w1.drew from (Below.refl _ _).drew)) hl).mono ?_))
    rintro ea1 wa1 ⟨va1, rfl, hra1, hba1'⟩
    have hba1 : Below w1.heap.size w1 wa1 := (show Below w1.heap.size w1 w1.drew from (Below.refl _ _).drew).trans hba1'
    obtain ⟨a1, c1, rfl, hia1, hca1, hma1⟩ := hra1.inn
    have hza1 := hba1.size
    clear hba1' hra1
    have hS1 : wa1.cell? ⟨w.heap.size, 0, none⟩ = some (.int .i64 tn) ∧ wa1.cell? ⟨w.heap.size, 1, none⟩ = some (.int .i64 td) := ⟨((bcell hba1).1 _ _ (by omega)).trans q10, ((bcell hba1).1 _ _ (by omega)).trans q11⟩
    refine ⟨_, rfl, hS1, ?_⟩
    simp only [Act.put, List.setIfInBounds_toArray, List.set_cons_zero, List.set_cons_succ]
    refine wpAnyH_all (rs := [3]) (by kernel_rfl) (by decide) (List.forall_mem_cons.2 ⟨?_, fun _ h => absurd h List.not_mem_nil⟩)
    refine wpOp_wp rfl rfl (wp_call_at 20 rfl (f := 23) (args := #[tv tn td]) (by go_simp) ((toTurn_any tn td _).mono ?_))
    rintro eb1 wb1 ⟨rfl, hbb1⟩
    have hzb1 := hbb1.size
    have hS2 : wb1.cell? ⟨w.heap.size, 0, none⟩ = some (.int .i64 tn) ∧ wb1.cell? ⟨w.heap.size, 1, none⟩ = some (.int .i64 td) := ⟨((bcell hbb1).1 _ _ (by omega)).trans hS1.1, ((bcell hbb1).1 _ _ (by omega)).trans hS1.2⟩
    refine ⟨_, rfl, hS2, ?_⟩
    simp only [Act.put, List.setIfInBounds_toArray, List.set_cons_zero, List.set_cons_succ]
    refine wpAnyH_all (rs := [4]) (by kernel_rfl) (by decide) (List.forall_mem_cons.2 ⟨?_, fun _ h => absurd h List.not_mem_nil⟩)
    refine wpOp_wp rfl rfl (wp_call_at 21 rfl (f := 53) (args := #[.slice a1 L.length c1, tv tn td]) (by go_simp) ((specAreSpread_any a1 c1 L tn td _ (HIn.below hia1 hbb1) hi ktd hl).mono ?_))
    rintro ec1 w2 ⟨rfl, hbc1⟩
    have hzc1 := hbc1.size
    have hS3 : w2.cell? ⟨w.heap.size, 0, none⟩ = some (.int .i64 tn) ∧ w2.cell? ⟨w.heap.size, 1, none⟩ = some (.int .i64 td) := ⟨((bcell hbc1).1 _ _ (by omega)).trans hS2.1, ((bcell hbc1).1 _ _ (by omega)).trans hS2.2⟩
    refine ⟨_, rfl, hS3, ?_⟩
    simp only [Act.put, List.setIfInBounds_toArray, List.set_cons_zero, List.set_cons_succ]
    refine take_first (i := 5) (v := .tuple #[.bool (spreadR (gapsR L tn td)).1, .bool (spreadR (gapsR L tn td)).2]) 16 rfl rfl (by kernel_rfl) (by kernel_rfl) (by kernel_rfl) (fun _ _ _ h => h) (by rfl) ?_ (by assumption) ?_
    · intro W hS'
      obtain ⟨hSa, hSb⟩ := hS'
      go_simp
    simp only [Act.put, List.setIfInBounds_toArray, List.set_cons_zero, List.set_cons_succ]
    refine take_first (i := 6) (v := .bool (spreadR (gapsR L tn td)).1) 22 rfl rfl (by kernel_rfl) (by kernel_rfl) (by kernel_rfl) (fun _ _ _ h => h) (by rfl) ?_ (by assumption) ?_
    · intro W hS'
      obtain ⟨hSa, hSb⟩ := hS'
      go_simp
    simp only [Act.put, List.setIfInBounds_toArray, List.set_cons_zero, List.set_cons_succ]
    refine take_first (i := 7) (v := .bool (spreadR (gapsR L tn td)).2) 23 rfl rfl (by kernel_rfl) (by kernel_rfl) (by kernel_rfl) (fun _ _ _ h => h) (by rfl) ?_ (by assumption) ?_
    · intro W hS'
      obtain ⟨hSa, hSb⟩ := hS'
      go_simp
    simp only [Act.put, List.setIfInBounds_toArray, List.set_cons_zero, List.set_cons_succ]
    refine take_first (i := 8) (v := .bool (spreadR (gapsR L tn td)).1) 6 rfl rfl (by kernel_rfl) (by kernel_rfl) (by kernel_rfl) (fun _ _ _ h => h) (by rfl) ?_ (by assumption) ?_
    · intro W hS'
      obtain ⟨hSa, hSb⟩ := hS'
      go_simp
    simp only [Act.put, List.setIfInBounds_toArray, List.set_cons_zero, List.set_cons_succ]
    refine take_first (i := 9) (v := .bool (spreadR (gapsR L tn td)).2) 7 rfl rfl (by kernel_rfl) (by kernel_rfl) (by kernel_rfl) (fun _ _ _ h => h) (by rfl) ?_ (by assumption) ?_
    · intro W hS'
      obtain ⟨hSa, hSb⟩ := hS'
      go_simp
    simp only [Act.put, List.setIfInBounds_toArray, List.set_cons_zero, List.set_cons_succ]
    refine wpAnyH_done (by kernel_rfl) ?_ _
    have hb1 : Below w1.heap.size w1 w2 := hba1.trans ((hbb1.trans (hbc1.mono hbb1.size)).mono hba1.size)
    clear hS0 hS1 hS2 hS3 hia1 hba1 hbb1 hbc1
    have hz1 := hb1.size
    have B2 := hb1
    have y2 := B2.size
    go_wp2_with fail
    refine (toHandS_any a c L _ (hin1.out.below B2) hl).mono ?_
    rintro e3 w3 ⟨v8, rfl, hr8, hb3⟩
    obtain ⟨a8, c8, rfl, hia8, -, -⟩ := hr8.inn
    have HR8 := Lib.hid hr8
    clear hr8
    have B3 : Below w1.heap.size w1 w3 := B2.trans (hb3.mono B2.size)
    have y3 := B3.size
    have zz3 := hb3.size
    have q30 := ((bcell B3).1 w.heap.size 0 hw1lt).trans q10
    have q31 := ((bcell B3).1 w.heap.size 1 hw1lt).trans q11
    go_wp2_with fail
    refine (toTurn_any tn td _).mono ?_
    rintro e4 w4 ⟨rfl, hb4⟩
    have B4 : Below w1.heap.size w1 w4 := B3.trans (hb4.mono B3.size)
    have y4 := B4.size
    have zz4 := hb4.size
    go_wp2_with fail
    refine (implAreSpread_any a8 c8 L tn td _ (hia8.below hb4) hl).mono ?_
    rintro e5 w5 ⟨rfl, hb5⟩
    clear hia8 q30 q31
    have B5 : Below w1.heap.size w1 w5 := B4.trans (hb5.mono B4.size)
    have y5 := B5.size
    have zz5 := hb5.size
    go_wp2_with fail
    refine (toHandS_any a c L _ (hin1.out.below B5) hl).mono ?_
    rintro e6 w6 ⟨v10, rfl, hr10, hb6⟩
    have HR10 := Lib.hid hr10
    clear hr10
    have B6 : Below w1.heap.size w1 w6 := B5.trans (hb6.mono B5.size)
    have y6 := B6.size
    have zz6 := hb6.size
    have G6 := Lib.hid (RowHand.below (RowHand.below (RowHand.below HR8.out hb4) hb5) hb6)
    go_wp2_with fail
    refine (eqHandS_same L (.slice a8 L.length c8) v10 _ _ _ G6.out HR10.out (by omega)).mono ?_
    rintro e7 w7 ⟨rfl, hb7⟩
    have B7 : Below w1.heap.size w1 w7 := B6.trans (hb7.mono B6.size)
    have y7 := B7.size
    have zz7 := hb7.size
    go_wp2
    go_ret
    exact ⟨rfl, hw0.trans (B7.mono hw0.size)⟩

  · have hsz := fun W => szHandS_any a L.length c 1048576 W (by omega) hm
    rw [if_pos (by omega)] at hsz
    have HSZ := Lib.hid hsz
    clear hsz
    (go_enter Try.func16, Try.ntmps16)
    go_wp2_with fail
    refine (HSZ.out _).mono ?_
    (rintro e1 w1 ⟨rfl, rfl⟩)
    go_wp2
    go_ret
    exact ⟨rfl, by (repeat' (first | (with_reducible exact Below.refl _ _) | (with_reducible assumption) | (with_reducible refine Below.alloc ?_ ?_ _) | (with_reducible refine Below.drew ?_) | (with_reducible refine below_drewN ?_ _) | (with_reducible refine Below.setCell ?_ ?_ _) | (with_reducible refine below_call ?_ ?_ (by assumption)) | go_size))⟩

set_option maxRecDepth 100000 in
theorem lifted (os : Os) (started : os.Started) (H : Type) (enc : TypeId × Value → H) :
    ReturnsInHanded {} Try.checked os 16 .any (Rows.fnExactAreSpreadSpec.pre6 enc Try.prog Try.f16 Rows.fnExactAreSpreadRow.domain false) (Rows.fnExactAreSpreadSpec.post enc Try.prog Try.f16 false true false false) := by
  refine returnsInHanded_of_change (C := Try.checked) Try.own started (by kernel_rfl) Try.func16
    (ChangeSpec.witness6 (enc := enc) (C := Try.checked) false ⟨#[], #[.slice none 0 0, .agg #[.int .i64 0, .int .i64 0]], []⟩ 8 (by kernel_rfl) (by kernel_rfl) (by kernel_rfl) (by kernel_rfl)) ?_
  intro W base args ds gs before hval0 hW hcnd _
  have hval : ∀ (j : Nat) t v, Try.f16.params[j]? = some t → args[j]? = some v → Value.okWide Try.prog W .any base t v := hval0
  have hW' := hW
  obtain ⟨p, q, hA0, hV, rfl, hfz, hnd⟩ := hW
  have hA : DataW.TrodAll enc Try.prog W 0 (fun _ => true) true Try.f16.params.toList args.toList ds p := hA0
  rw [Try.params16] at hA hval
  obtain ⟨v0, vs0, d_0, ds0, p0, q0, hargs, rfl, rfl, h0, r0⟩ := trodAll_cons hA
  obtain ⟨v1, vs1, d_1, ds1, p1, q1, rfl, rfl, rfl, h1, r1⟩ := trodAll_cons r0
  obtain ⟨rfl, rfl, rfl⟩ := trodAll_nil r1
  obtain rfl : args = #[v0, v1] := by cases args; simp_all
  obtain ⟨rfl, rfl⟩ := trodVars_none hV
  have h0k := h0
  obtain ⟨a, c, L, rfl, hin, hi, hm⟩ := open_hands (hval 0 55 v0 rfl rfl) h0
  obtain ⟨n1, d1, rfl, rfl, rfl, wn1, wd1⟩ := open_turn (hval 1 23 v1 rfl rfl) h1
  clear hA0 hval0
  simp only [List.append_nil, List.nil_append] at hW'
  have hlt : ∀ y ∈ p0, y.block < W.heap.size := fun y hy => by simpa using hW'.lt y (by simp [hy])
  refine (walk W a c L n1 d1 hin hi hm (i64_of_wf wd1)).mono fun e W' ⟨he, bel⟩ => ?_
  subst he
  have harg0 : DataW.Trod enc Try.prog W' 0 (fun b => decide (b < W.heap.size)) true 55 (.slice a L.length c) d_0 p0 :=
    Below.trod Try.laidOut (by kernel_rfl) (of_decide_eq_true (by kernel_rfl)) h0k bel hlt
  exact ⟨_, rfl, _, _, _, [], _, [], hW', trodAll_mk1 (shut_bool Try.underlying4 _), (trodAll_cons_mk harg0 (trodAll_cons_mk (shut_turn wn1 wd1) trodAll_mk0)), rfl, bel.frame _, fun h => by cases h⟩

theorem closed : joinedFacts Try.prog 16 Try.f16 Rows.fnExactAreSpreadSpec Rows.fnExactAreSpreadRow = true := by
  unfold joinedFacts
  rw [Try.fMake, Try.fEnter, Try.fLifts, Try.fMaps, Try.fLaid, Try.fHeard, Try.fKeys]
  kernel_rfl
theorem over : Rows.fnExactAreSpreadRow.holds Try.pinned (OpenSpec.ofChange Rows.fnExactAreSpreadSpec) :=
  OpenClaim.holds_of_wide 16 Try.f16 rfl rfl rfl rfl rfl rfl rfl ⟨rfl, rfl, rfl, rfl, rfl⟩ rfl rfl rfl rfl rfl (by kernel_rfl) Try.func16
    closed (of_decide_eq_true (by kernel_rfl)) (by unfold Func.isWrapper; first | (rw [if_pos (by decide +kernel)]; kernel_rfl) | (rw [if_neg (by decide +kernel)]; exact ⟨rfl, rfl⟩))
    (fun os started H enc _ => lifted os started H enc)

end Go.Proofs.Ytgdjnnelonnoaaa.fnExactAreSpread
namespace Go.Proofs.Ytgdjnnelonnoaaa
/-- The statement. -/
theorem fnExactAreSpread_proved : Rows.FnExactAreSpreadSaid := fnExactAreSpread.over
#print axioms fnExactAreSpread_proved
end Go.Proofs.Ytgdjnnelonnoaaa