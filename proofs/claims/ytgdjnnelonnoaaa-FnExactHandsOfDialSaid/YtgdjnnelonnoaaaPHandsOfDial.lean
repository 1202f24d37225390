/- FnExactHandsOfDial: called with any arguments, the law returns true, and its arguments read behind the call as before. Conditions: none but the row's own. -/
import Derived.Test.YtgdjnnelonnoaaaFacts
import Derived.Test.YtgdjnnelonnoaaaRow
import Derived.Test.YtgdjnnelonnoaaaHRow
import Derived.Test.YtgdjnnelonnoaaaMeet7
set_option linter.unusedSimpArgs false
set_option linter.unusedVariables false
set_option maxRecDepth 100000
namespace Go.Proofs.Ytgdjnnelonnoaaa.fnExactHandsOfDial
open Go.ChangeShapes Go.WideShapes Go.ChangeAt Go.RowKit

set_option maxHeartbeats 1600000 in
theorem walk (a0 : Int) (k0 : I64 a0) (w : World) :
    Calls Try.prog 18 #[.int .i64 a0] w fun e w' => e = .returned (.bool true) ∧ Below w.heap.size w w' := by
  (go_enter Try.func18, Try.ntmps18)
  have HLEN := Lib.hid (show ((dialR a0).1).length ≤ 2000000 from Nat.le_trans (dialR_len a0) (by omega))
  go_wp2_with fail
  refine (specHandsOfDial_any a0 _).mono ?_
  (rintro e1 w1 ⟨v1, rfl, hr1, hb1⟩; have HR1 := Lib.hid hr1; clear hr1; obtain ⟨hc1, hf1⟩ := bcell hb1; have hz1 := hb1.size; (try simp only [World.size_alloc, World.size_setCell, World.size_drew] at hz1); have q1 : w.heap.size ≤ w1.heap.size := (by omega); (try have q1_0 : w.heap.size < w1.heap.size := (by omega)); (try have q1_1 : w.heap.size + 1 < w1.heap.size := (by omega)); (try have q1_2 : w.heap.size + 2 < w1.heap.size := (by omega)); (try have q1_3 : w.heap.size + 3 < w1.heap.size := (by omega)))
  go_wp2_with fail
  refine (implHandsOfDial_any a0 _).mono ?_
  (rintro e2 w2 ⟨v2, rfl, hr2, hb2⟩; have HR2 := Lib.hid hr2; clear hr2; obtain ⟨hc2, hf2⟩ := bcell hb2; have hz2 := hb2.size; (try simp only [World.size_alloc, World.size_setCell, World.size_drew] at hz2); have q2 : w.heap.size ≤ w2.heap.size := (by omega); (try have q2_0 : w.heap.size < w2.heap.size := (by omega)); (try have q2_1 : w.heap.size + 1 < w2.heap.size := (by omega)); (try have q2_2 : w.heap.size + 2 < w2.heap.size := (by omega)); (try have q2_3 : w.heap.size + 3 < w2.heap.size := (by omega)); (try have q2_1_0 : w1.heap.size < w2.heap.size := (by omega)); (try have q2_1_1 : w1.heap.size + 1 < w2.heap.size := (by omega)))
  have R1 := Lib.hid (show RowHand w2 _ v1 (dialR a0).1 from (RowHand.below HR1.out hb2))
  go_wp2_with fail
  refine (eqHandS_same (dialR a0).1 v2 v1 _ _ _ HR2.out R1.out HLEN.out).mono ?_
  (rintro e3 w3 ⟨rfl, hb3⟩; obtain ⟨hc3, hf3⟩ := bcell hb3; have hz3 := hb3.size; (try simp only [World.size_alloc, World.size_setCell, World.size_drew] at hz3); have q3 : w.heap.size ≤ w3.heap.size := (by omega); (try have q3_0 : w.heap.size < w3.heap.size := (by omega)); (try have q3_1 : w.heap.size + 1 < w3.heap.size := (by omega)); (try have q3_2 : w.heap.size + 2 < w3.heap.size := (by omega)); (try have q3_3 : w.heap.size + 3 < w3.heap.size := (by omega)); (try have q3_1_0 : w1.heap.size < w3.heap.size := (by omega)); (try have q3_1_1 : w1.heap.size + 1 < w3.heap.size := (by omega)); (try have q3_2_0 : w2.heap.size < w3.heap.size := (by omega)); (try have q3_2_1 : w2.heap.size + 1 < w3.heap.size := (by omega)))
  have G2 := Lib.hid (RowHand.below HR2.out hb3)
  have S1 := Lib.hid (RowHand.below R1.out hb3)
  go_wp2_with fail
  refine (markHandS_any (dialR a0).1 v2 _ 1 _ G2.out HLEN.out (by omega) (by omega)).mono ?_
  rintro e4 w4 ⟨rfl, hr4, hg4⟩
  have M4 := Lib.hid hr4
  clear hr4
  have HAP := Lib.hid (RowHand.apart (w' := w2) HR1.out HR2.out (by omega))
  have S40 := Lib.hid (RowHand.kept S1.out hg4 HAP.out)
  have HLOW := RowHand.low HR2.out
  have hB4 : Below w.heap.size w w4 := Below.grown (w := w3) (by (repeat' (first | (with_reducible exact Below.refl _ _) | (with_reducible assumption) | (with_reducible refine Below.alloc ?_ ?_ _) | (with_reducible refine Below.drew ?_) | (with_reducible refine below_drewN ?_ _) | (with_reducible refine Below.setCell ?_ ?_ _) | (with_reducible refine below_call ?_ ?_ (by assumption)) | go_size))) hg4 (by omega) (fun j hj => by have := HLOW j hj; omega)
  have hz4 := hg4.size
  have HC4 := Lib.hid (show ∀ b o, b < w1.heap.size → w4.cell? ⟨b, o, none⟩ = w3.cell? ⟨b, o, none⟩ from fun b o hb => World.grownBy.cell_far hg4 ⟨b, o, none⟩ (by show b < _; omega) (fun e => by have := HLOW b e.symm; omega))
  clear HLOW
  have hg4h := Lib.hid hg4
  clear hg4
  have hc4 := HC4.out
  have q4 : w.heap.size ≤ w4.heap.size := by omega
  go_wp2_with fail
  refine (heldHandS_marked (dialR a0).1 v2 _ 1 _ M4.out HLEN.out (by omega) (by omega)).mono ?_
  (rintro e5 w5 ⟨rfl, hb5⟩; obtain ⟨hc5, hf5⟩ := bcell hb5; have hz5 := hb5.size; (try simp only [World.size_alloc, World.size_setCell, World.size_drew] at hz5); have q5 : w.heap.size ≤ w5.heap.size := (by omega); (try have q5_0 : w.heap.size < w5.heap.size := (by omega)); (try have q5_1 : w.heap.size + 1 < w5.heap.size := (by omega)); (try have q5_2 : w.heap.size + 2 < w5.heap.size := (by omega)); (try have q5_3 : w.heap.size + 3 < w5.heap.size := (by omega)); (try have q5_1_0 : w1.heap.size < w5.heap.size := (by omega)); (try have q5_1_1 : w1.heap.size + 1 < w5.heap.size := (by omega)); (try have q5_2_0 : w2.heap.size < w5.heap.size := (by omega)); (try have q5_2_1 : w2.heap.size + 1 < w5.heap.size := (by omega)); (try have q5_3_0 : w3.heap.size < w5.heap.size := (by omega)); (try have q5_3_1 : w3.heap.size + 1 < w5.heap.size := (by omega)); (try have q5_4_0 : w4.heap.size < w5.heap.size := (by omega)); (try have q5_4_1 : w4.heap.size + 1 < w5.heap.size := (by omega)))
  go_wp2_with fail
  refine (implHandsOfDial_any a0 _).mono ?_
  (rintro e6 w6 ⟨v6, rfl, hr6, hb6⟩; have HR6 := Lib.hid hr6; clear hr6; obtain ⟨hc6, hf6⟩ := bcell hb6; have hz6 := hb6.size; (try simp only [World.size_alloc, World.size_setCell, World.size_drew] at hz6); have q6 : w.heap.size ≤ w6.heap.size := (by omega); (try have q6_0 : w.heap.size < w6.heap.size := (by omega)); (try have q6_1 : w.heap.size + 1 < w6.heap.size := (by omega)); (try have q6_2 : w.heap.size + 2 < w6.heap.size := (by omega)); (try have q6_3 : w.heap.size + 3 < w6.heap.size := (by omega)); (try have q6_1_0 : w1.heap.size < w6.heap.size := (by omega)); (try have q6_1_1 : w1.heap.size + 1 < w6.heap.size := (by omega)); (try have q6_2_0 : w2.heap.size < w6.heap.size := (by omega)); (try have q6_2_1 : w2.heap.size + 1 < w6.heap.size := (by omega)); (try have q6_3_0 : w3.heap.size < w6.heap.size := (by omega)); (try have q6_3_1 : w3.heap.size + 1 < w6.heap.size := (by omega)); (try have q6_4_0 : w4.heap.size < w6.heap.size := (by omega)); (try have q6_4_1 : w4.heap.size + 1 < w6.heap.size := (by omega)); (try have q6_5_0 : w5.heap.size < w6.heap.size := (by omega)); (try have q6_5_1 : w5.heap.size + 1 < w6.heap.size := (by omega)))
  have Z1 := Lib.hid (show RowHand w6 _ v1 (dialR a0).1 from (RowHand.below (RowHand.below S40.out hb5) hb6))
  go_wp2_with fail
  refine (eqHandS_same (dialR a0).1 v6 v1 _ _ _ HR6.out Z1.out HLEN.out).mono ?_
  (rintro e7 w7 ⟨rfl, hb7⟩; obtain ⟨hc7, hf7⟩ := bcell hb7; have hz7 := hb7.size; (try simp only [World.size_alloc, World.size_setCell, World.size_drew] at hz7); have q7 : w.heap.size ≤ w7.heap.size := (by omega); (try have q7_0 : w.heap.size < w7.heap.size := (by omega)); (try have q7_1 : w.heap.size + 1 < w7.heap.size := (by omega)); (try have q7_2 : w.heap.size + 2 < w7.heap.size := (by omega)); (try have q7_3 : w.heap.size + 3 < w7.heap.size := (by omega)); (try have q7_1_0 : w1.heap.size < w7.heap.size := (by omega)); (try have q7_1_1 : w1.heap.size + 1 < w7.heap.size := (by omega)); (try have q7_2_0 : w2.heap.size < w7.heap.size := (by omega)); (try have q7_2_1 : w2.heap.size + 1 < w7.heap.size := (by omega)); (try have q7_3_0 : w3.heap.size < w7.heap.size := (by omega)); (try have q7_3_1 : w3.heap.size + 1 < w7.heap.size := (by omega)); (try have q7_4_0 : w4.heap.size < w7.heap.size := (by omega)); (try have q7_4_1 : w4.heap.size + 1 < w7.heap.size := (by omega)); (try have q7_5_0 : w5.heap.size < w7.heap.size := (by omega)); (try have q7_5_1 : w5.heap.size + 1 < w7.heap.size := (by omega)); (try have q7_6_0 : w6.heap.size < w7.heap.size := (by omega)); (try have q7_6_1 : w6.heap.size + 1 < w7.heap.size := (by omega)))
  have Y2 := Lib.hid (show RowHand w7 _ v2 (markedHand (dialR a0).1 1 ((dialR a0).1).length) from (RowHand.below (RowHand.below (RowHand.below M4.out hb5) hb6) hb7))
  go_wp2_with fail
  refine (heldHandS_marked (dialR a0).1 v2 _ 1 _ Y2.out HLEN.out (by omega) (by omega)).mono ?_
  (rintro e8 w8 ⟨rfl, hb8⟩; obtain ⟨hc8, hf8⟩ := bcell hb8; have hz8 := hb8.size; (try simp only [World.size_alloc, World.size_setCell, World.size_drew] at hz8); have q8 : w.heap.size ≤ w8.heap.size := (by omega); (try have q8_0 : w.heap.size < w8.heap.size := (by omega)); (try have q8_1 : w.heap.size + 1 < w8.heap.size := (by omega)); (try have q8_2 : w.heap.size + 2 < w8.heap.size := (by omega)); (try have q8_3 : w.heap.size + 3 < w8.heap.size := (by omega)); (try have q8_1_0 : w1.heap.size < w8.heap.size := (by omega)); (try have q8_1_1 : w1.heap.size + 1 < w8.heap.size := (by omega)); (try have q8_2_0 : w2.heap.size < w8.heap.size := (by omega)); (try have q8_2_1 : w2.heap.size + 1 < w8.heap.size := (by omega)); (try have q8_3_0 : w3.heap.size < w8.heap.size := (by omega)); (try have q8_3_1 : w3.heap.size + 1 < w8.heap.size := (by omega)); (try have q8_4_0 : w4.heap.size < w8.heap.size := (by omega)); (try have q8_4_1 : w4.heap.size + 1 < w8.heap.size := (by omega)); (try have q8_5_0 : w5.heap.size < w8.heap.size := (by omega)); (try have q8_5_1 : w5.heap.size + 1 < w8.heap.size := (by omega)); (try have q8_6_0 : w6.heap.size < w8.heap.size := (by omega)); (try have q8_6_1 : w6.heap.size + 1 < w8.heap.size := (by omega)); (try have q8_7_0 : w7.heap.size < w8.heap.size := (by omega)); (try have q8_7_1 : w7.heap.size + 1 < w8.heap.size := (by omega)))
  go_wp2
  go_ret
  exact ⟨rfl, by (repeat' (first | (with_reducible exact Below.refl _ _) | (with_reducible assumption) | (with_reducible refine Below.alloc ?_ ?_ _) | (with_reducible refine Below.drew ?_) | (with_reducible refine below_drewN ?_ _) | (with_reducible refine Below.setCell ?_ ?_ _) | (with_reducible refine below_call ?_ ?_ (by assumption)) | go_size))⟩

set_option maxRecDepth 100000 in
theorem lifted (os : Os) (started : os.Started) (H : Type) (enc : TypeId × Value → H) :
    ReturnsInHanded {} Try.checked os 18 .any (Rows.fnExactHandsOfDialSpec.pre6 enc Try.prog Try.f18 Rows.fnExactHandsOfDialRow.domain false) (Rows.fnExactHandsOfDialSpec.post enc Try.prog Try.f18 false true false false) := by
  refine returnsInHanded_of_change (C := Try.checked) Try.own started (by kernel_rfl) Try.func18
    (ChangeSpec.witness6 (enc := enc) (C := Try.checked) false ⟨#[], #[.int .i64 0], []⟩ 8 (by kernel_rfl) (by kernel_rfl) (by kernel_rfl) (by kernel_rfl)) ?_
  intro W base args ds gs before hval0 hW hcnd _
  have hval : ∀ (j : Nat) t v, Try.f18.params[j]? = some t → args[j]? = some v → Value.okWide Try.prog W .any base t v := hval0
  have hW' := hW
  obtain ⟨p, q, hA0, hV, rfl, hfz, hnd⟩ := hW
  have hA : DataW.TrodAll enc Try.prog W 0 (fun _ => true) true Try.f18.params.toList args.toList ds p := hA0
  rw [Try.params18] at hA hval
  obtain ⟨v0, vs0, d_0, ds0, p0, q0, hargs, rfl, rfl, h0, r0⟩ := trodAll_cons hA
  obtain ⟨rfl, rfl, rfl⟩ := trodAll_nil r0
  obtain rfl : args = #[v0] := by cases args; simp_all
  obtain ⟨rfl, rfl⟩ := trodVars_none hV
  obtain ⟨a0, rfl, rfl, rfl, w0⟩ := open_int Try.underlying3 (hval 0 3 v0 rfl rfl) h0
  clear hA0 hval0
  refine (walk a0 (i64_of_wf w0) W).mono fun e W' ⟨he, bel⟩ => ?_
  subst he
  exact ⟨_, rfl, _, _, _, [], _, [], hW', trodAll_mk1 (shut_bool Try.underlying4 _), (trodAll_cons_mk (shut_int Try.underlying3 w0) trodAll_mk0), rfl, bel.frame _, fun h => by cases h⟩

theorem closed : joinedFacts Try.prog 18 Try.f18 Rows.fnExactHandsOfDialSpec Rows.fnExactHandsOfDialRow = true := by
  unfold joinedFacts
  rw [Try.fMake, Try.fEnter, Try.fLifts, Try.fMaps, Try.fLaid, Try.fHeard, Try.fKeys]
  kernel_rfl
theorem over : Rows.fnExactHandsOfDialRow.holds Try.pinned (OpenSpec.ofChange Rows.fnExactHandsOfDialSpec) :=
  OpenClaim.holds_of_wide 18 Try.f18 rfl rfl rfl rfl rfl rfl rfl ⟨rfl, rfl, rfl, rfl, rfl⟩ rfl rfl rfl rfl rfl (by kernel_rfl) Try.func18
    closed (of_decide_eq_true (by kernel_rfl)) (by unfold Func.isWrapper; first | (rw [if_pos (by decide +kernel)]; kernel_rfl) | (rw [if_neg (by decide +kernel)]; exact ⟨rfl, rfl⟩))
    (fun os started H enc _ => lifted os started H enc)

end Go.Proofs.Ytgdjnnelonnoaaa.fnExactHandsOfDial
namespace Go.Proofs.Ytgdjnnelonnoaaa
/-- The statement. -/
theorem fnExactHandsOfDial_proved : Rows.FnExactHandsOfDialSaid := fnExactHandsOfDial.over
#print axioms fnExactHandsOfDial_proved
end Go.Proofs.Ytgdjnnelonnoaaa
