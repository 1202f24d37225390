/- FnExactTimesWithLong: called with any arguments, the law returns true, and its arguments read behind the call as before. Conditions: none but the row's own. -/
import Derived.Test.YtebjlaajddpbhaaRow
import Derived.Test.YtebjlaajddpbhaaDial7
import Derived.Test.YtebjlaajddpbhaaLate
set_option linter.unusedSimpArgs false
set_option linter.unusedVariables false
set_option maxRecDepth 100000
namespace Go.Proofs.Ytebjlaajddpbhaa.fnExactTimesWithLong
open Go.ChangeShapes Go.WideShapes Go.ChangeAt Go.RowKit

set_option maxHeartbeats 1600000 in
theorem walk (a0 : Int) (n1 d1 : Int) (k0 : I64 a0) (kn1 : I64 n1) (kd1 : I64 d1) (w : World) :
    Calls Try.prog 18 #[.int .i64 a0, tv n1 d1] w fun e w' => e = .returned (.bool true) ∧ Below w.heap.size w w' := by
  (go_enter Try.func18, Try.ntmps18)
  have HLEN := Lib.hid (show ((twlL a0 n1 d1)).length ≤ 1000000 from twlL_len a0 n1 d1)
  go_wp2_with fail
  refine (toTurn_any _ _ _).mono ?_
  (rintro e1 w1 ⟨rfl, hb1⟩; obtain ⟨hc1, hf1⟩ := bcell hb1; have hz1 := hb1.size; (try simp only [World.size_alloc, World.size_setCell, World.size_drew] at hz1); have q1 : w.heap.size ≤ w1.heap.size := (by omega); (try have q1_0 : w.heap.size < w1.heap.size := (by omega)); (try have q1_1 : w.heap.size + 1 < w1.heap.size := (by omega)); (try have q1_2 : w.heap.size + 2 < w1.heap.size := (by omega)); (try have q1_3 : w.heap.size + 3 < w1.heap.size := (by omega)))
  go_wp2_with fail
  refine (specTimesWithLong_any a0 n1 d1 kd1 _).mono ?_
  (rintro e2 w2 ⟨v2, rfl, hr2, hb2⟩; have HR2 := Lib.hid hr2; clear hr2; obtain ⟨hc2, hf2⟩ := bcell hb2; have hz2 := hb2.size; (try simp only [World.size_alloc, World.size_setCell, World.size_drew] at hz2); have q2 : w.heap.size ≤ w2.heap.size := (by omega); (try have q2_0 : w.heap.size < w2.heap.size := (by omega)); (try have q2_1 : w.heap.size + 1 < w2.heap.size := (by omega)); (try have q2_2 : w.heap.size + 2 < w2.heap.size := (by omega)); (try have q2_3 : w.heap.size + 3 < w2.heap.size := (by omega)); (try have q2_1_0 : w1.heap.size < w2.heap.size := (by omega)); (try have q2_1_1 : w1.heap.size + 1 < w2.heap.size := (by omega)))
  go_wp2_with fail
  refine (toTurn_any _ _ _).mono ?_
  (rintro e3 w3 ⟨rfl, hb3⟩; obtain ⟨hc3, hf3⟩ := bcell hb3; have hz3 := hb3.size; (try simp only [World.size_alloc, World.size_setCell, World.size_drew] at hz3); have q3 : w.heap.size ≤ w3.heap.size := (by omega); (try have q3_0 : w.heap.size < w3.heap.size := (by omega)); (try have q3_1 : w.heap.size + 1 < w3.heap.size := (by omega)); (try have q3_2 : w.heap.size + 2 < w3.heap.size := (by omega)); (try have q3_3 : w.heap.size + 3 < w3.heap.size := (by omega)); (try have q3_1_0 : w1.heap.size < w3.heap.size := (by omega)); (try have q3_1_1 : w1.heap.size + 1 < w3.heap.size := (by omega)); (try have q3_2_0 : w2.heap.size < w3.heap.size := (by omega)); (try have q3_2_1 : w2.heap.size + 1 < w3.heap.size := (by omega)))
  go_wp2_with fail
  refine (implTimesWithLong_any a0 n1 d1 _).mono ?_
  (rintro e4 w4 ⟨v4, rfl, hr4, hb4⟩; have HR4 := Lib.hid hr4; clear hr4; obtain ⟨hc4, hf4⟩ := bcell hb4; have hz4 := hb4.size; (try simp only [World.size_alloc, World.size_setCell, World.size_drew] at hz4); have q4 : w.heap.size ≤ w4.heap.size := (by omega); (try have q4_0 : w.heap.size < w4.heap.size := (by omega)); (try have q4_1 : w.heap.size + 1 < w4.heap.size := (by omega)); (try have q4_2 : w.heap.size + 2 < w4.heap.size := (by omega)); (try have q4_3 : w.heap.size + 3 < w4.heap.size := (by omega)); (try have q4_1_0 : w1.heap.size < w4.heap.size := (by omega)); (try have q4_1_1 : w1.heap.size + 1 < w4.heap.size := (by omega)); (try have q4_2_0 : w2.heap.size < w4.heap.size := (by omega)); (try have q4_2_1 : w2.heap.size + 1 < w4.heap.size := (by omega)); (try have q4_3_0 : w3.heap.size < w4.heap.size := (by omega)); (try have q4_3_1 : w3.heap.size + 1 < w4.heap.size := (by omega)))
  have R2 := Lib.hid (show TRow w4 _ v2 (twlL a0 n1 d1) from (TRow.below (TRow.below HR2.out hb3) hb4))
  go_wp2_with fail
  refine (eqTurnS_same (twlL a0 n1 d1) v4 v2 _ _ _ HR4.out R2.out HLEN.out).mono ?_
  (rintro e5 w5 ⟨rfl, hb5⟩; obtain ⟨hc5, hf5⟩ := bcell hb5; have hz5 := hb5.size; (try simp only [World.size_alloc, World.size_setCell, World.size_drew] at hz5); have q5 : w.heap.size ≤ w5.heap.size := (by omega); (try have q5_0 : w.heap.size < w5.heap.size := (by omega)); (try have q5_1 : w.heap.size + 1 < w5.heap.size := (by omega)); (try have q5_2 : w.heap.size + 2 < w5.heap.size := (by omega)); (try have q5_3 : w.heap.size + 3 < w5.heap.size := (by omega)); (try have q5_1_0 : w1.heap.size < w5.heap.size := (by omega)); (try have q5_1_1 : w1.heap.size + 1 < w5.heap.size := (by omega)); (try have q5_2_0 : w2.heap.size < w5.heap.size := (by omega)); (try have q5_2_1 : w2.heap.size + 1 < w5.heap.size := (by omega)); (try have q5_3_0 : w3.heap.size < w5.heap.size := (by omega)); (try have q5_3_1 : w3.heap.size + 1 < w5.heap.size := (by omega)); (try have q5_4_0 : w4.heap.size < w5.heap.size := (by omega)); (try have q5_4_1 : w4.heap.size + 1 < w5.heap.size := (by omega)))
  have G4 := Lib.hid (TRow.below HR4.out hb5)
  have S2 := Lib.hid (TRow.below R2.out hb5)
  go_wp2_with fail
  refine (markTurnS_any (twlL a0 n1 d1) v4 _ 1 _ G4.out HLEN.out (by omega) (by omega)).mono ?_
  rintro e6 w6 ⟨rfl, hr6, hg6⟩
  have M6 := Lib.hid hr6
  clear hr6
  have HAP := Lib.hid (TRow.apart (w' := w4) HR2.out HR4.out (by omega))
  have S60 := Lib.hid (TRow.kept S2.out hg6 HAP.out)
  have HLOW := TRow.low HR4.out
  have hB6 : Below w.heap.size w w6 := Below.grown (w := w5) (by (repeat' (first | (with_reducible exact Below.refl _ _) | (with_reducible assumption) | (with_reducible refine Below.alloc ?_ ?_ _) | (with_reducible refine Below.drew ?_) | (with_reducible refine below_drewN ?_ _) | (with_reducible refine Below.setCell ?_ ?_ _) | (with_reducible refine below_call ?_ ?_ (by assumption)) | go_size))) hg6 (by omega) (fun j hj => by have := HLOW j hj; omega)
  have hz6 := hg6.size
  have HC6 := Lib.hid (show ∀ b o, b < w3.heap.size → w6.cell? ⟨b, o, none⟩ = w5.cell? ⟨b, o, none⟩ from fun b o hb => World.grownBy.cell_far hg6 ⟨b, o, none⟩ (by show b < _; omega) (fun e => by have := HLOW b e.symm; omega))
  clear HLOW
  have hg6h := Lib.hid hg6
  clear hg6
  have hc6 := HC6.out
  have q6 : w.heap.size ≤ w6.heap.size := by omega
  have q6_0 : w.heap.size < w6.heap.size := by omega
  go_wp2_with fail
  refine (heldTurnS_marked (twlL a0 n1 d1) v4 _ 1 _ M6.out HLEN.out (by omega) (by omega)).mono ?_
  (rintro e7 w7 ⟨rfl, hb7⟩; obtain ⟨hc7, hf7⟩ := bcell hb7; have hz7 := hb7.size; (try simp only [World.size_alloc, World.size_setCell, World.size_drew] at hz7); have q7 : w.heap.size ≤ w7.heap.size := (by omega); (try have q7_0 : w.heap.size < w7.heap.size := (by omega)); (try have q7_1 : w.heap.size + 1 < w7.heap.size := (by omega)); (try have q7_2 : w.heap.size + 2 < w7.heap.size := (by omega)); (try have q7_3 : w.heap.size + 3 < w7.heap.size := (by omega)); (try have q7_1_0 : w1.heap.size < w7.heap.size := (by omega)); (try have q7_1_1 : w1.heap.size + 1 < w7.heap.size := (by omega)); (try have q7_2_0 : w2.heap.size < w7.heap.size := (by omega)); (try have q7_2_1 : w2.heap.size + 1 < w7.heap.size := (by omega)); (try have q7_3_0 : w3.heap.size < w7.heap.size := (by omega)); (try have q7_3_1 : w3.heap.size + 1 < w7.heap.size := (by omega)); (try have q7_4_0 : w4.heap.size < w7.heap.size := (by omega)); (try have q7_4_1 : w4.heap.size + 1 < w7.heap.size := (by omega)); (try have q7_5_0 : w5.heap.size < w7.heap.size := (by omega)); (try have q7_5_1 : w5.heap.size + 1 < w7.heap.size := (by omega)); (try have q7_6_0 : w6.heap.size < w7.heap.size := (by omega)); (try have q7_6_1 : w6.heap.size + 1 < w7.heap.size := (by omega)))
  go_wp2_with fail
  refine (toTurn_any _ _ _).mono ?_
  (rintro e8 w8 ⟨rfl, hb8⟩; obtain ⟨hc8, hf8⟩ := bcell hb8; have hz8 := hb8.size; (try simp only [World.size_alloc, World.size_setCell, World.size_drew] at hz8); have q8 : w.heap.size ≤ w8.heap.size := (by omega); (try have q8_0 : w.heap.size < w8.heap.size := (by omega)); (try have q8_1 : w.heap.size + 1 < w8.heap.size := (by omega)); (try have q8_2 : w.heap.size + 2 < w8.heap.size := (by omega)); (try have q8_3 : w.heap.size + 3 < w8.heap.size := (by omega)); (try have q8_1_0 : w1.heap.size < w8.heap.size := (by omega)); (try have q8_1_1 : w1.heap.size + 1 < w8.heap.size := (by omega)); (try have q8_2_0 : w2.heap.size < w8.heap.size := (by omega)); (try have q8_2_1 : w2.heap.size + 1 < w8.heap.size := (by omega)); (try have q8_3_0 : w3.heap.size < w8.heap.size := (by omega)); (try have q8_3_1 : w3.heap.size + 1 < w8.heap.size := (by omega)); (try have q8_4_0 : w4.heap.size < w8.heap.size := (by omega)); (try have q8_4_1 : w4.heap.size + 1 < w8.heap.size := (by omega)); (try have q8_5_0 : w5.heap.size < w8.heap.size := (by omega)); (try have q8_5_1 : w5.heap.size + 1 < w8.heap.size := (by omega)); (try have q8_6_0 : w6.heap.size < w8.heap.size := (by omega)); (try have q8_6_1 : w6.heap.size + 1 < w8.heap.size := (by omega)); (try have q8_7_0 : w7.heap.size < w8.heap.size := (by omega)); (try have q8_7_1 : w7.heap.size + 1 < w8.heap.size := (by omega)))
  go_wp2_with fail
  refine (implTimesWithLong_any a0 n1 d1 _).mono ?_
  (rintro e9 w9 ⟨v9, rfl, hr9, hb9⟩; have HR9 := Lib.hid hr9; clear hr9; obtain ⟨hc9, hf9⟩ := bcell hb9; have hz9 := hb9.size; (try simp only [World.size_alloc, World.size_setCell, World.size_drew] at hz9); have q9 : w.heap.size ≤ w9.heap.size := (by omega); (try have q9_0 : w.heap.size < w9.heap.size := (by omega)); (try have q9_1 : w.heap.size + 1 < w9.heap.size := (by omega)); (try have q9_2 : w.heap.size + 2 < w9.heap.size := (by omega)); (try have q9_3 : w.heap.size + 3 < w9.heap.size := (by omega)); (try have q9_1_0 : w1.heap.size < w9.heap.size := (by omega)); (try have q9_1_1 : w1.heap.size + 1 < w9.heap.size := (by omega)); (try have q9_2_0 : w2.heap.size < w9.heap.size := (by omega)); (try have q9_2_1 : w2.heap.size + 1 < w9.heap.size := (by omega)); (try have q9_3_0 : w3.heap.size < w9.heap.size := (by omega)); (try have q9_3_1 : w3.heap.size + 1 < w9.heap.size := (by omega)); (try have q9_4_0 : w4.heap.size < w9.heap.size := (by omega)); (try have q9_4_1 : w4.heap.size + 1 < w9.heap.size := (by omega)); (try have q9_5_0 : w5.heap.size < w9.heap.size := (by omega)); (try have q9_5_1 : w5.heap.size + 1 < w9.heap.size := (by omega)); (try have q9_6_0 : w6.heap.size < w9.heap.size := (by omega)); (try have q9_6_1 : w6.heap.size + 1 < w9.heap.size := (by omega)); (try have q9_7_0 : w7.heap.size < w9.heap.size := (by omega)); (try have q9_7_1 : w7.heap.size + 1 < w9.heap.size := (by omega)); (try have q9_8_0 : w8.heap.size < w9.heap.size := (by omega)); (try have q9_8_1 : w8.heap.size + 1 < w9.heap.size := (by omega)))
  have Z2 := Lib.hid (show TRow w9 _ v2 (twlL a0 n1 d1) from (TRow.below (TRow.below (TRow.below S60.out hb7) hb8) hb9))
  go_wp2_with fail
  refine (eqTurnS_same (twlL a0 n1 d1) v9 v2 _ _ _ HR9.out Z2.out HLEN.out).mono ?_
  (rintro e10 w10 ⟨rfl, hb10⟩; obtain ⟨hc10, hf10⟩ := bcell hb10; have hz10 := hb10.size; (try simp only [World.size_alloc, World.size_setCell, World.size_drew] at hz10); have q10 : w.heap.size ≤ w10.heap.size := (by omega); (try have q10_0 : w.heap.size < w10.heap.size := (by omega)); (try have q10_1 : w.heap.size + 1 < w10.heap.size := (by omega)); (try have q10_2 : w.heap.size + 2 < w10.heap.size := (by omega)); (try have q10_3 : w.heap.size + 3 < w10.heap.size := (by omega)); (try have q10_1_0 : w1.heap.size < w10.heap.size := (by omega)); (try have q10_1_1 : w1.heap.size + 1 < w10.heap.size := (by omega)); (try have q10_2_0 : w2.heap.size < w10.heap.size := (by omega)); (try have q10_2_1 : w2.heap.size + 1 < w10.heap.size := (by omega)); (try have q10_3_0 : w3.heap.size < w10.heap.size := (by omega)); (try have q10_3_1 : w3.heap.size + 1 < w10.heap.size := (by omega)); (try have q10_4_0 : w4.heap.size < w10.heap.size := (by omega)); (try have q10_4_1 : w4.heap.size + 1 < w10.heap.size := (by omega)); (try have q10_5_0 : w5.heap.size < w10.heap.size := (by omega)); (try have q10_5_1 : w5.heap.size + 1 < w10.heap.size := (by omega)); (try have q10_6_0 : w6.heap.size < w10.heap.size := (by omega)); (try have q10_6_1 : w6.heap.size + 1 < w10.heap.size := (by omega)); (try have q10_7_0 : w7.heap.size < w10.heap.size := (by omega)); (try have q10_7_1 : w7.heap.size + 1 < w10.heap.size := (by omega)); (try have q10_8_0 : w8.heap.size < w10.heap.size := (by omega)); (try have q10_8_1 : w8.heap.size + 1 < w10.heap.size := (by omega)); (try have q10_9_0 : w9.heap.size < w10.heap.size := (by omega)); (try have q10_9_1 : w9.heap.size + 1 < w10.heap.size := (by omega)))
  have Y4 := Lib.hid (show TRow w10 _ v4 (marked (twlL a0 n1 d1) 1 ((twlL a0 n1 d1)).length) from (TRow.below (TRow.below (TRow.below (TRow.below M6.out hb7) hb8) hb9) hb10))
  go_wp2_with fail
  refine (heldTurnS_marked (twlL a0 n1 d1) v4 _ 1 _ Y4.out HLEN.out (by omega) (by omega)).mono ?_
  (rintro e11 w11 ⟨rfl, hb11⟩; obtain ⟨hc11, hf11⟩ := bcell hb11; have hz11 := hb11.size; (try simp only [World.size_alloc, World.size_setCell, World.size_drew] at hz11); have q11 : w.heap.size ≤ w11.heap.size := (by omega); (try have q11_0 : w.heap.size < w11.heap.size := (by omega)); (try have q11_1 : w.heap.size + 1 < w11.heap.size := (by omega)); (try have q11_2 : w.heap.size + 2 < w11.heap.size := (by omega)); (try have q11_3 : w.heap.size + 3 < w11.heap.size := (by omega)); (try have q11_1_0 : w1.heap.size < w11.heap.size := (by omega)); (try have q11_1_1 : w1.heap.size + 1 < w11.heap.size := (by omega)); (try have q11_2_0 : w2.heap.size < w11.heap.size := (by omega)); (try have q11_2_1 : w2.heap.size + 1 < w11.heap.size := (by omega)); (try have q11_3_0 : w3.heap.size < w11.heap.size := (by omega)); (try have q11_3_1 : w3.heap.size + 1 < w11.heap.size := (by omega)); (try have q11_4_0 : w4.heap.size < w11.heap.size := (by omega)); (try have q11_4_1 : w4.heap.size + 1 < w11.heap.size := (by omega)); (try have q11_5_0 : w5.heap.size < w11.heap.size := (by omega)); (try have q11_5_1 : w5.heap.size + 1 < w11.heap.size := (by omega)); (try have q11_6_0 : w6.heap.size < w11.heap.size := (by omega)); (try have q11_6_1 : w6.heap.size + 1 < w11.heap.size := (by omega)); (try have q11_7_0 : w7.heap.size < w11.heap.size := (by omega)); (try have q11_7_1 : w7.heap.size + 1 < w11.heap.size := (by omega)); (try have q11_8_0 : w8.heap.size < w11.heap.size := (by omega)); (try have q11_8_1 : w8.heap.size + 1 < w11.heap.size := (by omega)); (try have q11_9_0 : w9.heap.size < w11.heap.size := (by omega)); (try have q11_9_1 : w9.heap.size + 1 < w11.heap.size := (by omega)); (try have q11_10_0 : w10.heap.size < w11.heap.size := (by omega)); (try have q11_10_1 : w10.heap.size + 1 < w11.heap.size := (by omega)))
  go_wp2
  go_ret
  exact ⟨rfl, by (repeat' (first | (with_reducible exact Below.refl _ _) | (with_reducible assumption) | (with_reducible refine Below.alloc ?_ ?_ _) | (with_reducible refine Below.drew ?_) | (with_reducible refine below_drewN ?_ _) | (with_reducible refine Below.setCell ?_ ?_ _) | (with_reducible refine below_call ?_ ?_ (by assumption)) | go_size))⟩

set_option maxRecDepth 100000 in
theorem lifted (os : Os) (started : os.Started) (H : Type) (enc : TypeId × Value → H) :
    ReturnsInHanded {} Try.checked os 18 .any (Rows.fnExactTimesWithLongSpec.pre6 enc Try.prog Try.f18 Rows.fnExactTimesWithLongRow.domain false) (Rows.fnExactTimesWithLongSpec.post enc Try.prog Try.f18 false true false false) := by
  refine returnsInHanded_of_change (C := Try.checked) Try.own started (by kernel_rfl) Try.func18
    (ChangeSpec.witness6 (enc := enc) (C := Try.checked) false ⟨#[], #[.int .i64 0, .agg #[.int .i64 0, .int .i64 0]], []⟩ 8 (by kernel_rfl) (by kernel_rfl) (by kernel_rfl) (by kernel_rfl)) ?_
  intro W base args ds gs before hval0 hW hcnd _
  have hval : ∀ (j : Nat) t v, Try.f18.params[j]? = some t → args[j]? = some v → Value.okWide Try.prog W .any base t v := hval0
  have hW' := hW
  obtain ⟨p, q, hA0, hV, rfl, hfz, hnd⟩ := hW
  have hA : DataW.TrodAll enc Try.prog W 0 (fun _ => true) true Try.f18.params.toList args.toList ds p := hA0
  rw [Try.params18] at hA hval
  obtain ⟨v0, vs0, d_0, ds0, p0, q0, hargs, rfl, rfl, h0, r0⟩ := trodAll_cons hA
  obtain ⟨v1, vs1, d_1, ds1, p1, q1, rfl, rfl, rfl, h1, r1⟩ := trodAll_cons r0
  obtain ⟨rfl, rfl, rfl⟩ := trodAll_nil r1
  obtain rfl : args = #[v0, v1] := by cases args; simp_all
  obtain ⟨rfl, rfl⟩ := trodVars_none hV
  obtain ⟨a0, rfl, rfl, rfl, w0⟩ := open_int Try.underlying3 (hval 0 3 v0 rfl rfl) h0
  obtain ⟨n1, d1, rfl, rfl, rfl, wn1, wd1⟩ := open_turn (hval 1 23 v1 rfl rfl) h1
  clear hA0 hval0
  refine (walk a0 n1 d1 (i64_of_wf w0) (i64_of_wf wn1) (i64_of_wf wd1) W).mono fun e W' ⟨he, bel⟩ => ?_
  subst he
  exact ⟨_, rfl, _, _, _, [], _, [], hW', trodAll_mk1 (shut_bool Try.underlying4 _), (trodAll_cons_mk (shut_int Try.underlying3 w0) (trodAll_cons_mk (shut_turn wn1 wd1) trodAll_mk0)), rfl, bel.frame _, fun h => by cases h⟩

theorem over : Rows.fnExactTimesWithLongRow.holds Try.pinned (OpenSpec.ofChange Rows.fnExactTimesWithLongSpec) :=
  OpenClaim.holds_of_wide 18 Try.f18 rfl rfl rfl rfl rfl rfl rfl ⟨rfl, rfl, rfl, rfl, rfl⟩ rfl rfl rfl rfl rfl (by kernel_rfl) Try.func18 (by kernel_rfl)
    (of_decide_eq_true (by kernel_rfl)) (by unfold Func.isWrapper; first | (rw [if_pos (by decide +kernel)]; kernel_rfl) | (rw [if_neg (by decide +kernel)]; exact ⟨rfl, rfl⟩))
    (fun os started H enc _ => lifted os started H enc)

end Go.Proofs.Ytebjlaajddpbhaa.fnExactTimesWithLong
namespace Go.Proofs.Ytebjlaajddpbhaa
/-- The statement. -/
theorem fnExactTimesWithLong_proved : Rows.FnExactTimesWithLongSaid := fnExactTimesWithLong.over
#print axioms fnExactTimesWithLong_proved
end Go.Proofs.Ytebjlaajddpbhaa
