/- FnExactAheadTimes: called with any arguments, the law returns true, and its arguments read behind the call as before. Conditions: none but the row's own. -/
import Derived.Test.YtgdjnnelonnoaaaFacts
import Derived.Test.YtgdjnnelonnoaaaRow
import Derived.Test.YtgdjnnelonnoaaaHRow
import Derived.Test.YtgdjnnelonnoaaaMeet5
import Derived.Test.YtgdjnnelonnoaaaPivot
set_option linter.unusedSimpArgs false
set_option linter.unusedVariables false
set_option maxRecDepth 100000
namespace Go.Proofs.Ytgdjnnelonnoaaa.fnExactAheadTimes
open Go.ChangeShapes Go.WideShapes Go.ChangeAt Go.RowKit

set_option maxHeartbeats 1600000 in
theorem walk (n0 d0 s0 : Int) (n1 d1 s1 : Int) (n2 d2 : Int) (kn0 : I64 n0) (kd0 : I64 d0) (ks0 : I64 s0) (kn1 : I64 n1) (kd1 : I64 d1) (ks1 : I64 s1) (kn2 : I64 n2) (kd2 : I64 d2) (w : World) :
    Calls Try.prog 9 #[hv n0 d0 s0, hv n1 d1 s1, tv n2 d2] w fun e w' => e = .returned (.bool true) ∧ Below w.heap.size w w' := by
  (go_enter Try.func9, Try.ntmps9)
  have HLEN := Lib.hid (show ((aheadR n0 d0 s0 n1 d1 s1 n2 d2).1).length ≤ 1000000 from aheadR_len n0 d0 s0 n1 d1 s1 n2 d2)
  go_wp2_with fail
  refine wp_region_made 6 (f := 38) (args := #[hv n0 d0 s0, hv n1 d1 s1, tv n2 d2]) (fun v => .tuple #[v, .bool (aheadR n0 d0 s0 n1 d1 s1 n2 d2).2]) (fun v wv => TRow wv (w.heap.size) v (aheadR n0 d0 s0 n1 d1 s1 n2 d2).1) (fun v w1 w2 h hb => TRow.below h hb) (by kernel_rfl) (by kernel_rfl) rfl rfl rfl ?_
  simp only [List.take_succ_cons, List.take_zero, List.drop_succ_cons, List.drop_zero]
  repeat (first | (apply wpB_take (hw := rfl); (intro wq hq; obtain ⟨hcq, hfq⟩ := bcell hq; unfold atB; go_simp; exact ⟨rfl, rfl⟩); simp only [Act.put, List.setIfInBounds_toArray, List.set_cons_zero, List.set_cons_succ]) | (apply wpB_take (hw := rfl); (intro wq hq; unfold atB; go_simp; exact ⟨rfl, toHand_any _ _ _ _⟩); simp only [Act.put, List.setIfInBounds_toArray, List.set_cons_zero, List.set_cons_succ]) | (apply wpB_take (hw := rfl); (intro wq hq; unfold atB; go_simp; exact ⟨rfl, toTurn_any _ _ _⟩); simp only [Act.put, List.setIfInBounds_toArray, List.set_cons_zero, List.set_cons_succ]))
  refine ⟨fun wq hq => ?_, fun wq hq => ?_, fun v1 => ?_⟩
  · obtain ⟨hcq, hfq⟩ := bcell hq; go_simp; try (rw [IntKind.wrap_i64]; omega)
  · exact (specAheadTimes_any n0 d0 s0 n1 d1 s1 n2 d2 kd0 kd1 kd2 wq).mono fun e w2 h => by obtain ⟨v, he, hr, hb⟩ := h; exact ⟨v, he, TRow.mono hr (by have hqz := hq.size; (try simp only [World.size_alloc, World.size_setCell, World.size_drew] at hqz); omega), hb⟩
  simp only [Act.put, List.setIfInBounds_toArray, List.set_cons_zero, List.set_cons_succ]
  repeat (apply wpB_take (hw := rfl); (intro wq hq; obtain ⟨hcq, hfq⟩ := bcell hq; unfold atB; go_simp; exact ⟨rfl, rfl⟩); simp only [Act.put, List.setIfInBounds_toArray, List.set_cons_zero, List.set_cons_succ])
  refine fun w1 hb1 hr1 => ?_
  try simp only [Act.put, List.setIfInBounds_toArray, List.set_cons_zero, List.set_cons_succ]
  have HR1 := Lib.hid hr1
  clear hr1
  (obtain ⟨hc1, hf1⟩ := bcell hb1; have hz1 := hb1.size; (try simp only [World.size_alloc, World.size_setCell, World.size_drew] at hz1); have q1 : w.heap.size ≤ w1.heap.size := (by omega); (try have q1_0 : w.heap.size < w1.heap.size := (by omega)); (try have q1_1 : w.heap.size + 1 < w1.heap.size := (by omega)); (try have q1_2 : w.heap.size + 2 < w1.heap.size := (by omega)); (try have q1_3 : w.heap.size + 3 < w1.heap.size := (by omega)); try simp only [Act.put, List.setIfInBounds_toArray, List.set_cons_zero, List.set_cons_succ])
  go_wp2_with fail
  refine wp_region_made 6 (f := 39) (args := #[hv n0 d0 s0, hv n1 d1 s1, tv n2 d2]) (fun v => .tuple #[v, .bool (aheadR n0 d0 s0 n1 d1 s1 n2 d2).2]) (fun v wv => TRow wv (w1.heap.size) v (aheadR n0 d0 s0 n1 d1 s1 n2 d2).1) (fun v w1 w2 h hb => TRow.below h hb) (by kernel_rfl) (by kernel_rfl) rfl rfl rfl ?_
  simp only [List.take_succ_cons, List.take_zero, List.drop_succ_cons, List.drop_zero]
  repeat (first | (apply wpB_take (hw := rfl); (intro wq hq; obtain ⟨hcq, hfq⟩ := bcell hq; unfold atB; go_simp; exact ⟨rfl, rfl⟩); simp only [Act.put, List.setIfInBounds_toArray, List.set_cons_zero, List.set_cons_succ]) | (apply wpB_take (hw := rfl); (intro wq hq; unfold atB; go_simp; exact ⟨rfl, toHand_any _ _ _ _⟩); simp only [Act.put, List.setIfInBounds_toArray, List.set_cons_zero, List.set_cons_succ]) | (apply wpB_take (hw := rfl); (intro wq hq; unfold atB; go_simp; exact ⟨rfl, toTurn_any _ _ _⟩); simp only [Act.put, List.setIfInBounds_toArray, List.set_cons_zero, List.set_cons_succ]))
  refine ⟨fun wq hq => ?_, fun wq hq => ?_, fun v2 => ?_⟩
  · obtain ⟨hcq, hfq⟩ := bcell hq; go_simp; try (rw [IntKind.wrap_i64]; omega)
  · exact (implAheadTimes_any n0 d0 s0 n1 d1 s1 n2 d2 wq).mono fun e w2 h => by obtain ⟨v, he, hr, hb⟩ := h; exact ⟨v, he, TRow.mono hr (by have hqz := hq.size; (try simp only [World.size_alloc, World.size_setCell, World.size_drew] at hqz); omega), hb⟩
  simp only [Act.put, List.setIfInBounds_toArray, List.set_cons_zero, List.set_cons_succ]
  repeat (apply wpB_take (hw := rfl); (intro wq hq; obtain ⟨hcq, hfq⟩ := bcell hq; unfold atB; go_simp; exact ⟨rfl, rfl⟩); simp only [Act.put, List.setIfInBounds_toArray, List.set_cons_zero, List.set_cons_succ])
  refine fun w2 hb2 hr2 => ?_
  try simp only [Act.put, List.setIfInBounds_toArray, List.set_cons_zero, List.set_cons_succ]
  have HR2 := Lib.hid hr2
  clear hr2
  (obtain ⟨hc2, hf2⟩ := bcell hb2; have hz2 := hb2.size; (try simp only [World.size_alloc, World.size_setCell, World.size_drew] at hz2); have q2 : w.heap.size ≤ w2.heap.size := (by omega); (try have q2_0 : w.heap.size < w2.heap.size := (by omega)); (try have q2_1 : w.heap.size + 1 < w2.heap.size := (by omega)); (try have q2_2 : w.heap.size + 2 < w2.heap.size := (by omega)); (try have q2_3 : w.heap.size + 3 < w2.heap.size := (by omega)); (try have p2_1 : b1 < w2.heap.size := (by omega)); try simp only [Act.put, List.setIfInBounds_toArray, List.set_cons_zero, List.set_cons_succ])
  have R1 := Lib.hid (show TRow w2 _ v1 (aheadR n0 d0 s0 n1 d1 s1 n2 d2).1 from (TRow.below HR1.out hb2))
  go_wp2_with fail
  refine (eqTurnS_same (aheadR n0 d0 s0 n1 d1 s1 n2 d2).1 v2 v1 _ _ _ HR2.out R1.out HLEN.out).mono ?_
  (rintro e3 w3 ⟨rfl, hb3⟩; obtain ⟨hc3, hf3⟩ := bcell hb3; have hz3 := hb3.size; (try simp only [World.size_alloc, World.size_setCell, World.size_drew] at hz3); have q3 : w.heap.size ≤ w3.heap.size := (by omega); (try have q3_0 : w.heap.size < w3.heap.size := (by omega)); (try have q3_1 : w.heap.size + 1 < w3.heap.size := (by omega)); (try have q3_2 : w.heap.size + 2 < w3.heap.size := (by omega)); (try have q3_3 : w.heap.size + 3 < w3.heap.size := (by omega)); (try have q3_1_0 : w1.heap.size < w3.heap.size := (by omega)); (try have q3_1_1 : w1.heap.size + 1 < w3.heap.size := (by omega)); (try have q3_2_0 : w2.heap.size < w3.heap.size := (by omega)); (try have q3_2_1 : w2.heap.size + 1 < w3.heap.size := (by omega)))
  have G2 := Lib.hid (TRow.below HR2.out hb3)
  have S1 := Lib.hid (TRow.below R1.out hb3)
  go_wp2_with fail
  refine (markTurnS_any (aheadR n0 d0 s0 n1 d1 s1 n2 d2).1 v2 _ 1 _ G2.out HLEN.out (by omega) (by omega)).mono ?_
  rintro e4 w4 ⟨rfl, hr4, hg4⟩
  have M4 := Lib.hid hr4
  clear hr4
  have HAP := Lib.hid (TRow.apart (w' := w2) HR1.out HR2.out (by omega))
  have S40 := Lib.hid (TRow.kept S1.out hg4 HAP.out)
  have HLOW := TRow.low HR2.out
  have hB4 : Below w.heap.size w w4 := Below.grown (w := w3) (by (repeat' (first | (with_reducible exact Below.refl _ _) | (with_reducible assumption) | (with_reducible refine Below.alloc ?_ ?_ _) | (with_reducible refine Below.drew ?_) | (with_reducible refine below_drewN ?_ _) | (with_reducible refine Below.setCell ?_ ?_ _) | (with_reducible refine below_call ?_ ?_ (by assumption)) | go_size))) hg4 (by omega) (fun j hj => by have := HLOW j hj; omega)
  have hz4 := hg4.size
  have HC4 := Lib.hid (show ∀ b o, b < w1.heap.size → w4.cell? ⟨b, o, none⟩ = w3.cell? ⟨b, o, none⟩ from fun b o hb => World.grownBy.cell_far hg4 ⟨b, o, none⟩ (by show b < _; omega) (fun e => by have := HLOW b e.symm; omega))
  clear HLOW
  have hg4h := Lib.hid hg4
  clear hg4
  have hc4 := HC4.out
  have q4 : w.heap.size ≤ w4.heap.size := by omega
  have q4_0 : w.heap.size < w4.heap.size := by omega
  have q4_1 : w.heap.size + 1 < w4.heap.size := by omega
  have q4_2 : w.heap.size + 2 < w4.heap.size := by omega
  go_wp2_with fail
  refine (heldTurnS_marked (aheadR n0 d0 s0 n1 d1 s1 n2 d2).1 v2 _ 1 _ M4.out HLEN.out (by omega) (by omega)).mono ?_
  (rintro e5 w5 ⟨rfl, hb5⟩; obtain ⟨hc5, hf5⟩ := bcell hb5; have hz5 := hb5.size; (try simp only [World.size_alloc, World.size_setCell, World.size_drew] at hz5); have q5 : w.heap.size ≤ w5.heap.size := (by omega); (try have q5_0 : w.heap.size < w5.heap.size := (by omega)); (try have q5_1 : w.heap.size + 1 < w5.heap.size := (by omega)); (try have q5_2 : w.heap.size + 2 < w5.heap.size := (by omega)); (try have q5_3 : w.heap.size + 3 < w5.heap.size := (by omega)); (try have q5_1_0 : w1.heap.size < w5.heap.size := (by omega)); (try have q5_1_1 : w1.heap.size + 1 < w5.heap.size := (by omega)); (try have q5_2_0 : w2.heap.size < w5.heap.size := (by omega)); (try have q5_2_1 : w2.heap.size + 1 < w5.heap.size := (by omega)); (try have q5_3_0 : w3.heap.size < w5.heap.size := (by omega)); (try have q5_3_1 : w3.heap.size + 1 < w5.heap.size := (by omega)); (try have q5_4_0 : w4.heap.size < w5.heap.size := (by omega)); (try have q5_4_1 : w4.heap.size + 1 < w5.heap.size := (by omega)))
  go_wp2_with fail
  refine wp_region_made 6 (f := 39) (args := #[hv n0 d0 s0, hv n1 d1 s1, tv n2 d2]) (fun v => .tuple #[v, .bool (aheadR n0 d0 s0 n1 d1 s1 n2 d2).2]) (fun v wv => TRow wv (w5.heap.size) v (aheadR n0 d0 s0 n1 d1 s1 n2 d2).1) (fun v w1 w2 h hb => TRow.below h hb) (by kernel_rfl) (by kernel_rfl) rfl rfl rfl ?_
  simp only [List.take_succ_cons, List.take_zero, List.drop_succ_cons, List.drop_zero]
  repeat (first | (apply wpB_take (hw := rfl); (intro wq hq; obtain ⟨hcq, hfq⟩ := bcell hq; unfold atB; go_simp; exact ⟨rfl, rfl⟩); simp only [Act.put, List.setIfInBounds_toArray, List.set_cons_zero, List.set_cons_succ]) | (apply wpB_take (hw := rfl); (intro wq hq; unfold atB; go_simp; exact ⟨rfl, toHand_any _ _ _ _⟩); simp only [Act.put, List.setIfInBounds_toArray, List.set_cons_zero, List.set_cons_succ]) | (apply wpB_take (hw := rfl); (intro wq hq; unfold atB; go_simp; exact ⟨rfl, toTurn_any _ _ _⟩); simp only [Act.put, List.setIfInBounds_toArray, List.set_cons_zero, List.set_cons_succ]))
  refine ⟨fun wq hq => ?_, fun wq hq => ?_, fun v6 => ?_⟩
  · obtain ⟨hcq, hfq⟩ := bcell hq; go_simp; try (rw [IntKind.wrap_i64]; omega)
  · exact (implAheadTimes_any n0 d0 s0 n1 d1 s1 n2 d2 wq).mono fun e w2 h => by obtain ⟨v, he, hr, hb⟩ := h; exact ⟨v, he, TRow.mono hr (by have hqz := hq.size; (try simp only [World.size_alloc, World.size_setCell, World.size_drew] at hqz); omega), hb⟩
  simp only [Act.put, List.setIfInBounds_toArray, List.set_cons_zero, List.set_cons_succ]
  repeat (apply wpB_take (hw := rfl); (intro wq hq; obtain ⟨hcq, hfq⟩ := bcell hq; unfold atB; go_simp; exact ⟨rfl, rfl⟩); simp only [Act.put, List.setIfInBounds_toArray, List.set_cons_zero, List.set_cons_succ])
  refine fun w6 hb6 hr6 => ?_
  try simp only [Act.put, List.setIfInBounds_toArray, List.set_cons_zero, List.set_cons_succ]
  have HR6 := Lib.hid hr6
  clear hr6
  (obtain ⟨hc6, hf6⟩ := bcell hb6; have hz6 := hb6.size; (try simp only [World.size_alloc, World.size_setCell, World.size_drew] at hz6); have q6 : w.heap.size ≤ w6.heap.size := (by omega); (try have q6_0 : w.heap.size < w6.heap.size := (by omega)); (try have q6_1 : w.heap.size + 1 < w6.heap.size := (by omega)); (try have q6_2 : w.heap.size + 2 < w6.heap.size := (by omega)); (try have q6_3 : w.heap.size + 3 < w6.heap.size := (by omega)); (try have p6_1 : b1 < w6.heap.size := (by omega)); (try have p6_2 : b2 < w6.heap.size := (by omega)); (try have p6_3 : b3 < w6.heap.size := (by omega)); (try have p6_4 : b4 < w6.heap.size := (by omega)); (try have p6_5 : b5 < w6.heap.size := (by omega)); try simp only [Act.put, List.setIfInBounds_toArray, List.set_cons_zero, List.set_cons_succ])
  have Z1 := Lib.hid (show TRow w6 _ v1 (aheadR n0 d0 s0 n1 d1 s1 n2 d2).1 from (TRow.below (TRow.below S40.out hb5) hb6))
  go_wp2_with fail
  refine (eqTurnS_same (aheadR n0 d0 s0 n1 d1 s1 n2 d2).1 v6 v1 _ _ _ HR6.out Z1.out HLEN.out).mono ?_
  (rintro e7 w7 ⟨rfl, hb7⟩; obtain ⟨hc7, hf7⟩ := bcell hb7; have hz7 := hb7.size; (try simp only [World.size_alloc, World.size_setCell, World.size_drew] at hz7); have q7 : w.heap.size ≤ w7.heap.size := (by omega); (try have q7_0 : w.heap.size < w7.heap.size := (by omega)); (try have q7_1 : w.heap.size + 1 < w7.heap.size := (by omega)); (try have q7_2 : w.heap.size + 2 < w7.heap.size := (by omega)); (try have q7_3 : w.heap.size + 3 < w7.heap.size := (by omega)); (try have q7_1_0 : w1.heap.size < w7.heap.size := (by omega)); (try have q7_1_1 : w1.heap.size + 1 < w7.heap.size := (by omega)); (try have q7_2_0 : w2.heap.size < w7.heap.size := (by omega)); (try have q7_2_1 : w2.heap.size + 1 < w7.heap.size := (by omega)); (try have q7_3_0 : w3.heap.size < w7.heap.size := (by omega)); (try have q7_3_1 : w3.heap.size + 1 < w7.heap.size := (by omega)); (try have q7_4_0 : w4.heap.size < w7.heap.size := (by omega)); (try have q7_4_1 : w4.heap.size + 1 < w7.heap.size := (by omega)); (try have q7_5_0 : w5.heap.size < w7.heap.size := (by omega)); (try have q7_5_1 : w5.heap.size + 1 < w7.heap.size := (by omega)); (try have q7_6_0 : w6.heap.size < w7.heap.size := (by omega)); (try have q7_6_1 : w6.heap.size + 1 < w7.heap.size := (by omega)))
  have Y2 := Lib.hid (show TRow w7 _ v2 (marked (aheadR n0 d0 s0 n1 d1 s1 n2 d2).1 1 ((aheadR n0 d0 s0 n1 d1 s1 n2 d2).1).length) from (TRow.below (TRow.below (TRow.below M4.out hb5) hb6) hb7))
  go_wp2_with fail
  refine (heldTurnS_marked (aheadR n0 d0 s0 n1 d1 s1 n2 d2).1 v2 _ 1 _ Y2.out HLEN.out (by omega) (by omega)).mono ?_
  (rintro e8 w8 ⟨rfl, hb8⟩; obtain ⟨hc8, hf8⟩ := bcell hb8; have hz8 := hb8.size; (try simp only [World.size_alloc, World.size_setCell, World.size_drew] at hz8); have q8 : w.heap.size ≤ w8.heap.size := (by omega); (try have q8_0 : w.heap.size < w8.heap.size := (by omega)); (try have q8_1 : w.heap.size + 1 < w8.heap.size := (by omega)); (try have q8_2 : w.heap.size + 2 < w8.heap.size := (by omega)); (try have q8_3 : w.heap.size + 3 < w8.heap.size := (by omega)); (try have q8_1_0 : w1.heap.size < w8.heap.size := (by omega)); (try have q8_1_1 : w1.heap.size + 1 < w8.heap.size := (by omega)); (try have q8_2_0 : w2.heap.size < w8.heap.size := (by omega)); (try have q8_2_1 : w2.heap.size + 1 < w8.heap.size := (by omega)); (try have q8_3_0 : w3.heap.size < w8.heap.size := (by omega)); (try have q8_3_1 : w3.heap.size + 1 < w8.heap.size := (by omega)); (try have q8_4_0 : w4.heap.size < w8.heap.size := (by omega)); (try have q8_4_1 : w4.heap.size + 1 < w8.heap.size := (by omega)); (try have q8_5_0 : w5.heap.size < w8.heap.size := (by omega)); (try have q8_5_1 : w5.heap.size + 1 < w8.heap.size := (by omega)); (try have q8_6_0 : w6.heap.size < w8.heap.size := (by omega)); (try have q8_6_1 : w6.heap.size + 1 < w8.heap.size := (by omega)); (try have q8_7_0 : w7.heap.size < w8.heap.size := (by omega)); (try have q8_7_1 : w7.heap.size + 1 < w8.heap.size := (by omega)))
  go_wp2
  go_ret
  exact ⟨rfl, by (repeat' (first | (with_reducible exact Below.refl _ _) | (with_reducible assumption) | (with_reducible refine Below.alloc ?_ ?_ _) | (with_reducible refine Below.drew ?_) | (with_reducible refine below_drewN ?_ _) | (with_reducible refine Below.setCell ?_ ?_ _) | (with_reducible refine below_call ?_ ?_ (by assumption)) | go_size))⟩

set_option maxRecDepth 100000 in
theorem lifted (os : Os) (started : os.Started) (H : Type) (enc : TypeId × Value → H) :
    ReturnsInHanded {} Try.checked os 9 .any (Rows.fnExactAheadTimesSpec.pre6 enc Try.prog Try.f9 Rows.fnExactAheadTimesRow.domain false) (Rows.fnExactAheadTimesSpec.post enc Try.prog Try.f9 false true false false) := by
  refine returnsInHanded_of_change (C := Try.checked) Try.own started (by kernel_rfl) Try.func9
    (ChangeSpec.witness6 (enc := enc) (C := Try.checked) false ⟨#[], #[.agg #[.int .i64 0, .int .i64 0, .int .i64 0], .agg #[.int .i64 0, .int .i64 0, .int .i64 0], .agg #[.int .i64 0, .int .i64 0]], []⟩ 8 (by kernel_rfl) (by kernel_rfl) (by kernel_rfl) (by kernel_rfl)) ?_
  intro W base args ds gs before hval0 hW hcnd _
  have hval : ∀ (j : Nat) t v, Try.f9.params[j]? = some t → args[j]? = some v → Value.okWide Try.prog W .any base t v := hval0
  have hW' := hW
  obtain ⟨p, q, hA0, hV, rfl, hfz, hnd⟩ := hW
  have hA : DataW.TrodAll enc Try.prog W 0 (fun _ => true) true Try.f9.params.toList args.toList ds p := hA0
  rw [Try.params9] at hA hval
  obtain ⟨v0, vs0, d_0, ds0, p0, q0, hargs, rfl, rfl, h0, r0⟩ := trodAll_cons hA
  obtain ⟨v1, vs1, d_1, ds1, p1, q1, rfl, rfl, rfl, h1, r1⟩ := trodAll_cons r0
  obtain ⟨v2, vs2, d_2, ds2, p2, q2, rfl, rfl, rfl, h2, r2⟩ := trodAll_cons r1
  obtain ⟨rfl, rfl, rfl⟩ := trodAll_nil r2
  obtain rfl : args = #[v0, v1, v2] := by cases args; simp_all
  obtain ⟨rfl, rfl⟩ := trodVars_none hV
  obtain ⟨n0, d0, s0, rfl, rfl, rfl, wn0, wd0, ws0⟩ := open_hand (hval 0 25 v0 rfl rfl) h0
  obtain ⟨n1, d1, s1, rfl, rfl, rfl, wn1, wd1, ws1⟩ := open_hand (hval 1 25 v1 rfl rfl) h1
  obtain ⟨n2, d2, rfl, rfl, rfl, wn2, wd2⟩ := open_turn (hval 2 23 v2 rfl rfl) h2
  clear hA0 hval0
  refine (walk n0 d0 s0 n1 d1 s1 n2 d2 (i64_of_wf wn0) (i64_of_wf wd0) (i64_of_wf ws0) (i64_of_wf wn1) (i64_of_wf wd1) (i64_of_wf ws1) (i64_of_wf wn2) (i64_of_wf wd2) W).mono fun e W' ⟨he, bel⟩ => ?_
  subst he
  exact ⟨_, rfl, _, _, _, [], _, [], hW', trodAll_mk1 (shut_bool Try.underlying4 _), (trodAll_cons_mk (shut_hand wn0 wd0 ws0) (trodAll_cons_mk (shut_hand wn1 wd1 ws1) (trodAll_cons_mk (shut_turn wn2 wd2) trodAll_mk0))), rfl, bel.frame _, fun h => by cases h⟩

theorem closed : joinedFacts Try.prog 9 Try.f9 Rows.fnExactAheadTimesSpec Rows.fnExactAheadTimesRow = true := by
  unfold joinedFacts
  rw [Try.fMake, Try.fEnter, Try.fLifts, Try.fMaps, Try.fLaid, Try.fHeard, Try.fKeys]
  kernel_rfl
theorem over : Rows.fnExactAheadTimesRow.holds Try.pinned (OpenSpec.ofChange Rows.fnExactAheadTimesSpec) :=
  OpenClaim.holds_of_wide 9 Try.f9 rfl rfl rfl rfl rfl rfl rfl ⟨rfl, rfl, rfl, rfl, rfl⟩ rfl rfl rfl rfl rfl (by kernel_rfl) Try.func9
    closed (of_decide_eq_true (by kernel_rfl)) (by unfold Func.isWrapper; first | (rw [if_pos (by decide +kernel)]; kernel_rfl) | (rw [if_neg (by decide +kernel)]; exact ⟨rfl, rfl⟩))
    (fun os started H enc _ => lifted os started H enc)

end Go.Proofs.Ytgdjnnelonnoaaa.fnExactAheadTimes
namespace Go.Proofs.Ytgdjnnelonnoaaa
/-- The statement. -/
theorem fnExactAheadTimes_proved : Rows.FnExactAheadTimesSaid := fnExactAheadTimes.over
#print axioms fnExactAheadTimes_proved
end Go.Proofs.Ytgdjnnelonnoaaa
