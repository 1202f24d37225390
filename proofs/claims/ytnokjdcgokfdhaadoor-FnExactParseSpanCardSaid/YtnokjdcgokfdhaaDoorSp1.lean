/- The text of a span: by the program and by the model. -/
import Derived.Test.YtnokjdcgokfdhaaDoorText3
import Derived.Test.YtnokjdcgokfdhaaDoorDrift1
set_option linter.unusedSimpArgs false
set_option linter.unusedVariables false
set_option maxRecDepth 100000
namespace Go.Proofs.YtnokjdcgokfdhaaDoor
open Go.RowKit

def spanL (n d : Int) : List UInt8 := dec n ++ 47 :: dec d
def spanT (n d : Int) : List UInt8 × Bool := if spanB n d then (spanL n d, true) else failS

set_option maxHeartbeats 1600000 in
theorem implSpanText_any (n d : Int) (w : World) (ht : Tens w) :
    Calls Tryd.prog 7 #[tv n d] w fun e w' => e = .returned (sv (spanT n d)) ∧ Below w.heap.size w w' := by
  have HT := Lib.hid ht
  clear ht
  cases ga : spanB n d
  · have HM := Lib.hid (show failS = spanT n d from by simp [spanT, ga])
    (go_enter Tryd.func7, Tryd.ntmps7)
    go_wp2_with fail
    refine (isSpan_is _ _ ga _).mono ?_
    (rintro e1 w1 ⟨rfl, hb1⟩; obtain ⟨hc1, hf1⟩ := bcell hb1; have hz1 := hb1.size; (try simp only [World.size_alloc, World.size_setCell, World.size_drew] at hz1); have q1 : w.heap.size ≤ w1.heap.size := (by omega); (try have q1_0 : w.heap.size < w1.heap.size := (by omega)); (try have q1_1 : w.heap.size + 1 < w1.heap.size := (by omega)); (try have q1_2 : w.heap.size + 2 < w1.heap.size := (by omega)); (try have q1_3 : w.heap.size + 3 < w1.heap.size := (by omega)))
    go_wp2
    go_ret2
    exact ⟨ret_sv HM.out, by (repeat' (first | (with_reducible exact Below.refl _ _) | (with_reducible assumption) | (with_reducible refine Below.alloc ?_ ?_ _) | (with_reducible refine Below.drew ?_) | (with_reducible refine below_drewN ?_ _) | (with_reducible refine Below.setCell ?_ ?_ _) | (with_reducible refine below_call ?_ ?_ (by assumption)) | go_size))⟩
  · have HM := Lib.hid (show (spanL n d, true) = spanT n d from by simp [spanT, ga])
    obtain ⟨a1, a2, a3, a4, -⟩ := spanB_bd ga
    have k1 := dec_short (n := n) (by omega) (by omega)
    have k2 := dec_short (n := d) (by omega) (by omega)
    have z1 : ¬ 9223372036854775807 < (dec n).length + 1 := by omega
    have z2 : ¬ 9223372036854775807 < (dec n).length + 1 + (dec d).length := by omega
    clear k1 k2
    (go_enter Tryd.func7, Tryd.ntmps7)
    go_wp2_with fail
    refine (isSpan_is _ _ ga _).mono ?_
    (rintro e1 w1 ⟨rfl, hb1⟩; obtain ⟨hc1, hf1⟩ := bcell hb1; have hz1 := hb1.size; (try simp only [World.size_alloc, World.size_setCell, World.size_drew] at hz1); have q1 : w.heap.size ≤ w1.heap.size := (by omega); (try have q1_0 : w.heap.size < w1.heap.size := (by omega)); (try have q1_1 : w.heap.size + 1 < w1.heap.size := (by omega)); (try have q1_2 : w.heap.size + 2 < w1.heap.size := (by omega)); (try have q1_3 : w.heap.size + 3 < w1.heap.size := (by omega)))
    have HT1 : Hid (Tens w1) := Tens.below (w := w) HT.out (by (repeat' (first | (with_reducible exact Below.refl _ _) | (with_reducible assumption) | (with_reducible refine Below.alloc ?_ ?_ _) | (with_reducible refine Below.drew ?_) | (with_reducible refine below_drewN ?_ _) | (with_reducible refine Below.setCell ?_ ?_ _) | (with_reducible refine below_call ?_ ?_ (by assumption)) | go_size)))
    go_wp2_with fail
    refine wp_region_below (by kernel_rfl) (by kernel_rfl) ?_
    (apply wpB_take (hw := rfl); (intro wq hq; obtain ⟨hcq, hfq⟩ := bcell hq; unfold atB; go_simp; exact ⟨rfl, rfl⟩); simp only [Act.put, List.setIfInBounds_toArray, List.set_cons_zero, List.set_cons_succ])
    (apply wpB_take (hw := rfl); (intro wq hq; obtain ⟨hcq, hfq⟩ := bcell hq; unfold atB; go_simp; exact ⟨rfl, rfl⟩); simp only [Act.put, List.setIfInBounds_toArray, List.set_cons_zero, List.set_cons_succ])
    (apply wpB_take (hw := rfl); (intro wq hq; unfold atB; go_simp; exact ⟨rfl, itoa_any n (by omega) (by omega) _ (Tens.below HT1.out hq)⟩); simp only [Act.put, List.setIfInBounds_toArray, List.set_cons_zero, List.set_cons_succ])
    (apply wpB_take (hw := rfl); (intro wq hq; obtain ⟨hcq, hfq⟩ := bcell hq; unfold atB; go_simp; exact ⟨rfl, rfl⟩); simp only [Act.put, List.setIfInBounds_toArray, List.set_cons_zero, List.set_cons_succ])
    (apply wpB_take (hw := rfl); (intro wq hq; obtain ⟨hcq, hfq⟩ := bcell hq; unfold atB; go_simp; exact ⟨rfl, rfl⟩); simp only [Act.put, List.setIfInBounds_toArray, List.set_cons_zero, List.set_cons_succ])
    (apply wpB_take (hw := rfl); (intro wq hq; obtain ⟨hcq, hfq⟩ := bcell hq; unfold atB; go_simp; exact ⟨rfl, rfl⟩); simp only [Act.put, List.setIfInBounds_toArray, List.set_cons_zero, List.set_cons_succ])
    (apply wpB_take (hw := rfl); (intro wq hq; unfold atB; go_simp; exact ⟨rfl, itoa_any d (by omega) (by omega) _ (Tens.below HT1.out hq)⟩); simp only [Act.put, List.setIfInBounds_toArray, List.set_cons_zero, List.set_cons_succ])
    (apply wpB_take (hw := rfl); (intro wq hq; obtain ⟨hcq, hfq⟩ := bcell hq; unfold atB; go_simp; exact ⟨rfl, rfl⟩); simp only [Act.put, List.setIfInBounds_toArray, List.set_cons_zero, List.set_cons_succ])
    (apply wpB_take (hw := rfl); (intro wq hq; obtain ⟨hcq, hfq⟩ := bcell hq; unfold atB; go_simp; exact ⟨rfl, rfl⟩); simp only [Act.put, List.setIfInBounds_toArray, List.set_cons_zero, List.set_cons_succ])
    (apply wpB_take (hw := rfl); (intro wq hq; obtain ⟨hcq, hfq⟩ := bcell hq; unfold atB; go_simp; exact ⟨rfl, rfl⟩); simp only [Act.put, List.setIfInBounds_toArray, List.set_cons_zero, List.set_cons_succ])
    refine fun w2 hb2 => ?_
    (obtain ⟨hc2, hf2⟩ := bcell hb2; have hz2 := hb2.size; (try simp only [World.size_alloc, World.size_setCell, World.size_drew] at hz2); have q2 : w.heap.size ≤ w2.heap.size := (by omega); (try have q2_0 : w.heap.size < w2.heap.size := (by omega)); (try have q2_1 : w.heap.size + 1 < w2.heap.size := (by omega)); (try have q2_2 : w.heap.size + 2 < w2.heap.size := (by omega)); (try have q2_3 : w.heap.size + 3 < w2.heap.size := (by omega)); (try have p2_1 : b1 < w2.heap.size := (by omega)); try simp only [Act.put, List.setIfInBounds_toArray, List.set_cons_zero, List.set_cons_succ])
    go_wp2
    go_ret2
    refine ⟨?_, by (repeat' (first | (with_reducible exact Below.refl _ _) | (with_reducible assumption) | (with_reducible refine Below.alloc ?_ ?_ _) | (with_reducible refine Below.drew ?_) | (with_reducible refine below_drewN ?_ _) | (with_reducible refine Below.setCell ?_ ?_ _) | (with_reducible refine below_call ?_ ?_ (by assumption)) | go_size))⟩
    rw [← HM.out]
    exact congrArg (fun x => Ending.returned (Value.tuple #[Value.string x, .bool true])) (ByteArray.ext (by simp [spanL]))

set_option maxHeartbeats 1600000 in
theorem specSpanText_any (n d : Int) (w : World) :
    Calls Tryd.prog 5 #[tv n d] w fun e w' => e = .returned (sv (spanT n d)) ∧ Below w.heap.size w w' := by
  cases ga : spanB n d
  · have HM := Lib.hid (show failS = spanT n d from by simp [spanT, ga])
    (go_enter Tryd.func5, Tryd.ntmps5)
    go_wp2_with fail
    refine (drGood_is _ _ ga _).mono ?_
    (rintro e1 w1 ⟨rfl, hb1⟩; obtain ⟨hc1, hf1⟩ := bcell hb1; have hz1 := hb1.size; (try simp only [World.size_alloc, World.size_setCell, World.size_drew] at hz1); have q1 : w.heap.size ≤ w1.heap.size := (by omega); (try have q1_0 : w.heap.size < w1.heap.size := (by omega)); (try have q1_1 : w.heap.size + 1 < w1.heap.size := (by omega)); (try have q1_2 : w.heap.size + 2 < w1.heap.size := (by omega)); (try have q1_3 : w.heap.size + 3 < w1.heap.size := (by omega)))
    go_wp2
    go_ret2
    exact ⟨ret_sv HM.out, by (repeat' (first | (with_reducible exact Below.refl _ _) | (with_reducible assumption) | (with_reducible refine Below.alloc ?_ ?_ _) | (with_reducible refine Below.drew ?_) | (with_reducible refine below_drewN ?_ _) | (with_reducible refine Below.setCell ?_ ?_ _) | (with_reducible refine below_call ?_ ?_ (by assumption)) | go_size))⟩
  · have HM := Lib.hid (show (spanL n d, true) = spanT n d from by simp [spanT, ga])
    obtain ⟨a1, a2, a3, a4, -⟩ := spanB_bd ga
    have k1 := dec_short (n := n) (by omega) (by omega)
    have k2 := dec_short (n := d) (by omega) (by omega)
    have z1 : ¬ 9223372036854775807 < (dec n).length + 1 := by omega
    have z2 : ¬ 9223372036854775807 < (dec n).length + 1 + (dec d).length := by omega
    have N1 := Lib.hid (fun W : World => l1Num_any n.toNat n W (by omega) (by omega) (by omega))
    have N2 := Lib.hid (fun W : World => l1Num_any d.toNat d W (by omega) (by omega) (by omega))
    clear k1 k2
    (go_enter Tryd.func5, Tryd.ntmps5)
    go_wp2_with fail
    refine (drGood_is _ _ ga _).mono ?_
    (rintro e1 w1 ⟨rfl, hb1⟩; obtain ⟨hc1, hf1⟩ := bcell hb1; have hz1 := hb1.size; (try simp only [World.size_alloc, World.size_setCell, World.size_drew] at hz1); have q1 : w.heap.size ≤ w1.heap.size := (by omega); (try have q1_0 : w.heap.size < w1.heap.size := (by omega)); (try have q1_1 : w.heap.size + 1 < w1.heap.size := (by omega)); (try have q1_2 : w.heap.size + 2 < w1.heap.size := (by omega)); (try have q1_3 : w.heap.size + 3 < w1.heap.size := (by omega)))
    go_wp2_with fail
    refine wp_region_below (by kernel_rfl) (by kernel_rfl) ?_
    (apply wpB_take (hw := rfl); (intro wq hq; obtain ⟨hcq, hfq⟩ := bcell hq; unfold atB; go_simp; exact ⟨rfl, rfl⟩); simp only [Act.put, List.setIfInBounds_toArray, List.set_cons_zero, List.set_cons_succ])
    (apply wpB_take (hw := rfl); (intro wq hq; obtain ⟨hcq, hfq⟩ := bcell hq; unfold atB; go_simp; exact ⟨rfl, rfl⟩); simp only [Act.put, List.setIfInBounds_toArray, List.set_cons_zero, List.set_cons_succ])
    (apply wpB_take (hw := rfl); (intro wq hq; unfold atB; go_simp; exact ⟨rfl, N1.out _⟩); simp only [Act.put, List.setIfInBounds_toArray, List.set_cons_zero, List.set_cons_succ])
    (apply wpB_take (hw := rfl); (intro wq hq; obtain ⟨hcq, hfq⟩ := bcell hq; unfold atB; go_simp; exact ⟨rfl, rfl⟩); simp only [Act.put, List.setIfInBounds_toArray, List.set_cons_zero, List.set_cons_succ])
    (apply wpB_take (hw := rfl); (intro wq hq; obtain ⟨hcq, hfq⟩ := bcell hq; unfold atB; go_simp; exact ⟨rfl, rfl⟩); simp only [Act.put, List.setIfInBounds_toArray, List.set_cons_zero, List.set_cons_succ])
    (apply wpB_take (hw := rfl); (intro wq hq; obtain ⟨hcq, hfq⟩ := bcell hq; unfold atB; go_simp; exact ⟨rfl, rfl⟩); simp only [Act.put, List.setIfInBounds_toArray, List.set_cons_zero, List.set_cons_succ])
    (apply wpB_take (hw := rfl); (intro wq hq; unfold atB; go_simp; exact ⟨rfl, N2.out _⟩); simp only [Act.put, List.setIfInBounds_toArray, List.set_cons_zero, List.set_cons_succ])
    (apply wpB_take (hw := rfl); (intro wq hq; obtain ⟨hcq, hfq⟩ := bcell hq; unfold atB; go_simp; exact ⟨rfl, rfl⟩); simp only [Act.put, List.setIfInBounds_toArray, List.set_cons_zero, List.set_cons_succ])
    (apply wpB_take (hw := rfl); (intro wq hq; obtain ⟨hcq, hfq⟩ := bcell hq; unfold atB; go_simp; exact ⟨rfl, rfl⟩); simp only [Act.put, List.setIfInBounds_toArray, List.set_cons_zero, List.set_cons_succ])
    (apply wpB_take (hw := rfl); (intro wq hq; obtain ⟨hcq, hfq⟩ := bcell hq; unfold atB; go_simp; exact ⟨rfl, rfl⟩); simp only [Act.put, List.setIfInBounds_toArray, List.set_cons_zero, List.set_cons_succ])
    refine fun w2 hb2 => ?_
    (obtain ⟨hc2, hf2⟩ := bcell hb2; have hz2 := hb2.size; (try simp only [World.size_alloc, World.size_setCell, World.size_drew] at hz2); have q2 : w.heap.size ≤ w2.heap.size := (by omega); (try have q2_0 : w.heap.size < w2.heap.size := (by omega)); (try have q2_1 : w.heap.size + 1 < w2.heap.size := (by omega)); (try have q2_2 : w.heap.size + 2 < w2.heap.size := (by omega)); (try have q2_3 : w.heap.size + 3 < w2.heap.size := (by omega)); (try have p2_1 : b1 < w2.heap.size := (by omega)); try simp only [Act.put, List.setIfInBounds_toArray, List.set_cons_zero, List.set_cons_succ])
    go_wp2
    go_ret2
    refine ⟨?_, by (repeat' (first | (with_reducible exact Below.refl _ _) | (with_reducible assumption) | (with_reducible refine Below.alloc ?_ ?_ _) | (with_reducible refine Below.drew ?_) | (with_reducible refine below_drewN ?_ _) | (with_reducible refine Below.setCell ?_ ?_ _) | (with_reducible refine below_call ?_ ?_ (by assumption)) | go_size))⟩
    rw [← HM.out]
    exact congrArg (fun x => Ending.returned (Value.tuple #[Value.string x, .bool true])) (ByteArray.ext (by simp [spanL]))
end Go.Proofs.YtnokjdcgokfdhaaDoor
