/- The text of a time: the program's function and the model's. -/
import Derived.Test.YtebjlaajddpbhaaDoorText2
set_option linter.unusedSimpArgs false
set_option linter.unusedVariables false
set_option maxRecDepth 100000
namespace Go.Proofs.YtebjlaajddpbhaaDoor
open Go.RowKit

/-- A text and whether there is one. -/
abbrev sv (r : List UInt8 × Bool) : Value := .tuple #[str r.1, .bool r.2]
theorem ret_sv {a b : List UInt8 × Bool} (h : a = b) : Ending.returned (sv a) = .returned (sv b) := by rw [h]
def failS : List UInt8 × Bool := ([], false)
def timeT' (h n d : Int) : List UInt8 × Bool := if askB h n d then (timeL n d h, true) else failS

set_option maxHeartbeats 400000 in
theorem tell_text_no (h n d : Int) (hb : askB h n d = false) (w : World) :
    Calls Tryd.prog 13 #[.int .i64 h, tv n d, .func (.func 14) #[] #[]] w fun e w' => e = .returned (sv failS) ∧ Below w.heap.size w w' := by
  cases ga : inB h 2 24
  · (go_enter Tryd.func13, Tryd.ntmps13)
    go_wp2_with fail
    refine (isDial_is _ ga _).mono ?_
    (rintro e1 w1 ⟨rfl, rfl⟩)
    go_wp2
    go_ret2
    exact ⟨rfl, by (repeat' (first | (with_reducible exact Below.refl _ _) | (with_reducible assumption) | (with_reducible refine Below.alloc ?_ ?_ _) | (with_reducible refine Below.drew ?_) | (with_reducible refine below_drewN ?_ _) | (with_reducible refine Below.setCell ?_ ?_ _) | (with_reducible refine below_call ?_ ?_ (by assumption)) | go_size))⟩
  · have gb : goodB n d = false := by simpa [askB, ga] using hb
    clear hb
    (go_enter Tryd.func13, Tryd.ntmps13)
    go_wp2_with fail
    refine (isDial_is _ ga _).mono ?_
    (rintro e1 w1 ⟨rfl, rfl⟩)
    go_wp2_with fail
    refine (isTurn_is _ _ gb _).mono ?_
    (rintro e1 w1 ⟨rfl, hb1⟩; obtain ⟨hc1, hf1⟩ := bcell hb1; have hz1 := hb1.size; (try simp only [World.size_alloc, World.size_setCell, World.size_drew] at hz1); have q1 : w.heap.size ≤ w1.heap.size := (by omega); (try have q1_0 : w.heap.size < w1.heap.size := (by omega)); (try have q1_1 : w.heap.size + 1 < w1.heap.size := (by omega)); (try have q1_2 : w.heap.size + 2 < w1.heap.size := (by omega)); (try have q1_3 : w.heap.size + 3 < w1.heap.size := (by omega)))
    go_wp2
    go_ret2
    exact ⟨rfl, by (repeat' (first | (with_reducible exact Below.refl _ _) | (with_reducible assumption) | (with_reducible refine Below.alloc ?_ ?_ _) | (with_reducible refine Below.drew ?_) | (with_reducible refine below_drewN ?_ _) | (with_reducible refine Below.setCell ?_ ?_ _) | (with_reducible refine below_call ?_ ?_ (by assumption)) | go_size))⟩

set_option maxHeartbeats 400000 in
theorem tell_text_ok (h n d : Int) (hb : askB h n d = true) (w : World) (ht : Tens w) :
    Calls Tryd.prog 13 #[.int .i64 h, tv n d, .func (.func 14) #[] #[]] w fun e w' => e = .returned (sv (timeL n d h, true)) ∧ Below w.heap.size w w' := by
  obtain ⟨ga, gb⟩ : inB h 2 24 = true ∧ goodB n d = true := by simpa [askB] using hb
  have HB := Lib.hid hb
  have HT := Lib.hid ht
  clear hb ht
  (go_enter Tryd.func13, Tryd.ntmps13)
  go_wp2_with fail
  refine (isDial_is _ ga _).mono ?_
  (rintro e1 w1 ⟨rfl, rfl⟩)
  go_wp2_with fail
  refine (isTurn_is _ _ gb _).mono ?_
  (rintro e1 w1 ⟨rfl, hb1⟩; obtain ⟨hc1, hf1⟩ := bcell hb1; have hz1 := hb1.size; (try simp only [World.size_alloc, World.size_setCell, World.size_drew] at hz1); have q1 : w.heap.size ≤ w1.heap.size := (by omega); (try have q1_0 : w.heap.size < w1.heap.size := (by omega)); (try have q1_1 : w.heap.size + 1 < w1.heap.size := (by omega)); (try have q1_2 : w.heap.size + 2 < w1.heap.size := (by omega)); (try have q1_3 : w.heap.size + 3 < w1.heap.size := (by omega)))
  go_wp2_with fail
  refine (text_any n d h HB.out _ (Tens.below (w := w) HT.out (by (repeat' (first | (with_reducible exact Below.refl _ _) | (with_reducible assumption) | (with_reducible refine Below.alloc ?_ ?_ _) | (with_reducible refine Below.drew ?_) | (with_reducible refine below_drewN ?_ _) | (with_reducible refine Below.setCell ?_ ?_ _) | (with_reducible refine below_call ?_ ?_ (by assumption)) | go_size))))).mono ?_
  (rintro e2 w2 ⟨rfl, hb2⟩; obtain ⟨hc2, hf2⟩ := bcell hb2; have hz2 := hb2.size; (try simp only [World.size_alloc, World.size_setCell, World.size_drew] at hz2); have q2 : w.heap.size ≤ w2.heap.size := (by omega); (try have q2_0 : w.heap.size < w2.heap.size := (by omega)); (try have q2_1 : w.heap.size + 1 < w2.heap.size := (by omega)); (try have q2_2 : w.heap.size + 2 < w2.heap.size := (by omega)); (try have q2_3 : w.heap.size + 3 < w2.heap.size := (by omega)); (try have q2_1_0 : w1.heap.size < w2.heap.size := (by omega)); (try have q2_1_1 : w1.heap.size + 1 < w2.heap.size := (by omega)))
  go_wp2
  go_ret2
  exact ⟨rfl, by (repeat' (first | (with_reducible exact Below.refl _ _) | (with_reducible assumption) | (with_reducible refine Below.alloc ?_ ?_ _) | (with_reducible refine Below.drew ?_) | (with_reducible refine below_drewN ?_ _) | (with_reducible refine Below.setCell ?_ ?_ _) | (with_reducible refine below_call ?_ ?_ (by assumption)) | go_size))⟩

set_option maxHeartbeats 400000 in
theorem implTimeText_any (h n d : Int) (w : World) (ht : Tens w) :
    Calls Tryd.prog 7 #[.int .i64 h, tv n d] w fun e w' => e = .returned (sv (timeT' h n d)) ∧ Below w.heap.size w w' := by
  have HT := Lib.hid ht
  clear ht
  cases ga : askB h n d
  · have HM := Lib.hid (show failS = timeT' h n d from by simp [timeT', ga])
    (go_enter Tryd.func7, Tryd.ntmps7)
    go_wp2_with fail
    refine (tell_text_no h n d ga _).mono ?_
    (rintro e1 w1 ⟨rfl, hb1⟩; obtain ⟨hc1, hf1⟩ := bcell hb1; have hz1 := hb1.size; (try simp only [World.size_alloc, World.size_setCell, World.size_drew] at hz1); have q1 : w.heap.size ≤ w1.heap.size := (by omega); (try have q1_0 : w.heap.size < w1.heap.size := (by omega)); (try have q1_1 : w.heap.size + 1 < w1.heap.size := (by omega)); (try have q1_2 : w.heap.size + 2 < w1.heap.size := (by omega)); (try have q1_3 : w.heap.size + 3 < w1.heap.size := (by omega)))
    go_wp2
    go_ret2
    exact ⟨ret_sv HM.out, by (repeat' (first | (with_reducible exact Below.refl _ _) | (with_reducible assumption) | (with_reducible refine Below.alloc ?_ ?_ _) | (with_reducible refine Below.drew ?_) | (with_reducible refine below_drewN ?_ _) | (with_reducible refine Below.setCell ?_ ?_ _) | (with_reducible refine below_call ?_ ?_ (by assumption)) | go_size))⟩
  · have HM := Lib.hid (show (timeL n d h, true) = timeT' h n d from by simp [timeT', ga])
    have GA := Lib.hid ga
    clear ga
    (go_enter Tryd.func7, Tryd.ntmps7)
    go_wp2_with fail
    refine (tell_text_ok h n d GA.out _ (Tens.below (w := w) HT.out (by (repeat' (first | (with_reducible exact Below.refl _ _) | (with_reducible assumption) | (with_reducible refine Below.alloc ?_ ?_ _) | (with_reducible refine Below.drew ?_) | (with_reducible refine below_drewN ?_ _) | (with_reducible refine Below.setCell ?_ ?_ _) | (with_reducible refine below_call ?_ ?_ (by assumption)) | go_size))))).mono ?_
    (rintro e1 w1 ⟨rfl, hb1⟩; obtain ⟨hc1, hf1⟩ := bcell hb1; have hz1 := hb1.size; (try simp only [World.size_alloc, World.size_setCell, World.size_drew] at hz1); have q1 : w.heap.size ≤ w1.heap.size := (by omega); (try have q1_0 : w.heap.size < w1.heap.size := (by omega)); (try have q1_1 : w.heap.size + 1 < w1.heap.size := (by omega)); (try have q1_2 : w.heap.size + 2 < w1.heap.size := (by omega)); (try have q1_3 : w.heap.size + 3 < w1.heap.size := (by omega)))
    go_wp2
    go_ret2
    exact ⟨ret_sv HM.out, by (repeat' (first | (with_reducible exact Below.refl _ _) | (with_reducible assumption) | (with_reducible refine Below.alloc ?_ ?_ _) | (with_reducible refine Below.drew ?_) | (with_reducible refine below_drewN ?_ _) | (with_reducible refine Below.setCell ?_ ?_ _) | (with_reducible refine below_call ?_ ?_ (by assumption)) | go_size))⟩

set_option maxRecDepth 20000 in
set_option maxHeartbeats 1600000 in
theorem diText_any (n d h : Int) (hb : askB h n d = true) (w : World) :
    Calls Tryd.prog 12 #[.int .i64 h, tv n d] w fun e w' => e = .returned (str (timeL n d h)) ∧ Below w.heap.size w w' := by
  have h1 := askB_bd hb
  have hh := hms_bd hb
  have hlb := low_bd (n * (h * 3600)) d h1.2.1
  have hll := low_lt' (n * (h * 3600)) d h1.2.1
  obtain ⟨⟨c1, c2⟩, a1, a2, a3, a4⟩ := h1
  obtain ⟨p1, p2⟩ := mulb a3 a4 (show 0 ≤ h by omega) c2
  obtain ⟨p3, p4⟩ := mulb a3 a4 (show 0 ≤ h * 3600 by omega) (show h * 3600 ≤ 86400 by omega)
  have e1 : n * h * 3600 / d / 3600 = hourN n d h := div_div_3600 _ _ a1
  have e2 : n * h * 3600 / d / 60 % 60 = minuteN n d h := by rw [div_div_60 _ _ a1, Int.mul_assoc]; rfl
  have e3 : n * h * 3600 / d % 60 = secondN n d h := by rw [Int.mul_assoc]; rfl
  have C4 : Hid (∀ W : World, Calls Tryd.prog 25 #[tv n d, .int .i64 (h * 3600)] W fun e w' => e = .returned (tv (lowNum (n * (h * 3600)) d) (lowDen (n * (h * 3600)) d)) ∧ Below W.heap.size W w') := fun W => diTimes_any n d (h * 3600) a1 a2 (by omega) (by omega) W
  have E : Hid (timeL n d h = hmsL n d h ++ fracL (lowNum (n * (h * 3600)) d) (lowDen (n * (h * 3600)) d)) := rfl
  unfold hmsL at E
  have q0 : 0 ≤ n * h * 3600 / d := Int.ediv_nonneg (by omega) (by omega)
  have q1 : n * h * 3600 / d ≤ 90000000000 := by
    have := Int.ediv_le_self (a := n * h * 3600) d (by omega)
    omega
  generalize lowNum (n * (h * 3600)) d = p at *
  generalize lowDen (n * (h * 3600)) d = q at *
  obtain ⟨b1, b2, b3⟩ := hlb
  rw [← e1, ← e2, ← e3] at E hh
  clear e1 e2 e3 hb
  have HH := Lib.hid hh
  clear hh
  (go_enter Tryd.func12, Tryd.ntmps12)
  go_wp2_with fail
  refine (diTwo_any _ HH.out.1.1 HH.out.1.2 _).mono ?_
  (rintro e1 w1 ⟨rfl, hb1⟩; obtain ⟨hc1, hf1⟩ := bcell hb1; have hz1 := hb1.size; (try simp only [World.size_alloc, World.size_setCell, World.size_drew] at hz1); have q1 : w.heap.size ≤ w1.heap.size := (by omega); (try have q1_0 : w.heap.size < w1.heap.size := (by omega)); (try have q1_1 : w.heap.size + 1 < w1.heap.size := (by omega)); (try have q1_2 : w.heap.size + 2 < w1.heap.size := (by omega)); (try have q1_3 : w.heap.size + 3 < w1.heap.size := (by omega)))
  go_wp2_with fail
  refine (diTwo_any _ HH.out.2.1.1 HH.out.2.1.2 _).mono ?_
  (rintro e2 w2 ⟨rfl, hb2⟩; obtain ⟨hc2, hf2⟩ := bcell hb2; have hz2 := hb2.size; (try simp only [World.size_alloc, World.size_setCell, World.size_drew] at hz2); have q2 : w.heap.size ≤ w2.heap.size := (by omega); (try have q2_0 : w.heap.size < w2.heap.size := (by omega)); (try have q2_1 : w.heap.size + 1 < w2.heap.size := (by omega)); (try have q2_2 : w.heap.size + 2 < w2.heap.size := (by omega)); (try have q2_3 : w.heap.size + 3 < w2.heap.size := (by omega)); (try have q2_1_0 : w1.heap.size < w2.heap.size := (by omega)); (try have q2_1_1 : w1.heap.size + 1 < w2.heap.size := (by omega)))
  go_wp2_with fail
  refine (diTwo_any _ HH.out.2.2.1 HH.out.2.2.2 _).mono ?_
  (rintro e3 w3 ⟨rfl, hb3⟩; obtain ⟨hc3, hf3⟩ := bcell hb3; have hz3 := hb3.size; (try simp only [World.size_alloc, World.size_setCell, World.size_drew] at hz3); have q3 : w.heap.size ≤ w3.heap.size := (by omega); (try have q3_0 : w.heap.size < w3.heap.size := (by omega)); (try have q3_1 : w.heap.size + 1 < w3.heap.size := (by omega)); (try have q3_2 : w.heap.size + 2 < w3.heap.size := (by omega)); (try have q3_3 : w.heap.size + 3 < w3.heap.size := (by omega)); (try have q3_1_0 : w1.heap.size < w3.heap.size := (by omega)); (try have q3_1_1 : w1.heap.size + 1 < w3.heap.size := (by omega)); (try have q3_2_0 : w2.heap.size < w3.heap.size := (by omega)); (try have q3_2_1 : w2.heap.size + 1 < w3.heap.size := (by omega)))
  go_wp2_with fail
  refine (C4.out _).mono ?_
  (rintro e4 w4 ⟨rfl, hb4⟩; obtain ⟨hc4, hf4⟩ := bcell hb4; have hz4 := hb4.size; (try simp only [World.size_alloc, World.size_setCell, World.size_drew] at hz4); have q4 : w.heap.size ≤ w4.heap.size := (by omega); (try have q4_0 : w.heap.size < w4.heap.size := (by omega)); (try have q4_1 : w.heap.size + 1 < w4.heap.size := (by omega)); (try have q4_2 : w.heap.size + 2 < w4.heap.size := (by omega)); (try have q4_3 : w.heap.size + 3 < w4.heap.size := (by omega)); (try have q4_1_0 : w1.heap.size < w4.heap.size := (by omega)); (try have q4_1_1 : w1.heap.size + 1 < w4.heap.size := (by omega)); (try have q4_2_0 : w2.heap.size < w4.heap.size := (by omega)); (try have q4_2_1 : w2.heap.size + 1 < w4.heap.size := (by omega)); (try have q4_3_0 : w3.heap.size < w4.heap.size := (by omega)); (try have q4_3_1 : w3.heap.size + 1 < w4.heap.size := (by omega)))
  by_cases hp : 0 < p
  · have k1 := dec_short (n := p) (by omega) (by omega)
    have k2 := dec_short (n := q) (by omega) (by omega)
    have z1 : ¬ 9223372036854775807 < 1 + (dec p).length := by omega
    have z2 : ¬ 9223372036854775807 < 1 + (dec p).length + 1 := by omega
    have z3 : ¬ 9223372036854775807 < 1 + (dec p).length + 1 + (dec q).length := by omega
    have z4 : ¬ 9223372036854775807 < 8 + (1 + (dec p).length + 1 + (dec q).length) := by omega
    have N1 := Lib.hid (fun W : World => l1Num_any p.toNat p W (by omega) b1 (by omega))
    have N2 := Lib.hid (fun W : World => l1Num_any q.toNat q W (by omega) (by omega) (by omega))
    clear k1 k2
    go_wp2_with fail
    refine wp_region_below (by kernel_rfl) (by kernel_rfl) ?_
    (apply wpB_take (hw := rfl); (intro wq hq; obtain ⟨hcq, hfq⟩ := bcell hq; unfold atB; go_simp; exact ⟨rfl, rfl⟩); simp only [Act.put, List.setIfInBounds_toArray, List.set_cons_zero, List.set_cons_succ])
    (apply wpB_take (hw := rfl); (intro wq hq; obtain ⟨hcq, hfq⟩ := bcell hq; unfold atB; go_simp; exact ⟨rfl, rfl⟩); simp only [Act.put, List.setIfInBounds_toArray, List.set_cons_zero, List.set_cons_succ])
    (apply wpB_take (hw := rfl); (intro wq hq; obtain ⟨hcq, hfq⟩ := bcell hq; unfold atB; go_simp; exact ⟨rfl, rfl⟩); simp only [Act.put, List.setIfInBounds_toArray, List.set_cons_zero, List.set_cons_succ])
    (apply wpB_take (hw := rfl); (intro wq hq; unfold atB; go_simp; exact ⟨rfl, N1.out _⟩); simp only [Act.put, List.setIfInBounds_toArray, List.set_cons_zero, List.set_cons_succ])
    (apply wpB_take (hw := rfl); (intro wq hq; obtain ⟨hcq, hfq⟩ := bcell hq; unfold atB; go_simp; exact ⟨rfl, rfl⟩); simp only [Act.put, List.setIfInBounds_toArray, List.set_cons_zero, List.set_cons_succ])
    (apply wpB_take (hw := rfl); (intro wq hq; obtain ⟨hcq, hfq⟩ := bcell hq; unfold atB; go_simp; exact ⟨rfl, rfl⟩); simp only [Act.put, List.setIfInBounds_toArray, List.set_cons_zero, List.set_cons_succ])
    (apply wpB_take (hw := rfl); (intro wq hq; obtain ⟨hcq, hfq⟩ := bcell hq; unfold atB; go_simp; exact ⟨rfl, rfl⟩); simp only [Act.put, List.setIfInBounds_toArray, List.set_cons_zero, List.set_cons_succ])
    (apply wpB_take (hw := rfl); (intro wq hq; obtain ⟨hcq, hfq⟩ := bcell hq; unfold atB; go_simp; exact ⟨rfl, rfl⟩); simp only [Act.put, List.setIfInBounds_toArray, List.set_cons_zero, List.set_cons_succ])
    (apply wpB_take (hw := rfl); (intro wq hq; unfold atB; go_simp; exact ⟨rfl, N2.out _⟩); simp only [Act.put, List.setIfInBounds_toArray, List.set_cons_zero, List.set_cons_succ])
    (apply wpB_take (hw := rfl); (intro wq hq; obtain ⟨hcq, hfq⟩ := bcell hq; unfold atB; go_simp; exact ⟨rfl, rfl⟩); simp only [Act.put, List.setIfInBounds_toArray, List.set_cons_zero, List.set_cons_succ])
    (apply wpB_take (hw := rfl); (intro wq hq; obtain ⟨hcq, hfq⟩ := bcell hq; unfold atB; go_simp; exact ⟨rfl, rfl⟩); simp only [Act.put, List.setIfInBounds_toArray, List.set_cons_zero, List.set_cons_succ])
    (apply wpB_take (hw := rfl); (intro wq hq; obtain ⟨hcq, hfq⟩ := bcell hq; unfold atB; go_simp; exact ⟨rfl, rfl⟩); simp only [Act.put, List.setIfInBounds_toArray, List.set_cons_zero, List.set_cons_succ])
    refine fun w5 hb5 => ?_
    (obtain ⟨hc5, hf5⟩ := bcell hb5; have hz5 := hb5.size; (try simp only [World.size_alloc, World.size_setCell, World.size_drew] at hz5); have q5 : w.heap.size ≤ w5.heap.size := (by omega); (try have q5_0 : w.heap.size < w5.heap.size := (by omega)); (try have q5_1 : w.heap.size + 1 < w5.heap.size := (by omega)); (try have q5_2 : w.heap.size + 2 < w5.heap.size := (by omega)); (try have q5_3 : w.heap.size + 3 < w5.heap.size := (by omega)); (try have p5_1 : b1 < w5.heap.size := (by omega)); (try have p5_2 : b2 < w5.heap.size := (by omega)); (try have p5_3 : b3 < w5.heap.size := (by omega)); (try have p5_4 : b4 < w5.heap.size := (by omega)); try simp only [Act.put, List.setIfInBounds_toArray, List.set_cons_zero, List.set_cons_succ])
    go_wp2
    go_ret
    refine ⟨?_, by (repeat' (first | (with_reducible exact Below.refl _ _) | (with_reducible assumption) | (with_reducible refine Below.alloc ?_ ?_ _) | (with_reducible refine Below.drew ?_) | (with_reducible refine below_drewN ?_ _) | (with_reducible refine Below.setCell ?_ ?_ _) | (with_reducible refine below_call ?_ ?_ (by assumption)) | go_size))⟩
    exact congrArg (fun x => Ending.returned (Value.string x)) (ByteArray.ext (by simp [E.out, fracL, hp]))
  · go_wp2
    go_ret
    refine ⟨?_, by (repeat' (first | (with_reducible exact Below.refl _ _) | (with_reducible assumption) | (with_reducible refine Below.alloc ?_ ?_ _) | (with_reducible refine Below.drew ?_) | (with_reducible refine below_drewN ?_ _) | (with_reducible refine Below.setCell ?_ ?_ _) | (with_reducible refine below_call ?_ ?_ (by assumption)) | go_size))⟩
    exact congrArg (fun x => Ending.returned (Value.string x)) (ByteArray.ext (by simp [E.out, fracL, hp]))

set_option maxHeartbeats 400000 in
theorem specTimeText_any (h n d : Int) (kd : -9223372036854775808 ≤ d ∧ d ≤ 9223372036854775807) (w : World) :
    Calls Tryd.prog 5 #[.int .i64 h, tv n d] w fun e w' => e = .returned (sv (timeT' h n d)) ∧ Below w.heap.size w w' := by
  cases ga : askB h n d
  · have HM := Lib.hid (show failS = timeT' h n d from by simp [timeT', ga])
    (go_enter Tryd.func5, Tryd.ntmps5)
    go_wp2_with fail
    refine (diAsked_is h n d ga kd _).mono ?_
    (rintro e1 w1 ⟨rfl, hb1⟩; obtain ⟨hc1, hf1⟩ := bcell hb1; have hz1 := hb1.size; (try simp only [World.size_alloc, World.size_setCell, World.size_drew] at hz1); have q1 : w.heap.size ≤ w1.heap.size := (by omega); (try have q1_0 : w.heap.size < w1.heap.size := (by omega)); (try have q1_1 : w.heap.size + 1 < w1.heap.size := (by omega)); (try have q1_2 : w.heap.size + 2 < w1.heap.size := (by omega)); (try have q1_3 : w.heap.size + 3 < w1.heap.size := (by omega)))
    go_wp2
    go_ret2
    exact ⟨ret_sv HM.out, by (repeat' (first | (with_reducible exact Below.refl _ _) | (with_reducible assumption) | (with_reducible refine Below.alloc ?_ ?_ _) | (with_reducible refine Below.drew ?_) | (with_reducible refine below_drewN ?_ _) | (with_reducible refine Below.setCell ?_ ?_ _) | (with_reducible refine below_call ?_ ?_ (by assumption)) | go_size))⟩
  · have HM := Lib.hid (show (timeL n d h, true) = timeT' h n d from by simp [timeT', ga])
    have GA := Lib.hid ga
    clear ga
    (go_enter Tryd.func5, Tryd.ntmps5)
    go_wp2_with fail
    refine (diAsked_is h n d GA.out kd _).mono ?_
    (rintro e1 w1 ⟨rfl, hb1⟩; obtain ⟨hc1, hf1⟩ := bcell hb1; have hz1 := hb1.size; (try simp only [World.size_alloc, World.size_setCell, World.size_drew] at hz1); have q1 : w.heap.size ≤ w1.heap.size := (by omega); (try have q1_0 : w.heap.size < w1.heap.size := (by omega)); (try have q1_1 : w.heap.size + 1 < w1.heap.size := (by omega)); (try have q1_2 : w.heap.size + 2 < w1.heap.size := (by omega)); (try have q1_3 : w.heap.size + 3 < w1.heap.size := (by omega)))
    go_wp2_with fail
    refine (diText_any n d h GA.out _).mono ?_
    (rintro e2 w2 ⟨rfl, hb2⟩; obtain ⟨hc2, hf2⟩ := bcell hb2; have hz2 := hb2.size; (try simp only [World.size_alloc, World.size_setCell, World.size_drew] at hz2); have q2 : w.heap.size ≤ w2.heap.size := (by omega); (try have q2_0 : w.heap.size < w2.heap.size := (by omega)); (try have q2_1 : w.heap.size + 1 < w2.heap.size := (by omega)); (try have q2_2 : w.heap.size + 2 < w2.heap.size := (by omega)); (try have q2_3 : w.heap.size + 3 < w2.heap.size := (by omega)); (try have q2_1_0 : w1.heap.size < w2.heap.size := (by omega)); (try have q2_1_1 : w1.heap.size + 1 < w2.heap.size := (by omega)))
    go_wp2
    go_ret2
    exact ⟨ret_sv HM.out, by (repeat' (first | (with_reducible exact Below.refl _ _) | (with_reducible assumption) | (with_reducible refine Below.alloc ?_ ?_ _) | (with_reducible refine Below.drew ?_) | (with_reducible refine below_drewN ?_ _) | (with_reducible refine Below.setCell ?_ ?_ _) | (with_reducible refine below_call ?_ ?_ (by assumption)) | go_size))⟩
end Go.Proofs.YtebjlaajddpbhaaDoor
