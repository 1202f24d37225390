/- What is told of a time on a dial: the program's door for it, and the model's. -/
import Derived.Test.YticdmochedadbaaGreatDial3
set_option linter.unusedSimpArgs false
set_option linter.unusedVariables false
set_option maxRecDepth 100000
namespace Go.Proofs.YticdmochedadbaaGreat
open Go.RowKit

set_option maxHeartbeats 400000 in
theorem isDial_is {b : Bool} (n : Int) (h : inB n 2 24 = b) (w : World) :
    Calls Tryz.prog 31 #[.int .i64 n] w fun e w' => e = .returned (.bool b) ∧ w = w' := by
  (go_enter Tryz.func31, Tryz.ntmps31)
  go_wp2_with fail
  refine (isWithin_is _ _ _ h _).mono ?_
  (rintro e1 w1 ⟨rfl, rfl⟩)
  go_wp2
  go_ret
  exact ⟨rfl, rfl⟩

set_option maxHeartbeats 400000 in
theorem diHours_is {b : Bool} (n : Int) (h : inB n 2 24 = b) (w : World) :
    Calls Tryz.prog 64 #[.int .i64 n] w fun e w' => e = .returned (.bool b) ∧ w = w' := by
  (go_enter Tryz.func64, Tryz.ntmps64)
  go_wp2_with fail
  refine (l1In_is _ _ _ h _).mono ?_
  (rintro e1 w1 ⟨rfl, rfl⟩)
  go_wp2
  go_ret
  exact ⟨rfl, rfl⟩

/-- There are a dial and a time. -/
def askB (h n d : Int) : Bool := inB h 2 24 && goodB n d
theorem askB_bd {h n d : Int} (hh : askB h n d = true) : (2 ≤ h ∧ h ≤ 24) ∧ 1 ≤ d ∧ d ≤ 1000000 ∧ 0 ≤ n ∧ n ≤ 999999 := by
  simp only [askB, Bool.and_eq_true] at hh
  exact ⟨inB_bd hh.1, goodB_bd hh.2⟩
set_option maxHeartbeats 400000 in
theorem diAsked_any (h n d : Int) (kd : -9223372036854775808 ≤ d ∧ d ≤ 9223372036854775807) (w : World) :
    Calls Tryz.prog 46 #[.int .i64 h, tv n d] w fun e w' => e = .returned (.bool (askB h n d)) ∧ Below w.heap.size w w' := by
  cases ga : inB h 2 24
  · have HM := Lib.hid (show false = askB h n d from by simp [askB, ga])
    (go_enter Tryz.func46, Tryz.ntmps46)
    go_wp2_with fail
    refine (diHours_is _ ga _).mono ?_
    (rintro e1 w1 ⟨rfl, rfl⟩)
    go_wp2
    go_ret
    exact ⟨ret_bool HM.out, by (repeat' (first | (with_reducible exact Below.refl _ _) | (with_reducible assumption) | (with_reducible refine Below.alloc ?_ ?_ _) | (with_reducible refine Below.drew ?_) | (with_reducible refine below_drewN ?_ _) | (with_reducible refine Below.setCell ?_ ?_ _) | (with_reducible refine below_call ?_ ?_ (by assumption)) | go_size))⟩
  · have HM := Lib.hid (show goodB n d = askB h n d from by simp [askB, ga])
    (go_enter Tryz.func46, Tryz.ntmps46)
    go_wp2_with fail
    refine (diHours_is _ ga _).mono ?_
    (rintro e1 w1 ⟨rfl, rfl⟩)
    go_wp2_with fail
    refine (diGood_any n d _ kd.1 kd.2).mono ?_
    (rintro e1 w1 ⟨rfl, hb1⟩; obtain ⟨hc1, hf1⟩ := bcell hb1; have hz1 := hb1.size; (try simp only [World.size_alloc, World.size_setCell, World.size_drew] at hz1); have q1 : w.heap.size ≤ w1.heap.size := (by omega); (try have q1_0 : w.heap.size < w1.heap.size := (by omega)); (try have q1_1 : w.heap.size + 1 < w1.heap.size := (by omega)); (try have q1_2 : w.heap.size + 2 < w1.heap.size := (by omega)); (try have q1_3 : w.heap.size + 3 < w1.heap.size := (by omega)))
    go_wp2
    go_ret
    exact ⟨ret_bool HM.out, by (repeat' (first | (with_reducible exact Below.refl _ _) | (with_reducible assumption) | (with_reducible refine Below.alloc ?_ ?_ _) | (with_reducible refine Below.drew ?_) | (with_reducible refine below_drewN ?_ _) | (with_reducible refine Below.setCell ?_ ?_ _) | (with_reducible refine below_call ?_ ?_ (by assumption)) | go_size))⟩

theorem diAsked_is {b : Bool} (h n d : Int) (hb : askB h n d = b) (kd : -9223372036854775808 ≤ d ∧ d ≤ 9223372036854775807) (w : World) :
    Calls Tryz.prog 46 #[.int .i64 h, tv n d] w fun e w' => e = .returned (.bool b) ∧ Below w.heap.size w w' := by
  subst hb; exact diAsked_any h n d kd w

/-- A time of a dial, as the program's own methods take it. -/
abbrev dv (n d h : Int) : Value := .agg #[.int .i64 n, .int .i64 d, .int .i64 h]
set_option maxHeartbeats 400000 in
theorem tell_angle_ok (h n d : Int) (r : Int × Int) (hb : askB h n d = true) (HF : ∀ W : World, Calls Tryz.prog 58 #[dv n d h] W fun e w' => e = .returned (tv r.1 r.2) ∧ Below W.heap.size W w') (w : World) :
    Calls Tryz.prog 57 #[.int .i64 h, tv n d, .func (.func 58) #[] #[]] w fun e w' => e = .returned (.tuple #[tv r.1 r.2, .bool true]) ∧ Below w.heap.size w w' := by
  have H := Lib.hid HF
  clear HF
  obtain ⟨ga, gb⟩ : inB h 2 24 = true ∧ goodB n d = true := by simpa [askB] using hb
  clear hb
  (go_enter Tryz.func57, Tryz.ntmps57)
  go_wp2_with fail
  refine (isDial_is _ ga _).mono ?_
  (rintro e1 w1 ⟨rfl, rfl⟩)
  go_wp2_with fail
  refine (isTurn_is _ _ gb _).mono ?_
  (rintro e1 w1 ⟨rfl, hb1⟩; obtain ⟨hc1, hf1⟩ := bcell hb1; have hz1 := hb1.size; (try simp only [World.size_alloc, World.size_setCell, World.size_drew] at hz1); have q1 : w.heap.size ≤ w1.heap.size := (by omega); (try have q1_0 : w.heap.size < w1.heap.size := (by omega)); (try have q1_1 : w.heap.size + 1 < w1.heap.size := (by omega)); (try have q1_2 : w.heap.size + 2 < w1.heap.size := (by omega)); (try have q1_3 : w.heap.size + 3 < w1.heap.size := (by omega)))
  go_wp2_with fail
  refine (H.out _).mono ?_
  (rintro e2 w2 ⟨rfl, hb2⟩; obtain ⟨hc2, hf2⟩ := bcell hb2; have hz2 := hb2.size; (try simp only [World.size_alloc, World.size_setCell, World.size_drew] at hz2); have q2 : w.heap.size ≤ w2.heap.size := (by omega); (try have q2_0 : w.heap.size < w2.heap.size := (by omega)); (try have q2_1 : w.heap.size + 1 < w2.heap.size := (by omega)); (try have q2_2 : w.heap.size + 2 < w2.heap.size := (by omega)); (try have q2_3 : w.heap.size + 3 < w2.heap.size := (by omega)); (try have q2_1_0 : w1.heap.size < w2.heap.size := (by omega)); (try have q2_1_1 : w1.heap.size + 1 < w2.heap.size := (by omega)))
  go_wp2
  (refine bodyPost_ret (by simp [results, Tryz.results57, go_sem, *]; try rfl) rfl ?_)
  exact ⟨rfl, by (repeat' (first | (with_reducible exact Below.refl _ _) | (with_reducible assumption) | (with_reducible refine Below.alloc ?_ ?_ _) | (with_reducible refine Below.drew ?_) | (with_reducible refine below_drewN ?_ _) | (with_reducible refine Below.setCell ?_ ?_ _) | (with_reducible refine below_call ?_ ?_ (by assumption)) | go_size))⟩

set_option maxHeartbeats 400000 in
theorem tell_angle_no (h n d : Int) (hb : askB h n d = false) (w : World) :
    Calls Tryz.prog 57 #[.int .i64 h, tv n d, .func (.func 58) #[] #[]] w fun e w' => e = .returned (rv fail3) ∧ Below w.heap.size w w' := by
  cases ga : inB h 2 24
  · (go_enter Tryz.func57, Tryz.ntmps57)
    go_wp2_with fail
    refine (isDial_is _ ga _).mono ?_
    (rintro e1 w1 ⟨rfl, rfl⟩)
    go_wp2
    (refine bodyPost_ret (by simp [results, Tryz.results57, go_sem, *]; try rfl) rfl ?_)
    exact ⟨rfl, by (repeat' (first | (with_reducible exact Below.refl _ _) | (with_reducible assumption) | (with_reducible refine Below.alloc ?_ ?_ _) | (with_reducible refine Below.drew ?_) | (with_reducible refine below_drewN ?_ _) | (with_reducible refine Below.setCell ?_ ?_ _) | (with_reducible refine below_call ?_ ?_ (by assumption)) | go_size))⟩
  · have gb : goodB n d = false := by simpa [askB, ga] using hb
    clear hb
    (go_enter Tryz.func57, Tryz.ntmps57)
    go_wp2_with fail
    refine (isDial_is _ ga _).mono ?_
    (rintro e1 w1 ⟨rfl, rfl⟩)
    go_wp2_with fail
    refine (isTurn_is _ _ gb _).mono ?_
    (rintro e1 w1 ⟨rfl, hb1⟩; obtain ⟨hc1, hf1⟩ := bcell hb1; have hz1 := hb1.size; (try simp only [World.size_alloc, World.size_setCell, World.size_drew] at hz1); have q1 : w.heap.size ≤ w1.heap.size := (by omega); (try have q1_0 : w.heap.size < w1.heap.size := (by omega)); (try have q1_1 : w.heap.size + 1 < w1.heap.size := (by omega)); (try have q1_2 : w.heap.size + 2 < w1.heap.size := (by omega)); (try have q1_3 : w.heap.size + 3 < w1.heap.size := (by omega)))
    go_wp2
    (refine bodyPost_ret (by simp [results, Tryz.results57, go_sem, *]; try rfl) rfl ?_)
    exact ⟨rfl, by (repeat' (first | (with_reducible exact Below.refl _ _) | (with_reducible assumption) | (with_reducible refine Below.alloc ?_ ?_ _) | (with_reducible refine Below.drew ?_) | (with_reducible refine below_drewN ?_ _) | (with_reducible refine Below.setCell ?_ ?_ _) | (with_reducible refine below_call ?_ ?_ (by assumption)) | go_size))⟩

set_option maxHeartbeats 400000 in
theorem angle_any (n d h : Int) (h1 : (2 ≤ h ∧ h ≤ 24) ∧ 1 ≤ d ∧ d ≤ 1000000 ∧ 0 ≤ n ∧ n ≤ 999999) (w : World) :
    Calls Tryz.prog 58 #[dv n d h] w fun e w' => e = .returned (tv (lowNum (n * (h - 1)) d) (lowDen (n * (h - 1)) d)) ∧ Below w.heap.size w w' := by
  obtain ⟨⟨c1, c2⟩, a1, a2, a3, a4⟩ := h1
  obtain ⟨p1, p2⟩ := mulb a3 a4 (show 0 ≤ (h - 1) by omega) (show (h - 1) ≤ 23 by omega)
  (go_enter Tryz.func58, Tryz.ntmps58)
  go_wp2_with fail
  refine (manyTimes_any n d (h - 1) a1 (by omega) (by omega) (by omega) _).mono ?_
  (rintro e1 w1 ⟨rfl, hb1⟩; obtain ⟨hc1, hf1⟩ := bcell hb1; have hz1 := hb1.size; (try simp only [World.size_alloc, World.size_setCell, World.size_drew] at hz1); have q1 : w.heap.size ≤ w1.heap.size := (by omega); (try have q1_0 : w.heap.size < w1.heap.size := (by omega)); (try have q1_1 : w.heap.size + 1 < w1.heap.size := (by omega)); (try have q1_2 : w.heap.size + 2 < w1.heap.size := (by omega)); (try have q1_3 : w.heap.size + 3 < w1.heap.size := (by omega)))
  go_wp2
  (refine bodyPost_ret (by simp [results, Tryz.results58, go_sem, *]; try rfl) rfl ?_)
  exact ⟨rfl, by (repeat' (first | (with_reducible exact Below.refl _ _) | (with_reducible assumption) | (with_reducible refine Below.alloc ?_ ?_ _) | (with_reducible refine Below.drew ?_) | (with_reducible refine below_drewN ?_ _) | (with_reducible refine Below.setCell ?_ ?_ _) | (with_reducible refine below_call ?_ ?_ (by assumption)) | go_size))⟩

/-- A time's turn so many times, if there are such a dial and such a turn. -/
def askT (h n d k : Int) : Int × Int × Bool := if askB h n d then (lowNum (n * k) d, lowDen (n * k) d, true) else fail3

set_option maxHeartbeats 400000 in
theorem implAngleOf_any (h n d : Int) (w : World) :
    Calls Tryz.prog 28 #[.int .i64 h, tv n d] w fun e w' => e = .returned (rv (askT h n d (h - 1))) ∧ Below w.heap.size w w' := by
  cases ga : askB h n d
  · have HM := Lib.hid (show fail3 = askT h n d (h - 1) from by simp [askT, ga])
    (go_enter Tryz.func28, Tryz.ntmps28)
    go_wp2_with fail
    refine (tell_angle_no h n d ga _).mono ?_
    (rintro e1 w1 ⟨rfl, hb1⟩; obtain ⟨hc1, hf1⟩ := bcell hb1; have hz1 := hb1.size; (try simp only [World.size_alloc, World.size_setCell, World.size_drew] at hz1); have q1 : w.heap.size ≤ w1.heap.size := (by omega); (try have q1_0 : w.heap.size < w1.heap.size := (by omega)); (try have q1_1 : w.heap.size + 1 < w1.heap.size := (by omega)); (try have q1_2 : w.heap.size + 2 < w1.heap.size := (by omega)); (try have q1_3 : w.heap.size + 3 < w1.heap.size := (by omega)))
    go_wp2
    (refine bodyPost_ret (by simp [results, Tryz.results28, go_sem, *]; try rfl) rfl ?_)
    exact ⟨ret_rv HM.out, by (repeat' (first | (with_reducible exact Below.refl _ _) | (with_reducible assumption) | (with_reducible refine Below.alloc ?_ ?_ _) | (with_reducible refine Below.drew ?_) | (with_reducible refine below_drewN ?_ _) | (with_reducible refine Below.setCell ?_ ?_ _) | (with_reducible refine below_call ?_ ?_ (by assumption)) | go_size))⟩
  · have h1 := askB_bd ga
    have HT := Lib.hid (fun W : World => angle_any n d h h1 W)
    have HM := Lib.hid (show (lowNum (n * (h - 1)) d, lowDen (n * (h - 1)) d, true) = askT h n d (h - 1) from by simp [askT, ga])
    (go_enter Tryz.func28, Tryz.ntmps28)
    go_wp2_with fail
    refine (tell_angle_ok h n d (lowNum (n * (h - 1)) d, lowDen (n * (h - 1)) d) ga HT.out _).mono ?_
    (rintro e1 w1 ⟨rfl, hb1⟩; obtain ⟨hc1, hf1⟩ := bcell hb1; have hz1 := hb1.size; (try simp only [World.size_alloc, World.size_setCell, World.size_drew] at hz1); have q1 : w.heap.size ≤ w1.heap.size := (by omega); (try have q1_0 : w.heap.size < w1.heap.size := (by omega)); (try have q1_1 : w.heap.size + 1 < w1.heap.size := (by omega)); (try have q1_2 : w.heap.size + 2 < w1.heap.size := (by omega)); (try have q1_3 : w.heap.size + 3 < w1.heap.size := (by omega)))
    go_wp2
    (refine bodyPost_ret (by simp [results, Tryz.results28, go_sem, *]; try rfl) rfl ?_)
    exact ⟨ret_rv HM.out, by (repeat' (first | (with_reducible exact Below.refl _ _) | (with_reducible assumption) | (with_reducible refine Below.alloc ?_ ?_ _) | (with_reducible refine Below.drew ?_) | (with_reducible refine below_drewN ?_ _) | (with_reducible refine Below.setCell ?_ ?_ _) | (with_reducible refine below_call ?_ ?_ (by assumption)) | go_size))⟩

end Go.Proofs.YticdmochedadbaaGreat
