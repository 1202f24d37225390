/- What is told of a time on a dial: the program's door for it, and the model's. -/
import Derived.Test.YtfddlmnfkmiomaaDial3
set_option linter.unusedSimpArgs false
set_option linter.unusedVariables false
set_option maxRecDepth 100000
namespace Go.Proofs.Ytfddlmnfkmiomaa
open Go.RowKit

set_option maxHeartbeats 400000 in
theorem isDial_is {b : Bool} (n : Int) (h : inB n 2 24 = b) (w : World) :
    Calls Try.prog 16 #[.int .i64 n] w fun e w' => e = .returned (.bool b) ∧ w = w' := by
  (go_enter Try.func16, Try.ntmps16)
  go_wp2_with fail
  refine (isWithin_is _ _ _ h _).mono ?_
  (rintro e1 w1 ⟨rfl, rfl⟩)
  go_wp2
  go_ret
  exact ⟨rfl, rfl⟩

set_option maxHeartbeats 400000 in
theorem diHours_is {b : Bool} (n : Int) (h : inB n 2 24 = b) (w : World) :
    Calls Try.prog 24 #[.int .i64 n] w fun e w' => e = .returned (.bool b) ∧ w = w' := by
  (go_enter Try.func24, Try.ntmps24)
  go_wp2_with fail
  refine (l1In_is _ _ _ h _).mono ?_
  (rintro e1 w1 ⟨rfl, rfl⟩)
  go_wp2
  go_ret
  exact ⟨rfl, rfl⟩

/-- There are a dial and a time. -/
def askB (h n d : Int) : Bool := inB h 2 24 && goodB n d
theorem askB_bd {h n d : Int} (hh : askB h n d = true) : (2 ≤ h ∧ h ≤ 24) ∧ 1 ≤ d ∧ d ≤ 1000000 ∧ 0 ≤ n ∧ n ≤ 999999 := by
  simp only [askB, Bool.and_eq_true] at hh
  exact ⟨inB_bd hh.1, goodB_bd hh.2⟩
set_option maxHeartbeats 400000 in
theorem diAsked_any (h n d : Int) (kd : -9223372036854775808 ≤ d ∧ d ≤ 9223372036854775807) (w : World) :
    Calls Try.prog 19 #[.int .i64 h, tv n d] w fun e w' => e = .returned (.bool (askB h n d)) ∧ Below w.heap.size w w' := by
  cases ga : inB h 2 24
  · have HM := Lib.hid (show false = askB h n d from by simp [askB, ga])
    (go_enter Try.func19, Try.ntmps19)
    go_wp2_with fail
    refine (diHours_is _ ga _).mono ?_
    (rintro e1 w1 ⟨rfl, rfl⟩)
    go_wp2
    go_ret
    exact ⟨ret_bool HM.out, by (repeat' (first | (with_reducible exact Below.refl _ _) | (with_reducible assumption) | (with_reducible refine Below.alloc ?_ ?_ _) | (with_reducible refine Below.drew ?_) | (with_reducible refine below_drewN ?_ _) | (with_reducible refine Below.setCell ?_ ?_ _) | (with_reducible refine below_call ?_ ?_ (by assumption)) | go_size))⟩
  · have HM := Lib.hid (show goodB n d = askB h n d from by simp [askB, ga])
    (go_enter Try.func19, Try.ntmps19)
    go_wp2_with fail
    refine (diHours_is _ ga _).mono ?_
    (rintro e1 w1 ⟨rfl, rfl⟩)
    go_wp2_with fail
    refine (diGood_any n d _ kd.1 kd.2).mono ?_
    (rintro e1 w1 ⟨rfl, hb1⟩; obtain ⟨hc1, hf1⟩ := bcell hb1; have hz1 := hb1.size; (try simp only [World.size_alloc, World.size_setCell, World.size_drew] at hz1); have q1 : w.heap.size ≤ w1.heap.size := (by omega); (try have q1_0 : w.heap.size < w1.heap.size := (by omega)); (try have q1_1 : w.heap.size + 1 < w1.heap.size := (by omega)); (try have q1_2 : w.heap.size + 2 < w1.heap.size := (by omega)); (try have q1_3 : w.heap.size + 3 < w1.heap.size := (by omega)))
    go_wp2
    go_ret
    exact ⟨ret_bool HM.out, by (repeat' (first | (with_reducible exact Below.refl _ _) | (with_reducible assumption) | (with_reducible refine Below.alloc ?_ ?_ _) | (with_reducible refine Below.drew ?_) | (with_reducible refine below_drewN ?_ _) | (with_reducible refine Below.setCell ?_ ?_ _) | (with_reducible refine below_call ?_ ?_ (by assumption)) | go_size))⟩

theorem diAsked_is {b : Bool} (h n d : Int) (hb : askB h n d = b) (kd : -9223372036854775808 ≤ d ∧ d ≤ 9223372036854775807) (w : World) :
    Calls Try.prog 19 #[.int .i64 h, tv n d] w fun e w' => e = .returned (.bool b) ∧ Below w.heap.size w w' := by
  subst hb; exact diAsked_any h n d kd w

/-- A time of a dial, as the program's own methods take it. -/
abbrev dv (n d h : Int) : Value := .agg #[.int .i64 n, .int .i64 d, .int .i64 h]
/-- A time's turn so many times, if there are such a dial and such a turn. -/
def askT (h n d k : Int) : Int × Int × Bool := if askB h n d then (lowNum (n * k) d, lowDen (n * k) d, true) else fail3

end Go.Proofs.Ytfddlmnfkmiomaa
