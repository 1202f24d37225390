/- The hands of a dial: by the program and by the model. -/
import Derived.Test.YtgdjnnelonnoaaaMeet1
import Derived.Test.YtgdjnnelonnoaaaLHand
import Derived.Laws.OwnMore
set_option linter.unusedSimpArgs false
set_option linter.unusedVariables false
set_option maxRecDepth 100000
namespace Go.Proofs.Ytgdjnnelonnoaaa
open Go.RowKit

/-- What a function leaves that hands back a list and whether there is one. -/
def HandOut (w0 : World) (L : List (Int × Int × Int)) (ok : Bool) (e : Ending) (w' : World) : Prop :=
  ∃ v, e = .returned (.tuple #[v, .bool ok]) ∧ RowHand w' w0.heap.size v L ∧ Below w0.heap.size w0 w'
theorem HandOut.none {w0 w' : World} (h : Below w0.heap.size w0 w') : HandOut w0 [] false (.returned (.tuple #[.slice none 0 0, .bool false])) w' :=
  ⟨_, rfl, World.ownsRow_nil _ _ _ _, h⟩
def dialR (h : Int) : List (Int × Int × Int) × Bool := if inB h 2 24 then ([(0, 1, 1), (0, 1, h)], true) else ([], false)
theorem dialR_len (h : Int) : (dialR h).1.length ≤ 1000000 := by unfold dialR; split <;> simp
set_option maxHeartbeats 400000 in
theorem isDialH_is {b : Bool} (n : Int) (h : inB n 2 24 = b) (w : World) :
    Calls Try.prog 90 #[.int .i64 n] w fun e w' => e = .returned (.bool b) ∧ w = w' := by
  (go_enter Try.func90, Try.ntmps90)
  go_wp2_with fail
  refine (isWithin_is _ _ _ h _).mono ?_
  (rintro e1 w1 ⟨rfl, rfl⟩)
  go_wp2
  go_ret
  exact ⟨rfl, rfl⟩

set_option maxHeartbeats 400000 in
theorem diHoursH_is {b : Bool} (n : Int) (h : inB n 2 24 = b) (w : World) :
    Calls Try.prog 89 #[.int .i64 n] w fun e w' => e = .returned (.bool b) ∧ w = w' := by
  (go_enter Try.func89, Try.ntmps89)
  go_wp2_with fail
  refine (l1In_is _ _ _ h _).mono ?_
  (rintro e1 w1 ⟨rfl, rfl⟩)
  go_wp2
  go_ret
  exact ⟨rfl, rfl⟩

set_option maxHeartbeats 800000 in
theorem implHandsOfDial_any (h : Int) (w : World) :
    Calls Try.prog 61 #[.int .i64 h] w (HandOut w (dialR h).1 (dialR h).2) := by
  cases ga : inB h 2 24
  · rw [show dialR h = ([], false) from by simp [dialR, ga]]
    (go_enter Try.func61, Try.ntmps61)
    go_wp2_with fail
    refine (isDialH_is h ga _).mono ?_
    (rintro e1 w1 ⟨rfl, rfl⟩)
    go_wp2
    go_ret2
    exact HandOut.none (by (repeat' (first | (with_reducible exact Below.refl _ _) | (with_reducible assumption) | (with_reducible refine Below.alloc ?_ ?_ _) | (with_reducible refine Below.drew ?_) | (with_reducible refine below_drewN ?_ _) | (with_reducible refine Below.setCell ?_ ?_ _) | (with_reducible refine below_call ?_ ?_ (by assumption)) | go_size)))
  · rw [show dialR h = ([(0, 1, 1), (0, 1, h)], true) from by simp [dialR, ga]]
    (go_enter Try.func61, Try.ntmps61)
    go_wp2_with fail
    refine (isDialH_is h ga _).mono ?_
    (rintro e1 w1 ⟨rfl, rfl⟩)
    go_wp2
    go_ret2
    refine ⟨_, rfl, ?_, by (repeat' (first | (with_reducible exact Below.refl _ _) | (with_reducible assumption) | (with_reducible refine Below.alloc ?_ ?_ _) | (with_reducible refine Below.drew ?_) | (with_reducible refine below_drewN ?_ _) | (with_reducible refine Below.setCell ?_ ?_ _) | (with_reducible refine below_call ?_ ?_ (by assumption)) | go_size))⟩
    have hl := World.ownsRow_lit (base := w.heap.size) (size := 3) (e := 29) (w.alloc (.cells #[.int .i64 0, .int .i64 1] 27)) #[.int .i64 0, .int .i64 1, .int .i64 1, .int .i64 0, .int .i64 1, .int .i64 h] 2 (by go_size) (by unfold maxLen; omega) rfl
    simpa [RowHand, flatHand] using hl

set_option maxHeartbeats 800000 in
theorem specHandsOfDial_any (h : Int) (w : World) :
    Calls Try.prog 60 #[.int .i64 h] w (HandOut w (dialR h).1 (dialR h).2) := by
  cases ga : inB h 2 24
  · rw [show dialR h = ([], false) from by simp [dialR, ga]]
    (go_enter Try.func60, Try.ntmps60)
    go_wp2_with fail
    refine (diHoursH_is h ga _).mono ?_
    (rintro e1 w1 ⟨rfl, rfl⟩)
    go_wp2
    go_ret2
    exact HandOut.none (by (repeat' (first | (with_reducible exact Below.refl _ _) | (with_reducible assumption) | (with_reducible refine Below.alloc ?_ ?_ _) | (with_reducible refine Below.drew ?_) | (with_reducible refine below_drewN ?_ _) | (with_reducible refine Below.setCell ?_ ?_ _) | (with_reducible refine below_call ?_ ?_ (by assumption)) | go_size)))
  · rw [show dialR h = ([(0, 1, 1), (0, 1, h)], true) from by simp [dialR, ga]]
    (go_enter Try.func60, Try.ntmps60)
    go_wp2_with fail
    refine (diHoursH_is h ga _).mono ?_
    (rintro e1 w1 ⟨rfl, rfl⟩)
    go_wp2
    go_ret2
    refine ⟨_, rfl, ?_, by (repeat' (first | (with_reducible exact Below.refl _ _) | (with_reducible assumption) | (with_reducible refine Below.alloc ?_ ?_ _) | (with_reducible refine Below.drew ?_) | (with_reducible refine below_drewN ?_ _) | (with_reducible refine Below.setCell ?_ ?_ _) | (with_reducible refine below_call ?_ ?_ (by assumption)) | go_size))⟩
    have hl := World.ownsRow_lit (base := w.heap.size) (size := 3) (e := 29) (w.alloc (.cells #[.int .i64 0, .int .i64 1] 27)) #[.int .i64 0, .int .i64 1, .int .i64 1, .int .i64 0, .int .i64 1, .int .i64 h] 2 (by go_size) (by unfold maxLen; omega) rfl
    simpa [RowHand, flatHand] using hl

end Go.Proofs.Ytgdjnnelonnoaaa
