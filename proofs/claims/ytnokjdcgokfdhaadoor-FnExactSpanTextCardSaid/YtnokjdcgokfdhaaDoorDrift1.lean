/- Spans: which are, made: by the program and by the model. -/
import Derived.Test.YtnokjdcgokfdhaaDoorDrift0
set_option linter.unusedSimpArgs false
set_option linter.unusedVariables false
set_option maxRecDepth 100000
namespace Go.Proofs.YtnokjdcgokfdhaaDoor
open Go.RowKit

set_option maxHeartbeats 400000 in
theorem isSpan_any (n d : Int) (w : World) :
    Calls Tryd.prog 13 #[tv n d] w fun e w' => e = .returned (.bool (spanB n d)) ∧ Below w.heap.size w w' := by
  cases ga : inB n 0 1000000
  · have HM := Lib.hid (show false = spanB n d from by simp [spanB, ga])
    (go_enter Tryd.func13, Tryd.ntmps13)
    go_wp2_with fail
    refine (isWithin_is _ _ _ ga _).mono ?_
    (rintro e1 w1 ⟨rfl, rfl⟩)
    go_wp2
    go_ret
    exact ⟨ret_bool HM.out, by (repeat' (first | (with_reducible exact Below.refl _ _) | (with_reducible assumption) | (with_reducible refine Below.alloc ?_ ?_ _) | (with_reducible refine Below.drew ?_) | (with_reducible refine below_drewN ?_ _) | (with_reducible refine Below.setCell ?_ ?_ _) | (with_reducible refine below_call ?_ ?_ (by assumption)) | go_size))⟩
  · cases gb : inB d 1 10000
    · have HM := Lib.hid (show false = spanB n d from by simp [spanB, ga, gb])
      (go_enter Tryd.func13, Tryd.ntmps13)
      go_wp2_with fail
      refine (isWithin_is _ _ _ ga _).mono ?_
      (rintro e1 w1 ⟨rfl, rfl⟩)
      go_wp2_with fail
      refine (isWithin_is _ _ _ gb _).mono ?_
      (rintro e1 w1 ⟨rfl, rfl⟩)
      go_wp2
      go_ret
      exact ⟨ret_bool HM.out, by (repeat' (first | (with_reducible exact Below.refl _ _) | (with_reducible assumption) | (with_reducible refine Below.alloc ?_ ?_ _) | (with_reducible refine Below.drew ?_) | (with_reducible refine below_drewN ?_ _) | (with_reducible refine Below.setCell ?_ ?_ _) | (with_reducible refine below_call ?_ ?_ (by assumption)) | go_size))⟩
    · obtain ⟨a1, a2⟩ := inB_bd ga
      obtain ⟨b1, b2⟩ := inB_bd gb
      have HM := Lib.hid (show (gc n d == 1) = spanB n d from by simp [spanB, ga, gb])
      (go_enter Tryd.func13, Tryd.ntmps13)
      go_wp2_with fail
      refine (isWithin_is _ _ _ ga _).mono ?_
      (rintro e1 w1 ⟨rfl, rfl⟩)
      go_wp2_with fail
      refine (isWithin_is _ _ _ gb _).mono ?_
      (rintro e1 w1 ⟨rfl, rfl⟩)
      go_wp2_with fail
      refine (commonDivisor_any n d (by omega) (by omega) _).mono ?_
      (rintro e1 w1 ⟨rfl, hb1⟩; obtain ⟨hc1, hf1⟩ := bcell hb1; have hz1 := hb1.size; (try simp only [World.size_alloc, World.size_setCell, World.size_drew] at hz1); have q1 : w.heap.size ≤ w1.heap.size := (by omega); (try have q1_0 : w.heap.size < w1.heap.size := (by omega)); (try have q1_1 : w.heap.size + 1 < w1.heap.size := (by omega)); (try have q1_2 : w.heap.size + 2 < w1.heap.size := (by omega)); (try have q1_3 : w.heap.size + 3 < w1.heap.size := (by omega)))
      go_wp2
      go_ret
      exact ⟨ret_bool HM.out, by (repeat' (first | (with_reducible exact Below.refl _ _) | (with_reducible assumption) | (with_reducible refine Below.alloc ?_ ?_ _) | (with_reducible refine Below.drew ?_) | (with_reducible refine below_drewN ?_ _) | (with_reducible refine Below.setCell ?_ ?_ _) | (with_reducible refine below_call ?_ ?_ (by assumption)) | go_size))⟩

theorem isSpan_is {b0 : Bool} (n d : Int) (h : spanB n d = b0) (w : World) :
    Calls Tryd.prog 13 #[tv n d] w fun e w' => e = .returned (.bool b0) ∧ Below w.heap.size w w' := by
  subst h; exact isSpan_any n d w

set_option maxHeartbeats 400000 in
theorem drGood_any (n d : Int) (w : World) :
    Calls Tryd.prog 11 #[tv n d] w fun e w' => e = .returned (.bool (spanB n d)) ∧ Below w.heap.size w w' := by
  cases ga : inB n 0 1000000
  · have HM := Lib.hid (show false = spanB n d from by simp [spanB, ga])
    (go_enter Tryd.func11, Tryd.ntmps11)
    go_wp2_with fail
    refine (l1In_is _ _ _ ga _).mono ?_
    (rintro e1 w1 ⟨rfl, rfl⟩)
    go_wp2
    go_ret
    exact ⟨ret_bool HM.out, by (repeat' (first | (with_reducible exact Below.refl _ _) | (with_reducible assumption) | (with_reducible refine Below.alloc ?_ ?_ _) | (with_reducible refine Below.drew ?_) | (with_reducible refine below_drewN ?_ _) | (with_reducible refine Below.setCell ?_ ?_ _) | (with_reducible refine below_call ?_ ?_ (by assumption)) | go_size))⟩
  · cases gb : inB d 1 10000
    · have HM := Lib.hid (show false = spanB n d from by simp [spanB, ga, gb])
      (go_enter Tryd.func11, Tryd.ntmps11)
      go_wp2_with fail
      refine (l1In_is _ _ _ ga _).mono ?_
      (rintro e1 w1 ⟨rfl, rfl⟩)
      go_wp2_with fail
      refine (l1In_is _ _ _ gb _).mono ?_
      (rintro e1 w1 ⟨rfl, rfl⟩)
      go_wp2
      go_ret
      exact ⟨ret_bool HM.out, by (repeat' (first | (with_reducible exact Below.refl _ _) | (with_reducible assumption) | (with_reducible refine Below.alloc ?_ ?_ _) | (with_reducible refine Below.drew ?_) | (with_reducible refine below_drewN ?_ _) | (with_reducible refine Below.setCell ?_ ?_ _) | (with_reducible refine below_call ?_ ?_ (by assumption)) | go_size))⟩
    · obtain ⟨a1, a2⟩ := inB_bd ga
      obtain ⟨b1, b2⟩ := inB_bd gb
      have HM := Lib.hid (show (gc n d == 1) = spanB n d from by simp [spanB, ga, gb])
      (go_enter Tryd.func11, Tryd.ntmps11)
      go_wp2_with fail
      refine (l1In_is _ _ _ ga _).mono ?_
      (rintro e1 w1 ⟨rfl, rfl⟩)
      go_wp2_with fail
      refine (l1In_is _ _ _ gb _).mono ?_
      (rintro e1 w1 ⟨rfl, rfl⟩)
      go_wp2_with fail
      refine (diCommon_any n d (by omega) (by omega) _).mono ?_
      (rintro e1 w1 ⟨rfl, hb1⟩; obtain ⟨hc1, hf1⟩ := bcell hb1; have hz1 := hb1.size; (try simp only [World.size_alloc, World.size_setCell, World.size_drew] at hz1); have q1 : w.heap.size ≤ w1.heap.size := (by omega); (try have q1_0 : w.heap.size < w1.heap.size := (by omega)); (try have q1_1 : w.heap.size + 1 < w1.heap.size := (by omega)); (try have q1_2 : w.heap.size + 2 < w1.heap.size := (by omega)); (try have q1_3 : w.heap.size + 3 < w1.heap.size := (by omega)))
      go_wp2
      go_ret
      exact ⟨ret_bool HM.out, by (repeat' (first | (with_reducible exact Below.refl _ _) | (with_reducible assumption) | (with_reducible refine Below.alloc ?_ ?_ _) | (with_reducible refine Below.drew ?_) | (with_reducible refine below_drewN ?_ _) | (with_reducible refine Below.setCell ?_ ?_ _) | (with_reducible refine below_call ?_ ?_ (by assumption)) | go_size))⟩

theorem drGood_is {b0 : Bool} (n d : Int) (h : spanB n d = b0) (w : World) :
    Calls Tryd.prog 11 #[tv n d] w fun e w' => e = .returned (.bool b0) ∧ Below w.heap.size w w' := by
  subst h; exact drGood_any n d w

def makeS (n d : Int) : Int × Int × Bool := if inB n 0 1000000000000 && inB d 1 1000000000000 then mkS n d else fail3
end Go.Proofs.YtnokjdcgokfdhaaDoor
