/- Hours, minutes, small angles, times told by hours, minutes and seconds: by the program and by the model. -/
import Derived.Test.YtebjlaajddpbhaaDoorDial4
set_option linter.unusedSimpArgs false
set_option linter.unusedVariables false
set_option maxRecDepth 100000
namespace Go.Proofs.YtebjlaajddpbhaaDoor
open Go.RowKit

set_option maxHeartbeats 400000 in
theorem gone_any (n d h k : Int) (h1 : (2 ≤ h ∧ h ≤ 24) ∧ 1 ≤ d ∧ d ≤ 1000000 ∧ 0 ≤ n ∧ n ≤ 999999) (k1 : 0 ≤ k) (k2 : k ≤ 3600) (w : World) :
    Calls Tryd.prog 43 #[dv n d h, .int .i64 k] w fun e w' => e = .returned (.int .i64 (n * (h * k) / d)) ∧ Below w.heap.size w w' := by
  obtain ⟨⟨c1, c2⟩, a1, a2, a3, a4⟩ := h1
  obtain ⟨p1, p2⟩ := mulb (show 0 ≤ h by omega) c2 k1 k2
  obtain ⟨p3, p4⟩ := mulb p1 p2 a3 a4
  have E := Lib.hid (show h * k * n / d = n * (h * k) / d from by rw [Int.mul_comm n])
  (go_enter Tryd.func43, Tryd.ntmps43)
  go_wp2
  go_ret
  exact ⟨ret_int E.out, by (repeat' (first | (with_reducible exact Below.refl _ _) | (with_reducible assumption) | (with_reducible refine Below.alloc ?_ ?_ _) | (with_reducible refine Below.drew ?_) | (with_reducible refine below_drewN ?_ _) | (with_reducible refine Below.setCell ?_ ?_ _) | (with_reducible refine below_call ?_ ?_ (by assumption)) | go_size))⟩

set_option maxHeartbeats 400000 in
theorem hour_any (n d h : Int) (h1 : (2 ≤ h ∧ h ≤ 24) ∧ 1 ≤ d ∧ d ≤ 1000000 ∧ 0 ≤ n ∧ n ≤ 999999) (w : World) :
    Calls Tryd.prog 29 #[dv n d h] w fun e w' => e = .returned (.int .i64 (n * h / d)) ∧ Below w.heap.size w w' := by
  (go_enter Tryd.func29, Tryd.ntmps29)
  go_wp2_with fail
  refine (gone_any n d h 1 h1 (by omega) (by omega) _).mono ?_
  (rintro e1 w1 ⟨rfl, hb1⟩; obtain ⟨hc1, hf1⟩ := bcell hb1; have hz1 := hb1.size; (try simp only [World.size_alloc, World.size_setCell, World.size_drew] at hz1); have q1 : w.heap.size ≤ w1.heap.size := (by omega); (try have q1_0 : w.heap.size < w1.heap.size := (by omega)); (try have q1_1 : w.heap.size + 1 < w1.heap.size := (by omega)); (try have q1_2 : w.heap.size + 2 < w1.heap.size := (by omega)); (try have q1_3 : w.heap.size + 3 < w1.heap.size := (by omega)))
  go_wp2
  go_ret
  exact ⟨rfl, by (repeat' (first | (with_reducible exact Below.refl _ _) | (with_reducible assumption) | (with_reducible refine Below.alloc ?_ ?_ _) | (with_reducible refine Below.drew ?_) | (with_reducible refine below_drewN ?_ _) | (with_reducible refine Below.setCell ?_ ?_ _) | (with_reducible refine below_call ?_ ?_ (by assumption)) | go_size))⟩

set_option maxHeartbeats 400000 in
theorem minute_any (n d h : Int) (h1 : (2 ≤ h ∧ h ≤ 24) ∧ 1 ≤ d ∧ d ≤ 1000000 ∧ 0 ≤ n ∧ n ≤ 999999) (w : World) :
    Calls Tryd.prog 30 #[dv n d h] w fun e w' => e = .returned (.int .i64 (n * (h * 60) / d % 60)) ∧ Below w.heap.size w w' := by
  have hh := h1
  obtain ⟨⟨c1, c2⟩, a1, a2, a3, a4⟩ := hh
  have p0 : 0 ≤ n * (h * 60) / d := Int.ediv_nonneg (Int.mul_nonneg a3 (by omega)) (by omega)
  (go_enter Tryd.func30, Tryd.ntmps30)
  go_wp2_with fail
  refine (gone_any n d h 60 h1 (by omega) (by omega) _).mono ?_
  (rintro e1 w1 ⟨rfl, hb1⟩; obtain ⟨hc1, hf1⟩ := bcell hb1; have hz1 := hb1.size; (try simp only [World.size_alloc, World.size_setCell, World.size_drew] at hz1); have q1 : w.heap.size ≤ w1.heap.size := (by omega); (try have q1_0 : w.heap.size < w1.heap.size := (by omega)); (try have q1_1 : w.heap.size + 1 < w1.heap.size := (by omega)); (try have q1_2 : w.heap.size + 2 < w1.heap.size := (by omega)); (try have q1_3 : w.heap.size + 3 < w1.heap.size := (by omega)))
  go_wp2
  go_ret
  exact ⟨rfl, by (repeat' (first | (with_reducible exact Below.refl _ _) | (with_reducible assumption) | (with_reducible refine Below.alloc ?_ ?_ _) | (with_reducible refine Below.drew ?_) | (with_reducible refine below_drewN ?_ _) | (with_reducible refine Below.setCell ?_ ?_ _) | (with_reducible refine below_call ?_ ?_ (by assumption)) | go_size))⟩

def hourT (h n d : Int) : Int × Bool := if askB h n d then (n * h / d, true) else fail2
def minuteT (h n d : Int) : Int × Bool := if askB h n d then (n * (h * 60) / d % 60, true) else fail2

def timeOk (h a b c : Int) : Bool := inB h 2 24 && inB a 0 (h - 1) && inB b 0 59 && inB c 0 59
def timeT (h a b c : Int) : Int × Int × Bool := if timeOk h a b c then (lowNum (a * 3600 + b * 60 + c) (h * 3600), lowDen (a * 3600 + b * 60 + c) (h * 3600), true) else fail3

end Go.Proofs.YtebjlaajddpbhaaDoor
