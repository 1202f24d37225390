/- Turns compared and mirrored, by the program and by the model. -/
import Derived.Test.YtcpgjjmamclklaaDial2
set_option linter.unusedSimpArgs false
set_option linter.unusedVariables false
set_option maxRecDepth 100000
namespace Go.Proofs.Ytcpgjjmamclklaa
open Go.RowKit

set_option maxHeartbeats 400000 in
theorem isNaN_any (a : Int) (w : World) :
    Calls Try.prog 134 #[.int .i64 a] w fun e w' => e = .returned (.bool false) ∧ w = w' := by
  (go_enter Try.func134, Try.ntmps134)
  go_wp2
  go_ret
  exact ⟨by simp, rfl⟩

set_option maxHeartbeats 400000 in
theorem cmpCompare_any (a b : Int) (w : World) :
    Calls Try.prog 133 #[.int .i64 a, .int .i64 b] w fun e w' => e = .returned (.int .i64 (sg (a - b))) ∧ w = w' := by
  rcases Int.lt_trichotomy (a - b) 0 with h | h | h
  · have HS := Lib.hid (show -1 = sg (a - b) from by unfold sg; rw [if_neg (by omega), if_pos h])
    have h1 : a < b := by omega
    clear h
    (go_enter Try.func133, Try.ntmps133)
    go_wp2_with (first | (go_at_call 134; refine (isNaN_any _ _).mono ?_; (rintro e1 w1 ⟨rfl, rfl⟩)))
    go_ret
    exact ⟨ret_int HS.out, rfl⟩
  · have HS := Lib.hid (show 0 = sg (a - b) from by unfold sg; rw [if_neg (by omega), if_neg (by omega)])
    obtain rfl : a = b := by omega
    clear h
    (go_enter Try.func133, Try.ntmps133)
    go_wp2_with (first | (go_at_call 134; refine (isNaN_any _ _).mono ?_; (rintro e1 w1 ⟨rfl, rfl⟩)))
    go_ret
    exact ⟨ret_int HS.out, rfl⟩
  · have HS := Lib.hid (show 1 = sg (a - b) from by unfold sg; rw [if_pos h])
    have h1 : b < a := by omega
    clear h
    (go_enter Try.func133, Try.ntmps133)
    go_wp2_with (first | (go_at_call 134; refine (isNaN_any _ _).mono ?_; (rintro e1 w1 ⟨rfl, rfl⟩)))
    go_ret
    exact ⟨ret_int HS.out, rfl⟩

set_option maxHeartbeats 400000 in
theorem turnOrder_any (an ad bn bd : Int) (ga : 1 ≤ ad ∧ ad ≤ 1000000 ∧ 0 ≤ an ∧ an ≤ 999999) (gb : 1 ≤ bd ∧ bd ≤ 1000000 ∧ 0 ≤ bn ∧ bn ≤ 999999) (w : World) :
    Calls Try.prog 128 #[tv an ad, tv bn bd] w fun e w' => e = .returned (.int .i64 (sg (an * bd - bn * ad))) ∧ Below w.heap.size w w' := by
  obtain ⟨a1, a2, a3, a4⟩ := ga
  obtain ⟨b1, b2, b3, b4⟩ := gb
  obtain ⟨p1, p2⟩ := mulb a3 a4 (show 0 ≤ bd by omega) b2
  obtain ⟨p3, p4⟩ := mulb b3 b4 (show 0 ≤ ad by omega) a2
  obtain ⟨p5, p6⟩ := mulb (show 0 ≤ ad by omega) a2 (show 0 ≤ bd by omega) b2
  have p7 : 1 ≤ ad * bd := Int.mul_pos (by omega) (by omega)
  (go_enter Try.func128, Try.ntmps128)
  go_wp2_with fail
  refine (cmpCompare_any (an * bd) (bn * ad) _).mono ?_
  (rintro e1 w1 ⟨rfl, rfl⟩)
  go_wp2
  go_ret
  exact ⟨rfl, by (repeat' (first | (with_reducible exact Below.refl _ _) | (with_reducible assumption) | (with_reducible refine Below.alloc ?_ ?_ _) | (with_reducible refine Below.drew ?_) | (with_reducible refine below_drewN ?_ _) | (with_reducible refine Below.setCell ?_ ?_ _) | (with_reducible refine below_call ?_ ?_ (by assumption)) | go_size))⟩

def mirrorT (n d : Int) : Int × Int × Bool := if goodB n d then (lowNum (-n) d, lowDen (-n) d, true) else fail3
theorem mirrorT_eq (n d : Int) : mirrorT n d = timesT n d (-1) := by simp [mirrorT, timesT, inB]

end Go.Proofs.Ytcpgjjmamclklaa
