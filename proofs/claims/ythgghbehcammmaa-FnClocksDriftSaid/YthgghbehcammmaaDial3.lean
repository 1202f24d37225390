/- Turns compared and mirrored, by the program and by the model. -/
import Derived.Test.YthgghbehcammmaaDial2
set_option linter.unusedSimpArgs false
set_option linter.unusedVariables false
set_option maxRecDepth 100000
namespace Go.Proofs.Ythgghbehcammmaa
open Go.RowKit

set_option maxHeartbeats 400000 in
theorem isNaN_any (a : Int) (w : World) :
    Calls Try.prog 69 #[.int .i64 a] w fun e w' => e = .returned (.bool false) ∧ w = w' := by
  (go_enter Try.func69, Try.ntmps69)
  go_wp2
  go_ret
  exact ⟨by simp, rfl⟩

set_option maxHeartbeats 400000 in
theorem cmpCompare_any (a b : Int) (w : World) :
    Calls Try.prog 68 #[.int .i64 a, .int .i64 b] w fun e w' => e = .returned (.int .i64 (sg (a - b))) ∧ w = w' := by
  rcases Int.lt_trichotomy (a - b) 0 with h | h | h
  · have HS := Lib.hid (show -1 = sg (a - b) from by unfold sg; rw [if_neg (by omega), if_pos h])
    have h1 : a < b := by omega
    clear h
    (go_enter Try.func68, Try.ntmps68)
    go_wp2_with (first | (go_at_call 69; refine (isNaN_any _ _).mono ?_; (rintro e1 w1 ⟨rfl, rfl⟩)))
    go_ret
    exact ⟨ret_int HS.out, rfl⟩
  · have HS := Lib.hid (show 0 = sg (a - b) from by unfold sg; rw [if_neg (by omega), if_neg (by omega)])
    obtain rfl : a = b := by omega
    clear h
    (go_enter Try.func68, Try.ntmps68)
    go_wp2_with (first | (go_at_call 69; refine (isNaN_any _ _).mono ?_; (rintro e1 w1 ⟨rfl, rfl⟩)))
    go_ret
    exact ⟨ret_int HS.out, rfl⟩
  · have HS := Lib.hid (show 1 = sg (a - b) from by unfold sg; rw [if_pos h])
    have h1 : b < a := by omega
    clear h
    (go_enter Try.func68, Try.ntmps68)
    go_wp2_with (first | (go_at_call 69; refine (isNaN_any _ _).mono ?_; (rintro e1 w1 ⟨rfl, rfl⟩)))
    go_ret
    exact ⟨ret_int HS.out, rfl⟩

def mirrorT (n d : Int) : Int × Int × Bool := if goodB n d then (lowNum (-n) d, lowDen (-n) d, true) else fail3
theorem mirrorT_eq (n d : Int) : mirrorT n d = timesT n d (-1) := by simp [mirrorT, timesT, inB]

end Go.Proofs.Ythgghbehcammmaa
