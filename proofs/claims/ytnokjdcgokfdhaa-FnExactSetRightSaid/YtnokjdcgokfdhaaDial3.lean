/- Turns compared and mirrored, by the program and by the model. -/
import Derived.Test.YtnokjdcgokfdhaaDial2
set_option linter.unusedSimpArgs false
set_option linter.unusedVariables false
set_option maxRecDepth 100000
namespace Go.Proofs.Ytnokjdcgokfdhaa
open Go.RowKit

set_option maxHeartbeats 400000 in
theorem isNaN_any (a : Int) (w : World) :
    Calls Try.prog 89 #[.int .i64 a] w fun e w' => e = .returned (.bool false) ∧ w = w' := by
  (go_enter Try.func89, Try.ntmps89)
  go_wp2
  go_ret
  exact ⟨by simp, rfl⟩

set_option maxHeartbeats 400000 in
theorem cmpCompare_any (a b : Int) (w : World) :
    Calls Try.prog 85 #[.int .i64 a, .int .i64 b] w fun e w' => e = .returned (.int .i64 (sg (a - b))) ∧ w = w' := by
  rcases Int.lt_trichotomy (a - b) 0 with h | h | h
  · have HS := Lib.hid (show -1 = sg (a - b) from by unfold sg; rw [if_neg (by omega), if_pos h])
    have h1 : a < b := by omega
    clear h
    (go_enter Try.func85, Try.ntmps85)
    go_wp2_with (first | (go_at_call 89; refine (isNaN_any _ _).mono ?_; (rintro e1 w1 ⟨rfl, rfl⟩)))
    go_ret
    exact ⟨ret_int HS.out, rfl⟩
  · have HS := Lib.hid (show 0 = sg (a - b) from by unfold sg; rw [if_neg (by omega), if_neg (by omega)])
    obtain rfl : a = b := by omega
    clear h
    (go_enter Try.func85, Try.ntmps85)
    go_wp2_with (first | (go_at_call 89; refine (isNaN_any _ _).mono ?_; (rintro e1 w1 ⟨rfl, rfl⟩)))
    go_ret
    exact ⟨ret_int HS.out, rfl⟩
  · have HS := Lib.hid (show 1 = sg (a - b) from by unfold sg; rw [if_pos h])
    have h1 : b < a := by omega
    clear h
    (go_enter Try.func85, Try.ntmps85)
    go_wp2_with (first | (go_at_call 89; refine (isNaN_any _ _).mono ?_; (rintro e1 w1 ⟨rfl, rfl⟩)))
    go_ret
    exact ⟨ret_int HS.out, rfl⟩

set_option maxHeartbeats 400000 in
theorem l1Sign_any (n : Int) (w : World) :
    Calls Try.prog 62 #[.int .i64 n] w fun e w' => e = .returned (.int .i64 (sg n)) ∧ w = w' := by
  rcases Int.lt_trichotomy n 0 with h | h | h
  · have HS := Lib.hid (show -1 = sg n from by unfold sg; rw [if_neg (by omega), if_pos h])
    (go_enter Try.func62, Try.ntmps62)
    go_wp2
    go_ret
    exact ⟨ret_int HS.out, rfl⟩
  · have HS := Lib.hid (show 0 = sg n from by unfold sg; rw [if_neg (by omega), if_neg (by omega)])
    subst h
    (go_enter Try.func62, Try.ntmps62)
    go_wp2
    go_ret
    exact ⟨ret_int HS.out, rfl⟩
  · have HS := Lib.hid (show 1 = sg n from by unfold sg; rw [if_pos h])
    (go_enter Try.func62, Try.ntmps62)
    go_wp2
    go_ret
    exact ⟨ret_int HS.out, rfl⟩

def mirrorT (n d : Int) : Int × Int × Bool := if goodB n d then (lowNum (-n) d, lowDen (-n) d, true) else fail3
theorem mirrorT_eq (n d : Int) : mirrorT n d = timesT n d (-1) := by simp [mirrorT, timesT, inB]

end Go.Proofs.Ytnokjdcgokfdhaa
