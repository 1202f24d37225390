/- Spans compared; a common span: by the program and by the model. -/
import Derived.Test.YthgghbehcammmaaDrift1
set_option linter.unusedSimpArgs false
set_option linter.unusedVariables false
set_option maxRecDepth 100000
namespace Go.Proofs.Ythgghbehcammmaa
open Go.RowKit

def cmpS (an ad bn bd : Int) : Int × Bool := if spanB an ad && spanB bn bd then (sg (an * bd - bn * ad), true) else fail2
set_option maxHeartbeats 400000 in
theorem spanOrder_any (an ad bn bd : Int) (ga : 1 ≤ ad ∧ ad ≤ 1000000 ∧ 0 ≤ an ∧ an ≤ 1000000) (gb : 1 ≤ bd ∧ bd ≤ 1000000 ∧ 0 ≤ bn ∧ bn ≤ 1000000) (w : World) :
    Calls Try.prog 63 #[tv an ad, tv bn bd] w fun e w' => e = .returned (.int .i64 (sg (an * bd - bn * ad))) ∧ Below w.heap.size w w' := by
  obtain ⟨a1, a2, a3, a4⟩ := ga
  obtain ⟨b1, b2, b3, b4⟩ := gb
  obtain ⟨p1, p2⟩ := mulb a3 a4 (show 0 ≤ bd by omega) b2
  obtain ⟨p3, p4⟩ := mulb b3 b4 (show 0 ≤ ad by omega) a2
  (go_enter Try.func63, Try.ntmps63)
  go_wp2_with fail
  refine (cmpCompare_any (an * bd) (bn * ad) _).mono ?_
  (rintro e1 w1 ⟨rfl, rfl⟩)
  go_wp2
  go_ret
  exact ⟨rfl, by (repeat' (first | (with_reducible exact Below.refl _ _) | (with_reducible assumption) | (with_reducible refine Below.alloc ?_ ?_ _) | (with_reducible refine Below.drew ?_) | (with_reducible refine below_drewN ?_ _) | (with_reducible refine Below.setCell ?_ ?_ _) | (with_reducible refine below_call ?_ ?_ (by assumption)) | go_size))⟩

def comS (an ad bn bd : Int) : Int × Int × Bool := if spanB an ad && spanB bn bd && !(an == 0) && !(bn == 0) then mkS (an / gc an bn * bn) (gc ad bd) else fail3
end Go.Proofs.Ythgghbehcammmaa
