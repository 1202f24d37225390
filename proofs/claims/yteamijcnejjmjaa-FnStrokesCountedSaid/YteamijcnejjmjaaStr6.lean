/- From which half on the most strokes are struck: by the program and by the model. -/
import Derived.Test.YteamijcnejjmjaaStr5
set_option linter.unusedSimpArgs false
set_option linter.unusedVariables false
set_option maxRecDepth 100000
namespace Go.Proofs.Yteamijcnejjmjaa
open Go.ChangeShapes Go.WideShapes Go.ChangeAt Go.RowKit

/-- The best one among the first halves, and how many its strokes are. -/
def bestK (h : Int) (N : Nat) : Nat → Int × Int
  | 0 => (0, 0)
  | k + 1 => if ws h k N > (bestK h N k).2 then ((k : Int), ws h k N) else bestK h N k
def mostR (h c : Int) : Int × Int × Bool := if inB h 2 24 && inB c 1 (2 * h) then ((bestK h c.toNat (2 * h).toNat).1, (bestK h c.toNat (2 * h).toNat).2, true) else (0, 0, false)
theorem bestK_bd {h : Int} (hh : 2 ≤ h ∧ h ≤ 24) (N k : Nat) : 0 ≤ (bestK h N k).2 ∧ (bestK h N k).2 ≤ 24 * N := by
  induction k with
  | zero => simp only [bestK]; omega
  | succ k ih =>
    have := ws_bd (h := h) (x := (k : Int)) hh N
    simp only [bestK]
    split
    · show 0 ≤ ws h k N ∧ ws h k N ≤ 24 * N
      omega
    · exact ih
theorem hl_ws (h x : Int) (k : Nat) {N : Nat} (hk : k < N) : ws h x (k + 1) = ws h x k + (hl h x N).getD k 0 := by rw [hl_get h x hk]; rfl

end Go.Proofs.Yteamijcnejjmjaa
