/- All parts of a turn that are whole numbers of equal ones, and all times that are exchanged: by the program and by the model. -/
import Derived.Test.YticdmochedadbaaGreatSeen1
import Derived.ScopeJumps
import Derived.WalkMore
set_option linter.unusedSimpArgs false
set_option linter.unusedVariables false
set_option maxRecDepth 100000
namespace Go.Proofs.YticdmochedadbaaGreat
open Go.RowKit
attribute [local go_sem ↓] Go.wp_at_zero Go.wp_at_succ

/-- What a function leaves that hands back a list of turns. -/
def RowOut (w0 : World) (L : List (Int × Int)) (e : Ending) (w' : World) : Prop :=
  ∃ v, e = .returned v ∧ TRow w' w0.heap.size v L ∧ Below w0.heap.size w0 w'
/-- The k-th of the parts of a turn that are whole numbers of 1 / n. -/
def evT (n : Int) (k : Nat) : Int × Int := (lowNum k n, lowDen k n)
def evL (n : Int) : List (Int × Int) := (List.range n.toNat).map (evT n)
theorem evL_len (n : Int) (hn : n ≤ 1000000) : (evL n).length ≤ 1000000 := by simp [evL]; omega
def lenV : Value → Nat
  | .slice _ n _ => n
  | _ => 0
theorem own_shape {w : World} {b n : Nat} {e : TypeId} {v : Value} {xs : List Value} (h : w.ownsRow b e 2 v n xs) : ∃ a c, v = .slice a n c := by
  rcases h.2 with ⟨h1, h2⟩ | ⟨g, cap, cur, h1, _⟩
  · exact ⟨none, 0, by rw [h1, h2]⟩
  · exact ⟨_, _, h1⟩
end Go.Proofs.YticdmochedadbaaGreat
