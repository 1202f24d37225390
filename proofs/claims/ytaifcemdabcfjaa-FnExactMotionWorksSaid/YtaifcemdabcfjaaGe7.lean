/- What the laws ask of lists of pairs. -/
import Derived.Test.YtaifcemdabcfjaaGe6
set_option linter.unusedSimpArgs false
set_option linter.unusedVariables false
set_option maxRecDepth 100000
namespace Go.Proofs.Ytaifcemdabcfjaa
open Go.RowKit

theorem RowPair.inn {w : World} {b : Nat} {v : Value} {L : List (Int × Int)} (h : RowPair w b v L) : ∃ (a : Option Addr) (c : Nat), v = .slice a L.length c ∧ PIn w a L ∧ L.length ≤ c ∧ c ≤ maxLen := by
  obtain ⟨a, c, hv, h1, h2, hx⟩ := h.cells
  refine ⟨a, c, hv, fun k hk => ?_, h1, h2⟩
  obtain ⟨g, e1, -, e2, e3, e4⟩ := hx k hk
  exact ⟨g, 0, e1, e2, by simpa using e3, by simpa using e4⟩
end Go.Proofs.Ytaifcemdabcfjaa
