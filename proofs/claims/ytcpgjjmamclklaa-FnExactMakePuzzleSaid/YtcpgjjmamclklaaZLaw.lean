/- What the laws over puzzles ask of rows: that two lie apart. -/
import Derived.Test.YtcpgjjmamclklaaPz8
set_option linter.unusedSimpArgs false
set_option linter.unusedVariables false
set_option maxRecDepth 100000
namespace Go.Proofs.Ytcpgjjmamclklaa
open Go.RowKit

theorem IRow.top {w : World} {b : Nat} {v : Value} {L : List Int} (h : IRow w b v L) : ∀ k, v.ownBlock = some k → k < w.heap.size := fun k hk => (World.ownsRow.lt h k hk).2
theorem TRow.top {w : World} {b : Nat} {v : Value} {L : List (Int × Int)} (h : TRow w b v L) : ∀ k, v.ownBlock = some k → k < w.heap.size := fun k hk => (World.ownsRow.lt h k hk).2
theorem apart_rows {v v' : Value} {A b' : Nat} (h : ∀ k, v.ownBlock = some k → k < A) (h' : ∀ k, v'.ownBlock = some k → b' ≤ k) (hb : A ≤ b') : v.ownBlock = none ∨ v.ownBlock ≠ v'.ownBlock := by
  cases hv : v.ownBlock with
  | none => exact .inl rfl
  | some k =>
    refine .inr fun e => ?_
    have h1 := h k hv
    have h2 := h' k e.symm
    omega
theorem apart_sym' {v v' : Value} (h : v.ownBlock = none ∨ v.ownBlock ≠ v'.ownBlock) : v'.ownBlock = none ∨ v'.ownBlock ≠ v.ownBlock := by
  cases hv : v'.ownBlock with
  | none => exact .inl rfl
  | some k =>
    rcases h with h | h
    · right; rw [h]; simp
    · right; intro e; exact h (by rw [hv, e])
end Go.Proofs.Ytcpgjjmamclklaa
