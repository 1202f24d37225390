/- A region whose order is open, cut off from what comes behind it. -/
import Derived.Test.YtcpgjjmamclklaaOrder
import Derived.Test.YtcpgjjmamclklaaZList
set_option linter.unusedSimpArgs false
set_option linter.unusedVariables false
set_option maxRecDepth 100000
set_option linter.unusedSimpArgs false
set_option linter.unusedVariables false
namespace Go.Proofs.Ytcpgjjmamclklaa
open Go.RowKit

theorem region_cut {P : Program} {id : Nat} {ops : Array Oper} {Q : Exit → Act → World → Prop} {S : World → Prop} {a : Act} {w : World} (R : Act → Act → World → Prop) (hm : P.follows .mixedOrders = true)
    (h : wpAnyH P .any ops (fun x a' w' => x = .normal ∧ R a a' w') S ops.size (Array.replicate ops.size false) a w.drew) (hk : ∀ a' w', R a a' w' → Q .normal a' w') : (Code.region id ops true).wp P Q a w :=
  Code.wp_mono (fun e a' w' h => by
    obtain ⟨rfl, hr⟩ := h
    exact hk a' w' hr) (wp_region_held hm h)
/-- A cell that is written changes its own block only. -/
theorem grown_setCell (W : World) (a : Addr) (u : Value) : W.grownBy (W.setCell a u) (some a.block) :=
  ⟨rfl, rfl, rfl, by simp, fun k hk hne => Below.heap_setCell W a u k (fun e => hne (by rw [e]))⟩
theorem CRow.set_other {w : World} {b : Nat} {v : Value} {ts : List (Int × Int × Int)} (h : CRow w b v ts) (a : Addr) (hne : ∀ k, v.ownBlock = some k → k ≠ a.block) (u : Value) : CRow (w.setCell a u) b v ts :=
  CRow.kept h (grown_setCell w a u) (by
    cases hv : v.ownBlock with
    | none => exact .inl rfl
    | some k => exact .inr (fun e => hne k hv (by injection e)))
end Go.Proofs.Ytcpgjjmamclklaa
