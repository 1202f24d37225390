/- As fillOK2, fillOK3, at four cells. -/
import Derived.Test.YticdmochedadbaaGreatLate
set_option linter.unusedSimpArgs false
set_option linter.unusedVariables false
set_option maxRecDepth 100000
namespace Go.Proofs.YticdmochedadbaaGreat
open Go.RowKit
section
variable {P : Program} {ops : Array Oper} {md : Region.Mode} {S : World → Prop}
theorem fillOK4 {os : Oper} {z0 z1 z2 z3 x y z u : Value} {T : TypeId} {a : Act} {p : Value}
    (h : ∀ (b : Nat) (w : World), p = .pointer (some ⟨b, 0, none⟩) → (∀ i, w.cell? ⟨b, i, none⟩ = #[z0, z1, z2, z3][i]?) → (∀ i, w.frozen? ⟨b, i, none⟩ = false) →
      (execOp a.eval os).run P w = .ok .skip ((((w.setCell ⟨b, 0, none⟩ x).setCell ⟨b, 1, none⟩ y).setCell ⟨b, 2, none⟩ z).setCell ⟨b, 3, none⟩ u)) : FillOK P os #[z0, z1, z2, z3] #[x, y, z, u] T a p :=
  fillOK_of fun b w hp hw => ⟨_, h b w hp (cells_of_block hw).1 (cells_of_block hw).2, by simpa using ((((FillEnd.start hw).set (i := 0) x).set (i := 1) y).set (i := 2) z).set (i := 3) u⟩
end
end Go.Proofs.YticdmochedadbaaGreat
