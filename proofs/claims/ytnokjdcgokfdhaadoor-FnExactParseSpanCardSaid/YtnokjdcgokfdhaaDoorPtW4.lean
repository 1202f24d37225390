/- The part of a second read by the program. -/
import Derived.Test.YtnokjdcgokfdhaaDoorPtW3
set_option linter.unusedSimpArgs false
set_option linter.unusedVariables false
set_option maxRecDepth 100000
namespace Go.Proofs.YtnokjdcgokfdhaaDoor
open Go.RowKit

/-- What strings.Cut reads of the world. -/
def CutW (w : World) : Prop := ∃ m, w.cell? ⟨0, 0, none⟩ = some (.int .i64 m)
theorem CutW.below {w w' : World} (h : CutW w) (hb : Below w.heap.size w w') : CutW w' := by
  obtain ⟨m, h1⟩ := h
  exact ⟨m, (hb.cell (show (⟨0, 0, none⟩ : Addr).block < w.heap.size from Lib.lt_of_cell h1)).trans h1⟩
theorem cut_any (l : List UInt8) (x : UInt8) (hl : l.length ≤ 1048576) (w : World) (hE : CutW w) :
    Calls Tryd.prog 17 #[str l, .string ⟨#[x]⟩] w fun e w' => e = .returned (.tuple #[str (Lib.cut l [x]).1, str (Lib.cut l [x]).2.1, .bool (Lib.cut l [x]).2.2]) ∧ Below w.heap.size w w' := by
  obtain ⟨m, hm⟩ := hE
  refine (Tryd.strings_Cut ⟨l.toArray⟩ ⟨#[x]⟩ m w (by show l.toArray.size < _; simp; omega) hm).mono fun e w' ⟨he, n, hw⟩ => ⟨?_, ?_⟩
  · rw [he]
  · rw [hw]; exact below_drewN (Below.refl _ _) n
theorem cut_len (l : List UInt8) (x : UInt8) : (Lib.cut l [x]).1.length ≤ l.length ∧ (Lib.cut l [x]).2.1.length ≤ l.length := by
  unfold Lib.cut
  split
  · simp; omega
  · simp
theorem atoiV_bd {l : List UInt8} {v : Int} (h : atoiV l = some v) : -9223372036854775808 ≤ v ∧ v ≤ 9223372036854775807 := by
  unfold atoiV at h
  split at h
  · rename_i v' e; injection h with h; subst h; exact Lib.atoiAll_bounds e
  · cases h
theorem partL_eq {s : List UInt8} (h : ¬ s = []) : partL s = match atoiV (Lib.cut s [47]).1, atoiV (Lib.cut s [47]).2.1 with
    | some p, some q => if goodB p q then (p, q, true) else fail3
    | _, _ => fail3 := by
  unfold partL atoiV
  rw [if_neg h]
  cases Lib.atoiAll (Lib.cut s [47]).1 <;> cases Lib.atoiAll (Lib.cut s [47]).2.1 <;> rfl

end Go.Proofs.YtnokjdcgokfdhaaDoor
