/- The cursor over drawn bytes: lists written out, and hours. -/
import Derived.Test.YtcfiaacpofpioaaSCur1
set_option linter.unusedSimpArgs false
set_option linter.unusedVariables false
set_option maxRecDepth 100000
namespace Go.Proofs.Ytcfiaacpofpioaa
open Go.RowKit

theorem iin_new (w : World) (M : List Int) (t : TypeId) : IIn (w.alloc (.cells (ints M).toArray t)) (some ⟨w.heap.size, 0, none⟩) M := by
  intro k hk
  refine ⟨w.heap.size, 0, rfl, by simp, ?_⟩
  have h := heap_alloc_new w (.cells (ints M).toArray t)
  simp only [World.cell?, h]
  simp [ints, hk]
theorem Cur.start (w : World) (a : Option Addr) (n cp : Nat) : Cur w (w.alloc (.cells #[.slice a n cp, .int .i64 0, .int .u64 0] 70)) w.heap.size a n cp 0 := by
  refine ⟨0, 0, Nat.le_refl _, by decide, ?_, ?_, ?_, ⟨?_, ?_, ?_⟩, Below.alloc (Below.refl _ _) (Nat.le_refl _) _, by simp⟩ <;> go_simp
theorem grown_below {w w' : World} {b B : Nat} (hg : w.grownBy w' (some b)) (hB : B ≤ b) (hBw : B ≤ w.heap.size) : Below B w w' :=
  Below.grown (Below.refl _ _) hg hBw (fun j hj => by cases hj; exact hB)
end Go.Proofs.Ytcfiaacpofpioaa
