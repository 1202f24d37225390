/- The cursor over drawn bytes: lists written out, and hours. -/
import Derived.Test.YtibadkdmbbanlaaSCur1
set_option linter.unusedSimpArgs false
set_option linter.unusedVariables false
set_option maxRecDepth 100000
namespace Go.Proofs.Ytibadkdmbbanlaa
open Go.RowKit

theorem iin_new (w : World) (M : List Int) (t : TypeId) : IIn (w.alloc (.cells (ints M).toArray t)) (some ⟨w.heap.size, 0, none⟩) M := by
  intro k hk
  refine ⟨w.heap.size, 0, rfl, by simp, ?_⟩
  have h := heap_alloc_new w (.cells (ints M).toArray t)
  simp only [World.cell?, h]
  simp [ints, hk]
theorem Cur.start (w : World) (a : Option Addr) (n cp : Nat) : Cur w (w.alloc (.cells #[.slice a n cp, .int .i64 0, .int .u64 0] 72)) w.heap.size a n cp 0 := by
  refine ⟨0, 0, Nat.le_refl _, by decide, ?_, ?_, ?_, ⟨?_, ?_, ?_⟩, Below.alloc (Below.refl _ _) (Nat.le_refl _) _, by simp⟩ <;> go_simp
theorem grown_below {w w' : World} {b B : Nat} (hg : w.grownBy w' (some b)) (hB : B ≤ b) (hBw : B ≤ w.heap.size) : Below B w w' :=
  Below.grown (Below.refl _ _) hg hBw (fun j hj => by cases hj; exact hB)
set_option maxHeartbeats 800000 in
theorem hours_any (L : List Int) (a : Option Addr) (n cp : Nat) (w0 : World) (b T : Nat)  (hO : CurOK L a n w0 b) (hT : T ≤ 800000) (w : World) (hC : Cur w0 w b a n cp T) :
    Calls Try.prog 84 #[.pointer (some ⟨b, 0, none⟩)] w fun e w' => ∃ r, e = .returned (.int .i64 r) ∧ (0 ≤ r ∧ r ≤ 25) ∧ Cur w0 w' b a n cp (T + 2) ∧ w.grownBy w' (some b) := by
  have HC := Lib.hid hC
  clear hC
  (go_enter Try.func84, Try.ntmps84)
  have hI1 := Lib.hid (iin_new w [(12 : Int), (24 : Int), (10 : Int), (12 : Int), (24 : Int), (6 : Int), (2 : Int), (3 : Int), (5 : Int), (12 : Int), (1 : Int), (25 : Int), (0 : Int)] 3)
  have hlt1 := Cur.lt HC.out
  go_wp2_with fail
  refine (among_any L a n cp w0 b (T) [(12 : Int), (24 : Int), (10 : Int), (12 : Int), (24 : Int), (6 : Int), (2 : Int), (3 : Int), (5 : Int), (12 : Int), (1 : Int), (25 : Int), (0 : Int)] 13 rfl (by omega) w.heap.size 0 13 hO (by omega) _ (Cur.alloc HC.out _) hI1.out (by omega)).mono ?_
  rintro e1 w1 ⟨r1, rfl, hm1, hC1, hg1⟩
  have HC1 := Lib.hid hC1
  have HG1 := Lib.hid (grown_trans (World.grownBy_alloc w _ (some b)) hg1)
  clear hC1 hg1
  have HR : Hid (0 ≤ r1 ∧ r1 ≤ 25) := Lib.hid (by simp only [List.mem_cons, List.not_mem_nil, or_false] at hm1; omega)
  clear hm1
  go_wp2
  go_ret
  exact ⟨r1, rfl, HR.out, HC1.out, HG1.out⟩

end Go.Proofs.Ytibadkdmbbanlaa
