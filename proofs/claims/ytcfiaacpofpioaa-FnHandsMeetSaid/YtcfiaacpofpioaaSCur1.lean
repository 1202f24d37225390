/- The cursor over drawn bytes: what is chosen by it. -/
import Derived.Test.YtcfiaacpofpioaaSCur0
import Derived.Test.YtcfiaacpofpioaaSIRow
set_option linter.unusedSimpArgs false
set_option linter.unusedVariables false
set_option maxRecDepth 100000
namespace Go.Proofs.Ytcfiaacpofpioaa
open Go.RowKit

/-- What the cursor is over, and that it lies above the world that was. -/
structure CurOK (L : List Int) (a : Option Addr) (n : Nat) (w0 : World) (b : Nat) : Prop where
  hn : L.length = n
  hb : w0.heap.size ≤ b
  hm : n ≤ 1048576
  hB : BIn w0 a L
theorem Cur.alloc {w0 w : World} {b : Nat} {a : Option Addr} {n cp T : Nat} (h : Cur w0 w b a n cp T) (o : Obj) : Cur w0 (w.alloc o) b a n cp T :=
  h.below (Below.alloc (Below.refl _ _) (Nat.le_refl _) _)
theorem Cur.lt {w0 w : World} {b : Nat} {a : Option Addr} {n cp T : Nat} (h : Cur w0 w b a n cp T) : b < w.heap.size := by obtain ⟨_, _, _, _, _, _, _, _, _, h⟩ := h; exact h
theorem Cur.same {w0 w : World} {b : Nat} {a : Option Addr} {n cp T : Nat} (h : Cur w0 w b a n cp T) : Below b w0 w := by obtain ⟨_, _, _, _, _, _, _, _, h, _⟩ := h; exact h
/-- A list in memory that lies elsewhere stays. -/
theorem IIn.grown {w w' : World} {a : Option Addr} {L : List Int} {b : Nat} (h : IIn w a L) (hg : w.grownBy w' (some b)) (hne : ∀ g o, a = some ⟨g, o, none⟩ → g ≠ b) : IIn w' a L := by
  have := hg.size
  intro k hk
  obtain ⟨g, off, h1, h2, h3⟩ := h k hk
  exact ⟨g, off, h1, by omega, (World.grownBy.cell_far hg ⟨g, off + k, none⟩ h2 (by simpa using hne g off h1)).trans h3⟩

set_option maxHeartbeats 1600000 in
theorem pick_any (L : List Int) (a : Option Addr) (n cp : Nat) (w0 : World) (b T : Nat) (m : Int) (hm : m ≤ 9223372036854775807) (hO : CurOK L a n w0 b) (hT : T ≤ 900000) (w : World) (hC : Cur w0 w b a n cp T) :
    Calls Try.prog 61 #[.pointer (some ⟨b, 0, none⟩), .int .i64 m] w fun e w' => ∃ j : Nat, e = .returned (.int .i64 j) ∧ (j = 0 ∨ (j : Int) < m) ∧ Cur w0 w' b a n cp (T + 2) ∧ w.grownBy w' (some b) := by
  have HC := Lib.hid hC
  clear hC
  by_cases h1 : m ≤ 1
  · (go_enter Try.func61, Try.ntmps61)
    go_wp2
    go_ret
    exact ⟨0, rfl, .inl rfl, HC.out.mono (by omega), below_grown (Below.refl _ _) _⟩
  · by_cases h2 : 200 < m
    · (go_enter Try.func61, Try.ntmps61)
      go_wp2_with fail
      refine (next_any L a n cp w0 b T hO.hn hO.hb (by omega) hO.hm _ hO.hB HC.out).mono ?_
      rintro e1 w1 ⟨r, rfl, ⟨r0, r1⟩, hC1, hg1⟩
      have HC1 := Lib.hid hC1
      have HG1 := Lib.hid hg1
      clear hC1 hg1
      go_wp2_with fail
      refine (next_any L a n cp w0 b (T + 1) hO.hn hO.hb (by omega) hO.hm _ hO.hB HC1.out).mono ?_
      rintro e2 w2 ⟨s, rfl, ⟨s0, s1⟩, hC2, hg2⟩
      have HC2 := Lib.hid hC2
      have HG2 := Lib.hid hg2
      clear hC2 hg2
      have hr := t64 (n := r * 256 + s) (g := m) (by omega) (by omega) hm
      have hz : ¬ (m = 0) := by omega
      have hr0 := Int.emod_nonneg (r * 256 + s) hz
      have hr1 := Int.emod_lt_of_pos (r * 256 + s) (show 0 < m by omega)
      obtain ⟨j, hj⟩ : ∃ j : Nat, (r * 256 + s) % m = j := ⟨((r * 256 + s) % m).toNat, by omega⟩
      have HJ := Lib.hid hj
      clear hj
      go_wp2
      go_ret
      refine ⟨j, ret_int HJ.out, .inr ?_, HC2.out, grown_trans HG1.out HG2.out⟩
      rw [← HJ.out]; exact hr1
    · (go_enter Try.func61, Try.ntmps61)
      go_wp2_with fail
      refine (next_any L a n cp w0 b T hO.hn hO.hb (by omega) hO.hm _ hO.hB HC.out).mono ?_
      rintro e1 w1 ⟨r, rfl, ⟨r0, r1⟩, hC1, hg1⟩
      have HC1 := Lib.hid hC1
      have HG1 := Lib.hid hg1
      clear hC1 hg1
      have hr := t64 (n := r) (g := m) (by omega) (by omega) hm
      have hz : ¬ (m = 0) := by omega
      have hr0 := Int.emod_nonneg r hz
      have hr1 := Int.emod_lt_of_pos r (show 0 < m by omega)
      obtain ⟨j, hj⟩ : ∃ j : Nat, r % m = j := ⟨(r % m).toNat, by omega⟩
      have HJ := Lib.hid hj
      clear hj
      go_wp2
      go_ret
      refine ⟨j, ret_int HJ.out, .inr ?_, HC1.out.mono (by omega), HG1.out⟩
      rw [← HJ.out]; exact hr1

set_option maxHeartbeats 800000 in
theorem one_any (L : List Int) (a : Option Addr) (n cp : Nat) (w0 : World) (b T : Nat) (m : Int) (hm : m ≤ 9223372036854775807) (hO : CurOK L a n w0 b) (hT : T ≤ 900000) (w : World) (hC : Cur w0 w b a n cp T) :
    Calls Try.prog 60 #[.pointer (some ⟨b, 0, none⟩), .int .i64 m] w fun e w' => ∃ r : Bool, e = .returned (.bool r) ∧ Cur w0 w' b a n cp (T + 2) ∧ w.grownBy w' (some b) := by
  have HC := Lib.hid hC
  clear hC
  (go_enter Try.func60, Try.ntmps60)
  go_wp2_with fail
  refine (pick_any L a n cp w0 b T m hm hO hT _ HC.out).mono ?_
  rintro e1 w1 ⟨j, rfl, -, hC1, hg1⟩
  have HC1 := Lib.hid hC1
  have HG1 := Lib.hid hg1
  clear hC1 hg1
  go_wp2
  go_ret
  exact ⟨_, rfl, HC1.out, HG1.out⟩

set_option maxHeartbeats 800000 in
theorem among_any (L : List Int) (a : Option Addr) (n cp : Nat) (w0 : World) (b T : Nat) (M : List Int) (m : Nat) (hMm : M.length = m) (h1 : 1 ≤ m ∧ m ≤ 1000000) (g o c : Nat) (hO : CurOK L a n w0 b) (hT : T ≤ 900000) (w : World) (hC : Cur w0 w b a n cp T) (hI : IIn w (some ⟨g, o, none⟩) M) (hg : g ≠ b) :
    Calls Try.prog 83 #[.pointer (some ⟨b, 0, none⟩), .slice (some ⟨g, o, none⟩) m c] w fun e w' => ∃ r, e = .returned (.int .i64 r) ∧ r ∈ M ∧ Cur w0 w' b a n cp (T + 2) ∧ w.grownBy w' (some b) := by
  have HC := Lib.hid hC
  have HI := Lib.hid hI
  have HM := Lib.hid hMm
  clear hC hI hMm
  (go_enter Try.func83, Try.ntmps83)
  go_wp2_with fail
  refine (pick_any L a n cp w0 b T (m : Int) (by omega) hO hT _ HC.out).mono ?_
  rintro e1 w1 ⟨j, rfl, hj, hC1, hg1⟩
  have HC1 := Lib.hid hC1
  have HG1 := Lib.hid hg1
  have hjm : j < m := by omega
  obtain ⟨g', o', e0, e1, e2⟩ := (IIn.grown HI.out hg1 (fun g' o' e => by simp only [Option.some.injEq, Addr.mk.injEq] at e; rw [← e.1]; exact hg)) j (by have := HM.out; omega)
  simp only [Option.some.injEq, Addr.mk.injEq] at e0
  obtain ⟨rfl, rfl, -⟩ := e0
  have hmem : Hid (M.getD j 0 ∈ M) := Lib.hid (by
    have hj2 : j < M.length := by have := HM.out; omega
    rw [List.getD_eq_getElem?_getD, List.getElem?_eq_getElem hj2]; exact List.getElem_mem hj2)
  have i0 : (0 : Int) ≤ (j : Int) := Int.natCast_nonneg _
  have i1 : (j : Int) < (m : Int) := by omega
  clear hC1 hg1 hj
  generalize M.getD j 0 = x at *
  go_wp2
  go_ret
  exact ⟨x, rfl, hmem.out, HC1.out, HG1.out⟩
end Go.Proofs.Ytcfiaacpofpioaa
