/- How often a bell is in a text. -/
import Derived.Test.YtijnppomeoaebaaDoorBel4
set_option linter.unusedSimpArgs false
set_option linter.unusedVariables false
set_option maxRecDepth 100000
namespace Go.Proofs.YtijnppomeoaebaaDoor
open Go.RowKit

theorem below_grown {w w' : World} (h : Below w.heap.size w w') (row : Option Nat) : w.grownBy w' row := ⟨h.os, h.tape, h.output, h.size, fun k hk _ => h.block k hk⟩
/-- A bell's note. -/
def ntB (b : Int) : UInt8 := UInt8.ofNat (48 + b).toNat
theorem ntB_nat {b : Int} (h : 1 ≤ b ∧ b ≤ 8) : ((ntB b).toNat : Int) = 48 + b := by unfold ntB; rw [UInt8.toNat_ofNat']; omega
/-- How often a bell is in a text. -/
def cntN (b : Int) (l : List UInt8) : Nat := l.count (ntB b)
theorem cntN_le (b : Int) (l : List UInt8) : cntN b l ≤ l.length := List.count_le_length
theorem cntN_take (b : Int) {l : List UInt8} {k : Nat} (h : k < l.length) : cntN b (l.take (k + 1)) = cntN b (l.take k) + if l.getD k 0 = ntB b then 1 else 0 := by
  unfold cntN
  rw [take_next h, List.count_append, List.count_singleton]
  simp only [beq_iff_eq]
theorem cntN_pos {b : Int} {l : List UInt8} : 0 < cntN b l ↔ ntB b ∈ l := List.count_pos_iff
set_option maxHeartbeats 1600000 in
theorem beBell_any (b : Int) (l : List UInt8) (hb : 1 ≤ b ∧ b ≤ 8) (hl : l.length ≤ 1000) (w : World) :
    Calls Tryd.prog 22 #[str l, .int .i64 b] w fun e w' => e = .returned (.int .i64 (cntN b l : Nat)) ∧ w = w' := by
  have HB := Lib.hid (ntB_nat hb)
  (go_enter Tryd.func22, Tryd.ntmps22)
  go_wp2
  go_loop [5, 6] (fun s i => ∃ k : Nat, k ≤ l.length ∧ i = .int .i64 k ∧ s = .int .i64 (cntN b (l.take k) : Nat)) (fun _ i => l.length - (intOf i).toNat)
  case atStart => exact ⟨0, Nat.zero_le _, rfl, rfl⟩
  case round =>
    obtain ⟨k, hk, rfl, rfl⟩ := hrel
    have i0 : (0 : Int) ≤ (k : Int) := Int.natCast_nonneg _
    by_cases hlt : k < l.length
    · have i1 : (k : Int) < (l.length : Int) := by omega
      obtain ⟨x, hx⟩ : ∃ x : Int, x = ((l.getD k 0).toNat : Int) := ⟨_, rfl⟩
      have hz := fun W => run_byte l k x hlt hx W
      have hbd := byte_bd (l.getD k 0)
      rw [← hx] at hbd
      have HC := Lib.hid (cntN_take b hlt)
      have hcl := cntN_le b (l.take k)
      rw [List.length_take] at hcl
      have HX := Lib.hid hx
      clear hx
      by_cases he : x = 48 + b
      · have HE : Hid (l.getD k 0 = ntB b) := Lib.hid (by have h1 := HX.out; have h2 := HB.out; exact UInt8.toNat_inj.1 (by omega))
        have HS : Hid (cntN b (l.take (k + 1)) = cntN b (l.take k) + 1) := Lib.hid (by rw [HC.out, if_pos HE.out])
        generalize cntN b (l.take k) = s at *
        subst he
        have f1 : IntKind.u8.wrap (48 + b - 48) = b := by rw [show 48 + b - 48 = b by omega]; exact IntWalk.u8_in _ (by omega)
        have f2 := w64 (n := b) (by omega)
        have f3 := w64 (n := (s : Int) + 1) (by omega)
        go_wp2
        go_round
        case rel =>
          refine ⟨k + 1, by omega, by go_num, ?_⟩
          rw [HS.out]
          exact ret_num (by push_cast; first | rfl | omega)
        case measure => simp [intOf]; omega
      · have HE : Hid (¬ l.getD k 0 = ntB b) := Lib.hid (fun h => he (by have h1 := HX.out; have h2 := HB.out; rw [h] at h1; omega))
        have HS : Hid (cntN b (l.take (k + 1)) = cntN b (l.take k)) := Lib.hid (by rw [HC.out, if_neg HE.out, Nat.add_zero])
        generalize cntN b (l.take k) = s at *
        obtain ⟨y, hy⟩ : ∃ y : Int, IntKind.u8.wrap (x - 48) = y := ⟨_, rfl⟩
        have hy2 : y ≠ b ∧ 0 ≤ y ∧ y ≤ 255 := by
          have : IntKind.u8.wrap (x - 48) = (x - 48) % 256 := by simp [IntKind.wrap, IntKind.bits, IntKind.signed]
          omega
        have f2 := w64 (n := y) (by omega)
        have f4 : (y == b) = false := by simpa using hy2.1
        go_wp2
        go_round
        case rel =>
          refine ⟨k + 1, by omega, by go_num, ?_⟩
          rw [HS.out]
        case measure => simp [intOf]; omega
    · have HE : Hid (cntN b (l.take k) = cntN b l) := Lib.hid (by rw [List.take_of_length_le (by omega)])
      go_wp2
      go_ret
      exact ⟨ret_int (by rw [HE.out]), rfl⟩

end Go.Proofs.YtijnppomeoaebaaDoor
