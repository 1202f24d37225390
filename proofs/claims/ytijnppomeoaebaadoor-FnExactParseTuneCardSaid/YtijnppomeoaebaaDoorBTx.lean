/- Texts, small numbers, and what else chapter 8 calls everywhere. -/
import Derived.Test.YtijnppomeoaebaaDoorRow
import Derived.Test.YtijnppomeoaebaaDoorLate
import Derived.Test.YtijnppomeoaebaaDoorGcd
import Derived.Lib.ItoaNum
import Derived.Lib.SmallJoins
import Derived.RegionCalls
import Derived.Deep.RegionWith
import Derived.Deep.AppendLies
import Derived.Deep.Slices
import Derived.Deep.Strs
import Derived.Laws.OwnMore
import Derived.Laws.IdiomStrings
import Derived.OwnWalk
import Derived.LoopTactic
set_option linter.unusedSimpArgs false
set_option linter.unusedVariables false
set_option maxRecDepth 100000
namespace Go.Proofs.YtijnppomeoaebaaDoor
open Go.RowKit

theorem w64 {n : Int} (h : -9223372036854775808 ≤ n ∧ n ≤ 9223372036854775807) : IntKind.i64.wrap n = n := by rw [IntKind.wrap_i64]; omega
theorem q64 {n g : Int} (h0 : 0 ≤ n) (h1 : n ≤ 9223372036854775807) (hg : 1 ≤ g) : IntKind.i64.wrap (n.tdiv g) = n / g := by
  rw [Int.tdiv_eq_ediv_of_nonneg h0]
  have := Int.ediv_le_self g h0
  have := Int.ediv_nonneg h0 (show 0 ≤ g by omega)
  exact w64 ⟨by omega, by omega⟩
theorem t64 {n g : Int} (h0 : 0 ≤ n) (hg : 1 ≤ g) (h1 : g ≤ 9223372036854775807) : IntKind.i64.wrap (n.tmod g) = n % g := by
  rw [Int.tmod_eq_emod_of_nonneg h0]
  have := Int.emod_nonneg n (show g ≠ 0 by omega)
  have := Int.emod_lt_of_pos n (show 0 < g by omega)
  exact w64 ⟨by omega, by omega⟩
theorem inB_bd {n lo hi : Int} (h : inB n lo hi = true) : lo ≤ n ∧ n ≤ hi := by simpa [inB] using h
theorem ret_bool {a b : Bool} (h : a = b) : Ending.returned (.bool a) = .returned (.bool b) := by rw [h]
theorem ret_num {a b : Int} (h : a = b) : (Value.int .i64 a) = .int .i64 b := by rw [h]
/-- A text, by its bytes. -/
abbrev str (l : List UInt8) : Value := .string ⟨l.toArray⟩
/-- The digits of a number. -/
def dec (n : Int) : List UInt8 := Lib.decDigits n.toNat
theorem dec_one {n : Int} (h0 : 0 ≤ n) (h : n < 10) : dec n = [UInt8.ofNat (48 + n).toNat] := by
  rw [show (48 + n).toNat = 48 + n.toNat by omega]; exact Lib.decDigits_one (by omega)
theorem dec_more {n : Int} (h : 10 ≤ n) : dec n = dec (n / 10) ++ [UInt8.ofNat (48 + n % 10).toNat] := by
  unfold dec
  rw [show (n / 10).toNat = n.toNat / 10 by omega, show (48 + n % 10).toNat = 48 + n.toNat % 10 by omega, Lib.decDigits, dif_neg (by omega)]
theorem dec_len (k : Nat) : ∀ n : Int, 0 ≤ n → n ≤ k → (dec n).length ≤ k + 1 := by
  induction k with
  | zero => intro n h0 h1; rw [dec_one h0 (by omega)]; simp
  | succ k ih =>
    intro n h0 h1
    by_cases h : n < 10
    · rw [dec_one h0 h]; simp
    · rw [dec_more (by omega)]
      have := ih (n / 10) (by omega) (by omega)
      simp; omega
theorem dec_short {n : Int} (h0 : 0 ≤ n) (h : n ≤ 1000000000000000000) : (dec n).length ≤ 1000000000000000001 := by
  have := dec_len n.toNat n h0 (by omega)
  omega
/-- One byte, read back as a text. -/
theorem run_conv1 (b : Nat) (y : Int) (h0 : 0 ≤ y) (h1 : y < 256) (W : World) (hc : W.cell? ⟨b, 0, none⟩ = some (.int .u8 y)) :
    (convert 61 9 (.slice (some ⟨b, 0, none⟩) 1 1)).run Tryd.prog W = .ok (str [UInt8.ofNat y.toNat]) W := by
  refine run_convert_bytes_back (P := Tryd.prog) W 61 9 5 ⟨b, 0, none⟩ 1 [UInt8.ofNat y.toNat] (by kernel_rfl) (by kernel_rfl) (by kernel_rfl) (fun j hj => ?_)
  obtain rfl : j = 0 := by simp at hj; exact hj
  have e : ((UInt8.ofNat y.toNat).toNat : Int) = y := by rw [UInt8.toNat_ofNat']; omega
  show W.cell? ((⟨b, 0, none⟩ : Addr).add 0) = some (.int .u8 ((UInt8.ofNat y.toNat).toNat : Int))
  rw [e]
  simpa [Addr.add] using hc
theorem ret_str {a b : List UInt8} (h : a = b) : Ending.returned (str a) = .returned (str b) := by rw [h]
set_option maxHeartbeats 800000 in
theorem l1Num_one (n : Int) (h2 : 0 ≤ n) (hn : n < 10) (w : World) :
    Calls Tryd.prog 39 #[.int .i64 n] w fun e w' => e = .returned (str (dec n)) ∧ Below w.heap.size w w' := by
  have HD := Lib.hid (dec_one h2 hn)
  have hc := fun b W => run_conv1 b (48 + n) (by omega) (by omega) W
  (go_enter Tryd.func39, Tryd.ntmps39)
  go_wp2_with fail
  go_ret
  exact ⟨ret_str HD.out.symm, by (repeat' (first | (with_reducible exact Below.refl _ _) | (with_reducible assumption) | (with_reducible refine Below.alloc ?_ ?_ _) | (with_reducible refine Below.drew ?_) | (with_reducible refine below_drewN ?_ _) | (with_reducible refine Below.setCell ?_ ?_ _) | (with_reducible refine below_call ?_ ?_ (by assumption)) | go_size))⟩
/-- One byte of a text, at a place in it. -/
theorem run_byte (l : List UInt8) (k : Nat) (x : Int) (hk : k < l.length) (hx : x = ((l.getD k 0).toNat : Int)) (W : World) :
    (Instr.index 9 (.string ⟨l.toArray⟩) (.int .i64 (k : Int))).run Tryd.prog W = .ok (.int .u8 x) W := by
  have h1 : (0 : Int) ≤ (k : Int) ∧ (k : Int) < ((⟨l.toArray⟩ : ByteArray).size : Int) := ⟨Int.natCast_nonneg _, by show (k : Int) < (l.toArray.size : Int); simp; exact hk⟩
  rw [run_index_string W 9 ⟨l.toArray⟩ .i64 k (by kernel_rfl), dif_pos h1, hx]
  have : (⟨l.toArray⟩ : ByteArray)[(k : Int).toNat]'(by show (k : Int).toNat < l.toArray.size; simpa using hk) = l.getD k 0 := by
    show l.toArray[(k : Int).toNat]'_ = _
    simp [List.getD_eq_getElem?_getD, hk]
  rw [this]
theorem byte_bd (b : UInt8) : (0 : Int) ≤ (b.toNat : Int) ∧ (b.toNat : Int) ≤ 255 := by have := b.toNat_lt; omega
theorem take_next {l : List UInt8} {k : Nat} (hk : k < l.length) : l.take (k + 1) = l.take k ++ [l.getD k 0] := by
  rw [List.take_add_one]; simp [List.getD_eq_getElem?_getD, hk]
theorem run_piece (l : List UInt8) (f k : Nat) (h1 : f ≤ k) (h2 : k ≤ l.length) (p : List UInt8) (hp : p = (l.drop f).take (k - f)) (W : World) :
    (Instr.slice 9 (.string ⟨l.toArray⟩) (some (.int .i64 (f : Int))) (some (.int .i64 (k : Int))) none).run Tryd.prog W = .ok (str p) W := by
  rw [run_slice_string (w := W) (t := 9) (s := ⟨l.toArray⟩) (k := .i64) (k' := .i64) (i := (f : Int)) (j := (k : Int)) (by kernel_rfl) (by omega) (by omega) (by show (k : Int) ≤ (l.toArray.size : Int); simp; omega)]
  have : (⟨l.toArray⟩ : ByteArray).extract (f : Int).toNat (k : Int).toNat = ⟨p.toArray⟩ := by
    apply ByteArray.ext
    rw [ByteArray.data_extract, hp]
    simp
  rw [this]
theorem run_tail (l : List UInt8) (f : Nat) (h1 : f ≤ l.length) (p : List UInt8) (hp : p = l.drop f) (W : World) :
    (Instr.slice 9 (.string ⟨l.toArray⟩) (some (.int .i64 (f : Int))) none none).run Tryd.prog W = .ok (str p) W := by
  rw [run_slice_string_l (w := W) (t := 9) (s := ⟨l.toArray⟩) (by kernel_rfl) .i64 f (by omega) (by show (f : Int) ≤ (l.toArray.size : Int); simp; omega)]
  have : (⟨l.toArray⟩ : ByteArray).extract (f : Int).toNat (⟨l.toArray⟩ : ByteArray).size = ⟨p.toArray⟩ := by
    apply ByteArray.ext
    rw [ByteArray.data_extract, hp]
    simp [ByteArray.size]
    exact List.take_of_length_le (by simp)
  rw [this]
end Go.Proofs.YtijnppomeoaebaaDoor
