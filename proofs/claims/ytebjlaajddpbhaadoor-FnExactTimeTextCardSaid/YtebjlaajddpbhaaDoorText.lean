/- Texts of numbers: the model's and the program's. -/
import Derived.Test.YtebjlaajddpbhaaDoorDial1
import Derived.Test.YtebjlaajddpbhaaDoorLate
import Derived.Lib.ItoaNum
import Derived.Lib.SmallJoins
import Derived.RegionCalls
import Derived.Deep.RegionWith
import Derived.Laws.IdiomStrings
set_option linter.unusedSimpArgs false
set_option linter.unusedVariables false
set_option maxRecDepth 100000
namespace Go.Proofs.YtebjlaajddpbhaaDoor
open Go.RowKit

/-- A text, by its bytes. -/
abbrev str (l : List UInt8) : Value := .string ⟨l.toArray⟩
/-- The digits of a number. -/
def dec (n : Int) : List UInt8 := Lib.decDigits n.toNat
theorem dec_one {n : Int} (h0 : 0 ≤ n) (h : n < 10) : dec n = [UInt8.ofNat (48 + n).toNat] := by
  rw [show (48 + n).toNat = 48 + n.toNat by omega]; exact Lib.decDigits_one (by omega)
theorem dec_more {n : Int} (h : 10 ≤ n) : dec n = dec (n / 10) ++ [UInt8.ofNat (48 + n % 10).toNat] := by
  unfold dec
  rw [show (n / 10).toNat = n.toNat / 10 by omega, show (48 + n % 10).toNat = 48 + n.toNat % 10 by omega, Lib.decDigits, dif_neg (by omega)]

theorem dec_len (k : Nat) : ∀ n : Int, 0 ≤ n → n ≤ k → (dec n).length ≤ k + 1 := by
  induction k with
  | zero => intro n h0 h1; rw [dec_one h0 (by omega)]; simp
  | succ k ih =>
    intro n h0 h1
    by_cases h : n < 10
    · rw [dec_one h0 h]; simp
    · rw [dec_more (by omega)]
      have := ih (n / 10) (by omega) (by omega)
      simp; omega
theorem dec_short {n : Int} (h0 : 0 ≤ n) (h : n ≤ 1000000000000000000) : (dec n).length ≤ 1000000000000000001 := by
  have := dec_len n.toNat n h0 (by omega)
  omega
/-- One byte, read back as a text. -/
theorem run_conv1 (b : Nat) (y : Int) (h0 : 0 ≤ y) (h1 : y < 256) (W : World) (hc : W.cell? ⟨b, 0, none⟩ = some (.int .u8 y)) :
    (convert 64 9 (.slice (some ⟨b, 0, none⟩) 1 1)).run Tryd.prog W = .ok (str [UInt8.ofNat y.toNat]) W := by
  refine run_convert_bytes_back (P := Tryd.prog) W 64 9 5 ⟨b, 0, none⟩ 1 [UInt8.ofNat y.toNat] (by kernel_rfl) (by kernel_rfl) (by kernel_rfl) (fun j hj => ?_)
  obtain rfl : j = 0 := by simp at hj; exact hj
  have e : ((UInt8.ofNat y.toNat).toNat : Int) = y := by rw [UInt8.toNat_ofNat']; omega
  show W.cell? ((⟨b, 0, none⟩ : Addr).add 0) = some (.int .u8 ((UInt8.ofNat y.toNat).toNat : Int))
  rw [e]
  simpa [Addr.add] using hc

theorem ret_str {a b : List UInt8} (h : a = b) : Ending.returned (str a) = .returned (str b) := by rw [h]

set_option maxHeartbeats 800000 in
theorem l1Num_one (n : Int) (h2 : 0 ≤ n) (hn : n < 10) (w : World) :
    Calls Tryd.prog 26 #[.int .i64 n] w fun e w' => e = .returned (str (dec n)) ∧ Below w.heap.size w w' := by
  have HD := Lib.hid (dec_one h2 hn)
  have hc := fun b W => run_conv1 b (48 + n) (by omega) (by omega) W
  (go_enter Tryd.func26, Tryd.ntmps26)
  go_wp2_with fail
  go_ret
  exact ⟨ret_str HD.out.symm, by (repeat' (first | (with_reducible exact Below.refl _ _) | (with_reducible assumption) | (with_reducible refine Below.alloc ?_ ?_ _) | (with_reducible refine Below.drew ?_) | (with_reducible refine below_drewN ?_ _) | (with_reducible refine Below.setCell ?_ ?_ _) | (with_reducible refine below_call ?_ ?_ (by assumption)) | go_size))⟩

set_option maxRecDepth 10000 in
set_option maxHeartbeats 1600000 in
theorem l1Num_any (k : Nat) : ∀ (n : Int) (w : World), n ≤ k → 0 ≤ n → n ≤ 1000000000000000000 →
    Calls Tryd.prog 26 #[.int .i64 n] w fun e w' => e = .returned (str (dec n)) ∧ Below w.heap.size w w' := by
  induction k with
  | zero =>
    intro n w h1 h2 h3
    exact l1Num_one n h2 (by omega) w
  | succ k ih =>
    intro n w h1 h2 h3
    by_cases hn : n < 10
    · exact l1Num_one n h2 hn w
    · have HD := Lib.hid (dec_more (n := n) (by omega))
      have IH := Lib.hid (fun W : World => ih (n / 10) W (by omega) (by omega) (by omega))
      clear ih
      have i1 : 0 ≤ n % 10 := by omega
      have i2 : n % 10 < 10 := by omega
      have hc := fun b W => run_conv1 b (48 + n % 10) (by omega) (by omega) W
      have hn' : ¬ n < 10 := hn
      (go_enter Tryd.func26, Tryd.ntmps26)
      go_wp2_with fail
      have hl := dec_short (n := n / 10) (by omega) (by omega)
      have hl1 : ¬ 9223372036854775807 < (dec (n / 10)).length + 1 := by omega
      have hl2 : (dec (n / 10)).length < 9223372036854775807 := by omega
      have hl3 : (dec (n / 10)).length ≤ 9223372036854775806 := by omega
      clear hl
      have f1 : IntKind.i64.wrap (n.tdiv 10) = n / 10 := by rw [Int.tdiv_eq_ediv_of_nonneg h2]; exact IntWalk.i64_in _ (by omega)
      have f2 : n.tmod 10 = n % 10 := Int.tmod_eq_emod_of_nonneg h2
      have f3 : IntKind.i64.wrap (48 + n % 10) = 48 + n % 10 := IntWalk.i64_in _ (by omega)
      have f4 : IntKind.u8.wrap (48 + n % 10) = 48 + n % 10 := IntWalk.u8_in _ (by omega)
      go_region_with (go_at_call 26; refine (IH.out _).mono ?_; (rintro e1 w1 ⟨rfl, hb1⟩; obtain ⟨hc1, hf1⟩ := bcell hb1; have hz1 := hb1.size; (try simp only [World.size_alloc, World.size_setCell, World.size_drew] at hz1); have q1 : w.heap.size ≤ w1.heap.size := (by omega); (try have q1_0 : w.heap.size < w1.heap.size := (by omega)); (try have q1_1 : w.heap.size + 1 < w1.heap.size := (by omega)); (try have q1_2 : w.heap.size + 2 < w1.heap.size := (by omega)); (try have q1_3 : w.heap.size + 3 < w1.heap.size := (by omega))))
      all_goals go_wp2
      all_goals go_ret
      all_goals refine ⟨?_, by (repeat' (first | (with_reducible exact Below.refl _ _) | (with_reducible assumption) | (with_reducible refine Below.alloc ?_ ?_ _) | (with_reducible refine Below.drew ?_) | (with_reducible refine below_drewN ?_ _) | (with_reducible refine Below.setCell ?_ ?_ _) | (with_reducible refine below_call ?_ ?_ (by assumption)) | go_size))⟩
      all_goals exact congrArg (fun x => Ending.returned (Value.string x)) ((ByteArray.mk_append_mk _ _).trans (by rw [HD.out]))

/-- The two digits of a number below a hundred. -/
def d1 (n : Int) : UInt8 := UInt8.ofNat (48 + n / 10).toNat
def d2 (n : Int) : UInt8 := UInt8.ofNat (48 + n % 10).toNat
theorem two_one {n : Int} (h0 : 0 ≤ n) (h : n < 10) : [48] ++ dec n = [d1 n, d2 n] := by
  rw [dec_one h0 h]
  unfold d1 d2
  rw [show n / 10 = 0 by omega, show n % 10 = n by omega]
  rfl
theorem two_two {n : Int} (h0 : 10 ≤ n) (h : n < 100) : dec n = [d1 n, d2 n] := by
  rw [dec_more h0, dec_one (by omega) (by omega)]
  rfl

set_option maxHeartbeats 800000 in
theorem diTwo_any (n : Int) (h0 : 0 ≤ n) (h : n < 100) (w : World) :
    Calls Tryd.prog 24 #[.int .i64 n] w fun e w' => e = .returned (str [d1 n, d2 n]) ∧ Below w.heap.size w w' := by
  by_cases hn : n < 10
  · have H2 := Lib.hid (two_one h0 hn)
    have HD := Lib.hid (dec_one h0 hn)
    have HL := l1Num_any n.toNat n
    have HC := Lib.hid (fun W : World => HL W (by omega) h0 (by omega))
    clear HL
    rw [HD.out] at HC H2
    (go_enter Tryd.func24, Tryd.ntmps24)
    go_wp2_with fail
    refine (HC.out _).mono ?_
    (rintro e1 w1 ⟨rfl, hb1⟩; obtain ⟨hc1, hf1⟩ := bcell hb1; have hz1 := hb1.size; (try simp only [World.size_alloc, World.size_setCell, World.size_drew] at hz1); have q1 : w.heap.size ≤ w1.heap.size := (by omega); (try have q1_0 : w.heap.size < w1.heap.size := (by omega)); (try have q1_1 : w.heap.size + 1 < w1.heap.size := (by omega)); (try have q1_2 : w.heap.size + 2 < w1.heap.size := (by omega)); (try have q1_3 : w.heap.size + 3 < w1.heap.size := (by omega)))
    go_wp2
    go_ret
    exact ⟨congrArg (fun x => Ending.returned (Value.string x)) ((ByteArray.mk_append_mk _ _).trans (by rw [H2.out])), by (repeat' (first | (with_reducible exact Below.refl _ _) | (with_reducible assumption) | (with_reducible refine Below.alloc ?_ ?_ _) | (with_reducible refine Below.drew ?_) | (with_reducible refine below_drewN ?_ _) | (with_reducible refine Below.setCell ?_ ?_ _) | (with_reducible refine below_call ?_ ?_ (by assumption)) | go_size))⟩
  · have H2 := Lib.hid (two_two (by omega) h)
    have HL := l1Num_any n.toNat n
    have HC := Lib.hid (fun W : World => HL W (by omega) h0 (by omega))
    clear HL
    rw [H2.out] at HC
    (go_enter Tryd.func24, Tryd.ntmps24)
    go_wp2_with fail
    refine (HC.out _).mono ?_
    (rintro e1 w1 ⟨rfl, hb1⟩; obtain ⟨hc1, hf1⟩ := bcell hb1; have hz1 := hb1.size; (try simp only [World.size_alloc, World.size_setCell, World.size_drew] at hz1); have q1 : w.heap.size ≤ w1.heap.size := (by omega); (try have q1_0 : w.heap.size < w1.heap.size := (by omega)); (try have q1_1 : w.heap.size + 1 < w1.heap.size := (by omega)); (try have q1_2 : w.heap.size + 2 < w1.heap.size := (by omega)); (try have q1_3 : w.heap.size + 3 < w1.heap.size := (by omega)))
    go_wp2
    go_ret
    exact ⟨rfl, by (repeat' (first | (with_reducible exact Below.refl _ _) | (with_reducible assumption) | (with_reducible refine Below.alloc ?_ ?_ _) | (with_reducible refine Below.drew ?_) | (with_reducible refine below_drewN ?_ _) | (with_reducible refine Below.setCell ?_ ?_ _) | (with_reducible refine below_call ?_ ?_ (by assumption)) | go_size))⟩
end Go.Proofs.YtebjlaajddpbhaaDoor
