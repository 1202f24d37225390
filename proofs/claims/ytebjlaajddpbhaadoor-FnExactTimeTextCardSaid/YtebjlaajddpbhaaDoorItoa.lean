/- strconv.Itoa by the library's contract, and the program's two digits. (The text <Name>Shelf is made by the kit's own commands lay-shelf.mjs and lay-plain.mjs.) -/
import Derived.Test.YtebjlaajddpbhaaDoorText
import Derived.Test.YtebjlaajddpbhaaDoorShelf
set_option linter.unusedSimpArgs false
set_option linter.unusedVariables false
set_option maxRecDepth 100000
namespace Go.Proofs.YtebjlaajddpbhaaDoor
open Go.RowKit

theorem below_grow (w : World) (k : Nat) (os : Array Obj) : Below w.heap.size w (Go.Sort.grow (w.drewN k) os) :=
  ⟨rfl, rfl, rfl, by simp [Go.Sort.grow], fun i hi => by simp [Go.Sort.grow, Array.getElem?_append, hi]⟩
/-- The library's table of tens lies in the world. -/
def Tens (w : World) : Prop := Lib.TabIs Tryd.prog w "internal/strconv.uint64pow10" .u64 Lib.pow10Tab
theorem Tens.below {w w' : World} (h : Tens w) (hb : Below w.heap.size w w') : Tens w' :=
  Joins.tab_stays (g := 3) (by kernel_rfl) h hb (Nat.le_refl _)
theorem itoa_any (n : Int) (h0 : 0 ≤ n) (h1 : n ≤ 9223372036854775807) (w : World) (ht : Tens w) :
    Calls Tryd.prog 33 #[.int .i64 n] w fun e w' => e = .returned (str (dec n)) ∧ Below w.heap.size w w' := by
  refine (Tryd.strconv_Itoa n (by omega) h1 w ht).mono fun e w' ⟨he, k, os, hw⟩ => ⟨?_, by rw [hw]; exact below_grow w k os⟩
  rw [he]
  have : Lib.itoa n = dec n := by unfold Lib.itoa dec; rw [if_neg (by omega)]
  rw [this]
theorem itoa_small (n : Int) (h0 : 0 ≤ n) (h1 : n < 100) (w : World) :
    Calls Tryd.prog 33 #[.int .i64 n] w fun e w' => e = .returned (str (dec n)) ∧ w = w' := by
  obtain ⟨k, rfl⟩ := Int.eq_ofNat_of_zero_le h0
  refine (Tryd.strconv_Itoa_small k (by omega) w).mono fun e w' ⟨he, hw⟩ => ⟨?_, hw.symm⟩
  rw [he]
  unfold dec
  rw [Int.toNat_natCast]

set_option maxHeartbeats 800000 in
theorem twoDigits_any (n : Int) (h0 : 0 ≤ n) (h : n < 100) (w : World) :
    Calls Tryd.prog 28 #[.int .i64 n] w fun e w' => e = .returned (str [d1 n, d2 n]) ∧ w = w' := by
  by_cases hn : n < 10
  · have H2 := Lib.hid (two_one h0 hn)
    have HD := Lib.hid (dec_one h0 hn)
    have HC := Lib.hid (fun W : World => itoa_small n h0 h W)
    rw [HD.out] at HC H2
    (go_enter Tryd.func28, Tryd.ntmps28)
    go_wp2_with fail
    refine (HC.out _).mono ?_
    (rintro e1 w1 ⟨rfl, rfl⟩)
    go_wp2
    go_ret
    exact ⟨congrArg (fun x => Ending.returned (Value.string x)) ((ByteArray.mk_append_mk _ _).trans (by rw [H2.out])), rfl⟩
  · have H2 := Lib.hid (two_two (by omega) h)
    have HC := Lib.hid (fun W : World => itoa_small n h0 h W)
    rw [H2.out] at HC
    (go_enter Tryd.func28, Tryd.ntmps28)
    go_wp2_with fail
    refine (HC.out _).mono ?_
    (rintro e1 w1 ⟨rfl, rfl⟩)
    go_wp2
    go_ret
    exact ⟨rfl, rfl⟩
end Go.Proofs.YtebjlaajddpbhaaDoor
