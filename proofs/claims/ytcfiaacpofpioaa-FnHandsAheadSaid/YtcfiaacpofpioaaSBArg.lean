/- Bytes as an argument, and how great two such may be. -/
import Derived.Test.YtcfiaacpofpioaaSCur0
import Derived.Test.YtcfiaacpofpioaaRow
import Derived.Deep.Slices
set_option linter.unusedSimpArgs false
set_option linter.unusedVariables false
set_option maxRecDepth 100000
namespace Go.Proofs.Ytcfiaacpofpioaa
open Go.ChangeShapes Go.WideShapes Go.ChangeAt Go.RowKit
theorem Try.cellsU8 : Try.prog.cellsOf 5 = 1 := by kernel_rfl
theorem u8_of_wf {x : Int} (h : (Lit.int .u8 x).wf = true) : 0 ≤ x ∧ x ≤ 255 := by
  simp [Lit.wf, IntKind.min, IntKind.max, IntKind.signed, IntKind.bits] at h; omega
/-! ### An argument -/
section
variable {H : Type} {enc : TypeId × Value → H} {w : World} {base : Nat} {spare : Nat → Bool} {held : Bool}
set_option maxRecDepth 100000 in
theorem open_bytes' {r : Reach} {b0 : Nat} {v : Value} {d : DataW H} {p : List MemPlace}
    (hv : Value.okWide Try.prog w r b0 22 v) (h : DataW.Trod enc Try.prog w base spare held 22 v d p) :
    ∃ (a : Option Addr) (c : Nat) (L : List Int), v = .slice a L.length c ∧ BIn w a L ∧ L.length ≤ maxLen := by
  obtain ⟨a0, len, cap, rfl⟩ := okWide_slice Try.underlying22 hv
  obtain ⟨fuel, hf⟩ := h
  rcases Go.Deep.open_slice Try.underlying22 hf with ⟨hcs, -⟩ | ⟨a, len', cap', m, n, D, Pl, hcs, hb, hl, hm, hmm, -, hx⟩
  · simp [Value.cells] at hcs
    obtain ⟨rfl, rfl, rfl⟩ := hcs
    exact ⟨none, 0, [], rfl, fun k hk => absurd hk (Nat.not_lt_zero _), Nat.zero_le _⟩
  · simp [Value.cells] at hcs
    obtain ⟨rfl, rfl, rfl⟩ := hcs
    have hlm : len ≤ m := by rw [hmm]; split <;> omega
    have each : ∀ i, i < len → ∃ t : Int, ∃ b off, some a = some ⟨b, off, none⟩ ∧ b < w.heap.size ∧ w.cell? ⟨b, off + i, none⟩ = some (.int .u8 t) ∧ (0 ≤ t ∧ t ≤ 255) := by
      intro i hi
      obtain ⟨cs0, k1, -⟩ := hx 0 (by omega)
      rw [Try.cellsU8] at k1
      obtain ⟨-, hl0, hc0⟩ := World.cells?_some k1
      have hz := hc0 0 (by omega)
      simp only [Nat.zero_mul, Addr.add, if_true] at hz
      obtain ⟨b, off, sp⟩ := a
      have hz' : w.cell? ⟨b, off, sp⟩ = some cs0[0] := by rw [hz, List.getElem?_eq_getElem (by omega)]
      have hsp : sp = none := by
        cases sp with
        | none => rfl
        | some x => simp only [World.cell?] at hz'; split at hz' <;> simp at hz'
      subst hsp
      have hlt : b < w.heap.size := by
        rcases Nat.lt_or_ge b w.heap.size with h' | h'
        · exact h'
        · simp [World.cell?, Array.getElem?_eq_none h'] at hz'
      obtain ⟨cs, q1, q2⟩ := hx i (by omega)
      rw [Try.cellsU8] at q1
      obtain ⟨-, hl1, hc1⟩ := World.cells?_some q1
      obtain ⟨c0, rfl⟩ : ∃ c0, cs = [c0] := by
        match cs, hl1 with
        | [c0], _ => exact ⟨c0, rfl⟩
      obtain ⟨t, e0, -, wt⟩ := DataW.trod_int Try.underlying5 q2
      simp at e0
      subst e0
      have d0 := hc1 0 (by omega)
      have g : (((⟨b, off, none⟩ : Addr).add (i * 1)).add 0) = ⟨b, off + i, none⟩ := by
        unfold Addr.add
        by_cases e1 : i = 0 <;> simp [e1]
      rw [g] at d0
      exact ⟨t, b, off, rfl, hlt, by simpa using d0, u8_of_wf wt⟩
    obtain ⟨V, hV⟩ := Go.Deep.choose_lt each
    have hget : ∀ k, k < len → ((List.range len).map V).getD k 0 = V k := fun k hk => by simp [List.getD_eq_getElem?_getD, hk]
    refine ⟨some a, cap, (List.range len).map V, by simp, fun k hk => ?_, by simp; omega⟩
    have hk' : k < len := by simpa using hk
    rw [hget k hk']
    obtain ⟨b, off, h1, h2, h3, h4⟩ := hV k hk'
    exact ⟨b, off, h1, h2, h3, h4⟩
end


/-- Whether two lengths are too great. -/
def bigB (n1 n2 : Nat) : Bool := decide ((1048576 : Int) < (n1 : Int) ∨ (1048576 : Int) - (n1 : Int) < (n2 : Int))
theorem bigB_no {n1 n2 : Nat} (h : bigB n1 n2 = false) : n1 ≤ 1048576 ∧ n2 ≤ 1048576 := by
  simp only [bigB, decide_eq_false_iff_not] at h; omega
set_option maxHeartbeats 400000 in
theorem big_is {r : Bool} (a1 a2 : Option Addr) (n1 n2 c1 c2 : Nat) (h1 : n1 ≤ maxLen) (hr : bigB n1 n2 = r) (w : World) :
    Calls Try.prog 7 #[.slice a1 n1 c1, .slice a2 n2 c2] w fun e w' => e = .returned (.bool r) ∧ w = w' := by
  unfold maxLen at h1
  by_cases g1 : (1048576 : Int) < (n1 : Int)
  · obtain rfl : r = true := by rw [← hr]; simp only [bigB, decide_eq_true_eq]; exact .inl g1
    clear hr
    (go_enter Try.func7, Try.ntmps7)
    go_wp2
    go_ret
    exact ⟨rfl, rfl⟩
  · by_cases g2 : (1048576 : Int) - (n1 : Int) < (n2 : Int)
    · obtain rfl : r = true := by rw [← hr]; simp only [bigB, decide_eq_true_eq]; exact .inr g2
      clear hr
      (go_enter Try.func7, Try.ntmps7)
      go_wp2
      go_ret
      exact ⟨rfl, rfl⟩
    · obtain rfl : r = false := by rw [← hr]; simp only [bigB, decide_eq_false_iff_not]; omega
      clear hr
      (go_enter Try.func7, Try.ntmps7)
      go_wp2
      go_ret
      exact ⟨rfl, rfl⟩
end Go.Proofs.Ytcfiaacpofpioaa
