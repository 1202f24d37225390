/- Numbers in digits, and read back. -/
import Derived.Test.YtebjlaajddpbhaaDoorText
import Derived.Lib.AtoiAllCases
import Derived.Lib.IndexMore
set_option linter.unusedSimpArgs false
set_option linter.unusedVariables false
set_option maxRecDepth 100000
namespace Go.Proofs.YtebjlaajddpbhaaDoor
open Go.RowKit

def isDig (b : UInt8) : Bool := decide (48 ≤ b.toNat) && decide (b.toNat ≤ 57)
/-- What digits spell behind n. -/
def valF (n : Int) (l : List UInt8) : Int := l.foldl (fun n b => 10 * n + ((b.toNat : Int) - 48)) n
/-- Digits as a number has them: at most six. -/
def canonB (l : List UInt8) : Bool := (decide (1 ≤ l.length) && decide (l.length ≤ 6)) && (!(decide (l.getD 0 0 = 48) && decide (1 < l.length)) && l.all isDig)
def readN (l : List UInt8) : Int := if canonB l then valF 0 l else -1
theorem isDig_iff (b : UInt8) : isDig b = true ↔ 48 ≤ b.toNat ∧ b.toNat ≤ 57 := by simp [isDig]
theorem valF_cons (n : Int) (b : UInt8) (l : List UInt8) : valF n (b :: l) = valF (10 * n + ((b.toNat : Int) - 48)) l := rfl
theorem valF_snoc (n : Int) (l : List UInt8) (b : UInt8) : valF n (l ++ [b]) = 10 * valF n l + ((b.toNat : Int) - 48) := by simp [valF]
theorem valF_bd : ∀ (l : List UInt8) (n : Int), 0 ≤ n → l.all isDig = true → n ≤ valF n l ∧ valF n l + 1 ≤ (n + 1) * 10 ^ l.length
  | [], n, h0, _ => by simp [valF]
  | b :: r, n, h0, h => by
    simp only [List.all_cons, Bool.and_eq_true] at h
    have hb := (isDig_iff b).1 h.1
    obtain ⟨i1, i2⟩ := valF_bd r (10 * n + ((b.toNat : Int) - 48)) (by omega) h.2
    rw [valF_cons]
    refine ⟨by omega, Int.le_trans i2 ?_⟩
    rw [List.length_cons, Int.pow_succ, Int.mul_comm (10 ^ r.length) 10, ← Int.mul_assoc]
    exact Int.mul_le_mul_of_nonneg_right (by omega) (Int.le_of_lt (Int.pow_pos (by omega)))
theorem byte_of (m : Nat) (h : m ≤ 57) : (UInt8.ofNat m).toNat = m := by rw [UInt8.toNat_ofNat']; omega
theorem dec_spec (k : Nat) : ∀ n : Int, 0 ≤ n → n ≤ k → (dec n).all isDig = true ∧ valF 0 (dec n) = n ∧ 1 ≤ (dec n).length ∧ (1 ≤ n → ¬ (dec n).getD 0 0 = 48) := by
  have one : ∀ n : Int, 0 ≤ n → n < 10 → (dec n).all isDig = true ∧ valF 0 (dec n) = n ∧ 1 ≤ (dec n).length ∧ (1 ≤ n → ¬ (dec n).getD 0 0 = 48) := fun n h0 h => by
    have e := byte_of (48 + n).toNat (by omega)
    rw [dec_one h0 h]
    refine ⟨?_, ?_, by simp, fun h1 h2 => ?_⟩
    · simp only [List.all_cons, List.all_nil, Bool.and_true, isDig_iff, e]; omega
    · simp only [valF, List.foldl_cons, List.foldl_nil, e]; omega
    · have h2' : UInt8.ofNat (48 + n).toNat = 48 := by simpa using h2
      have := congrArg UInt8.toNat h2'
      rw [e] at this
      have e48 : (48 : UInt8).toNat = 48 := rfl
      omega
  induction k with
  | zero => intro n h0 h1; exact one n h0 (by omega)
  | succ k ih =>
    intro n h0 h1
    by_cases h : n < 10
    · exact one n h0 h
    · have e := byte_of (48 + n % 10).toNat (by omega)
      obtain ⟨i1, i2, i3, i4⟩ := ih (n / 10) (by omega) (by omega)
      rw [dec_more (by omega)]
      refine ⟨?_, ?_, by simp, fun _ h2 => i4 (by omega) ?_⟩
      · rw [List.all_append, i1]
        simp only [List.all_cons, List.all_nil, Bool.and_true, Bool.true_and, isDig_iff, e]; omega
      · rw [valF_snoc, i2, e]; omega
      · generalize dec (n / 10) = l at *
        cases l with
        | nil => simp at i3
        | cons c r => simpa using h2
theorem dec_all {n : Int} (h : 0 ≤ n) : (dec n).all isDig = true := (dec_spec n.toNat n h (by omega)).1
theorem dec_val {n : Int} (h : 0 ≤ n) : valF 0 (dec n) = n := (dec_spec n.toNat n h (by omega)).2.1
theorem dec_ne {n : Int} (h : 0 ≤ n) : 1 ≤ (dec n).length := (dec_spec n.toNat n h (by omega)).2.2.1
theorem dec_head {n : Int} (h : 1 ≤ n) : ¬ (dec n).getD 0 0 = 48 := (dec_spec n.toNat n (by omega) (by omega)).2.2.2 h
theorem dec_lenk (k : Nat) : ∀ n : Int, 0 ≤ n → n < 10 ^ (k + 1) → (dec n).length ≤ k + 1 := by
  induction k with
  | zero => intro n h0 h1; rw [dec_one h0 (by simpa using h1)]; simp
  | succ k ih =>
    intro n h0 h1
    by_cases h : n < 10
    · rw [dec_one h0 h]; simp
    · rw [dec_more (by omega)]
      rw [Int.pow_succ] at h1
      have := ih (n / 10) (by omega) (by omega)
      simp only [List.length_append, List.length_cons, List.length_nil]
      omega
theorem dec_six {n : Int} (h0 : 0 ≤ n) (h : n < 1000000) : (dec n).length ≤ 6 := dec_lenk 5 n h0 (by simpa using h)
theorem dec_of_val (k : Nat) : ∀ l : List UInt8, l.length = k + 1 → l.all isDig = true → (1 < l.length → ¬ l.getD 0 0 = 48) → dec (valF 0 l) = l := by
  induction k with
  | zero =>
    intro l hl ha _
    obtain ⟨b, rfl⟩ : ∃ b, l = [b] := List.length_eq_one_iff.1 hl
    simp only [List.all_cons, List.all_nil, Bool.and_true, isDig_iff] at ha
    rw [show valF 0 [b] = (b.toNat : Int) - 48 from by simp [valF], dec_one (by omega) (by omega), show (48 + ((b.toNat : Int) - 48)).toNat = b.toNat by omega, UInt8.ofNat_toNat]
  | succ k ih =>
    intro l hl ha hh
    have hne : l ≠ [] := fun h => by rw [h] at hl; simp at hl
    obtain ⟨i, b, rfl⟩ : ∃ i b, l = i ++ [b] := ⟨l.dropLast, l.getLast hne, (List.dropLast_concat_getLast hne).symm⟩
    have hi : i.length = k + 1 := by simpa using hl
    rw [List.all_append, Bool.and_eq_true] at ha
    have hb := ha.2
    simp only [List.all_cons, List.all_nil, Bool.and_true, isDig_iff] at hb
    have h48 : ¬ i.getD 0 0 = 48 := by
      intro h
      apply hh (by simp; omega)
      cases i with
      | nil => simp at hi
      | cons c r => simpa using h
    have IH := ih i hi ha.1 (fun _ => h48)
    have hv : 1 ≤ valF 0 i := by
      cases i with
      | nil => simp at hi
      | cons c r =>
        have ha1 := ha.1
        simp only [List.all_cons, Bool.and_eq_true] at ha1
        have hc := (isDig_iff c).1 ha1.1
        have : ¬ c.toNat = 48 := fun h => h48 (by simpa using UInt8.toNat_inj.1 (show c.toNat = (48 : UInt8).toNat from h))
        have := (valF_bd r (10 * 0 + ((c.toNat : Int) - 48)) (by omega) ha1.2).1
        rw [valF_cons]
        omega
    rw [valF_snoc, dec_more (by omega), show (10 * valF 0 i + ((b.toNat : Int) - 48)) / 10 = valF 0 i by omega, IH, show (48 + (10 * valF 0 i + ((b.toNat : Int) - 48)) % 10).toNat = b.toNat by omega, UInt8.ofNat_toNat]
theorem canonB_iff (l : List UInt8) : canonB l = true ↔ (1 ≤ l.length ∧ l.length ≤ 6) ∧ ¬ (l.getD 0 0 = 48 ∧ 1 < l.length) ∧ l.all isDig = true := by
  simp only [canonB, Bool.and_eq_true, decide_eq_true_eq, Bool.not_eq_true', Bool.and_eq_false_iff, decide_eq_false_iff_not]
  constructor
  · rintro ⟨h1, h2, h3⟩; exact ⟨h1, fun ⟨a, b⟩ => h2.elim (fun h => h a) (fun h => h b), h3⟩
  · rintro ⟨h1, h2, h3⟩
    refine ⟨h1, ?_, h3⟩
    by_cases h : l.getD 0 0 = 48
    · exact Or.inr (fun hb => h2 ⟨h, hb⟩)
    · exact Or.inl h
theorem read_dec {n : Int} (h0 : 0 ≤ n) (h : n < 1000000) : readN (dec n) = n := by
  have : canonB (dec n) = true := (canonB_iff _).2 ⟨⟨dec_ne h0, dec_six h0 h⟩, fun ⟨a, b⟩ => by
    by_cases h1 : 1 ≤ n
    · exact dec_head h1 a
    · rw [dec_one h0 (by omega)] at b; simp at b, dec_all h0⟩
  rw [readN, if_pos this, dec_val h0]
theorem dec_read {l : List UInt8} (h : canonB l = true) : dec (readN l) = l ∧ 0 ≤ readN l ∧ readN l < 1000000 := by
  have hc := (canonB_iff l).1 h
  rw [readN, if_pos h]
  obtain ⟨b1, b2⟩ := valF_bd l 0 (Int.le_refl 0) hc.2.2
  refine ⟨dec_of_val (l.length - 1) l (by omega) hc.2.2 (fun h1 h2 => hc.2.1 ⟨h2, h1⟩), b1, ?_⟩
  have : (10 : Int) ^ l.length ≤ 10 ^ 6 := by exact_mod_cast Nat.pow_le_pow_right (n := 10) (by omega) hc.1.2
  have e : (10 : Int) ^ 6 = 1000000 := by decide
  omega

/-- Atoi at digits. -/
theorem pu10 (l : List UInt8) : ∀ acc : Nat, l.all isDig = true → valF acc l < 1000000000000000000 → Lib.parseUint10 acc l = .ok (valF acc l).toNat := by
  induction l with
  | nil => intro acc _ _; simp [Lib.parseUint10, valF]
  | cons b r ih =>
    intro acc h hv
    simp only [List.all_cons, Bool.and_eq_true] at h
    have hb := (isDig_iff b).1 h.1
    rw [valF_cons] at hv ⊢
    have e : (10 * (acc : Int) + ((b.toNat : Int) - 48)) = ((acc * 10 + (b.toNat - 48) : Nat) : Int) := by omega
    rw [e] at hv ⊢
    have hm := (valF_bd r ((acc * 10 + (b.toNat - 48) : Nat) : Int) (by omega) h.2).1
    have H := ih _ h.2 hv
    rw [Lib.parseUint10, if_pos hb, if_neg (by omega), if_neg (by omega)]
    exact H
theorem atoi_digits {l : List UInt8} (h : l.all isDig = true) (h1 : 1 ≤ l.length) (hv : valF 0 l < 1000000000000000000) : Lib.atoiAll l = .ok (valF 0 l) := by
  cases l with
  | nil => simp at h1
  | cons c r =>
    have hc : 48 ≤ c.toNat ∧ c.toNat ≤ 57 := by
      simp only [List.all_cons, Bool.and_eq_true] at h
      exact (isDig_iff c).1 h.1
    have h0 := (valF_bd (c :: r) 0 (Int.le_refl 0) h).1
    rw [Lib.atoiAll_plain c r (by omega) (by omega), Lib.parseMag, if_neg (by simp), show (0 : Nat) = ((0 : Nat)) from rfl, pu10 (c :: r) 0 h hv, Lib.signless, if_neg (by have e : ((0 : Nat) : Int) = 0 := rfl; rw [e]; omega)]
    have e : ((0 : Nat) : Int) = 0 := rfl
    rw [e, Int.toNat_of_nonneg h0]
theorem atoi_dec {n : Int} (h0 : 0 ≤ n) (h : n < 1000000000000000000) : Lib.atoiAll (dec n) = .ok n := by
  rw [atoi_digits (dec_all h0) (dec_ne h0) (by rw [dec_val h0]; exact h), dec_val h0]

/-- A text around a byte. -/
theorem index_at (x : UInt8) (b : List UInt8) : ∀ a : List UInt8, ¬ x ∈ a → Lib.index (a ++ x :: b) [x] = a.length
  | [], _ => by unfold Lib.index; simp [List.isPrefixOf]
  | c :: a, h => by
    have h1 : ¬ x = c := fun e => h (by simp [e])
    have h2 : ¬ x ∈ a := fun e => h (by simp [e])
    rw [List.cons_append]
    unfold Lib.index
    rw [index_at x b a h2]
    have : ((a.length : Int) == -1) = false := by rw [beq_eq_false_iff_ne]; omega
    simp [List.isPrefixOf, h1, this]
theorem index_no (x : UInt8) : ∀ a : List UInt8, ¬ x ∈ a → Lib.index a [x] = -1
  | [], _ => by unfold Lib.index; simp [List.isPrefixOf]
  | c :: a, h => by
    have h1 : ¬ x = c := fun e => h (by simp [e])
    have h2 : ¬ x ∈ a := fun e => h (by simp [e])
    unfold Lib.index
    rw [index_no x a h2]
    simp [List.isPrefixOf, h1]
theorem cut_at {x : UInt8} {a b : List UInt8} (h : ¬ x ∈ a) : Lib.cut (a ++ x :: b) [x] = (a, b, true) := by
  unfold Lib.cut
  rw [index_at x b a h, if_pos (by omega)]
  simp
theorem cut_no {x : UInt8} {a : List UInt8} (h : ¬ x ∈ a) : Lib.cut a [x] = (a, [], false) := by
  unfold Lib.cut
  rw [index_no x a h, if_neg (by omega)]
theorem not_dig {x : UInt8} {l : List UInt8} (h : l.all isDig = true) (hx : isDig x = false) : ¬ x ∈ l := fun hm => by
  rw [List.all_eq_true] at h
  rw [h x hm] at hx
  cases hx
end Go.Proofs.YtebjlaajddpbhaaDoor
