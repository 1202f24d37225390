/- Leap rules: which are, how many leap years there are, days, the next leap year: the numbers. -/
import Derived.Test.YthdkbjjpbdledaaDRow
import Derived.Test.YthdkbjjpbdledaaLeaf
import Derived.Test.YthdkbjjpbdledaaGcd
import Derived.Test.YthdkbjjpbdledaaLate
set_option linter.unusedSimpArgs false
set_option linter.unusedVariables false
set_option maxRecDepth 100000
namespace Go.Proofs.Ythdkbjjpbdledaa
open Go.RowKit

theorem dw64 {n : Int} (h : -9223372036854775808 ≤ n ∧ n ≤ 9223372036854775807) : IntKind.i64.wrap n = n := by rw [IntKind.wrap_i64]; omega
theorem dq64 {n g : Int} (h0 : 0 ≤ n) (h1 : n ≤ 9223372036854775807) (hg : 1 ≤ g) : IntKind.i64.wrap (n.tdiv g) = n / g := by
  rw [Int.tdiv_eq_ediv_of_nonneg h0]
  have := Int.ediv_le_self g h0
  have := Int.ediv_nonneg h0 (show 0 ≤ g by omega)
  exact dw64 ⟨by omega, by omega⟩
theorem dt64 {n g : Int} (h0 : 0 ≤ n) (hg : 1 ≤ g) (h1 : g ≤ 9223372036854775807) : IntKind.i64.wrap (n.tmod g) = n % g := by
  rw [Int.tmod_eq_emod_of_nonneg h0]
  have := Int.emod_nonneg n (show g ≠ 0 by omega)
  have := Int.emod_lt_of_pos n (show 0 < g by omega)
  exact dw64 ⟨by omega, by omega⟩
theorem inBd {n lo hi : Int} (h : inB n lo hi = true) : lo ≤ n ∧ n ≤ hi := by simpa [inB] using h
theorem inBn {n lo hi : Int} (h : inB n lo hi = false) : ¬ (lo ≤ n ∧ n ≤ hi) := by simpa [inB] using h
theorem dret_bool {a b : Bool} (h : a = b) : Ending.returned (.bool a) = .returned (.bool b) := by rw [h]
theorem dret_int {a b : Int} (h : a = b) : Ending.returned (.int .i64 a) = .returned (.int .i64 b) := by rw [h]
/-- A number and whether there is one; two of them; a bool and whether there is one. -/
abbrev dn (r : Int × Bool) : Value := .tuple #[.int .i64 r.1, .bool r.2]
abbrev dnn (r : Int × Int × Bool) : Value := .tuple #[.int .i64 r.1, .int .i64 r.2.1, .bool r.2.2]
abbrev db (r : Bool × Bool) : Value := .tuple #[.bool r.1, .bool r.2]
theorem ret_dn {a b : Int × Bool} (h : a = b) : Ending.returned (dn a) = .returned (dn b) := by rw [h]
theorem ret_dnn {a b : Int × Int × Bool} (h : a = b) : Ending.returned (dnn a) = .returned (dnn b) := by rw [h]
theorem ret_db {a b : Bool × Bool} (h : a = b) : Ending.returned (db a) = .returned (db b) := by rw [h]
theorem mulD {a b A B : Int} (h1 : 0 ≤ a) (h2 : a ≤ A) (h3 : 0 ≤ b) (h4 : b ≤ B) : 0 ≤ a * b ∧ a * b ≤ A * B :=
  ⟨Int.mul_nonneg h1 h3, Int.mul_le_mul h2 h4 h3 (by omega)⟩
/-- A leap rule by its three numbers. -/
def ruleB (e b y : Int) : Bool := decide ((1 ≤ e ∧ e ≤ 10000) ∧ ((b = 0 ∧ y = 0) ∨ ((e + 1 ≤ b ∧ b ≤ 10000 ∧ b % e = 0) ∧ (y = 0 ∨ (y ≤ 10000 ∧ b + 1 ≤ y ∧ y % b = 0)))))
theorem ruleB_bd {e b y : Int} (h : ruleB e b y = true) : (1 ≤ e ∧ e ≤ 10000) ∧ (0 ≤ b ∧ b ≤ 10000) ∧ 0 ≤ y ∧ y ≤ 10000 := by
  simp only [ruleB, decide_eq_true_eq] at h
  omega
def upTo (n k : Int) : Int := if k = 0 then 0 else n / k
def lc (e b y n : Int) : Int := upTo n e - upTo n b + upTo n y
def leapB (e b y n : Int) : Bool := decide (n % e = 0 ∧ (b = 0 ∨ n % b ≠ 0 ∨ (y ≠ 0 ∧ n % y = 0)))
theorem div_prev (n k : Int) (hk : 1 ≤ k) : n / k - (n - 1) / k = if n % k = 0 then 1 else 0 := by
  have h1 := Int.mul_ediv_add_emod n k
  have h2 := Int.mul_ediv_add_emod (n - 1) k
  have a1 := Int.emod_nonneg n (show k ≠ 0 by omega)
  have a2 := Int.emod_lt_of_pos n (show 0 < k by omega)
  have b1 := Int.emod_nonneg (n - 1) (show k ≠ 0 by omega)
  have b2 := Int.emod_lt_of_pos (n - 1) (show 0 < k by omega)
  generalize n / k = q at *
  generalize (n - 1) / k = p at *
  generalize n % k = r at *
  generalize (n - 1) % k = s at *
  have h3 : k * (q - p) = 1 + s - r := by rw [Int.mul_sub]; omega
  split
  · rename_i hr
    subst hr
    have : 0 < q - p := by
      rcases Int.lt_or_le 0 (q - p) with h | h
      · exact h
      · have := Int.mul_le_mul_of_nonneg_left (c := k) h (by omega); omega
    have : q - p < 2 := by
      rcases Int.lt_or_le (q - p) 2 with h | h
      · exact h
      · have := Int.mul_le_mul_of_nonneg_left (c := k) h (by omega); omega
    omega
  · have : -1 < q - p := by
      rcases Int.lt_or_le (-1) (q - p) with h | h
      · exact h
      · have := Int.mul_le_mul_of_nonneg_left (c := k) h (by omega); omega
    have : q - p < 1 := by
      rcases Int.lt_or_le (q - p) 1 with h | h
      · exact h
      · have := Int.mul_le_mul_of_nonneg_left (c := k) h (by omega); omega
    omega
theorem mod_of_mod {n a b : Int} (h : n % b = 0) (hb : b % a = 0) : n % a = 0 :=
  Int.emod_eq_zero_of_dvd (Int.dvd_trans (Int.dvd_of_emod_eq_zero hb) (Int.dvd_of_emod_eq_zero h))
theorem lc_step {e b y : Int} (h : ruleB e b y = true) (n : Int) : lc e b y n - lc e b y (n - 1) = if leapB e b y n = true then 1 else 0 := by
  have hb := ruleB_bd h
  simp only [ruleB, decide_eq_true_eq] at h
  have d1 := div_prev n e (by omega)
  simp only [lc, upTo]
  rw [if_neg (show ¬ e = 0 by omega), if_neg (show ¬ e = 0 by omega)]
  rcases h with ⟨he, ⟨rfl, rfl⟩ | ⟨⟨b1, b2, b3⟩, hy⟩⟩
  · simp only [leapB, if_true, true_or, and_true, decide_eq_true_eq]
    omega
  · have d2 := div_prev n b (by omega)
    rw [if_neg (show ¬ b = 0 by omega), if_neg (show ¬ b = 0 by omega)]
    have m1 : n % b = 0 → n % e = 0 := fun h => mod_of_mod h b3
    rcases hy with rfl | ⟨y1, y2, y3⟩
    · simp only [leapB, if_true, decide_eq_true_eq]
      by_cases c1 : n % e = 0 <;> by_cases c2 : n % b = 0
      · simp [c1, c2, show b ≠ 0 by omega] at d1 d2 ⊢; omega
      · simp [c1, c2, show b ≠ 0 by omega] at d1 d2 ⊢; omega
      · exact absurd (m1 c2) c1
      · simp [c1, c2, show b ≠ 0 by omega] at d1 d2 ⊢; omega
    · have d3 := div_prev n y (by omega)
      have m2 : n % y = 0 → n % b = 0 := fun h => mod_of_mod h y3
      rw [if_neg (show ¬ y = 0 by omega), if_neg (show ¬ y = 0 by omega)]
      simp only [leapB, decide_eq_true_eq]
      by_cases c1 : n % e = 0 <;> by_cases c2 : n % b = 0 <;> by_cases c3 : n % y = 0 <;>
        first | exact absurd (m1 c2) c1 | exact absurd (m2 c3) c2 | (simp [c1, c2, c3, show b ≠ 0 by omega, show y ≠ 0 by omega] at d1 d2 d3 ⊢; omega)
theorem upTo_bd (n k : Int) (hn : 0 ≤ n) (hk : 0 ≤ k) : 0 ≤ upTo n k ∧ upTo n k ≤ n := by
  unfold upTo
  split
  · omega
  · exact ⟨Int.ediv_nonneg hn hk, Int.ediv_le_self _ hn⟩
theorem lc_mono {e b y : Int} (h : ruleB e b y = true) (n : Int) : lc e b y (n - 1) ≤ lc e b y n := by
  have := lc_step h n
  split at this <;> omega
theorem lc_le {e b y : Int} (h : ruleB e b y = true) (m : Int) (k : Nat) : lc e b y m ≤ lc e b y (m + k) := by
  induction k with
  | zero => simp
  | succ k ih =>
    have := lc_mono h (m + (k + 1))
    rw [show m + (k + 1 : Int) - 1 = m + k by omega] at this
    simp only [Int.natCast_add, Int.natCast_one] at *
    omega
theorem lc_zero (e b y : Int) : lc e b y 0 = 0 := by simp [lc, upTo]
theorem lc_nonneg {e b y : Int} (h : ruleB e b y = true) (n : Int) (hn : 0 ≤ n) : 0 ≤ lc e b y n := by
  have := lc_le h 0 n.toNat
  rw [lc_zero, show (0 : Int) + (n.toNat : Int) = n by omega] at this
  exact this
theorem lc_up {e b y : Int} (h : ruleB e b y = true) (n : Int) (hn : 0 ≤ n) : lc e b y n ≤ n := by
  have hb := ruleB_bd h
  obtain ⟨k, rfl⟩ := Int.eq_ofNat_of_zero_le hn
  clear hn
  induction k with
  | zero => simp [lc_zero]
  | succ k ih =>
    have h1 := lc_step h ((k : Int) + 1)
    rw [show (k : Int) + 1 - 1 = k by omega] at h1
    simp only [Int.natCast_add, Int.natCast_one]
    split at h1 <;> omega
/-- How many days the first years have. -/
def dd (e b y n : Int) : Int := 365 * n + lc e b y n
theorem dd_lt {e b y : Int} (h : ruleB e b y = true) (m : Int) (k : Nat) : dd e b y m + 365 * k ≤ dd e b y (m + k) := by
  have := lc_le h m k
  unfold dd; omega
/-- Of a predicate that is false ahead of m and true from m on. -/
theorem countP_from (N m : Nat) (p : Nat → Bool) (hm : m ≤ N) (h1 : ∀ i, i < m → p i = false) (h2 : ∀ i, m ≤ i → i < N → p i = true) : (List.range N).countP (fun i => !p i) = m := by
  induction N with
  | zero => simp; omega
  | succ N ih =>
    rw [List.range_succ, List.countP_append]
    by_cases h : m = N + 1
    · subst h
      have : (List.range N).countP (fun i => !p i) = N := by
        have := List.countP_eq_length (p := fun i => !p i) (l := List.range N)
        rw [List.length_range] at this
        exact this.2 (fun a ha => by rw [List.mem_range] at ha; simp [h1 a (by omega)])
      rw [this]; simp [h1 N (by omega)]
    · rw [ih (by omega) (fun i hi h => h2 i hi (by omega))]; simp [h2 N (by omega) (by omega)]
theorem countP_prop (N : Nat) (p : Nat → Bool) (hmono : ∀ a b, a ≤ b → b < N → p a = true → p b = true) : ∃ m, m ≤ N ∧ (List.range N).countP (fun i => !p i) = m ∧ (∀ i, i < m → p i = false) ∧ (∀ i, m ≤ i → i < N → p i = true) := by
  have key : ∃ m, m ≤ N ∧ (∀ i, i < m → p i = false) ∧ (∀ i, m ≤ i → i < N → p i = true) := by
    induction N with
    | zero => exact ⟨0, Nat.le_refl _, fun i hi => absurd hi (Nat.not_lt_zero _), fun i _ hi => absurd hi (Nat.not_lt_zero _)⟩
    | succ N ih =>
      obtain ⟨m, k1, k2, k3⟩ := ih (fun a b h1 h2 => hmono a b h1 (by omega))
      cases hN : p N
      · refine ⟨N + 1, Nat.le_refl _, fun i hi => ?_, fun i h1 h2 => absurd h2 (by omega)⟩
        cases hpi : p i
        · rfl
        · rw [hmono i N (by omega) (by omega) hpi] at hN; cases hN
      · refine ⟨m, by omega, k2, fun i h1 h2 => ?_⟩
        by_cases e : i = N
        · subst e; exact hN
        · exact k3 i h1 (by omega)
  obtain ⟨m, k1, k2, k3⟩ := key
  exact ⟨m, k1, countP_from N m p k1 k2 k3, k2, k3⟩
/-- The next leap year. -/
theorem leap_next {e b y : Int} (h : ruleB e b y = true) (q : Int) (hno : leapB e b y (q * e) = false) : leapB e b y ((q + 1) * e) = true := by
  have hb := ruleB_bd h
  simp only [ruleB, decide_eq_true_eq] at h
  simp only [leapB, decide_eq_true_eq, decide_eq_false_iff_not] at *
  have m0 : q * e % e = 0 := Int.mul_emod_left q e
  have m1 : (q + 1) * e % e = 0 := Int.mul_emod_left (q + 1) e
  refine ⟨m1, ?_⟩
  by_cases hb0 : b = 0
  · exact .inl hb0
  · refine .inr (.inl fun hc => ?_)
    have hd : q * e % b = 0 := by
      by_cases h' : q * e % b = 0
      · exact h'
      · exact absurd ⟨m0, .inr (.inl h')⟩ hno
    have hs : ((q + 1) * e - q * e) % b = 0 := by
      rw [Int.sub_emod, hc, hd]; simp
    have he : (q + 1) * e - q * e = e := by rw [Int.add_mul]; omega
    rw [he] at hs
    have := Int.emod_eq_of_lt (show 0 ≤ e by omega) (show e < b by omega)
    omega
end Go.Proofs.Ythdkbjjpbdledaa
