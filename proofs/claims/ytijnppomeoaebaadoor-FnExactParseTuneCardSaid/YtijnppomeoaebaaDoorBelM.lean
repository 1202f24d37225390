/- Bells: tunes, what is played at a quarter, and how often a phrase has been played: the numbers alone. -/
import Derived.Test.YtijnppomeoaebaaDoorBTx
set_option linter.unusedSimpArgs false
set_option linter.unusedVariables false
set_option maxRecDepth 100000
namespace Go.Proofs.YtijnppomeoaebaaDoor

/-- A note is the digit of a bell. -/
def okN (b : UInt8) : Bool := decide (49 ≤ b.toNat ∧ b.toNat ≤ 56)
def okP (l : List UInt8) : Bool := inB l.length 1 8 && l.all okN
def okT (T : List (List UInt8)) : Bool := inB T.length 1 12 && T.all okP
section
variable {α : Type} {p : α → Bool} {L : List α} {k : Nat} {d : α}
theorem all_next (hk : k < L.length) (h : (L.take k).all p = true) (hp : p (L.getD k d) = true) : (L.take (k + 1)).all p = true := by
  rw [List.take_add_one, List.all_append, h]
  rw [List.getD_eq_getElem?_getD, List.getElem?_eq_getElem hk] at hp
  simpa [hk] using hp
theorem all_fail (hk : k < L.length) (hp : p (L.getD k d) = false) : L.all p = false := by
  rw [List.getD_eq_getElem?_getD, List.getElem?_eq_getElem hk] at hp
  rw [List.all_eq_false]
  exact ⟨L[k], List.getElem_mem hk, by simpa using hp⟩
theorem all_end (h : (L.take L.length).all p = true) : L.all p = true := by rwa [List.take_length] at h
theorem all_at (h : L.all p = true) (hk : k < L.length) : p (L.getD k d) = true := by
  rw [List.getD_eq_getElem?_getD, List.getElem?_eq_getElem hk]
  exact List.all_eq_true.1 h _ (List.getElem_mem hk)
end
theorem okT_bd {T : List (List UInt8)} (h : okT T = true) : (1 ≤ T.length ∧ T.length ≤ 12) ∧ T.all okP = true := by
  unfold okT at h
  rw [Bool.and_eq_true] at h
  obtain ⟨h1, h2⟩ := h
  have := inB_bd h1
  exact ⟨by omega, h2⟩
theorem okP_bd {l : List UInt8} (h : okP l = true) : (1 ≤ l.length ∧ l.length ≤ 8) ∧ l.all okN = true := by
  unfold okP at h
  rw [Bool.and_eq_true] at h
  obtain ⟨h1, h2⟩ := h
  have := inB_bd h1
  exact ⟨by omega, h2⟩
theorem okN_bd {b : UInt8} (h : okN b = true) : 49 ≤ b.toNat ∧ b.toNat ≤ 56 := of_decide_eq_true h

/-! ### Quarters -/
/-- How many phrases are played before a quarter. -/
def pbN (q : Nat) : Nat := q / 4 * 10 + (q % 4) * (q % 4 + 1) / 2
def pb (q : Int) : Int := q / 4 * 10 + (q % 4) * (q % 4 + 1) / 2
theorem pb_nat (q : Nat) : pb (q : Int) = (pbN q : Int) := by unfold pb pbN; push_cast; rfl
theorem tri (r : Nat) (h : r < 4) : (r = 0 ∧ r * (r + 1) / 2 = 0) ∨ (r = 1 ∧ r * (r + 1) / 2 = 1) ∨ (r = 2 ∧ r * (r + 1) / 2 = 3) ∨ (r = 3 ∧ r * (r + 1) / 2 = 6) := by
  match r, h with
  | 0, _ => simp
  | 1, _ => simp
  | 2, _ => simp
  | 3, _ => simp
theorem pbN_next (q : Nat) : pbN (q + 1) = pbN q + (q % 4 + 1) := by
  unfold pbN
  have h := Nat.mod_lt q (show 0 < 4 by omega)
  have h' := Nat.mod_lt (q + 1) (show 0 < 4 by omega)
  have a := tri (q % 4) h
  have b := tri ((q + 1) % 4) h'
  generalize (q % 4) * (q % 4 + 1) / 2 = x at *
  generalize ((q + 1) % 4) * ((q + 1) % 4 + 1) / 2 = y at *
  omega
theorem pbN_four (q h : Nat) : pbN (q + 4 * h) = pbN q + 10 * h := by
  unfold pbN
  rw [show (q + 4 * h) % 4 = q % 4 by omega, show (q + 4 * h) / 4 = q / 4 + h by omega]
  omega
theorem pbN_le (q : Nat) : pbN q ≤ 4 * q := by
  induction q with
  | zero => simp [pbN]
  | succ q ih => rw [pbN_next]; omega
theorem pb_bd {q : Int} (h0 : 0 ≤ q) (h1 : q ≤ 100000000) : 0 ≤ pb q ∧ pb q ≤ 400000000 := by
  obtain ⟨k, rfl⟩ := Int.eq_ofNat_of_zero_le h0
  rw [pb_nat]
  have := pbN_le k
  omega
theorem pb_parts {q : Int} (h0 : 0 ≤ q) (h1 : q ≤ 100000000) : (0 ≤ q % 4 ∧ q % 4 ≤ 3) ∧ (0 ≤ q / 4 ∧ q / 4 ≤ 100000000) ∧ (0 ≤ q % 4 * (q % 4 + 1) ∧ q % 4 * (q % 4 + 1) ≤ 12) := by
  have a : 0 ≤ q % 4 ∧ q % 4 ≤ 3 := by omega
  refine ⟨a, by omega, Int.mul_nonneg a.1 (by omega), ?_⟩
  have := Int.mul_le_mul a.2 (show q % 4 + 1 ≤ 4 by omega) (by omega) (by omega)
  omega
/-- The numbers of the phrases of a quarter. -/
def phN (n q k : Nat) : Nat := (pbN q + k) % n
def phL (n q : Nat) : List Int := (List.range (q % 4 + 1)).map fun k => (phN n q k : Int)
theorem phL_len (n q : Nat) : (phL n q).length = q % 4 + 1 := by simp [phL]
theorem phL_get (n q k : Nat) (h : k < q % 4 + 1) : (phL n q).getD k 0 = (phN n q k : Int) := by simp [phL, List.getD_eq_getElem?_getD, h]
theorem phN_lt (n q k : Nat) (h : 1 ≤ n) : phN n q k < n := Nat.mod_lt _ h
theorem phL_next {n q k : Nat} (h : k < q % 4 + 1) : (phL n q).take (k + 1) = (phL n q).take k ++ [(phN n q k : Int)] := by
  rw [List.take_add_one]
  simp [phL, h]
/-- The notes of a quarter: those of its first phrases, and all. -/
def ntK (T : List (List UInt8)) (q : Nat) : Nat → List UInt8
  | 0 => []
  | k + 1 => ntK T q k ++ T.getD (phN T.length q k) []
def ntL (T : List (List UInt8)) (q : Nat) : List UInt8 := ntK T q (q % 4 + 1)
theorem ntK_len {T : List (List UInt8)} (h : okT T = true) (q : Nat) : ∀ k, (ntK T q k).length ≤ 8 * k
  | 0 => by simp [ntK]
  | k + 1 => by
    have h1 := (okT_bd h).1
    have h2 := all_at (d := []) (okT_bd h).2 (phN_lt T.length q k (by omega))
    have h3 := (okP_bd h2).1
    have := ntK_len h q k
    simp only [ntK, List.length_append]
    omega
theorem ntL_len {T : List (List UInt8)} (h : okT T = true) (q : Nat) : (ntL T q).length ≤ 32 := by
  have := ntK_len h q (q % 4 + 1)
  unfold ntL
  omega
/-- After how many hours the tune stands as at first. -/
theorem hrs_bd {n : Int} (g : Int) (h1 : 1 ≤ n) (h2 : n ≤ 12) (hg : 1 ≤ g) : 0 ≤ n / g ∧ n / g ≤ 12 := ⟨Int.ediv_nonneg (by omega) (by omega), Int.le_trans (Int.ediv_le_self _ (by omega)) h2⟩
/-! ### How often a phrase has been played -/
def tmN (P n k : Nat) : Nat := (P + n - 1 - k) / n
theorem tmN_eq {P n k : Nat} (h : k < n) : tmN P n k = P / n + if k < P % n then 1 else 0 := by
  unfold tmN
  have hn : 0 < n := by omega
  have e := Nat.div_add_mod P n
  have hm := Nat.mod_lt P hn
  generalize P / n = a at *
  generalize P % n = b at *
  subst e
  split
  · rename_i hb
    rw [show n * a + b + n - 1 - k = (b - 1 - k) + n * (a + 1) by rw [Nat.mul_add, Nat.mul_one]; omega, Nat.add_mul_div_left _ _ hn, Nat.div_eq_of_lt (by omega)]
    omega
  · rename_i hb
    rw [show n * a + b + n - 1 - k = (b + n - 1 - k) + n * a by omega, Nat.add_mul_div_left _ _ hn, Nat.div_eq_of_lt (by omega), Nat.zero_add, Nat.add_zero]
/-- What is told of each phrase, added up over all that are played before. -/
def sumTm (T : List (List UInt8)) (f : List UInt8 → Nat) (P : Nat) : Nat → Nat
  | 0 => 0
  | k + 1 => sumTm T f P k + f (T.getD k []) * tmN P T.length k
theorem tmN_le {P n k : Nat} (h : k < n) : tmN P n k ≤ P + 1 := by
  rw [tmN_eq h]
  have := Nat.div_le_self P n
  split <;> omega
theorem sumTm_le {T : List (List UInt8)} {f : List UInt8 → Nat} {P : Nat} (hf : ∀ k, k < T.length → f (T.getD k []) ≤ 8) : ∀ k, k ≤ T.length → sumTm T f P k ≤ 8 * (P + 1) * k
  | 0, _ => by simp [sumTm]
  | k + 1, h => by
    have a := sumTm_le hf (P := P) k (by omega)
    have b := Nat.mul_le_mul (hf k (by omega)) (tmN_le (P := P) (show k < T.length by omega))
    have c : 8 * (P + 1) * (k + 1) = 8 * (P + 1) * k + 8 * (P + 1) := by rw [Nat.mul_add, Nat.mul_one]
    simp only [sumTm]
    omega
end Go.Proofs.YtijnppomeoaebaaDoor
