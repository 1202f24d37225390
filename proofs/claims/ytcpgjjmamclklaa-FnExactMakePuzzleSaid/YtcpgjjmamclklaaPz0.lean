/- Puzzles: clues, whether minutes fit them, solutions: the numbers alone. -/
import Derived.Test.YtcpgjjmamclklaaDial1
import Derived.Test.YtcpgjjmamclklaaLowSame
set_option linter.unusedSimpArgs false
set_option linter.unusedVariables false
set_option maxRecDepth 100000
namespace Go.Proofs.Ytcpgjjmamclklaa
open Go.RowKit

theorem zw64 {n : Int} (h : -9223372036854775808 ≤ n ∧ n ≤ 9223372036854775807) : IntKind.i64.wrap n = n := by rw [IntKind.wrap_i64]; omega
theorem zq64 {n g : Int} (h0 : 0 ≤ n) (h1 : n ≤ 9223372036854775807) (hg : 1 ≤ g) : IntKind.i64.wrap (n.tdiv g) = n / g := by
  rw [Int.tdiv_eq_ediv_of_nonneg h0]
  have := Int.ediv_le_self g h0
  have := Int.ediv_nonneg h0 (show 0 ≤ g by omega)
  exact zw64 ⟨by omega, by omega⟩
theorem zt64 {n g : Int} (h0 : 0 ≤ n) (hg : 1 ≤ g) (h1 : g ≤ 9223372036854775807) : IntKind.i64.wrap (n.tmod g) = n % g := by
  rw [Int.tmod_eq_emod_of_nonneg h0]
  have := Int.emod_nonneg n (show g ≠ 0 by omega)
  have := Int.emod_lt_of_pos n (show 0 < g by omega)
  exact zw64 ⟨by omega, by omega⟩
theorem zret_bool {a b : Bool} (h : a = b) : Ending.returned (.bool a) = .returned (.bool b) := by rw [h]
theorem zret_int {a b : Int} (h : a = b) : Ending.returned (.int .i64 a) = .returned (.int .i64 b) := by rw [h]

/-- How many strokes are struck at a half. -/
def zA (h x : Int) : Int := if x % 2 = 1 then 1 else if x = 0 then h else x / 2
/-- Digits; the long hand ahead; strokes at the next full hour; by how much two numbers differ. -/
def dsum (n : Int) : Int := n / 10 + n % 10
def ahd (h m : Int) : Int := if ((h - 1) * m) % (60 * h) < 30 * h then 1 else 0
def nxt (h m : Int) : Int := zA h (2 * ((m / 60 + 1) % h))
def absd (a b : Int) : Int := if a < b then b - a else a - b
/-- The A of a clue of a kind other than 1. -/
def aOf (h m k : Int) : Int := if k = 0 then m / 60 else if k = 2 then dsum (m / 60) + dsum (m % 60) else if k = 3 then ahd h m else if k = 4 then nxt h m else if k = 5 then absd (m / 60) (m % 60) else 0
/-- The clue of a kind that minutes have, for the kind 1 that with a divisor. -/
def ofM (h m k d : Int) : Int × Int × Int := if k = 1 then (k, d, m % 60 % d) else (k, aOf h m k, 0)
/-- Minutes fit a clue. -/
def fitB (h m : Int) (c : Int × Int × Int) : Bool := decide (c = ofM h m c.1 c.2.1)
/-- There is a clue. -/
def okC (h : Int) (c : Int × Int × Int) : Bool :=
  if c.1 = 1 then inB c.2.1 2 60 && inB c.2.2 0 (c.2.1 - 1)
  else decide (c.2.2 = 0) && (if c.1 = 0 then inB c.2.1 0 (h - 1) else if c.1 = 2 then inB c.2.1 0 30 else if c.1 = 3 then inB c.2.1 0 1 else if c.1 = 4 then inB c.2.1 1 h else if c.1 = 5 then inB c.2.1 0 59 else false)
/-- There is a puzzle. -/
def okZ (h : Int) (L : List (Int × Int × Int)) : Bool := inB h 2 24 && decide (L.length ≤ 6) && L.all (okC h)
theorem okZ_bd {h : Int} {L : List (Int × Int × Int)} (k : okZ h L = true) : (2 ≤ h ∧ h ≤ 24) ∧ L.length ≤ 6 ∧ L.all (okC h) = true := by
  unfold okZ at k
  rw [Bool.and_eq_true, Bool.and_eq_true] at k
  obtain ⟨⟨h1, h2⟩, h3⟩ := k
  exact ⟨inB_bd h1, of_decide_eq_true h2, h3⟩
/-- The solutions. -/
def fitsAll (h : Int) (L : List (Int × Int × Int)) (m : Int) : Bool := L.all (fitB h m)
def solN (h : Int) (L : List (Int × Int × Int)) (n : Nat) : List Int := ((List.range n).filter fun m : Nat => fitsAll h L m).map fun m : Nat => (m : Int)
def sol (h : Int) (L : List (Int × Int × Int)) : List Int := solN h L (60 * h).toNat
theorem solN_len (h : Int) (L : List (Int × Int × Int)) (n : Nat) : (solN h L n).length ≤ n := by
  unfold solN
  rw [List.length_map]
  exact Nat.le_trans (List.length_filter_le _ _) (by simp)
theorem sol_len {h : Int} (hh : h ≤ 24) (L : List (Int × Int × Int)) : (sol h L).length ≤ 1440 := Nat.le_trans (solN_len h L _) (by omega)
theorem solN_yes {h : Int} {L : List (Int × Int × Int)} {n : Nat} (hf : fitsAll h L n = true) : solN h L (n + 1) = solN h L n ++ [(n : Int)] := by
  unfold solN
  rw [List.range_succ, List.filter_append, List.map_append]
  simp [hf]
theorem solN_no {h : Int} {L : List (Int × Int × Int)} {n : Nat} (hf : fitsAll h L n = false) : solN h L (n + 1) = solN h L n := by
  unfold solN
  rw [List.range_succ, List.filter_append, List.map_append]
  simp [hf]
theorem sol_bd {h : Int} (h0 : 0 ≤ h) {L : List (Int × Int × Int)} {m : Int} (k : m ∈ sol h L) : 0 ≤ m ∧ m < 60 * h := by
  unfold sol solN at k
  obtain ⟨n, hn, rfl⟩ := List.mem_map.1 k
  have := List.mem_range.1 (List.mem_filter.1 hn).1
  omega
/-- The angle by the program is below a half where it is so in parts of which a turn has 60 h. -/
theorem low_part {m D : Int} (hD : 1 ≤ D) (h0 : 0 ≤ m) (h1 : m < D) : ∃ g, 1 ≤ g ∧ D = g * lowDen m D ∧ m = g * lowNum m D := by
  obtain ⟨g, k, hg, e1, e2⟩ := gc_split m D hD
  have b := low_bd m D hD
  have l := low_lt m D hD
  have a1 : g * lowNum m D < g * lowDen m D := Int.mul_lt_mul_of_pos_left (by omega) (by omega)
  have a2 : 0 ≤ g * lowNum m D := Int.mul_nonneg (by omega) (by omega)
  have hk : k = 0 := by
    rcases Int.lt_trichotomy k 0 with h | h | h
    · have : D * k ≤ D * (-1) := Int.mul_le_mul_of_nonneg_left (by omega) (by omega)
      omega
    · exact h
    · have : D * 1 ≤ D * k := Int.mul_le_mul_of_nonneg_left (by omega) (by omega)
      omega
  subst hk
  exact ⟨g, hg, e1, by omega⟩
theorem half_low {x D : Int} (hD : 1 ≤ D) : 2 * lowNum x D - lowDen x D < 0 ↔ 2 * (x % D) < D := by
  have h0 := Int.emod_nonneg x (show D ≠ 0 by omega)
  have h1 := Int.emod_lt_of_pos x (show 0 < D by omega)
  obtain ⟨g, hg, e1, e2⟩ := low_part (m := x % D) hD h0 h1
  have n1 : lowNum (x % D) D = lowNum x D := by unfold lowNum; rw [Int.emod_emod_of_dvd x (Int.dvd_refl D)]
  have n2 : lowDen (x % D) D = lowDen x D := by unfold lowDen; rw [Int.emod_emod_of_dvd x (Int.dvd_refl D)]
  rw [n1] at e2
  rw [n2] at e1
  generalize lowNum x D = p at *
  generalize lowDen x D = q at *
  constructor
  · intro h
    have : g * (2 * p) < g * q := Int.mul_lt_mul_of_pos_left (by omega) (by omega)
    have t : g * (2 * p) = 2 * (g * p) := by grind
    omega
  · intro h
    have t : g * (2 * p) = 2 * (g * p) := by grind
    have : g * (2 * p) < g * q := by omega
    have := Int.lt_of_mul_lt_mul_left this (by omega)
    omega
/-- The multiple of a turn in lowest terms is that of its parts. -/
theorem half_many {m D k : Int} (hD : 1 ≤ D) (h0 : 0 ≤ m) (h1 : m < D) : 2 * lowNum (lowNum m D * k) (lowDen m D) - lowDen (lowNum m D * k) (lowDen m D) < 0 ↔ 2 * ((m * k) % D) < D := by
  obtain ⟨g, hg, e1, e2⟩ := low_part hD h0 h1
  have hq := (low_bd m D hD).2.1
  rw [half_low (by omega)]
  generalize lowNum m D = p at *
  generalize lowDen m D = q at *
  subst e2
  have t : (g * p * k) % (g * q) = g * ((p * k) % q) := by rw [Int.mul_assoc, Int.mul_emod_mul_of_pos _ _ (by omega)]
  rw [e1, t]
  generalize p * k % q = r
  constructor
  · intro h
    have : g * (2 * r) < g * q := Int.mul_lt_mul_of_pos_left (by omega) (by omega)
    have t : g * (2 * r) = 2 * (g * r) := by grind
    omega
  · intro h
    have t : g * (2 * r) = 2 * (g * r) := by grind
    have : g * (2 * r) < g * q := by omega
    exact Int.lt_of_mul_lt_mul_left this (by omega)
theorem ahd_low {h m : Int} (hh : 2 ≤ h ∧ h ≤ 24) (h0 : 0 ≤ m) (h1 : m < 60 * h) :
    ahd h m = if 2 * lowNum (lowNum m (60 * h) * (h - 1)) (lowDen m (60 * h)) - lowDen (lowNum m (60 * h) * (h - 1)) (lowDen m (60 * h)) < 0 then 1 else 0 := by
  have k := half_many (m := m) (D := 60 * h) (k := h - 1) (by omega) h0 h1
  unfold ahd
  rw [Int.mul_comm (h - 1) m]
  by_cases c : 2 * ((m * (h - 1)) % (60 * h)) < 60 * h
  · rw [if_pos (k.2 c), if_pos (by omega)]
  · rw [if_neg (fun e => c (k.1 e)), if_neg (by omega)]
theorem zA_bd {h x : Int} (hh : 2 ≤ h ∧ h ≤ 24) (h0 : 0 ≤ x) (h1 : x < 2 * h) : 1 ≤ zA h x ∧ zA h x ≤ h := by
  unfold zA; split <;> (try split) <;> omega
/-- The program counts on and on: two halves for an hour. -/
theorem nxt_on {h m : Int} : 2 * (m / 60 + 1) % (2 * h) = 2 * ((m / 60 + 1) % h) := Int.mul_emod_mul_of_pos _ _ (by omega)
theorem clue_ext {a b c a' b' c' : Int} (h1 : a = a') (h2 : b = b') (h3 : c = c') : ((a, b, c) : Int × Int × Int) = (a', b', c') := by rw [h1, h2, h3]
end Go.Proofs.Ytcpgjjmamclklaa
