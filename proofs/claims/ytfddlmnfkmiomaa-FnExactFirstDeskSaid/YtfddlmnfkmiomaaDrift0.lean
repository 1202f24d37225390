/- Spans and clocks: which are, made, compared: by the program and by the model. -/
import Derived.Test.YtfddlmnfkmiomaaDial3
import Derived.Test.YtfddlmnfkmiomaaLowSame
import Derived.Test.YtfddlmnfkmiomaaPivot
set_option linter.unusedSimpArgs false
set_option linter.unusedVariables false
set_option maxRecDepth 100000
namespace Go.Proofs.Ytfddlmnfkmiomaa
open Go.RowKit

/-- The value of a clock. -/
abbrev cv (n d a b : Int) : Value := .agg #[.int .i64 n, .int .i64 d, .int .i64 a, .int .i64 b]
/-- What is handed back of a clock and whether there is one. -/
abbrev rc (r : Int × Int × Int × Int × Bool) : Value := .tuple #[.agg #[.int .i64 r.1, .int .i64 r.2.1, .int .i64 r.2.2.1, .int .i64 r.2.2.2.1], .bool r.2.2.2.2]
def fail5 : Int × Int × Int × Int × Bool := (0, 0, 0, 0, false)
theorem ret_rc {a b : Int × Int × Int × Int × Bool} (h : a = b) : Ending.returned (rc a) = .returned (rc b) := by rw [h]

def spN (n d : Int) : Int := n / gc n d
def spD (n d : Int) : Int := d / gc n d
def spanB (n d : Int) : Bool := inB n 0 1000000 && inB d 1 10000 && (gc n d == 1)
def limS (n d : Int) : Int × Int × Bool := if spanB n d then (n, d, true) else fail3
def mkS (n d : Int) : Int × Int × Bool := limS (spN n d) (spD n d)
theorem spanB_bd {n d : Int} (h : spanB n d = true) : 1 ≤ d ∧ d ≤ 10000 ∧ 0 ≤ n ∧ n ≤ 1000000 ∧ gc n d = 1 := by
  simp only [spanB, Bool.and_eq_true, beq_iff_eq] at h
  have h1 := inB_bd h.1.1
  have h2 := inB_bd h.1.2
  exact ⟨h2.1, h2.2, h1.1, h1.2, h.2⟩
theorem sp_mul (n d : Int) : n = gc n d * spN n d ∧ d = gc n d * spD n d := by
  unfold spN spD
  rw [Int.mul_ediv_cancel' (by unfold gc; exact Int.gcd_dvd_left ..), Int.mul_ediv_cancel' (by unfold gc; exact Int.gcd_dvd_right ..)]
  exact ⟨rfl, rfl⟩
theorem sp_bd (n d : Int) (hn : 0 ≤ n) (hd : 1 ≤ d) : 0 ≤ spN n d ∧ spN n d ≤ n ∧ 1 ≤ spD n d ∧ spD n d ≤ d := by
  have hg := gcd_pos_of n d hd
  have hl := gcd_le_of n d hd
  refine ⟨Int.ediv_nonneg hn (by omega), Int.ediv_le_self _ hn, ?_, Int.ediv_le_self _ (by omega)⟩
  exact (Int.le_ediv_iff_mul_le (by omega)).2 (by omega)
theorem sp_cop (n d : Int) (hd : 1 ≤ d) : gc (spN n d) (spD n d) = 1 := by
  have hg := gcd_pos_of n d hd
  unfold spN spD
  unfold gc at hg ⊢
  have h : 0 < Int.gcd n d := by omega
  have := Int.gcd_ediv_gcd_ediv_gcd h
  omega
theorem sp_one {n d : Int} (h : gc n d = 1) : spN n d = n ∧ spD n d = d := by
  unfold spN spD
  rw [h]; simp
/-- Fractions in lowest terms that are the same number are the same. -/
theorem sp_same {a b c d : Int} (hb : 1 ≤ b) (hd : 1 ≤ d) (h1 : gc a b = 1) (h2 : gc c d = 1) (h : a * d = c * b) : a = c ∧ b = d := by
  have d1 : b ∣ d := cop_dvd h1 ⟨c, by rw [h, Int.mul_comm]⟩
  have d2 : d ∣ b := cop_dvd h2 ⟨a, by rw [← h, Int.mul_comm]⟩
  have l1 := Int.le_of_dvd (by omega) d1
  have l2 := Int.le_of_dvd (by omega) d2
  have hq : b = d := by omega
  subst hq
  exact ⟨Int.eq_of_mul_eq_mul_right (show b ≠ 0 by omega) h, rfl⟩
theorem sp_of {n d p q : Int} (hd : 1 ≤ d) (hq : 1 ≤ q) (h : gc p q = 1) (e : p * d = n * q) : spN n d = p ∧ spD n d = q := by
  obtain ⟨e1, e2⟩ := sp_mul n d
  have hg := gcd_pos_of n d hd
  have hs : 1 ≤ spD n d := by
    refine (Int.le_ediv_iff_mul_le (by omega)).2 ?_
    have := gcd_le_of n d hd
    omega
  refine sp_same hs hq (sp_cop n d hd) h ?_
  have e3 : gc n d * (spN n d * q) = gc n d * (p * spD n d) := by
    rw [← Int.mul_assoc, ← e1, ← e, Int.mul_left_comm, ← e2]
  exact Int.eq_of_mul_eq_mul_left (show gc n d ≠ 0 by omega) e3
/-- The same number, in whatever terms. -/
theorem sp_eq {n d m e : Int} (hd : 1 ≤ d) (he : 1 ≤ e) (h : n * e = m * d) : spN n d = spN m e ∧ spD n d = spD m e := by
  obtain ⟨e1, e2⟩ := sp_mul m e
  have hg := gcd_pos_of m e he
  have hs : 1 ≤ spD m e := by
    refine (Int.le_ediv_iff_mul_le (by omega)).2 ?_
    have := gcd_le_of m e he
    omega
  refine sp_of hd hs (sp_cop m e he) ?_
  have e3 : gc m e * (spN m e * d) = gc m e * (n * spD m e) := by
    rw [← Int.mul_assoc, ← e1, ← h, Int.mul_left_comm, ← e2]
  exact Int.eq_of_mul_eq_mul_left (show gc m e ≠ 0 by omega) e3
theorem mkS_eq {n d m e : Int} (hd : 1 ≤ d) (he : 1 ≤ e) (h : n * e = m * d) : mkS n d = mkS m e := by
  obtain ⟨h1, h2⟩ := sp_eq hd he h
  unfold mkS; rw [h1, h2]

/-- Behind a statement whose order was drawn: the world by its plain name. -/
theorem undrewC {v w2 : World} (h : ∀ b o, b < v.drew.heap.size → w2.cell? ⟨b, o, none⟩ = v.drew.cell? ⟨b, o, none⟩) : ∀ b o, b < v.heap.size → w2.cell? ⟨b, o, none⟩ = v.cell? ⟨b, o, none⟩ := h
theorem undrewF {v w2 : World} (h : ∀ b o, b < v.drew.heap.size → w2.frozen? ⟨b, o, none⟩ = v.drew.frozen? ⟨b, o, none⟩) : ∀ b o, b < v.heap.size → w2.frozen? ⟨b, o, none⟩ = v.frozen? ⟨b, o, none⟩ := h
theorem w64 {n : Int} (h : -9223372036854775808 ≤ n ∧ n ≤ 9223372036854775807) : IntKind.i64.wrap n = n := by rw [IntKind.wrap_i64]; omega
theorem q64 {n g : Int} (h0 : 0 ≤ n) (h1 : n ≤ 9223372036854775807) (hg : 1 ≤ g) : IntKind.i64.wrap (n.tdiv g) = n / g := by
  rw [Int.tdiv_eq_ediv_of_nonneg h0]
  have := Int.ediv_le_self g h0
  have := Int.ediv_nonneg h0 (show 0 ≤ g by omega)
  exact w64 ⟨by omega, by omega⟩

set_option maxHeartbeats 3200000 in
theorem toClock_any (n d a b : Int) (w : World) :
    Calls Try.prog 15 #[cv n d a b] w fun e w' => e = .returned (cv n d a b) ∧ Below w.heap.size w w' := by
  (go_enter Try.func15, Try.ntmps15)
  go_wp2_with fail
  refine (toTurn_any _ _ _).mono ?_
  (rintro e1 w1 ⟨rfl, hb1⟩; obtain ⟨hc1, hf1⟩ := bcell hb1; have hz1 := hb1.size; (try simp only [World.size_alloc, World.size_setCell, World.size_drew] at hz1); have q1 : w.heap.size ≤ w1.heap.size := (by omega); (try have q1_0 : w.heap.size < w1.heap.size := (by omega)); (try have q1_1 : w.heap.size + 1 < w1.heap.size := (by omega)); (try have q1_2 : w.heap.size + 2 < w1.heap.size := (by omega)); (try have q1_3 : w.heap.size + 3 < w1.heap.size := (by omega)))
  go_wp2
  (refine bodyPost_ret (by simp [results, Try.results15, go_sem, *]; try rfl) rfl ?_)
  exact ⟨rfl, by (repeat' (first | (with_reducible exact Below.refl _ _) | (with_reducible assumption) | (with_reducible refine Below.alloc ?_ ?_ _) | (with_reducible refine Below.drew ?_) | (with_reducible refine below_drewN ?_ _) | (with_reducible refine Below.setCell ?_ ?_ _) | (with_reducible refine below_call ?_ ?_ (by assumption)) | go_size))⟩

set_option maxHeartbeats 400000 in
theorem eqClock_self (n d a b : Int) (w : World) :
    Calls Try.prog 12 #[cv n d a b, cv n d a b] w fun e w' => e = .returned (.bool true) ∧ Below w.heap.size w w' := by
  (go_enter Try.func12, Try.ntmps12)
  go_wp2_with fail
  refine (eqTurn_self _ _ _).mono ?_
  (rintro e1 w1 ⟨rfl, hb1⟩; obtain ⟨hc1, hf1⟩ := bcell hb1; have hz1 := hb1.size; (try simp only [World.size_alloc, World.size_setCell, World.size_drew] at hz1); have q1 : w.heap.size ≤ w1.heap.size := (by omega); (try have q1_0 : w.heap.size < w1.heap.size := (by omega)); (try have q1_1 : w.heap.size + 1 < w1.heap.size := (by omega)); (try have q1_2 : w.heap.size + 2 < w1.heap.size := (by omega)); (try have q1_3 : w.heap.size + 3 < w1.heap.size := (by omega)))
  go_wp2
  go_ret
  exact ⟨rfl, by (repeat' (first | (with_reducible exact Below.refl _ _) | (with_reducible assumption) | (with_reducible refine Below.alloc ?_ ?_ _) | (with_reducible refine Below.drew ?_) | (with_reducible refine below_drewN ?_ _) | (with_reducible refine Below.setCell ?_ ?_ _) | (with_reducible refine below_call ?_ ?_ (by assumption)) | go_size))⟩

end Go.Proofs.Ytfddlmnfkmiomaa
