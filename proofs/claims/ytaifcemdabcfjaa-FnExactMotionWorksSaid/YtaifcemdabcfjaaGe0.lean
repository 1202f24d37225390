/- Chapter 6: numbers in lowest terms, orders, pairs and which of them are pairs: by the program and by the model. -/
import Derived.Test.YtaifcemdabcfjaaGcd
import Derived.Test.YtaifcemdabcfjaaLate
import Derived.Test.YtaifcemdabcfjaaPivot
import Derived.Test.YtaifcemdabcfjaaOrder
import Derived.Test.YtaifcemdabcfjaaRow
set_option linter.unusedSimpArgs false
set_option linter.unusedVariables false
set_option maxRecDepth 100000
namespace Go.Proofs.Ytaifcemdabcfjaa
open Go.RowKit

theorem mulb {a b A B : Int} (h1 : 0 ≤ a) (h2 : a ≤ A) (h3 : 0 ≤ b) (h4 : b ≤ B) : 0 ≤ a * b ∧ a * b ≤ A * B :=
  ⟨Int.mul_nonneg h1 h3, Int.mul_le_mul h2 h4 h3 (by omega)⟩
theorem inB_bd {n lo hi : Int} (h : inB n lo hi = true) : lo ≤ n ∧ n ≤ hi := by simpa [inB] using h
def sg (n : Int) : Int := if 0 < n then 1 else if n < 0 then -1 else 0
abbrev iv (r : Int × Bool) : Value := .tuple #[.int .i64 r.1, .bool r.2]
theorem ret_iv {a b : Int × Bool} (h : a = b) : Ending.returned (iv a) = .returned (iv b) := by rw [h]
theorem ret_bool {a b : Bool} (h : a = b) : Ending.returned (.bool a) = .returned (.bool b) := by rw [h]
theorem ret_val {a b : Value} (h : a = b) : Ending.returned a = .returned b := by rw [h]
set_option maxHeartbeats 400000 in
theorem isNaN_any (a : Int) (w : World) :
    Calls Try.prog 107 #[.int .i64 a] w fun e w' => e = .returned (.bool false) ∧ w = w' := by
  (go_enter Try.func107, Try.ntmps107)
  go_wp2
  go_ret
  exact ⟨by simp, rfl⟩

set_option maxHeartbeats 400000 in
theorem cmpCompare_any (a b : Int) (w : World) :
    Calls Try.prog 90 #[.int .i64 a, .int .i64 b] w fun e w' => e = .returned (.int .i64 (sg (a - b))) ∧ w = w' := by
  rcases Int.lt_trichotomy (a - b) 0 with h | h | h
  · have HS := Lib.hid (show -1 = sg (a - b) from by unfold sg; rw [if_neg (by omega), if_pos h])
    have h1 : a < b := by omega
    clear h
    (go_enter Try.func90, Try.ntmps90)
    go_wp2_with (first | (go_at_call 107; refine (isNaN_any _ _).mono ?_; (rintro e1 w1 ⟨rfl, rfl⟩)))
    go_ret
    exact ⟨ret_int HS.out, rfl⟩
  · have HS := Lib.hid (show 0 = sg (a - b) from by unfold sg; rw [if_neg (by omega), if_neg (by omega)])
    obtain rfl : a = b := by omega
    clear h
    (go_enter Try.func90, Try.ntmps90)
    go_wp2_with (first | (go_at_call 107; refine (isNaN_any _ _).mono ?_; (rintro e1 w1 ⟨rfl, rfl⟩)))
    go_ret
    exact ⟨ret_int HS.out, rfl⟩
  · have HS := Lib.hid (show 1 = sg (a - b) from by unfold sg; rw [if_pos h])
    have h1 : b < a := by omega
    clear h
    (go_enter Try.func90, Try.ntmps90)
    go_wp2_with (first | (go_at_call 107; refine (isNaN_any _ _).mono ?_; (rintro e1 w1 ⟨rfl, rfl⟩)))
    go_ret
    exact ⟨ret_int HS.out, rfl⟩

set_option maxHeartbeats 400000 in
theorem l1Sign_any (n : Int) (w : World) :
    Calls Try.prog 97 #[.int .i64 n] w fun e w' => e = .returned (.int .i64 (sg n)) ∧ w = w' := by
  rcases Int.lt_trichotomy n 0 with h | h | h
  · have HS := Lib.hid (show -1 = sg n from by unfold sg; rw [if_neg (by omega), if_pos h])
    (go_enter Try.func97, Try.ntmps97)
    go_wp2
    go_ret
    exact ⟨ret_int HS.out, rfl⟩
  · have HS := Lib.hid (show 0 = sg n from by unfold sg; rw [if_neg (by omega), if_neg (by omega)])
    subst h
    (go_enter Try.func97, Try.ntmps97)
    go_wp2
    go_ret
    exact ⟨ret_int HS.out, rfl⟩
  · have HS := Lib.hid (show 1 = sg n from by unfold sg; rw [if_pos h])
    (go_enter Try.func97, Try.ntmps97)
    go_wp2
    go_ret
    exact ⟨ret_int HS.out, rfl⟩

theorem cop_dvd {p q c : Int} (h : gc p q = 1) (hd : q ∣ p * c) : q ∣ c := by
  have h1 : Nat.Coprime q.natAbs p.natAbs := by
    unfold gc at h
    have : Int.gcd p q = 1 := by omega
    rw [Nat.coprime_comm]
    exact this
  have h2 : q.natAbs ∣ p.natAbs * c.natAbs := by
    rw [← Int.natAbs_mul]
    exact Int.natAbs_dvd_natAbs.2 hd
  exact Int.natAbs_dvd_natAbs.1 (h1.dvd_of_dvd_mul_left h2)
def spN (n d : Int) : Int := n / gc n d
def spD (n d : Int) : Int := d / gc n d
theorem sp_mul (n d : Int) : n = gc n d * spN n d ∧ d = gc n d * spD n d := by
  unfold spN spD
  rw [Int.mul_ediv_cancel' (by unfold gc; exact Int.gcd_dvd_left ..), Int.mul_ediv_cancel' (by unfold gc; exact Int.gcd_dvd_right ..)]
  exact ⟨rfl, rfl⟩
theorem sp_bd (n d : Int) (hn : 0 ≤ n) (hd : 1 ≤ d) : 0 ≤ spN n d ∧ spN n d ≤ n ∧ 1 ≤ spD n d ∧ spD n d ≤ d := by
  have hg := gcd_pos_of n d hd
  have hl := gcd_le_of n d hd
  refine ⟨Int.ediv_nonneg hn (by omega), Int.ediv_le_self _ hn, ?_, Int.ediv_le_self _ (by omega)⟩
  exact (Int.le_ediv_iff_mul_le (by omega)).2 (by omega)
theorem sp_cop (n d : Int) (hd : 1 ≤ d) : gc (spN n d) (spD n d) = 1 := by
  have hg := gcd_pos_of n d hd
  unfold spN spD
  unfold gc at hg ⊢
  have h : 0 < Int.gcd n d := by omega
  have := Int.gcd_ediv_gcd_ediv_gcd h
  omega
theorem sp_one {n d : Int} (h : gc n d = 1) : spN n d = n ∧ spD n d = d := by
  unfold spN spD
  rw [h]; simp
/-- Fractions in lowest terms that are the same number are the same. -/
theorem sp_same {a b c d : Int} (hb : 1 ≤ b) (hd : 1 ≤ d) (h1 : gc a b = 1) (h2 : gc c d = 1) (h : a * d = c * b) : a = c ∧ b = d := by
  have d1 : b ∣ d := cop_dvd h1 ⟨c, by rw [h, Int.mul_comm]⟩
  have d2 : d ∣ b := cop_dvd h2 ⟨a, by rw [← h, Int.mul_comm]⟩
  have l1 := Int.le_of_dvd (by omega) d1
  have l2 := Int.le_of_dvd (by omega) d2
  have hq : b = d := by omega
  subst hq
  exact ⟨Int.eq_of_mul_eq_mul_right (show b ≠ 0 by omega) h, rfl⟩
theorem sp_of {n d p q : Int} (hd : 1 ≤ d) (hq : 1 ≤ q) (h : gc p q = 1) (e : p * d = n * q) : spN n d = p ∧ spD n d = q := by
  obtain ⟨e1, e2⟩ := sp_mul n d
  have hg := gcd_pos_of n d hd
  have hs : 1 ≤ spD n d := by
    refine (Int.le_ediv_iff_mul_le (by omega)).2 ?_
    have := gcd_le_of n d hd
    omega
  refine sp_same hs hq (sp_cop n d hd) h ?_
  have e3 : gc n d * (spN n d * q) = gc n d * (p * spD n d) := by
    rw [← Int.mul_assoc, ← e1, ← e, Int.mul_left_comm, ← e2]
  exact Int.eq_of_mul_eq_mul_left (show gc n d ≠ 0 by omega) e3
/-- The same number, in whatever terms. -/
theorem sp_eq {n d m e : Int} (hd : 1 ≤ d) (he : 1 ≤ e) (h : n * e = m * d) : spN n d = spN m e ∧ spD n d = spD m e := by
  obtain ⟨e1, e2⟩ := sp_mul m e
  have hg := gcd_pos_of m e he
  have hs : 1 ≤ spD m e := by
    refine (Int.le_ediv_iff_mul_le (by omega)).2 ?_
    have := gcd_le_of m e he
    omega
  refine sp_of hd hs (sp_cop m e he) ?_
  have e3 : gc m e * (spN m e * d) = gc m e * (n * spD m e) := by
    rw [← Int.mul_assoc, ← e1, ← h, Int.mul_left_comm, ← e2]
  exact Int.eq_of_mul_eq_mul_left (show gc m e ≠ 0 by omega) e3
theorem w64 {n : Int} (h : -9223372036854775808 ≤ n ∧ n ≤ 9223372036854775807) : IntKind.i64.wrap n = n := by rw [IntKind.wrap_i64]; omega
theorem q64 {n g : Int} (h0 : 0 ≤ n) (h1 : n ≤ 9223372036854775807) (hg : 1 ≤ g) : IntKind.i64.wrap (n.tdiv g) = n / g := by
  rw [Int.tdiv_eq_ediv_of_nonneg h0]
  have := Int.ediv_le_self g h0
  have := Int.ediv_nonneg h0 (show 0 ≤ g by omega)
  exact w64 ⟨by omega, by omega⟩

set_option maxHeartbeats 400000 in
theorem lowestSpan_any (n d : Int) (hn : 0 ≤ n) (hn' : n ≤ 9000000000000000000) (hd : 1 ≤ d) (hd' : d ≤ 9000000000000000000) (w : World) :
    Calls Try.prog 103 #[.int .i64 n, .int .i64 d] w fun e w' => e = .returned (tv (spN n d) (spD n d)) ∧ Below w.heap.size w w' := by
  have hg := gcd_pos_of n d hd
  (go_enter Try.func103, Try.ntmps103)
  go_wp2_with fail
  refine (commonDivisor_any _ _ (by omega) (by omega) _).mono ?_
  (rintro e1 w1 ⟨rfl, hb1⟩; obtain ⟨hc1, hf1⟩ := bcell hb1; have hz1 := hb1.size; (try simp only [World.size_alloc, World.size_setCell, World.size_drew] at hz1); have q1 : w.heap.size ≤ w1.heap.size := (by omega); (try have q1_0 : w.heap.size < w1.heap.size := (by omega)); (try have q1_1 : w.heap.size + 1 < w1.heap.size := (by omega)); (try have q1_2 : w.heap.size + 2 < w1.heap.size := (by omega)); (try have q1_3 : w.heap.size + 3 < w1.heap.size := (by omega)))
  go_wp2
  go_region
  all_goals (go_wp2; (refine bodyPost_ret (by simp [results, Try.results103, go_sem, *]; try rfl) rfl ?_))
  all_goals exact ⟨rfl, by (repeat' (first | (with_reducible exact Below.refl _ _) | (with_reducible assumption) | (with_reducible refine Below.alloc ?_ ?_ _) | (with_reducible refine Below.drew ?_) | (with_reducible refine below_drewN ?_ _) | (with_reducible refine Below.setCell ?_ ?_ _) | (with_reducible refine below_call ?_ ?_ (by assumption)) | go_size))⟩


set_option maxHeartbeats 400000 in
theorem toPair_any (n d : Int) (w : World) :
    Calls Try.prog 20 #[tv n d] w fun e w' => e = .returned (tv n d) ∧ Below w.heap.size w w' := by
  (go_enter Try.func20, Try.ntmps20)
  go_wp2
  go_returns
  exact ⟨rfl, by go_grown⟩
set_option maxHeartbeats 400000 in
theorem eqPair_self (a b : Int) (w : World) :
    Calls Try.prog 43 #[tv a b, tv a b] w fun e w' => e = .returned (.bool true) ∧ Below w.heap.size w w' := by
  (go_enter Try.func43, Try.ntmps43)
  go_wp2
  go_ret
  exact ⟨rfl, by go_grown⟩
def wheelB (n : Int) : Bool := inB n 6 120
def pairB (p : Int × Int) : Bool := wheelB p.1 && wheelB p.2
theorem pairB_bd {p : Int × Int} (h : pairB p = true) : (6 ≤ p.1 ∧ p.1 ≤ 120) ∧ 6 ≤ p.2 ∧ p.2 ≤ 120 := by
  simp only [pairB, wheelB, Bool.and_eq_true] at h
  exact ⟨inB_bd h.1, inB_bd h.2⟩
theorem pairB_of {a b : Int} (h : (6 ≤ a ∧ a ≤ 120) ∧ 6 ≤ b ∧ b ≤ 120) : pairB (a, b) = true := by
  simp [pairB, wheelB, inB, h]
set_option maxHeartbeats 400000 in
theorem isTeeth_is {b : Bool} (n : Int) (h : wheelB n = b) (w : World) :
    Calls Try.prog 62 #[.int .i64 n] w fun e w' => e = .returned (.bool b) ∧ w = w' := by
  (go_enter Try.func62, Try.ntmps62)
  go_wp2_with fail
  refine (isWithin_is _ _ _ h _).mono ?_
  (rintro e1 w1 ⟨rfl, rfl⟩)
  go_wp2
  go_ret
  exact ⟨rfl, rfl⟩
set_option maxHeartbeats 400000 in
theorem geWheel_is {b : Bool} (n : Int) (h : wheelB n = b) (w : World) :
    Calls Try.prog 93 #[.int .i64 n] w fun e w' => e = .returned (.bool b) ∧ w = w' := by
  (go_enter Try.func93, Try.ntmps93)
  go_wp2_with fail
  refine (l1In_is _ _ _ h _).mono ?_
  (rintro e1 w1 ⟨rfl, rfl⟩)
  go_wp2
  go_ret
  exact ⟨rfl, rfl⟩
set_option maxHeartbeats 400000 in
theorem implIsPair_is {b : Bool} (x y : Int) (h : pairB (x, y) = b) (w : World) :
    Calls Try.prog 21 #[tv x y] w fun e w' => e = .returned (.bool b) ∧ Below w.heap.size w w' := by
  subst h
  cases h1 : wheelB x
  · (go_enter Try.func21, Try.ntmps21)
    go_wp2_with fail
    refine (isTeeth_is _ h1 _).mono ?_
    (rintro e1 w1 ⟨rfl, rfl⟩)
    go_wp2
    go_ret
    exact ⟨ret_bool (by simp [pairB, h1]), by (repeat' (first | (with_reducible exact Below.refl _ _) | (with_reducible assumption) | (with_reducible refine Below.alloc ?_ ?_ _) | (with_reducible refine Below.drew ?_) | (with_reducible refine below_drewN ?_ _) | (with_reducible refine Below.setCell ?_ ?_ _) | (with_reducible refine below_call ?_ ?_ (by assumption)) | go_size))⟩
  · (go_enter Try.func21, Try.ntmps21)
    go_wp2_with fail
    refine (isTeeth_is _ h1 _).mono ?_
    (rintro e1 w1 ⟨rfl, rfl⟩)
    go_wp2_with fail
    refine (isTeeth_is _ rfl _).mono ?_
    (rintro e1 w1 ⟨rfl, rfl⟩)
    go_wp2
    go_ret
    exact ⟨ret_bool (by simp [pairB, h1]), by (repeat' (first | (with_reducible exact Below.refl _ _) | (with_reducible assumption) | (with_reducible refine Below.alloc ?_ ?_ _) | (with_reducible refine Below.drew ?_) | (with_reducible refine below_drewN ?_ _) | (with_reducible refine Below.setCell ?_ ?_ _) | (with_reducible refine below_call ?_ ?_ (by assumption)) | go_size))⟩
set_option maxHeartbeats 400000 in
theorem gePair_is {b : Bool} (x y : Int) (h : pairB (x, y) = b) (w : World) :
    Calls Try.prog 61 #[tv x y] w fun e w' => e = .returned (.bool b) ∧ Below w.heap.size w w' := by
  subst h
  cases h1 : wheelB x
  · (go_enter Try.func61, Try.ntmps61)
    go_wp2_with fail
    refine (geWheel_is _ h1 _).mono ?_
    (rintro e1 w1 ⟨rfl, rfl⟩)
    go_wp2
    go_ret
    exact ⟨ret_bool (by simp [pairB, h1]), by (repeat' (first | (with_reducible exact Below.refl _ _) | (with_reducible assumption) | (with_reducible refine Below.alloc ?_ ?_ _) | (with_reducible refine Below.drew ?_) | (with_reducible refine below_drewN ?_ _) | (with_reducible refine Below.setCell ?_ ?_ _) | (with_reducible refine below_call ?_ ?_ (by assumption)) | go_size))⟩
  · (go_enter Try.func61, Try.ntmps61)
    go_wp2_with fail
    refine (geWheel_is _ h1 _).mono ?_
    (rintro e1 w1 ⟨rfl, rfl⟩)
    go_wp2_with fail
    refine (geWheel_is _ rfl _).mono ?_
    (rintro e1 w1 ⟨rfl, rfl⟩)
    go_wp2
    go_ret
    exact ⟨ret_bool (by simp [pairB, h1]), by (repeat' (first | (with_reducible exact Below.refl _ _) | (with_reducible assumption) | (with_reducible refine Below.alloc ?_ ?_ _) | (with_reducible refine Below.drew ?_) | (with_reducible refine below_drewN ?_ _) | (with_reducible refine Below.setCell ?_ ?_ _) | (with_reducible refine below_call ?_ ?_ (by assumption)) | go_size))⟩
set_option maxHeartbeats 400000 in
theorem specIsPair_is {b : Bool} (x y : Int) (h : pairB (x, y) = b) (w : World) :
    Calls Try.prog 19 #[tv x y] w fun e w' => e = .returned (.bool b) ∧ Below w.heap.size w w' := by
  (go_enter Try.func19, Try.ntmps19)
  go_wp2_with fail
  refine (gePair_is _ _ h _).mono ?_
  (rintro e1 w1 ⟨rfl, hb1⟩; obtain ⟨hc1, hf1⟩ := bcell hb1; have hz1 := hb1.size; (try simp only [World.size_alloc, World.size_setCell, World.size_drew] at hz1); have q1 : w.heap.size ≤ w1.heap.size := (by omega); (try have q1_0 : w.heap.size < w1.heap.size := (by omega)); (try have q1_1 : w.heap.size + 1 < w1.heap.size := (by omega)); (try have q1_2 : w.heap.size + 2 < w1.heap.size := (by omega)); (try have q1_3 : w.heap.size + 3 < w1.heap.size := (by omega)))
  go_wp2
  go_ret
  exact ⟨rfl, by (repeat' (first | (with_reducible exact Below.refl _ _) | (with_reducible assumption) | (with_reducible refine Below.alloc ?_ ?_ _) | (with_reducible refine Below.drew ?_) | (with_reducible refine below_drewN ?_ _) | (with_reducible refine Below.setCell ?_ ?_ _) | (with_reducible refine below_call ?_ ?_ (by assumption)) | go_size))⟩
end Go.Proofs.Ytaifcemdabcfjaa
