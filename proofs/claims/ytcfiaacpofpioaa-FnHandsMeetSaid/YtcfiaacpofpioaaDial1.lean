/- Turns: made, added, taken away, multiplied, divided, compared: by the program and by the model. -/
import Derived.Test.YtcfiaacpofpioaaTurn
set_option linter.unusedSimpArgs false
set_option linter.unusedVariables false
set_option maxRecDepth 100000
namespace Go.Proofs.Ytcfiaacpofpioaa
open Go.RowKit

theorem mulb {a b A B : Int} (h1 : 0 ≤ a) (h2 : a ≤ A) (h3 : 0 ≤ b) (h4 : b ≤ B) : 0 ≤ a * b ∧ a * b ≤ A * B :=
  ⟨Int.mul_nonneg h1 h3, Int.mul_le_mul h2 h4 h3 (by omega)⟩
theorem goodB_bd {n d : Int} (h : goodB n d = true) : 1 ≤ d ∧ d ≤ 1000000 ∧ 0 ≤ n ∧ n ≤ 999999 := by
  obtain ⟨a, b, c, e, _⟩ := (goodB_iff _ _).1 h
  exact ⟨a, b, c, by omega⟩
theorem inB_bd {n lo hi : Int} (h : inB n lo hi = true) : lo ≤ n ∧ n ≤ hi := by simpa [inB] using h
theorem isTurn_is {b : Bool} (n d : Int) (h : goodB n d = b) (w : World) :
    Calls Try.prog 56 #[tv n d] w fun e w' => e = .returned (.bool b) ∧ Below w.heap.size w w' := by
  subst h; exact isTurn_any n d w
theorem diGood_is {b : Bool} (n d : Int) (h : goodB n d = b) (k : -9223372036854775808 ≤ d ∧ d ≤ 9223372036854775807) (w : World) :
    Calls Try.prog 63 #[tv n d] w fun e w' => e = .returned (.bool b) ∧ Below w.heap.size w w' := by
  subst h; exact diGood_any n d w k.1 k.2
theorem low_fits (n d : Int) (hd : 1 ≤ d) (hd' : d ≤ 1000000) : mk n d = (lowNum n d, lowDen n d, true) :=
  if_pos (by have := (low_bd n d hd).2.2; omega)

/-- What is in lowest terms: no common divisor is left. -/
theorem gc_low (n d : Int) (hd : 1 ≤ d) : gc (lowNum n d) (lowDen n d) = 1 := by
  have hg := gcd_pos_of (n % d) d hd
  unfold lowNum lowDen
  unfold gc at hg ⊢
  have h : 0 < Int.gcd (n % d) d := by omega
  have := Int.gcd_ediv_gcd_ediv_gcd h
  omega
theorem low_lt (n d : Int) (hd : 1 ≤ d) : lowNum n d ≤ lowDen n d - 1 := by
  have hg := gcd_pos_of (n % d) d hd
  have hm := gc_mul (n % d) d
  have h1 : n % d < d := Int.emod_lt_of_pos _ (by omega)
  have h2 : (n % d) / gc (n % d) d < d / gc (n % d) d := by
    apply Int.ediv_lt_of_lt_mul (by omega)
    rw [Int.mul_comm]; omega
  unfold lowNum lowDen
  omega
theorem gc_neg_mod (p q : Int) (hq : 1 ≤ q) : gc (-p % q) q = gc p q := by
  unfold gc
  have : Int.gcd (-p % q) q = Int.gcd p q := by
    rw [Int.gcd_comm, Int.gcd_comm p q, Int.emod_def, Int.mul_comm, Int.gcd_sub_mul_right_right, Int.gcd_neg]
  omega
/-- The turn to the other side of one in lowest terms has the same Den. -/
theorem mirror_low (p q : Int) (hq : 1 ≤ q) (h : gc p q = 1) : lowNum (-p) q = -p % q ∧ lowDen (-p) q = q := by
  unfold lowNum lowDen
  rw [gc_neg_mod p q hq, h]
  simp
def makeT (n d : Int) : Int × Int × Bool := if inB n (-1000000000000) 1000000000000 && inB d 1 1000000000000 then mk n d else fail3
def addT (an ad bn bd : Int) : Int × Int × Bool := if goodB an ad && goodB bn bd then mk (an * bd + bn * ad) (ad * bd) else fail3
def lessT (an ad bn bd : Int) : Int × Int × Bool := if goodB an ad && goodB bn bd then mk (an * bd - bn * ad) (ad * bd) else fail3
def timesT (n d k : Int) : Int × Int × Bool := if goodB n d && inB k (-10000) 10000 then (lowNum (n * k) d, lowDen (n * k) d, true) else fail3
def partT (n d k : Int) : Int × Int × Bool := if goodB n d && inB k 1 10000 then mk n (d * k) else fail3
/-- What is handed back of a number and whether there is one. -/
abbrev iv (r : Int × Bool) : Value := .tuple #[.int .i64 r.1, .bool r.2]
theorem ret_iv {a b : Int × Bool} (h : a = b) : Ending.returned (iv a) = .returned (iv b) := by rw [h]
def fail2 : Int × Bool := (0, false)
def sg (n : Int) : Int := if 0 < n then 1 else if n < 0 then -1 else 0
def cmpT (an ad bn bd : Int) : Int × Bool := if goodB an ad && goodB bn bd then (sg (an * bd - bn * ad), true) else fail2

set_option maxHeartbeats 400000 in
theorem difference_any (an ad bn bd : Int) (ha : 1 ≤ ad ∧ ad ≤ 1000000000) (ga : 0 ≤ an ∧ an ≤ 1000000000) (hb : 1 ≤ bd ∧ bd ≤ 1000000000) (gb : 0 ≤ bn ∧ bn ≤ 1000000000) (w : World) :
    Calls Try.prog 88 #[tv an ad, tv bn bd] w fun e w' => e = .returned (tv (lowNum (an * bd - bn * ad) (ad * bd)) (lowDen (an * bd - bn * ad) (ad * bd))) ∧ Below w.heap.size w w' := by
  obtain ⟨p1, p2⟩ := mulb ga.1 ga.2 (show 0 ≤ bd by omega) hb.2
  obtain ⟨p3, p4⟩ := mulb gb.1 gb.2 (show 0 ≤ ad by omega) ha.2
  obtain ⟨p5, p6⟩ := mulb (show 0 ≤ ad by omega) ha.2 (show 0 ≤ bd by omega) hb.2
  have p7 : 1 ≤ ad * bd := Int.mul_pos (by omega) (by omega)
  (go_enter Try.func88, Try.ntmps88)
  go_wp2_with fail
  refine (lowest_any (an * bd - bn * ad) (ad * bd) (by omega) (by omega) _).mono ?_
  (rintro e1 w1 ⟨rfl, hb1⟩; obtain ⟨hc1, hf1⟩ := bcell hb1; have hz1 := hb1.size; (try simp only [World.size_alloc, World.size_setCell, World.size_drew] at hz1); have q1 : w.heap.size ≤ w1.heap.size := (by omega); (try have q1_0 : w.heap.size < w1.heap.size := (by omega)); (try have q1_1 : w.heap.size + 1 < w1.heap.size := (by omega)); (try have q1_2 : w.heap.size + 2 < w1.heap.size := (by omega)); (try have q1_3 : w.heap.size + 3 < w1.heap.size := (by omega)))
  go_wp2
  (refine bodyPost_ret (by simp [results, Try.results88, go_sem, *]; try rfl) rfl ?_)
  exact ⟨rfl, by (repeat' (first | (with_reducible exact Below.refl _ _) | (with_reducible assumption) | (with_reducible refine Below.alloc ?_ ?_ _) | (with_reducible refine Below.drew ?_) | (with_reducible refine below_drewN ?_ _) | (with_reducible refine Below.setCell ?_ ?_ _) | (with_reducible refine below_call ?_ ?_ (by assumption)) | go_size))⟩

end Go.Proofs.Ytcfiaacpofpioaa
