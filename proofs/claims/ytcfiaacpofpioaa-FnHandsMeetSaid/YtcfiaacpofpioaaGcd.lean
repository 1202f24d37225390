/- The two loops that find a greatest common divisor, and what turns in lowest terms are made of. -/
import Derived.Test.YtcfiaacpofpioaaLeaf
import Derived.RegionTactic
import Derived.Deep.QuietTactic
import Derived.BigQuiet
import Derived.LoopTactic
set_option linter.unusedSimpArgs false
set_option linter.unusedVariables false
set_option maxRecDepth 100000
namespace Go.Proofs.Ytcfiaacpofpioaa
open Go.RowKit

theorem gcd_step (a b : Int) (ha : 0 ≤ a) (hb : 0 ≤ b) : Int.gcd b (a % b) = Int.gcd a b := by
  obtain ⟨m, rfl⟩ := Int.eq_ofNat_of_zero_le ha
  obtain ⟨n, rfl⟩ := Int.eq_ofNat_of_zero_le hb
  rw [← Int.natCast_emod]
  simp only [Int.gcd_natCast_natCast]
  rw [Nat.gcd_comm m n, Nat.gcd_comm, ← Nat.gcd_rec]
/-- The greatest common divisor, under a name that the walk leaves alone. -/
def gc (a b : Int) : Int := (Int.gcd a b : Nat)
theorem gcd_zero (a : Int) (ha : 0 ≤ a) : ((Int.gcd a 0 : Nat) : Int) = a := by
  simp; omega
theorem ret_int {k : IntKind} {a b : Int} (h : a = b) : Ending.returned (.int k a) = .returned (.int k b) := by rw [h]

/-- The two numbers of a round have the divisors of the first ones. -/
def GcdRel (a b : Int) (x y : Value) : Prop := ∃ p q : Int, 0 ≤ p ∧ 0 ≤ q ∧ Int.gcd p q = Int.gcd a b ∧ x = .int .i64 p ∧ y = .int .i64 q

set_option maxHeartbeats 400000 in
theorem commonDivisor_any (a b : Int) (ha : 0 ≤ a) (hb : 0 ≤ b) (w : World) :
    Calls Try.prog 102 #[.int .i64 a, .int .i64 b] w fun e w' => e = .returned (.int .i64 (gc a b)) ∧ Below w.heap.size w w' := by
  go_enter Try.func102, Try.ntmps102
  go_wp2
  go_loopw [0, 1] (fun x y wr => GcdRel a b x y ∧ Below w.heap.size w wr) (fun _ y _ => (intOf y).toNat)
  case atStart => exact ⟨⟨a, b, ha, hb, rfl, rfl, rfl⟩, Below.refl _ _⟩
  case round =>
    obtain ⟨⟨p, q, hp, hq, hg, rfl, rfl⟩, hbel⟩ := hrel
    have HG := Lib.hid hg
    clear hg
    by_cases h0 : q = 0
    · subst h0
      go_wp2
      go_ret
      exact ⟨ret_int (by unfold gc; rw [← HG.out]; exact (gcd_zero p hp).symm), hbel⟩
    · have h1 : 1 ≤ q := by omega
      have h2 : (q == 0) = false := by simpa using h0
      have h3 : (q != 0) = true := by simpa using h0
      have hm0 : 0 ≤ p % q := Int.emod_nonneg _ (by omega)
      have hm1 : p % q < q := Int.emod_lt_of_pos _ (by omega)
      go_wp2
      go_quiet (fail)
      go_wp2
      go_roundw
      case rel => exact ⟨⟨q, p % q, hq, hm0, by rw [gcd_step p q hp hq]; exact HG.out, rfl, rfl⟩, below_drewN hbel _⟩
      case measure => simp [intOf]; omega

set_option maxHeartbeats 400000 in
theorem diCommon_any (a b : Int) (ha : 0 ≤ a) (hb : 0 ≤ b) (w : World) :
    Calls Try.prog 85 #[.int .i64 a, .int .i64 b] w fun e w' => e = .returned (.int .i64 (gc a b)) ∧ Below w.heap.size w w' := by
  go_enter Try.func85, Try.ntmps85
  go_wp2
  go_loopw [0, 1] (fun x y wr => GcdRel a b x y ∧ Below w.heap.size w wr) (fun _ y _ => (intOf y).toNat)
  case atStart => exact ⟨⟨a, b, ha, hb, rfl, rfl, rfl⟩, Below.refl _ _⟩
  case round =>
    obtain ⟨⟨p, q, hp, hq, hg, rfl, rfl⟩, hbel⟩ := hrel
    have HG := Lib.hid hg
    clear hg
    by_cases h0 : q = 0
    · subst h0
      go_wp2
      go_ret
      exact ⟨ret_int (by unfold gc; rw [← HG.out]; exact (gcd_zero p hp).symm), hbel⟩
    · have h1 : 1 ≤ q := by omega
      have hm0 : 0 ≤ p % q := Int.emod_nonneg _ (by omega)
      have hm1 : p % q < q := Int.emod_lt_of_pos _ (by omega)
      go_wp2
      go_quiet (fail)
      go_wp2
      go_roundw
      case rel => exact ⟨⟨q, p % q, hq, hm0, by rw [gcd_step p q hp hq]; exact HG.out, rfl, rfl⟩, below_drewN hbel _⟩
      case measure => simp [intOf]; omega

/-! ### num / den without whole turns, in lowest terms -/
def lowNum (n d : Int) : Int := (n % d) / gc (n % d) d
def lowDen (n d : Int) : Int := d / gc (n % d) d

theorem gcd_pos_of (r d : Int) (hd : 1 ≤ d) : (1 : Int) ≤ gc r d := by
  unfold gc
  have : 0 < Int.gcd r d := Int.gcd_pos_of_ne_zero_right _ (by omega)
  omega
theorem gcd_le_of (r d : Int) (hd : 1 ≤ d) : gc r d ≤ d := by
  unfold gc
  have := Int.gcd_le_natAbs_right r (b := d) (by omega)
  omega

end Go.Proofs.Ytcfiaacpofpioaa
