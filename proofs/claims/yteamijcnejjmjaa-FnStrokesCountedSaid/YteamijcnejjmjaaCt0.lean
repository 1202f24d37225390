/- Strokes counted: what the laws of chapter 4 want of the numbers alone. -/
import Derived.Test.YteamijcnejjmjaaWt0
import Derived.Test.YteamijcnejjmjaaStr3
import Derived.Test.YteamijcnejjmjaaStr14
import Derived.Test.YteamijcnejjmjaaStr13
set_option linter.unusedSimpArgs false
set_option linter.unusedVariables false
set_option maxRecDepth 100000
namespace Go.Proofs.Yteamijcnejjmjaa
open Go.RowKit

theorem sb_zero (h : Int) : sb h 0 = 0 := by simp [sb, sumSt]
theorem betw_of {h a b v : Int} (e : betwR h a b = (v, true)) : (2 ≤ h ∧ h ≤ 24) ∧ (0 ≤ a ∧ a ≤ 1000000) ∧ (0 ≤ b ∧ b ≤ 1000000) ∧ (a ≤ b → v = sb h (b + 1) - sb h a) := by
  unfold betwR at e
  split at e
  · rename_i k
    simp only [Bool.and_eq_true] at k
    refine ⟨inB_bd k.1, inB_bd k.2.1, inB_bd k.2.2, fun hab => ?_⟩
    rw [if_neg (by omega)] at e
    exact (Prod.mk.inj e).1.symm
  · cases (Prod.mk.inj e).2
theorem betw_is {h a b : Int} (hh : 2 ≤ h ∧ h ≤ 24) (ha : 0 ≤ a ∧ a ≤ 1000000) (hb : 0 ≤ b ∧ b ≤ 1000000) (hab : a ≤ b) : betwR h a b = (sb h (b + 1) - sb h a, true) := by
  unfold betwR
  have i1 : inB h 2 24 = true := by simp [inB]; omega
  have i2 : inB a 0 1000000 = true := by simp [inB]; omega
  have i3 : inB b 0 1000000 = true := by simp [inB]; omega
  simp only [i1, i2, i3, Bool.and_self, if_true]
  rw [if_neg (by omega)]
theorem sb_turn {h : Int} (hh : 2 ≤ h ∧ h ≤ 24) (t : Int) : sb h (t * 2 * h) = t * stT h := by
  unfold sb
  rw [show t * 2 * h = t * (2 * h) by rw [Int.mul_assoc], Int.mul_ediv_cancel _ (by omega), Int.mul_emod_left]
  simp [sumSt]
theorem betw_whole {h : Int} (hh : 2 ≤ h ∧ h ≤ 24) : betwR h 0 (2 * h - 1) = (stT h, true) := by
  rw [betw_is hh (by omega) (by omega) (by omega), sb_zero, show 2 * h - 1 + 1 = 1 * 2 * h by omega, sb_turn hh]
  simp
theorem fs_sum {h : Int} (hh : 2 ≤ h ∧ h ≤ 24) (k : Nat) : ∀ x n : Int, n.toNat ≤ k → 1 ≤ n → 0 ≤ x → sb h (fs h x n).1 + (fs h x n).2 = sb h x + n ∧ (fs h x n).2 ≤ stM h (fs h x n).1 := by
  induction k with
  | zero => intro x n h1 h2; omega
  | succ k ih =>
    intro x n h1 h2 h0
    have := stM_bd (h := h) x hh
    by_cases hc : stM h x < n
    · rw [fs_more hh hc]
      have h3 := ih (x + 1) (n - stM h x) (by omega) (by omega) (by omega)
      rw [sb_succ hh h0] at h3
      exact ⟨by omega, h3.2⟩
    · rw [fs_done hc]
      exact ⟨rfl, by show n ≤ stM h x; omega⟩
theorem num_all {h n : Int} (hh : 2 ≤ h ∧ h ≤ 24) (h1 : 1 ≤ n) : 0 ≤ (numT h n).1 ∧ 1 ≤ (numT h n).2 ∧ (numT h n).2 ≤ stM h (numT h n).1 ∧ sb h (numT h n).1 + (numT h n).2 = n := by
  have hT := stT_bd hh
  have hd := Int.mul_ediv_add_emod (n - 1) (stT h)
  have hm0 := Int.emod_nonneg (n - 1) (show stT h ≠ 0 by omega)
  have hq : 0 ≤ (n - 1) / stT h := Int.ediv_nonneg (by omega) (by omega)
  unfold numT
  generalize (n - 1) / stT h = t at *
  generalize (n - 1) % stT h = r at *
  have hst : n - t * stT h = r + 1 := by rw [Int.mul_comm t]; omega
  have hx : 0 ≤ t * 2 * h := by rw [Int.mul_assoc]; exact Int.mul_nonneg hq (by omega)
  rw [hst]
  obtain ⟨a1, a2⟩ := fs_sum hh (r + 1).toNat (t * 2 * h) (r + 1) (Nat.le_refl _) (by omega) hx
  obtain ⟨b1, b2, b3, b4⟩ := fs_bd hh (r + 1).toNat (t * 2 * h) (r + 1) (Nat.le_refl _) (by omega)
  rw [sb_turn hh] at a1
  refine ⟨by omega, b3, a2, ?_⟩
  omega
theorem md_ws {h : Int} (hh : 2 ≤ h ∧ h ≤ 24) (k : Nat) : ∀ x : Int, mdF h k (x % (2 * h)) = ws h (x + 1) k := by
  induction k with
  | zero => intro x; rfl
  | succ k ih =>
    intro x
    simp only [mdF]
    rw [ws_first, Int.emod_add_emod, stM_mod, ih (x + 1)]
theorem mend_is {h q r : Int} (hh : 2 ≤ h ∧ h ≤ 24) (hq : 0 ≤ q ∧ q < 2 * h) (hr : 0 ≤ r ∧ r < 2 * h) (hp : 0 < gapW h q r) : betwR h (r + 1) (r + gapW h q r) = (md h q r, true) := by
  have hg := gap_bd hq hr
  rw [betw_is hh (by omega) (by omega) (by omega)]
  have e := sb_ws hh (show 0 ≤ r + 1 by omega) (gapW h q r).toNat
  rw [show r + 1 + ((gapW h q r).toNat : Int) = r + gapW h q r + 1 by omega] at e
  have m := md_ws hh (gapW h q r).toNat r
  rw [Int.emod_eq_of_lt hr.1 hr.2] at m
  unfold md
  rw [m, e]
  congr 1; omega
theorem mend_zero {h q r : Int} (hp : gapW h q r = 0) : md h q r = 0 := by unfold md; rw [hp]; rfl
theorem gap_lands {h q r : Int} (hq : 0 ≤ q ∧ q < 2 * h) (hr : 0 ≤ r ∧ r < 2 * h) : (r + gapW h q r) % (2 * h) = q := by
  unfold gapW
  split
  · rw [show r + (q - r) = q by omega, Int.emod_eq_of_lt hq.1 hq.2]
  · rw [show r + (q - r + 2 * h) = q + 2 * h * 1 by omega, Int.add_mul_emod_self_left, Int.emod_eq_of_lt hq.1 hq.2]
theorem heard_one {h : Int} (hh : 2 ≤ h ∧ h ≤ 24) (n : Int) (hn : 1 ≤ n ∧ n ≤ 24) : heardB h [n] = true := by
  have i1 : inB h 2 24 = true := by simp [inB]; omega
  have i2 : inB n 1 24 = true := by simp [inB]; omega
  simp [heardB, inB]; omega
theorem halves_one {h : Int} (hh : 2 ≤ h ∧ h ≤ 24) (k : Nat) (hk : (k : Int) < h) : (hoL h [(k : Int) + 1]).length = 1 ↔ 1 ≤ k := by
  unfold hoL
  rw [if_pos (heard_one hh _ (by omega)), hvs, hvs_cntK]
  constructor
  · intro e
    rcases Nat.eq_zero_or_pos k with h0 | h0
    · subst h0
      exact absurd e (cnt_one hh)
    · exact h0
  · intro h0
    have := cnt_other hh (k - 1) (by omega)
    rw [show (((k - 1 : Nat) : Int) + 2) = (k : Int) + 1 by omega] at this
    exact this
theorem atR_top {h : Int} (hh : 2 ≤ h ∧ h ≤ 24) : atR h 0 = (h, true) := by
  unfold atR halfB
  have i1 : inB h 2 24 = true := by simp [inB]; omega
  have i2 : inB 0 0 (2 * h - 1) = true := by simp [inB]; omega
  rw [i1, i2]
  simp [stA]
theorem num_is {h n : Int} (hh : 2 ≤ h ∧ h ≤ 24) (hn : 1 ≤ n ∧ n ≤ 1000000000) : numR h n = ((numT h n).1, (numT h n).2, true) := by
  unfold numR
  have i1 : inB h 2 24 = true := by simp [inB]; omega
  have i2 : inB n 1 1000000000 = true := by simp [inB]; omega
  rw [i1, i2]; rfl
theorem num_wheel {h s v : Int} (hh : 2 ≤ h ∧ h ≤ 24) (hs : 0 ≤ s ∧ s ≤ 1000000000) (hv : v = hw h 0 (s % stT h)) (hc : s ≤ 1000000000 - h) : ∃ a b, numR h (s + h) = (a, b, true) ∧ 0 ≤ a ∧ a % (2 * h) = v := by
  refine ⟨_, _, num_is hh (by omega), (num_all hh (by omega)).1, ?_⟩
  rw [hv, wheel_same hh hs.1]
  unfold numT
  rw [Int.add_comm s h]
theorem num_top {h s a b : Int} (hh : 2 ≤ h ∧ h ≤ 24) (hs : 0 ≤ s ∧ s ≤ 1000000000) (hc : s ≤ 1000000000 - h) (hN : numR h (s + h) = (a, b, true)) : a ≤ 1000000000000 := by
  rw [num_is hh (by omega)] at hN
  obtain ⟨rfl, -⟩ := Prod.mk.inj hN
  have hT := stT_bd hh
  have h1T : h + 3 ≤ stT h := all_h (P := fun h => h + 3 ≤ stT h) (by decide +kernel) hh
  unfold numT
  have hd := Int.mul_ediv_add_emod (s + h - 1) (stT h)
  have hm0 := Int.emod_nonneg (s + h - 1) (show stT h ≠ 0 by omega)
  have hm1 := Int.emod_lt_of_pos (s + h - 1) (show 0 < stT h by omega)
  have hq : 0 ≤ (s + h - 1) / stT h := Int.ediv_nonneg (by omega) (by omega)
  have hq1 : (s + h - 1) / stT h ≤ s + h - 1 := Int.ediv_le_self _ (by omega)
  generalize (s + h - 1) / stT h = t at *
  generalize (s + h - 1) % stT h = r at *
  have hst : s + h - t * stT h = r + 1 := by rw [Int.mul_comm t]; omega
  rw [hst]
  have hb := (fs_bd hh (r + 1).toNat (t * 2 * h) (r + 1) (Nat.le_refl _) (by omega)).2.1
  have hx : t * 2 * h ≤ t * 2 * 24 := Int.mul_le_mul_of_nonneg_left hh.2 (by omega)
  omega
theorem iin_one (w : World) (x : Int) : IIn (w.alloc (.cells #[.int .i64 x] 3)) (some ⟨w.heap.size, 0, none⟩) [x] := by
  intro k hk
  obtain rfl : k = 0 := by simpa using hk
  exact ⟨w.heap.size, 0, rfl, by simp, by go_simp⟩
end Go.Proofs.Yteamijcnejjmjaa
