/- Waiting for strokes, the most strokes: what the laws of chapter 4 want of the numbers alone. -/
import Derived.Test.YteamijcnejjmjaaStr6
import Derived.Test.YteamijcnejjmjaaStr4
set_option linter.unusedSimpArgs false
set_option linter.unusedVariables false
set_option maxRecDepth 100000
namespace Go.Proofs.Yteamijcnejjmjaa
open Go.RowKit

theorem wtF_spec {h x s : Int} (he : ∃ m : Nat, (m : Int) < 2 * h ∧ stM h (x + m) = s) : ∀ (j : Nat) (n : Int), 0 ≤ n → n + j = 2 * h → (∀ m : Nat, (m : Int) < n → stM h (x + m) ≠ s) →
    n ≤ wtF h x s j n ∧ wtF h x s j n < 2 * h ∧ stM h (x + wtF h x s j n) = s ∧ ∀ m : Nat, (m : Int) < wtF h x s j n → stM h (x + m) ≠ s := by
  intro j
  induction j with
  | zero =>
    intro n n0 hn hall
    obtain ⟨m, hm, e⟩ := he
    exact absurd e (hall m (by omega))
  | succ j ih =>
    intro n n0 hn hall
    simp only [wtF]
    by_cases hs : stM h (x + n) = s
    · rw [if_pos hs]
      refine ⟨Int.le_refl _, by omega, hs, hall⟩
    · rw [if_neg hs]
      have := ih (n + 1) (by omega) (by omega) (fun m hm => by
        by_cases e : (m : Int) = n
        · rw [e]; exact hs
        · exact hall m (by omega))
      exact ⟨by omega, this.2⟩
theorem wt_spec {h x s : Int} (hh : 2 ≤ h ∧ h ≤ 24) (h1 : 1 ≤ s) (h2 : s ≤ h) (hx : 0 ≤ x ∧ x < 2 * h) :
    0 ≤ wt h x s ∧ wt h x s < 2 * h ∧ stM h (x + wt h x s) = s ∧ ∀ m : Nat, (m : Int) < wt h x s → stM h (x + m) ≠ s := by
  have := wtF_spec (strikes hh h1 h2 hx) (2 * h).toNat 0 (by omega) (by omega) (fun m hm => by omega)
  exact this
theorem bestK_spec {h : Int} (hh : 2 ≤ h ∧ h ≤ 24) (N : Nat) (hN : 1 ≤ N) : ∀ k : Nat, (∀ x : Nat, x < k → ws h x N ≤ (bestK h N k).2) ∧ (1 ≤ k → ∃ f : Nat, (bestK h N k).1 = f ∧ f < k ∧ ws h f N = (bestK h N k).2 ∧ ∀ x : Nat, x < f → ws h x N < (bestK h N k).2) := by
  intro k
  induction k with
  | zero => exact ⟨fun x hx => absurd hx (Nat.not_lt_zero _), fun h => absurd h (by omega)⟩
  | succ k ih =>
    obtain ⟨h1, h2⟩ := ih
    have hw := ws_bd (h := h) (x := (k : Int)) hh N
    simp only [bestK]
    by_cases hc : ws h k N > (bestK h N k).2
    · rw [if_pos hc]
      refine ⟨fun x hx => ?_, fun _ => ⟨k, rfl, by omega, rfl, fun x hx => ?_⟩⟩
      · by_cases e : x = k
        · subst e; exact Int.le_refl _
        · have := h1 x (by omega)
          show ws h x N ≤ ws h k N
          omega
      · have := h1 x hx
        show ws h x N < ws h k N
        omega
    · rw [if_neg hc]
      have hk : 1 ≤ k := by
        rcases Nat.eq_zero_or_pos k with e | e
        · subst e
          simp only [bestK] at hc
          omega
        · exact e
      refine ⟨fun x hx => ?_, fun _ => ?_⟩
      · by_cases e : x = k
        · subst e; omega
        · exact h1 x (by omega)
      · obtain ⟨f, f1, f2, f3, f4⟩ := h2 hk
        exact ⟨f, f1, by omega, f3, f4⟩
/-- The strokes of some halves, by the sum up to them. -/
theorem betw_ws {h : Int} (hh : 2 ≤ h ∧ h ≤ 24) (x N : Nat) (hN : 1 ≤ N) (hx : (x : Int) + N ≤ 1000000) : betwR h x (x + N - 1) = (ws h x N, true) := by
  unfold betwR
  have i1 : inB h 2 24 = true := by simp [inB]; omega
  have i2 : inB (x : Int) 0 1000000 = true := by simp [inB]; omega
  have i3 : inB ((x : Int) + N - 1) 0 1000000 = true := by simp [inB]; omega
  simp only [i1, i2, i3, Bool.and_self, if_true]
  rw [if_neg (by omega), show (x : Int) + N - 1 + 1 = x + N by omega, sb_ws hh (by omega)]
  congr 1; omega
theorem atR_mod {h x : Int} (hh : 2 ≤ h ∧ h ≤ 24) : atR h (x % (2 * h)) = (stM h x, true) := by
  obtain ⟨m1, m2⟩ := mod_bd x hh
  unfold atR halfB
  have i1 : inB h 2 24 = true := by simp [inB]; omega
  have i2 : inB (x % (2 * h)) 0 (2 * h - 1) = true := by simp [inB]; omega
  rw [i1, i2]; rfl
end Go.Proofs.Yteamijcnejjmjaa
