/- Strokes: the numbers alone. -/
import Derived.Test.YteamijcnejjmjaaLeaf
set_option linter.unusedSimpArgs false
set_option linter.unusedVariables false
set_option maxRecDepth 100000
namespace Go.Proofs.Yteamijcnejjmjaa

/-- The strokes at a half. -/
def stA (h x : Int) : Int := if x % 2 = 1 then 1 else if x = 0 then h else x / 2
/-- Those at a half that is counted on and on. -/
def stM (h x : Int) : Int := stA h (x % (2 * h))
/-- Those of a whole turn. -/
def stT (h : Int) : Int := h * (h + 1) / 2 + h
/-- Those of the first halves. -/
def sumSt (h : Int) : Nat → Int
  | 0 => 0
  | k + 1 => sumSt h k + stM h k
/-- Those before a half that is counted on and on. -/
def sb (h n : Int) : Int := n / (2 * h) * stT h + sumSt h (n % (2 * h)).toNat

theorem stA_bd {h x : Int} (hh : 2 ≤ h ∧ h ≤ 24) (h0 : 0 ≤ x) (h1 : x < 2 * h) : 1 ≤ stA h x ∧ stA h x ≤ h := by
  unfold stA; split <;> (try split) <;> omega
theorem mod_bd {h : Int} (x : Int) (hh : 2 ≤ h ∧ h ≤ 24) : 0 ≤ x % (2 * h) ∧ x % (2 * h) < 2 * h := ⟨Int.emod_nonneg _ (by omega), Int.emod_lt_of_pos _ (by omega)⟩
theorem stM_bd {h : Int} (x : Int) (hh : 2 ≤ h ∧ h ≤ 24) : 1 ≤ stM h x ∧ stM h x ≤ h := stA_bd hh (mod_bd x hh).1 (mod_bd x hh).2
theorem stM_small {h x : Int} (h0 : 0 ≤ x) (h1 : x < 2 * h) : stM h x = stA h x := by unfold stM; rw [Int.emod_eq_of_lt h0 h1]
theorem stM_mod {h : Int} (x : Int) : stM h (x % (2 * h)) = stM h x := by unfold stM; rw [Int.emod_emod]
theorem stM_add {h : Int} (x t : Int) : stM h (x + 2 * h * t) = stM h x := by unfold stM; rw [Int.add_mul_emod_self_left]
theorem stM_mod_add {h : Int} (x y : Int) : stM h (x % (2 * h) + y) = stM h (x + y) := by unfold stM; rw [Int.emod_add_emod]
theorem all_h {P : Int → Prop} (H : ∀ k : Fin 23, P ((k.val : Int) + 2)) {h : Int} (hh : 2 ≤ h ∧ h ≤ 24) : P h := by
  have := H ⟨(h - 2).toNat, by omega⟩
  simp only at this
  rwa [show ((h - 2).toNat : Int) + 2 = h by omega] at this
theorem stT_bd {h : Int} (hh : 2 ≤ h ∧ h ≤ 24) : 5 ≤ stT h ∧ stT h ≤ 324 := all_h (P := fun h => 5 ≤ stT h ∧ stT h ≤ 324) (by decide +kernel) hh
theorem mul_bd {h : Int} (hh : 2 ≤ h ∧ h ≤ 24) : 6 ≤ h * (h + 1) ∧ h * (h + 1) ≤ 600 := all_h (P := fun h => 6 ≤ h * (h + 1) ∧ h * (h + 1) ≤ 600) (by decide +kernel) hh
theorem sum_full {h : Int} (hh : 2 ≤ h ∧ h ≤ 24) : sumSt h (2 * h).toNat = stT h := all_h (P := fun h => sumSt h (2 * h).toNat = stT h) (by decide +kernel) hh
theorem sum_bd {h : Int} (hh : 2 ≤ h ∧ h ≤ 24) (k : Nat) : 0 ≤ sumSt h k ∧ sumSt h k ≤ 24 * k := by
  induction k with
  | zero => simp [sumSt]
  | succ k ih => have := stM_bd (h := h) k hh; simp only [sumSt]; omega
theorem sb_bd {h n : Int} (hh : 2 ≤ h ∧ h ≤ 24) (h0 : 0 ≤ n) (h1 : n ≤ 1000001) : 0 ≤ sb h n ∧ sb h n ≤ 400000000 := by
  have a := stT_bd hh
  have b := mod_bd n hh
  have c := sum_bd hh (n % (2 * h)).toNat
  have d : 0 ≤ n / (2 * h) ∧ n / (2 * h) ≤ 1000001 := ⟨Int.ediv_nonneg h0 (by omega), Int.le_trans (Int.ediv_le_self _ h0) h1⟩
  have e : 0 ≤ n / (2 * h) * stT h := Int.mul_nonneg d.1 (by omega)
  have f : n / (2 * h) * stT h ≤ 1000001 * 324 := Int.mul_le_mul d.2 a.2 (by omega) (by omega)
  unfold sb; omega
theorem sb_succ {h n : Int} (hh : 2 ≤ h ∧ h ≤ 24) (h0 : 0 ≤ n) : sb h (n + 1) = sb h n + stM h n := by
  have hd := Int.mul_ediv_add_emod n (2 * h)
  have b := mod_bd n hh
  unfold sb
  have hm : stM h n = stM h (n % (2 * h)) := (stM_mod n).symm
  generalize n / (2 * h) = q at *
  generalize n % (2 * h) = r at *
  have hs : sumSt h (r + 1).toNat = sumSt h r.toNat + stM h r := by
    rw [show (r + 1).toNat = r.toNat + 1 by omega]
    simp only [sumSt]
    rw [show ((r.toNat : Nat) : Int) = r by omega]
  by_cases hr : r + 1 < 2 * h
  · have e1 : (n + 1) / (2 * h) = q := by
      rw [← hd, show 2 * h * q + r + 1 = (r + 1) + 2 * h * q by omega, Int.add_mul_ediv_left _ _ (by omega), Int.ediv_eq_zero_of_lt (by omega) hr]; omega
    have e2 : (n + 1) % (2 * h) = r + 1 := by
      rw [← hd, show 2 * h * q + r + 1 = (r + 1) + 2 * h * q by omega, Int.add_mul_emod_self_left, Int.emod_eq_of_lt (by omega) hr]
    rw [e1, e2, hs, hm]; omega
  · have hr' : r + 1 = 2 * h := by omega
    have e1 : (n + 1) / (2 * h) = q + 1 := by
      rw [← hd, show 2 * h * q + r + 1 = 0 + 2 * h * (q + 1) by rw [Int.mul_add]; omega, Int.add_mul_ediv_left _ _ (by omega)]; simp
    have e2 : (n + 1) % (2 * h) = 0 := by
      rw [← hd, show 2 * h * q + r + 1 = 0 + 2 * h * (q + 1) by rw [Int.mul_add]; omega, Int.add_mul_emod_self_left]; simp
    rw [hr', sum_full hh] at hs
    rw [e1, e2, hm, Int.add_mul]
    simp [sumSt]
    omega

/-! ### At which half a stroke is struck -/
def fsF (h : Int) : Nat → Int → Int → Int × Int
  | 0, x, n => (x, n)
  | k + 1, x, n => if stM h x < n then fsF h k (x + 1) (n - stM h x) else (x, n)
theorem fsF_enough {h : Int} (hh : 2 ≤ h ∧ h ≤ 24) : ∀ (k j : Nat) (x n : Int), n.toNat ≤ k → n.toNat ≤ j → fsF h k x n = fsF h j x n := by
  intro k
  induction k with
  | zero =>
    intro j x n h1 _
    cases j with
    | zero => rfl
    | succ j => have := stM_bd (h := h) x hh; simp only [fsF]; rw [if_neg (by omega)]
  | succ k ih =>
    intro j x n h1 h2
    have := stM_bd (h := h) x hh
    cases j with
    | zero => simp only [fsF]; rw [if_neg (by omega)]
    | succ j =>
      simp only [fsF]
      by_cases hc : stM h x < n
      · rw [if_pos hc, if_pos hc]; exact ih j _ _ (by omega) (by omega)
      · rw [if_neg hc, if_neg hc]
def fs (h x n : Int) : Int × Int := fsF h n.toNat x n
theorem fs_more {h x n : Int} (hh : 2 ≤ h ∧ h ≤ 24) (hc : stM h x < n) : fs h x n = fs h (x + 1) (n - stM h x) := by
  have := stM_bd (h := h) x hh
  unfold fs
  rw [fsF_enough hh n.toNat (n.toNat - 1 + 1) x n (Nat.le_refl _) (by omega)]
  simp only [fsF]
  rw [if_pos hc]
  exact fsF_enough hh _ _ _ _ (by omega) (Nat.le_refl _)
theorem fs_done {h x n : Int} (hc : ¬ stM h x < n) : fs h x n = (x, n) := by
  unfold fs
  cases n.toNat with
  | zero => rfl
  | succ k => simp only [fsF]; rw [if_neg hc]
theorem fs_bd {h : Int} (hh : 2 ≤ h ∧ h ≤ 24) (k : Nat) : ∀ x n : Int, n.toNat ≤ k → 1 ≤ n → x ≤ (fs h x n).1 ∧ (fs h x n).1 ≤ x + n ∧ 1 ≤ (fs h x n).2 ∧ (fs h x n).2 ≤ n := by
  induction k with
  | zero => intro x n h1 h2; omega
  | succ k ih =>
    intro x n h1 h2
    have := stM_bd (h := h) x hh
    by_cases hc : stM h x < n
    · rw [fs_more hh hc]
      have := ih (x + 1) (n - stM h x) (by omega) (by omega)
      omega
    · rw [fs_done hc]; simp only; omega
theorem fs_shift {h : Int} (hh : 2 ≤ h ∧ h ≤ 24) (t : Int) (k : Nat) : ∀ x n : Int, n.toNat ≤ k → (fs h (x + 2 * h * t) n).1 = (fs h x n).1 + 2 * h * t := by
  induction k with
  | zero =>
    intro x n h1
    have := stM_bd (h := h) x hh
    rw [fs_done (show ¬ stM h x < n by omega), fs_done (by rw [stM_add]; omega)]
  | succ k ih =>
    intro x n h1
    have := stM_bd (h := h) x hh
    by_cases hc : stM h x < n
    · rw [fs_more hh hc, fs_more hh (by rw [stM_add]; exact hc), stM_add]
      have := ih (x + 1) (n - stM h x) (by omega)
      rw [← this]
      congr 2; omega
    · rw [fs_done hc, fs_done (by rw [stM_add]; exact hc)]

/-! ### The wheel that has struck so many -/
def hwF (h : Int) : Nat → Int → Int → Int
  | 0, x, _ => x
  | k + 1, x, n => if 0 < n then hwF h k ((x + 1) % (2 * h)) (n - stM h ((x + 1) % (2 * h))) else x
theorem hwF_enough {h : Int} (hh : 2 ≤ h ∧ h ≤ 24) : ∀ (k j : Nat) (x n : Int), n.toNat ≤ k → n.toNat ≤ j → hwF h k x n = hwF h j x n := by
  intro k
  induction k with
  | zero =>
    intro j x n h1 _
    cases j with
    | zero => rfl
    | succ j => simp only [hwF]; rw [if_neg (by omega)]
  | succ k ih =>
    intro j x n h1 h2
    have := stM_bd (h := h) ((x + 1) % (2 * h)) hh
    cases j with
    | zero => simp only [hwF]; rw [if_neg (by omega)]
    | succ j =>
      simp only [hwF]
      by_cases hc : 0 < n
      · rw [if_pos hc, if_pos hc]; exact ih j _ _ (by omega) (by omega)
      · rw [if_neg hc, if_neg hc]
def hw (h x n : Int) : Int := hwF h n.toNat x n
theorem hw_more {h x n : Int} (hh : 2 ≤ h ∧ h ≤ 24) (hc : 0 < n) : hw h x n = hw h ((x + 1) % (2 * h)) (n - stM h ((x + 1) % (2 * h))) := by
  have := stM_bd (h := h) ((x + 1) % (2 * h)) hh
  unfold hw
  rw [hwF_enough hh n.toNat (n.toNat - 1 + 1) x n (Nat.le_refl _) (by omega)]
  simp only [hwF]
  rw [if_pos hc]
  exact hwF_enough hh _ _ _ _ (by omega) (Nat.le_refl _)
theorem hw_done {h x n : Int} (hc : ¬ 0 < n) : hw h x n = x := by
  unfold hw
  cases n.toNat with
  | zero => rfl
  | succ k => simp only [hwF]; rw [if_neg hc]
theorem hw_fs {h : Int} (hh : 2 ≤ h ∧ h ≤ 24) (k : Nat) : ∀ x n : Int, n.toNat ≤ k → 0 < n → hw h (x % (2 * h)) n = (fs h (x + 1) n).1 % (2 * h) := by
  induction k with
  | zero => intro x n h1 h2; omega
  | succ k ih =>
    intro x n h1 h2
    have hb := stM_bd (h := h) (x + 1) hh
    have e : (x % (2 * h) + 1) % (2 * h) = (x + 1) % (2 * h) := Int.emod_add_emod _ _ _
    rw [hw_more hh h2, e, stM_mod]
    by_cases hc : stM h (x + 1) < n
    · rw [fs_more hh hc]
      exact ih (x + 1) _ (by omega) (by omega)
    · rw [fs_done hc, hw_done (by omega)]
/-- The strokes of some halves one behind the other. -/
def ws (h x : Int) : Nat → Int
  | 0 => 0
  | k + 1 => ws h x k + stM h (x + k)
theorem ws_first {h x : Int} (k : Nat) : ws h x (k + 1) = stM h x + ws h (x + 1) k := by
  induction k with
  | zero => simp [ws]
  | succ k ih =>
    rw [ws, ih]
    simp only [ws]
    rw [show x + ((k + 1 : Nat) : Int) = x + 1 + (k : Int) by omega]
    omega
theorem ws_bd {h x : Int} (hh : 2 ≤ h ∧ h ≤ 24) (k : Nat) : (k : Int) ≤ ws h x k ∧ ws h x k ≤ 24 * k := by
  induction k with
  | zero => simp [ws]
  | succ k ih => have := stM_bd (h := h) (x + k) hh; simp only [ws]; omega
theorem sb_ws {h x : Int} (hh : 2 ≤ h ∧ h ≤ 24) (h0 : 0 ≤ x) (k : Nat) : sb h (x + k) = sb h x + ws h x k := by
  induction k with
  | zero => simp [ws]
  | succ k ih =>
    rw [show x + ((k + 1 : Nat) : Int) = (x + k) + 1 by omega, sb_succ hh (by omega), ih]
    simp only [ws]; omega
theorem fs_skip {h : Int} (hh : 2 ≤ h ∧ h ≤ 24) (k : Nat) : ∀ x n : Int, 1 ≤ n → fs h x (ws h x k + n) = fs h (x + k) n := by
  induction k with
  | zero => intro x n _; simp [ws]
  | succ k ih =>
    intro x n h1
    have := ws_bd (h := h) (x := x + 1) hh k
    rw [ws_first, fs_more hh (by omega), show stM h x + ws h (x + 1) k + n - stM h x = ws h (x + 1) k + n by omega, ih _ _ h1]
    congr 1; omega
/-- What the two ways to the wheel's half have in common. -/
theorem wheel_same {h s : Int} (hh : 2 ≤ h ∧ h ≤ 24) (h0 : 0 ≤ s) :
    hw h 0 (s % stT h) = (fs h ((h + s - 1) / stT h * 2 * h) (h + s - (h + s - 1) / stT h * stT h)).1 % (2 * h) := by
  have hT := stT_bd hh
  have h1T : h + 3 ≤ stT h := all_h (P := fun h => h + 3 ≤ stT h) (by decide +kernel) hh
  have hd := Int.mul_ediv_add_emod (h + s - 1) (stT h)
  have hm0 := Int.emod_nonneg (h + s - 1) (show stT h ≠ 0 by omega)
  have hm1 := Int.emod_lt_of_pos (h + s - 1) (show 0 < stT h by omega)
  generalize (h + s - 1) / stT h = t at *
  generalize (h + s - 1) % stT h = r at *
  have hst : h + s - t * stT h = r + 1 := by rw [Int.mul_comm t]; omega
  rw [hst, show t * 2 * h = 0 + 2 * h * t by rw [Int.mul_assoc, Int.mul_comm]; omega, fs_shift hh t (r + 1).toNat 0 (r + 1) (Nat.le_refl _), Int.add_mul_emod_self_left]
  have z : stM h 0 = h := by unfold stM stA; simp
  have hz : (0 : Int) % (2 * h) = 0 := by simp
  by_cases hr : h ≤ r
  · have e : s % stT h = r + 1 - h := by
      rw [show s = (r + 1 - h) + stT h * t by omega, Int.add_mul_emod_self_left, Int.emod_eq_of_lt (by omega) (by omega)]
    rw [e, fs_more hh (by omega), z]
    have := hw_fs hh (r + 1 - h).toNat 0 (r + 1 - h) (Nat.le_refl _) (by omega)
    rw [hz] at this
    exact this
  · rw [fs_done (by omega)]
    by_cases hr' : r + 1 = h
    · have e : s % stT h = 0 := by
        rw [show s = 0 + stT h * t by omega, Int.add_mul_emod_self_left]; simp
      rw [e, hw_done (by omega), hz]
    · have e : s % stT h = stT h - h + (r + 1) := by
        rw [show s = (stT h - h + (r + 1)) + stT h * (t - 1) by rw [Int.mul_sub]; omega, Int.add_mul_emod_self_left, Int.emod_eq_of_lt (by omega) (by omega)]
      have hw1 : ws h 1 (2 * h - 1).toNat = stT h - h := all_h (P := fun h => ws h 1 (2 * h - 1).toNat = stT h - h) (by decide +kernel) hh
      have := hw_fs hh (stT h - h + (r + 1)).toNat 0 (stT h - h + (r + 1)) (Nat.le_refl _) (by omega)
      rw [hz] at this
      rw [e, this, ← hw1, show (0 : Int) + 1 = 1 by rfl, fs_skip hh _ _ _ (by omega), show (1 : Int) + ((2 * h - 1).toNat : Int) = 0 + 2 * h * 1 by omega, fs_done (by rw [stM_add, z]; omega)]
      simp

/-! ### How long one waits -/
def wtF (h x s : Int) : Nat → Int → Int
  | 0, n => n
  | k + 1, n => if stM h (x + n) = s then n else wtF h x s k (n + 1)
def wt (h x s : Int) : Int := wtF h x s (2 * h).toNat 0
theorem strikes {h x s : Int} (hh : 2 ≤ h ∧ h ≤ 24) (h1 : 1 ≤ s) (h2 : s ≤ h) (hx : 0 ≤ x ∧ x < 2 * h) : ∃ m : Nat, (m : Int) < 2 * h ∧ stM h (x + m) = s := by
  have key : ∀ y : Int, 0 ≤ y → y < 2 * h → stA h y = s → ∃ m : Nat, (m : Int) < 2 * h ∧ stM h (x + m) = s := by
    intro y y0 y1 hy
    by_cases hxy : x ≤ y
    · exact ⟨(y - x).toNat, by omega, by rw [show x + ((y - x).toNat : Int) = y by omega, stM_small y0 y1, hy]⟩
    · exact ⟨(y - x + 2 * h).toNat, by omega, by rw [show x + ((y - x + 2 * h).toNat : Int) = y + 2 * h * 1 by omega, stM_add, stM_small y0 y1, hy]⟩
  by_cases hs : s = h
  · exact key 0 (by omega) (by omega) (by unfold stA; simp; omega)
  · exact key (2 * s) (by omega) (by omega) (by unfold stA; rw [if_neg (by omega), if_neg (by omega)]; omega)

/-! ### The wheel let off until it stands right -/
def gapW (h x w : Int) : Int := if w ≤ x then x - w else x - w + 2 * h
def mdF (h : Int) : Nat → Int → Int
  | 0, _ => 0
  | k + 1, w => stM h ((w + 1) % (2 * h)) + mdF h k ((w + 1) % (2 * h))
def md (h x w : Int) : Int := mdF h (gapW h x w).toNat w
theorem mdF_bd {h : Int} (hh : 2 ≤ h ∧ h ≤ 24) (k : Nat) : ∀ w : Int, 0 ≤ mdF h k w ∧ mdF h k w ≤ 24 * k := by
  induction k with
  | zero => intro w; simp [mdF]
  | succ k ih => intro w; have := stM_bd (h := h) ((w + 1) % (2 * h)) hh; have := ih ((w + 1) % (2 * h)); simp only [mdF]; omega
theorem gap_bd {h x w : Int} (hx : 0 ≤ x ∧ x < 2 * h) (hw : 0 ≤ w ∧ w < 2 * h) : 0 ≤ gapW h x w ∧ gapW h x w < 2 * h := by unfold gapW; split <;> omega
theorem gap_next {h x w : Int} (hx : 0 ≤ x ∧ x < 2 * h) (hw : 0 ≤ w ∧ w < 2 * h) (hne : w ≠ x) : gapW h x ((w + 1) % (2 * h)) = gapW h x w - 1 ∧ md h x w = stM h ((w + 1) % (2 * h)) + md h x ((w + 1) % (2 * h)) ∧ 1 ≤ gapW h x w := by
  have g1 : 1 ≤ gapW h x w := by unfold gapW; split <;> omega
  have g : gapW h x ((w + 1) % (2 * h)) = gapW h x w - 1 := by
    by_cases hl : w + 1 < 2 * h
    · rw [Int.emod_eq_of_lt (by omega) hl]; unfold gapW; split <;> split <;> omega
    · rw [show w + 1 = 2 * h by omega, Int.emod_self]; unfold gapW; split <;> split <;> omega
  refine ⟨g, ?_, g1⟩
  unfold md
  rw [g, show (gapW h x w).toNat = (gapW h x w - 1).toNat + 1 by omega]
  rfl
theorem gap_self {h x : Int} : gapW h x x = 0 ∧ md h x x = 0 := by
  have : gapW h x x = 0 := by unfold gapW; rw [if_pos (Int.le_refl _)]; omega
  exact ⟨this, by unfold md; rw [this]; rfl⟩
theorem gap_mod {h x w : Int} (hx : 0 ≤ x ∧ x < 2 * h) (hw : 0 ≤ w ∧ w < 2 * h) : (x - w + 2 * h) % (2 * h) = gapW h x w := by
  unfold gapW
  split
  · rw [show x - w + 2 * h = (x - w) + 2 * h * 1 by omega, Int.add_mul_emod_self_left, Int.emod_eq_of_lt (by omega) (by omega)]
  · rw [Int.emod_eq_of_lt (by omega) (by omega)]
end Go.Proofs.Yteamijcnejjmjaa
