/- Dials that are turned: what the law on them (FnDialsTurned) wants of the numbers alone. -/
import Derived.Test.YticdmochedadbaaGreatSeL
set_option linter.unusedSimpArgs false
set_option linter.unusedVariables false
set_option maxRecDepth 100000
namespace Go.Proofs.YticdmochedadbaaGreat
open Go.RowKit

/-- A time with an angle has it. -/
theorem parts_angle {m n d : Int} {j : Nat} (hm : 1 ≤ m) (g : goodB n d = true) : lowNum ((twl m n d j).1 * m) (twl m n d j).2 = n ∧ lowDen ((twl m n d j).1 * m) (twl m n d j).2 = d := by
  obtain ⟨d1, -, -, -⟩ := goodB_bd g
  have hD : 1 ≤ d * m := Int.mul_pos (by omega) (by omega)
  obtain ⟨u1, u2⟩ := low_times (h := m) (k := n + j * d) (N := d * m) hD
  unfold twl
  simp only
  rw [u1, u2]
  obtain ⟨e1, e2⟩ := goodB_low g
  have := (low_same ((n + j * d) * m) (d * m) n d hD d1).2 ⟨j, by grind⟩
  rw [this.1, this.2, e1, e2]
  exact ⟨rfl, rfl⟩
/-- The long hand at a turned time, turned back, stands where it was seen. -/
theorem turned_long {h a b c e x y p q : Int} (gs : seenB a b c e = true) (gx : goodB x y = true) (h1 : lowNum (x * (h - 1)) y = apN a b c e ∧ lowDen (x * (h - 1)) y = apD a b c e)
    (hl : lessT a b x y = (p, q, true)) (hL : goodB (lowNum (x * h) y) (lowDen (x * h) y) = true) : addT (lowNum (x * h) y) (lowDen (x * h) y) p q = (c, e, true) := by
  obtain ⟨g1, -, g3, hm⟩ := lessT_ok hl
  simp only [seenB, Bool.and_eq_true] at gs
  obtain ⟨b1, -⟩ := goodB_bd gs.1
  obtain ⟨e1, e2, -⟩ := goodB_bd gs.2
  obtain ⟨y1, -⟩ := goodB_bd gx
  obtain ⟨q1, -⟩ := goodB_bd g3
  obtain ⟨l1, -⟩ := goodB_bd hL
  have hby : 1 ≤ b * y := Int.mul_pos (by omega) (by omega)
  have heb : 1 ≤ e * b := Int.mul_pos (by omega) (by omega)
  obtain ⟨-, p1, p2⟩ := mk_good hby hm
  obtain ⟨k1, hk1⟩ := (low_same (x * (h - 1)) y (c * b - a * e) (e * b) y1 heb).1 h1
  obtain ⟨gl1, gl2⟩ := goodB_low hL
  obtain ⟨k2, hk2⟩ := (low_same (lowNum (x * h) y) (lowDen (x * h) y) (x * h) y l1 y1).1 ⟨gl1, gl2⟩
  obtain ⟨gp1, gp2⟩ := goodB_low g3
  obtain ⟨k3, hk3⟩ := (low_same p q (a * y - x * b) (b * y) q1 hby).1 ⟨by rw [gp1, p1], by rw [gp2, p2]⟩
  obtain ⟨gc1, gc2⟩ := goodB_low gs.2
  unfold addT
  rw [hL, g3, Bool.and_true, if_pos rfl]
  generalize lowNum (x * h) y = u at *
  generalize lowDen (x * h) y = v at *
  have hvq : 1 ≤ v * q := Int.mul_pos (by omega) (by omega)
  have key : v * q * e ∣ (u * q + p * v) * e - c * (v * q) := by
    refine ⟨k1 + k2 + k3, ?_⟩
    refine Int.eq_of_mul_eq_mul_left (show y * (b * y) * (e * b) ≠ 0 from by
      have h3 : 1 ≤ y * (b * y) := Int.mul_pos (by omega) (by omega)
      have h4 : 1 ≤ y * (b * y) * (e * b) := Int.mul_pos (by omega) (by omega)
      omega) ?_
    grind
  obtain ⟨r1, r2⟩ := (low_same (u * q + p * v) (v * q) c e hvq e1).2 key
  unfold mk
  rw [r1, r2, gc1, gc2, if_pos e2]
/-- Mirrored twice. -/
theorem low_mir {a b : Int} (g : goodB a b = true) : lowNum (-lowNum (-a) b) (lowDen (-a) b) = a ∧ lowDen (-lowNum (-a) b) (lowDen (-a) b) = b := by
  obtain ⟨b1, -⟩ := goodB_bd g
  obtain ⟨u1, u2⟩ := low_times (h := -1) (k := -a) (N := b) b1
  rw [show lowNum (-a) b * -1 = -lowNum (-a) b from by omega, show -a * -1 = a from by omega] at u1 u2
  obtain ⟨e1, e2⟩ := goodB_low g
  exact ⟨by rw [u1, e1], by rw [u2, e2]⟩
theorem mirQ_mirQ {a b c e : Int} (g : seenB a b c e = true) : mirQ (mirQ a b c e).1 (mirQ a b c e).2.1 (mirQ a b c e).2.2.1 (mirQ a b c e).2.2.2 = (a, b, c, e) := by
  simp only [seenB, Bool.and_eq_true] at g
  obtain ⟨u1, u2⟩ := low_mir g.1
  obtain ⟨v1, v2⟩ := low_mir g.2
  simp only [mirQ]
  rw [u1, u2, v1, v2]
/-- What is seen in the glass is true where what is seen is. -/
theorem true_mir {h a b c e : Int} (g : seenB a b c e = true) : trueB h (mirQ a b c e).1 (mirQ a b c e).2.1 (mirQ a b c e).2.2.1 (mirQ a b c e).2.2.2 = trueB h a b c e := by
  simp only [seenB, Bool.and_eq_true] at g
  obtain ⟨b1, -⟩ := goodB_bd g.1
  obtain ⟨e1, -⟩ := goodB_bd g.2
  obtain ⟨u1, u2⟩ := low_times (h := h) (k := -a) (N := b) b1
  obtain ⟨l1, l2⟩ := goodB_low g.2
  unfold trueB
  simp only [mirQ]
  rw [u1, u2, Bool.eq_iff_iff, eqT_iff, eqT_iff]
  have k1 := low_same (-a * h) b (-c) e b1 e1
  have k2 := low_same (a * h) b c e b1 e1
  rw [l1, l2] at k2
  rw [k1, k2]
  constructor
  · rintro ⟨x, hx⟩
    exact ⟨-x, by grind⟩
  · rintro ⟨x, hx⟩
    exact ⟨-x, by grind⟩
/-- The times in the glass: at most two, each with its mirrored one, and the same for what is mirrored. -/
theorem glass_ok {h a b c e : Int} (k : seAskB h a b c e = true) :
    (twoR h a b c e (mirQ a b c e)).2 = true ∧ Rises (twoR h a b c e (mirQ a b c e)).1 ∧ (twoR h a b c e (mirQ a b c e)).1.length ≤ 2 ∧
    (∀ x ∈ (twoR h a b c e (mirQ a b c e)).1, goodB x.1 x.2 = true ∧ (lowNum (-x.1) x.2, lowDen (-x.1) x.2) ∈ (twoR h a b c e (mirQ a b c e)).1) ∧
    twoR h (mirQ a b c e).1 (mirQ a b c e).2.1 (mirQ a b c e).2.2.1 (mirQ a b c e).2.2.2 (a, b, c, e) = twoR h a b c e (mirQ a b c e) := by
  have k' := k
  simp only [seAskB, Bool.and_eq_true] at k'
  have gm := mirQ_good k'.2
  have hm : seAskB h (mirQ a b c e).1 (mirQ a b c e).2.1 (mirQ a b c e).2.2.1 (mirQ a b c e).2.2.2 = true := by
    unfold seAskB; rw [k'.1, show seenB (mirQ a b c e).1 (mirQ a b c e).2.1 (mirQ a b c e).2.2.1 (mirQ a b c e).2.2.2 = true from gm]; rfl
  have ht := true_mir (h := h) k'.2
  have g0 : AllGood (accT h (a, b, c, e) (mirQ a b c e) 2) := accT_good (show G4 (a, b, c, e) from k'.2) gm 2
  have g1 : AllGood (accT h (mirQ a b c e) (a, b, c, e) 2) := accT_good gm (show G4 (a, b, c, e) from k'.2) 2
  obtain ⟨i0, i1, i2⟩ := insAll_good g0
  obtain ⟨j0, j1, j2⟩ := insAll_good g1
  have hsame : insAll (accT h (mirQ a b c e) (a, b, c, e) 2) = insAll (accT h (a, b, c, e) (mirQ a b c e) 2) := by
    refine strict_ext _ _ j1 i1 fun x => ?_
    rw [i2, j2]
    simp only [accT, List.mem_append]
    exact Or.comm
  have hT : twoR h a b c e (mirQ a b c e) = (insAll (accT h (a, b, c, e) (mirQ a b c e) 2), true) := by unfold twoR; rw [if_pos k]
  rw [hT]
  refine ⟨rfl, rises_strict i0 i1, Nat.le_trans (insAll_len _) (accT_len _ _ _ _), fun x hx => ⟨i0 x hx, (i2 _).2 ?_⟩, ?_⟩
  · have hx' := (i2 x).1 hx
    obtain ⟨u1, u2⟩ := low_mir (show goodB a b = true from by have := k'.2; simp only [seenB, Bool.and_eq_true] at this; exact this.1)
    simp only [accT, List.mem_append, pickT] at hx' ⊢
    rw [ht] at hx' ⊢
    by_cases hb : trueB h a b c e = true
    case neg => rw [if_neg hb, if_neg hb] at hx'; simp at hx'
    · rw [if_pos hb, if_pos hb] at hx' ⊢
      simp only [List.mem_singleton] at hx' ⊢
      rcases hx' with rfl | rfl
      · right; rfl
      · left; simp only [mirQ] at u1 u2 ⊢; rw [u1, u2]
  · unfold twoR
    rw [if_pos hm]
    rw [hsame]
/-- Turned, and turned back. -/
theorem add_away {a b n m x y p q : Int} (h : addT a b n m = (x, y, true)) (h' : mirrorT n m = (p, q, true)) : addT x y p q = (a, b, true) := by
  obtain ⟨g1, g2, g3, hm⟩ := addT_ok h
  unfold mirrorT at h'
  rw [if_pos g2] at h'
  simp only [Prod.mk.injEq, and_true] at h'
  obtain ⟨e1, e2⟩ := h'
  obtain ⟨b1, -⟩ := goodB_bd g1
  obtain ⟨m1, m2, -⟩ := goodB_bd g2
  obtain ⟨y1, -⟩ := goodB_bd g3
  have hbm : 1 ≤ b * m := Int.mul_pos (by omega) (by omega)
  obtain ⟨-, p1, p2⟩ := mk_good hbm hm
  have lb := low_bd (-n) m m1
  have gq : goodB p q = true := by rw [← e1, ← e2]; exact good_low_of _ _ m1 (by omega)
  obtain ⟨q1, -⟩ := goodB_bd gq
  obtain ⟨g, k, hg, s1, s2⟩ := gc_split (-n) m m1
  obtain ⟨g', k', hg', t1, t2⟩ := gc_split (a * m + n * b) (b * m) hbm
  rw [e2] at s1
  rw [e1] at s2
  rw [p2] at t1
  rw [p1] at t2
  unfold addT
  rw [g3, gq, Bool.and_true, if_pos rfl]
  have hyq : 1 ≤ y * q := Int.mul_pos (by omega) (by omega)
  refine mk_eq_of hyq g1 ⟨-(k + k'), ?_⟩ rfl
  refine Int.eq_of_mul_eq_mul_left (show g' * g ≠ 0 from by have := Int.mul_pos (show 0 < g' by omega) (show 0 < g by omega); omega) ?_
  have u1 : g' * g * ((x * q + p * y) * b - a * (y * q)) = (g' * x) * (g * q) * b + (g * p) * (g' * y) * b - a * (g' * y) * (g * q) := by grind
  have u2 : g' * g * (y * q * b * -(k + k')) = (g' * y) * (g * q) * b * -(k + k') := by grind
  have u3 : g' * x = a * m + n * b - b * m * k' := by omega
  have u4 : g * p = -n - m * k := by omega
  rw [u1, u2, u3, u4, ← s1, ← t1]
  grind
/-- Where the hands are true, the short one's time is among the times of the turned dial. -/
theorem short_in {h a b c e : Int} (k : seAskB h a b c e = true) (ht : trueB h a b c e = true) (hok : partsOk (h - 1) (apN a b c e) (apD a b c e) = true) : (a, b) ∈ partsL (h - 1) (apN a b c e) (apD a b c e) := by
  simp only [seAskB, Bool.and_eq_true] at k
  have hh := inB_bd k.1
  have gs := k.2
  simp only [seenB, Bool.and_eq_true] at gs
  obtain ⟨b1, b2, a1, a2, -⟩ := (goodB_iff _ _).1 gs.1
  obtain ⟨e1, -⟩ := goodB_bd gs.2
  unfold trueB at ht
  obtain ⟨r1, r2⟩ := eqT_iff.1 ht
  obtain ⟨g2, k2, hg2, q1, q2⟩ := gc_split (a * h) b b1
  rw [r2] at q1
  rw [r1] at q2
  have heb : 1 ≤ e * b := Int.mul_pos (by omega) (by omega)
  obtain ⟨g, k0, hg, p1, p2⟩ := gc_split (c * b - a * e) (e * b) heb
  have lb := low_bd (c * b - a * e) (e * b) heb
  have ll := low_lt (c * b - a * e) (e * b) heb
  obtain ⟨la1, la2⟩ := goodB_low gs.1
  unfold partsL
  rw [if_pos hok]
  unfold apN apD
  generalize lowNum (c * b - a * e) (e * b) = n at *
  generalize lowDen (c * b - a * e) (e * b) = d at *
  have E : a * (h - 1) * d = (n + (k0 + k2) * d) * b := by
    refine Int.eq_of_mul_eq_mul_left (show g ≠ 0 by omega) ?_
    have t1 : g * (a * (h - 1) * d) = a * (h - 1) * (g * d) := by grind
    have t2 : g * ((n + (k0 + k2) * d) * b) = (g * n) * b + (k0 + k2) * (g * d) * b := by grind
    have t3 : g * n = c * b - a * e - e * b * k0 := by omega
    rw [t1, t2, t3, ← p1]
    have t4 : a * (h - 1) * (e * b) = b * e * (a * h) - a * (e * b) := by grind
    rw [t4, q2]
    grind
  obtain ⟨j, hj⟩ : ∃ j, k0 + k2 = j := ⟨_, rfl⟩
  rw [hj] at E
  have x0 : 0 ≤ a * (h - 1) := Int.mul_nonneg a1 (by omega)
  have x1 : 0 ≤ a * (h - 1) * d := Int.mul_nonneg x0 (by omega)
  have j0 : 0 ≤ j := by
    by_cases hn : 0 ≤ j
    · exact hn
    · have u : j * d ≤ -1 * d := Int.mul_le_mul_of_nonneg_right (by omega) (by omega)
      have v : (n + j * d) * b ≤ -1 * b := Int.mul_le_mul_of_nonneg_right (by omega) (by omega)
      omega
  have j1 : j < h - 1 := by
    by_cases hn : j < h - 1
    · exact hn
    · have u : (h - 1) * d ≤ j * d := Int.mul_le_mul_of_nonneg_right (by omega) (by omega)
      have v : ((h - 1) * d) * b ≤ (n + j * d) * b := Int.mul_le_mul_of_nonneg_right (by omega) (by omega)
      have y : 1 ≤ (h - 1) * d := Int.mul_pos (by omega) (by omega)
      have z : a * ((h - 1) * d) < b * ((h - 1) * d) := Int.mul_lt_mul_of_pos_right (by omega) (by omega)
      have z1 : a * ((h - 1) * d) = a * (h - 1) * d := by grind
      have z2 : b * ((h - 1) * d) = ((h - 1) * d) * b := by grind
      omega
  refine List.mem_map.2 ⟨j.toNat, List.mem_range.2 (by omega), ?_⟩
  have hD : 1 ≤ d * (h - 1) := Int.mul_pos (by omega) (by omega)
  have hjj : ((j.toNat : Nat) : Int) = j := by omega
  have key := (low_same (n + j * d) (d * (h - 1)) a b hD b1).2 ⟨0, by
    have z1 : a * (d * (h - 1)) = a * (h - 1) * d := by grind
    rw [z1, E]; grind⟩
  rw [la1, la2] at key
  unfold twl
  rw [hjj, key.1, key.2]
end Go.Proofs.YticdmochedadbaaGreat
