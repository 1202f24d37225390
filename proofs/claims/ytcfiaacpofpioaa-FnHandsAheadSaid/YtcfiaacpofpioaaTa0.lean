/- Turns added, taken away, turned round, multiplied and divided: what the laws of chapter 1 want of the numbers alone. -/
import Derived.Test.YtcfiaacpofpioaaDial3
import Derived.Test.YtcfiaacpofpioaaLowSame
set_option linter.unusedSimpArgs false
set_option linter.unusedVariables false
set_option maxRecDepth 100000
namespace Go.Proofs.Ytcfiaacpofpioaa
open Go.RowKit

theorem goodB_low {n d : Int} (h : goodB n d = true) : lowNum n d = n ∧ lowDen n d = d := by
  obtain ⟨h1, h2, h3, h4, h5⟩ := (goodB_iff _ _).1 h
  have e : n % d = n := Int.emod_eq_of_lt h3 (by omega)
  unfold lowNum lowDen
  rw [e, h5]
  simp
theorem mk_good {m D n d : Int} (hD : 1 ≤ D) (h : mk m D = (n, d, true)) : goodB n d = true ∧ lowNum m D = n ∧ lowDen m D = d := by
  unfold mk at h
  split at h
  · rename_i hl
    simp only [Prod.mk.injEq, and_true] at h
    obtain ⟨rfl, rfl⟩ := h
    have b := low_bd m D hD
    have l := low_lt m D hD
    exact ⟨(goodB_iff _ _).2 ⟨b.2.1, hl, b.1, by omega, gc_low m D hD⟩, rfl, rfl⟩
  · simp [fail3] at h
theorem mk_same {m D n d : Int} (hD : 1 ≤ D) (hg : goodB n d = true) (hs : D * d ∣ m * d - n * D) : mk m D = (n, d, true) := by
  obtain ⟨h1, h2, -⟩ := (goodB_iff _ _).1 hg
  obtain ⟨e1, e2⟩ := goodB_low hg
  have h := (low_same m D n d hD h1).2 hs
  rw [e1, e2] at h
  unfold mk
  rw [h.1, h.2, if_pos h2]
/-- Of two numbers that are the same but for whole turns. -/
theorem mk_eq_of {m D n d : Int} {r : Int × Int × Bool} (hD : 1 ≤ D) (hg : goodB n d = true) (hs : D * d ∣ m * d - n * D) (h : mk m D = r) : r = (n, d, true) := by
  rw [← h]; exact mk_same hD hg hs
theorem addT_ok {a b c d x y : Int} (h : addT a b c d = (x, y, true)) : goodB a b = true ∧ goodB c d = true ∧ goodB x y = true ∧ mk (a * d + c * b) (b * d) = (x, y, true) := by
  unfold addT at h
  split at h
  · rename_i g
    simp only [Bool.and_eq_true] at g
    have h1 := (goodB_iff _ _).1 g.1
    have h2 := (goodB_iff _ _).1 g.2
    exact ⟨g.1, g.2, (mk_good (Int.mul_pos (by omega) (by omega)) h).1, h⟩
  · simp [fail3] at h
theorem addT_comm (a b c d : Int) : addT c d a b = addT a b c d := by
  unfold addT
  rw [Bool.and_comm, Int.add_comm, Int.mul_comm d b]
theorem cmpT_good {a b c d : Int} (h1 : goodB a b = true) (h2 : goodB c d = true) : cmpT a b c d = (sg (a * d - c * b), true) := by simp [cmpT, h1, h2]
theorem cmpT_ok (a b c d : Int) : (cmpT a b c d).2 = (goodB a b && goodB c d) := by
  unfold cmpT
  split
  · rename_i g; simp [g]
  · rename_i g; simp only [fail2]; simpa using g
theorem sgn_neg (n : Int) : sg (-n) = -sg n := by
  unfold sg
  split <;> split <;> (try split) <;> (try split) <;> omega
theorem sgn_zero (n : Int) : sg n = 0 ↔ n = 0 := by
  unfold sg
  split <;> (try split) <;> omega
theorem low_one {a p b q : Int} (h1 : goodB a p = true) (h2 : goodB b q = true) (h : a * q = b * p) : a = b ∧ p = q := by
  obtain ⟨x1, x2, x3, x4, x5⟩ := (goodB_iff _ _).1 h1
  obtain ⟨y1, y2, y3, y4, y5⟩ := (goodB_iff _ _).1 h2
  have d1 : p ∣ q := cop_dvd x5 ⟨b, by rw [h, Int.mul_comm]⟩
  have d2 : q ∣ p := cop_dvd y5 ⟨a, by rw [← h, Int.mul_comm]⟩
  have l1 := Int.le_of_dvd (by omega) d1
  have l2 := Int.le_of_dvd (by omega) d2
  have hq : p = q := by omega
  subst hq
  exact ⟨Int.eq_of_mul_eq_mul_right (show p ≠ 0 by omega) h, rfl⟩
theorem cmp_zero {a b c d : Int} (h1 : goodB a b = true) (h2 : goodB c d = true) : (sg (a * d - c * b) == 0) = eqT a b c d := by
  rw [Bool.eq_iff_iff]
  simp only [beq_iff_eq, eqT, decide_eq_true_eq, sgn_zero]
  constructor
  · intro h
    exact low_one h1 h2 (by omega)
  · rintro ⟨rfl, rfl⟩; omega
/-- What was added is taken away again. -/
theorem add_back {a b c d x y : Int} {r : Int × Int × Bool} (h : addT a b c d = (x, y, true)) (hr : lessT x y c d = r) : r = (a, b, true) := by
  obtain ⟨g1, g2, g3, hm⟩ := addT_ok h
  obtain ⟨b1, -⟩ := (goodB_iff _ _).1 g1
  obtain ⟨d1, -⟩ := (goodB_iff _ _).1 g2
  obtain ⟨y1, -⟩ := (goodB_iff _ _).1 g3
  have hD : 1 ≤ b * d := Int.mul_pos (by omega) (by omega)
  obtain ⟨-, e1, e2⟩ := mk_good hD hm
  obtain ⟨g, k, hg, hD2, hm2⟩ := gc_split (a * d + c * b) (b * d) hD
  rw [e2] at hD2
  rw [e1] at hm2
  have hl : lessT x y c d = mk (x * d - c * y) (y * d) := by simp [lessT, g2, g3]
  rw [hl] at hr
  refine mk_eq_of (Int.mul_pos (by omega) (by omega)) g1 ?_ hr
  -- x / y = a / b + c / d - k
  refine ⟨-k, ?_⟩
  have hgp : g ≠ 0 := by omega
  refine Int.eq_of_mul_eq_mul_left hgp ?_
  have q1 : g * y = b * d := hD2.symm
  have q2 : g * x = a * d + c * b - b * d * k := by omega
  have t1 : g * ((x * d - c * y) * b - a * (y * d)) = (g * x) * d * b - c * (g * y) * b - a * (g * y) * d := by grind
  have t2 : g * (y * d * b * -k) = (g * y) * d * b * -k := by grind
  rw [t1, t2, q1, q2]
  grind
theorem mirrorT_ok {a b x y : Int} (h : mirrorT a b = (x, y, true)) : goodB a b = true ∧ goodB x y = true ∧ x = lowNum (-a) b ∧ y = lowDen (-a) b := by
  unfold mirrorT at h
  split at h
  · rename_i g
    simp only [Prod.mk.injEq, and_true] at h
    obtain ⟨rfl, rfl⟩ := h
    have h1 := (goodB_iff _ _).1 g
    have b' := low_bd (-a) b h1.1
    have l := low_lt (-a) b h1.1
    exact ⟨g, (goodB_iff _ _).2 ⟨b'.2.1, by omega, b'.1, by omega, gc_low (-a) _ h1.1⟩, rfl, rfl⟩
  · simp [fail3] at h
theorem mirror_is {a b : Int} (g : goodB a b = true) : lowNum (-a) b = -a % b ∧ lowDen (-a) b = b := by
  obtain ⟨h1, h2, h3, h4, h5⟩ := (goodB_iff _ _).1 g
  exact mirror_low a b h1 h5
theorem mirrorT_yes {a b : Int} (g : goodB a b = true) : mirrorT a b = (-a % b, b, true) := by
  obtain ⟨e1, e2⟩ := mirror_is g
  simp [mirrorT, g, e1, e2]
theorem mirrorT_snd (a b : Int) : (mirrorT a b).2.2 = goodB a b := by
  unfold mirrorT
  split
  · rename_i g; simp [g]
  · rename_i g; simp only [fail3]; simpa using g
theorem mirror_sum {a b x y : Int} {r : Int × Int × Bool} (h : mirrorT a b = (x, y, true)) (hr : addT a b x y = r) : r = (0, 1, true) := by
  obtain ⟨g1, g2, hx, hy⟩ := mirrorT_ok h
  obtain ⟨e1, e2⟩ := mirror_is g1
  rw [e1] at hx
  rw [e2] at hy
  obtain ⟨b1, -⟩ := (goodB_iff _ _).1 g1
  have hD : 1 ≤ b * y := by rw [hy]; exact Int.mul_pos (by omega) (by omega)
  have ha : addT a b x y = mk (a * y + x * b) (b * y) := by simp [addT, g1, g2]
  rw [ha] at hr
  refine mk_eq_of hD (by decide) ?_ hr
  rw [hx, hy, Int.mul_one, Int.zero_mul, Int.sub_zero, Int.mul_one]
  have h2 := Int.mul_ediv_add_emod (-a) b
  refine ⟨-(-a / b), ?_⟩
  have q : -a % b = -a - b * (-a / b) := by omega
  rw [q]
  grind
theorem mirror_twice {a b x y : Int} {r : Int × Int × Bool} (h : mirrorT a b = (x, y, true)) (hr : mirrorT x y = r) : r = (a, b, true) := by
  obtain ⟨g1, g2, hx, hy⟩ := mirrorT_ok h
  obtain ⟨e1, e2⟩ := mirror_is g1
  rw [e1] at hx
  rw [e2] at hy
  obtain ⟨b1, b2, b3, b4, b5⟩ := (goodB_iff _ _).1 g1
  rw [mirrorT_yes g2] at hr
  rw [← hr, hy, hx]
  have : -(-a % b) % b = a := by
    have h2 := Int.mul_ediv_add_emod (-a) b
    have q : -(-a % b) = a + b * (-a / b) := by omega
    rw [q, Int.add_mul_emod_self_left, Int.emod_eq_of_lt b3 (by omega)]
  rw [this]
theorem partT_ok {t d k p q : Int} (h : partT t d k = (p, q, true)) : goodB t d = true ∧ (1 ≤ k ∧ k ≤ 10000) ∧ goodB p q = true ∧ ∃ g, 1 ≤ g ∧ g * q = d * k ∧ g * p = t := by
  unfold partT at h
  split at h
  · rename_i g
    simp only [Bool.and_eq_true] at g
    have h1 := (goodB_iff _ _).1 g.1
    have hk := inB_bd g.2
    have hD : 1 ≤ d * k := Int.mul_pos (by omega) (by omega)
    obtain ⟨gg, e1, e2⟩ := mk_good hD h
    obtain ⟨x, K, hx, hD2, hm⟩ := gc_split t (d * k) hD
    rw [e2] at hD2
    rw [e1] at hm
    have g3 := (goodB_iff _ _).1 gg
    have hle : d ≤ d * k := by
      have := Int.mul_le_mul_of_nonneg_left hk.1 (show 0 ≤ d by omega)
      omega
    have hlt : x * p < x * q := Int.mul_lt_mul_of_pos_left (by omega) (by omega)
    have hnn : 0 ≤ x * p := Int.mul_nonneg (by omega) (by omega)
    have hK : K = 0 := by
      rcases Int.lt_trichotomy K 0 with h0 | h0 | h0
      · have : d * k * K ≤ d * k * (-1) := Int.mul_le_mul_of_nonneg_left (by omega) (by omega)
        omega
      · exact h0
      · have : d * k * 1 ≤ d * k * K := Int.mul_le_mul_of_nonneg_left (by omega) (by omega)
        omega
    rw [hK] at hm
    exact ⟨g.1, hk, gg, x, hx, hD2.symm, by omega⟩
  · simp [fail3] at h
theorem part_times {t d k p q : Int} {r : Int × Int × Bool} (h : partT t d k = (p, q, true)) (hr : timesT p q k = r) : r = (t, d, true) := by
  obtain ⟨g1, hk, g2, g, hg, e1, e2⟩ := partT_ok h
  have hq := ((goodB_iff _ _).1 g2).1
  have hd := ((goodB_iff _ _).1 g1).1
  have ht : timesT p q k = (lowNum (p * k) q, lowDen (p * k) q, true) := by simp [timesT, g2, inB]; omega
  obtain ⟨l1, l2⟩ := goodB_low g1
  have hs := (low_same (p * k) q t d hq hd).2 (by
    have : p * k * d - t * q = 0 := by
      have hgp : g ≠ 0 := by omega
      refine Int.eq_of_mul_eq_mul_left hgp ?_
      have t1 : g * (p * k * d - t * q) = (g * p) * k * d - t * (g * q) := by grind
      rw [t1, e1, e2]
      grind
    rw [this]; exact ⟨0, by simp⟩)
  rw [l1, l2] at hs
  rw [← hr, ht, hs.1, hs.2]
theorem part_less {t d k p q : Int} (h : partT t d k = (p, q, true)) : (0 ≤ p * k ∧ p * k < q ∧ q ≤ 1000000) ∧ (p * k < q * k ∧ q * k ≤ 10000000000) := by
  obtain ⟨g1, hk, g2, g, hg, e1, e2⟩ := partT_ok h
  obtain ⟨q1, q2, q3, q4, -⟩ := (goodB_iff _ _).1 g2
  obtain ⟨d1, d2, d3, d4, -⟩ := (goodB_iff _ _).1 g1
  have a1 : g * (p * k) < g * q := by
    have t1 : g * (p * k) = t * k := by rw [← e2]; grind
    rw [t1, e1]
    exact Int.mul_lt_mul_of_pos_right (by omega) (by omega)
  have a2 := Int.lt_of_mul_lt_mul_left a1 (by omega)
  have a3 : 0 ≤ p * k := Int.mul_nonneg q3 (by omega)
  have a4 : p * k < q * k := Int.mul_lt_mul_of_pos_right (by omega) (by omega)
  have a5 := (mulb (show 0 ≤ q by omega) q2 (show 0 ≤ k by omega) hk.2).2
  omega
theorem makeT_ok {n d x y : Int} (h : makeT n d = (x, y, true)) : goodB x y = true ∧ (-1000000000000 ≤ n ∧ n ≤ 1000000000000) ∧ (1 ≤ d ∧ d ≤ 1000000000000) ∧ ∃ g k, 1 ≤ g ∧ d = g * y ∧ n = d * k + g * x := by
  unfold makeT at h
  split at h
  · rename_i g
    simp only [Bool.and_eq_true] at g
    have hn := inB_bd g.1
    have hd := inB_bd g.2
    obtain ⟨gg, e1, e2⟩ := mk_good hd.1 h
    obtain ⟨z, k, hz, hD, hm⟩ := gc_split n d hd.1
    rw [e2] at hD
    rw [e1] at hm
    exact ⟨gg, hn, hd, z, k, hz, hD, hm⟩
  · simp [fail3] at h
theorem make_fits {n d x y : Int} (h : makeT n d = (x, y, true)) : goodB x y = true ∧ (1 ≤ d ∧ d ≤ 1000000000000) ∧ (1 ≤ y ∧ y ≤ 1000000) ∧ d.tmod y = 0 ∧ (1 ≤ d.tdiv y ∧ d.tdiv y ≤ 1000000000000) ∧ (0 ≤ x * d.tdiv y ∧ x * d.tdiv y ≤ 1000000000000) ∧ (-1000000000000 ≤ n ∧ n ≤ 1000000000000) ∧ (n - x * d.tdiv y).tmod d = 0 := by
  obtain ⟨gg, hn, hd, g, k, hg, e1, e2⟩ := makeT_ok h
  obtain ⟨y1, y2, x1, x2, -⟩ := (goodB_iff _ _).1 gg
  have q1 : d.tdiv y = g := by
    rw [e1, Int.tdiv_eq_ediv_of_nonneg (Int.mul_nonneg (by omega) (by omega)), Int.mul_ediv_cancel _ (by omega)]
  have q2 : d.tmod y = 0 := by
    rw [Int.tmod_eq_emod_of_nonneg (by omega), e1, Int.mul_emod_left]
  have q3 : g ≤ d := by
    rw [e1]
    have := Int.mul_le_mul_of_nonneg_left y1 (show 0 ≤ g by omega)
    omega
  have q4 : x * g ≤ d := by
    rw [e1, Int.mul_comm g y]
    exact Int.mul_le_mul_of_nonneg_right (by omega) (by omega)
  have q5 : 0 ≤ x * g := Int.mul_nonneg x1 (by omega)
  rw [q1]
  refine ⟨gg, hd, ⟨y1, y2⟩, q2, ⟨hg, by omega⟩, ⟨q5, by omega⟩, hn, ?_⟩
  have : n - x * g = d * k := by rw [e2, Int.mul_comm x g]; omega
  rw [this, Int.mul_tmod_right]
end Go.Proofs.Ytcfiaacpofpioaa
