/- Clocks: when their rates are the same, when they agree, what turns are the same without whole turns: arithmetic alone. -/
import Derived.Test.YtfddlmnfkmiomaaDrift1
set_option linter.unusedSimpArgs false
set_option linter.unusedVariables false
set_option maxRecDepth 100000
namespace Go.Proofs.Ytfddlmnfkmiomaa
open Go.RowKit

def clockB (n d a b : Int) : Bool := goodB n d && decide (d ≤ 1000) && inB a 1 1000 && inB b 1 1000 && (gc a b == 1)
theorem clockB_bd {n d a b : Int} (h : clockB n d a b = true) : (1 ≤ d ∧ d ≤ 1000 ∧ 0 ≤ n ∧ n ≤ d - 1) ∧ (1 ≤ a ∧ a ≤ 1000) ∧ (1 ≤ b ∧ b ≤ 1000) ∧ gc a b = 1 ∧ gc n d = 1 := by
  simp only [clockB, Bool.and_eq_true, beq_iff_eq, decide_eq_true_eq] at h
  obtain ⟨⟨⟨⟨h1, h2⟩, h3⟩, h4⟩, h5⟩ := h
  obtain ⟨g1, g2, g3, g4, g5⟩ := (goodB_iff _ _).1 h1
  exact ⟨⟨g1, h2, g3, g4⟩, inB_bd h3, inB_bd h4, h5, g5⟩
theorem clockB_good {n d a b : Int} (h : clockB n d a b = true) : goodB n d = true := by
  simp only [clockB, Bool.and_eq_true] at h
  exact h.1.1.1.1
def limC (n d a b : Int) : Int × Int × Int × Int × Bool := if clockB n d a b then (n, d, a, b, true) else fail5

def absC (x : Int) : Int := if 0 ≤ x then x else -x
theorem absC_pos {x : Int} (h : 0 < x) : absC x = x := if_pos (by omega)
theorem absC_neg {x : Int} (h : x < 0) : absC x = -x := if_neg (by omega)
/-- How fast one clock gains on another one, in parts of the product of their Dens. -/
def gainI (ap aq bp bq : Int) : Int := ap * bq - bp * aq
theorem gain_zero {ap aq bp bq : Int} (ha : 1 ≤ aq) (hb : 1 ≤ bq) (h1 : gc ap aq = 1) (h2 : gc bp bq = 1) : gainI ap aq bp bq = 0 ↔ (ap = bp ∧ aq = bq) := by
  unfold gainI
  constructor
  · intro h
    exact sp_same ha hb h1 h2 (by omega)
  · rintro ⟨rfl, rfl⟩
    omega
theorem gain_bd {ap aq bp bq : Int} (a1 : 1 ≤ ap ∧ ap ≤ 1000) (a2 : 1 ≤ aq ∧ aq ≤ 1000) (b1 : 1 ≤ bp ∧ bp ≤ 1000) (b2 : 1 ≤ bq ∧ bq ≤ 1000) :
    (1 ≤ ap * bq ∧ ap * bq ≤ 1000000) ∧ (1 ≤ bp * aq ∧ bp * aq ≤ 1000000) ∧ (1 ≤ aq * bq ∧ aq * bq ≤ 1000000) ∧ -1000000 ≤ gainI ap aq bp bq ∧ gainI ap aq bp bq ≤ 1000000 := by
  have x1 := mulb (show 0 ≤ ap by omega) a1.2 (show 0 ≤ bq by omega) b2.2
  have x2 := mulb (show 0 ≤ bp by omega) b1.2 (show 0 ≤ aq by omega) a2.2
  have x3 := mulb (show 0 ≤ aq by omega) a2.2 (show 0 ≤ bq by omega) b2.2
  have y1 : 1 ≤ ap * bq := Int.mul_pos (by omega) (by omega)
  have y2 : 1 ≤ bp * aq := Int.mul_pos (by omega) (by omega)
  have y3 : 1 ≤ aq * bq := Int.mul_pos (by omega) (by omega)
  unfold gainI
  omega

/-! ### The same without whole turns -/
def congI (m1 D1 m2 D2 : Int) : Prop := ∃ k : Int, m1 * D2 = m2 * D1 + k * (D1 * D2)
theorem congI.same {m1 D1 m2 D2 : Int} (h1 : 1 ≤ D1) (h2 : 1 ≤ D2) (h : congI m1 D1 m2 D2) : lowNum m1 D1 = lowNum m2 D2 ∧ lowDen m1 D1 = lowDen m2 D2 := by
  obtain ⟨k, hk⟩ := h
  refine (low_same m1 D1 m2 D2 h1 h2).2 ⟨k, ?_⟩
  rw [hk, Int.mul_comm k]; omega
theorem congI.eq {m1 D1 m2 D2 : Int} (h : m1 * D2 = m2 * D1) : congI m1 D1 m2 D2 := ⟨0, by omega⟩
theorem congI.low (m D : Int) (hD : 1 ≤ D) : congI (lowNum m D) (lowDen m D) m D := by
  obtain ⟨g, k, g1, e1, e2⟩ := gc_split m D hD
  refine ⟨-k, ?_⟩
  generalize lowNum m D = p at *
  generalize lowDen m D = q at *
  subst e2
  subst e1
  grind
theorem congI.symm {m1 D1 m2 D2 : Int} (h : congI m1 D1 m2 D2) : congI m2 D2 m1 D1 := by
  obtain ⟨k, hk⟩ := h
  exact ⟨-k, by grind⟩
theorem congI.add {a b c d a' b' c' d' : Int} (h : congI a b a' b') (h' : congI c d c' d') : congI (a * d + c * b) (b * d) (a' * d' + c' * b') (b' * d') := by
  obtain ⟨k, hk⟩ := h
  obtain ⟨l, hl⟩ := h'
  refine ⟨k + l, ?_⟩
  have e1 : (a * d + c * b) * (b' * d') = (a * b') * (d * d') + (c * d') * (b * b') := by grind
  rw [e1, hk, hl]
  grind
theorem congI.neg {a b c d : Int} (h : congI a b c d) : congI (-a) b (-c) d := by
  obtain ⟨k, hk⟩ := h
  exact ⟨-k, by grind⟩
theorem congI.trans {a b c d e f : Int} (hd : 1 ≤ d) (h : congI a b c d) (h' : congI c d e f) : congI a b e f := by
  obtain ⟨k, hk⟩ := h
  obtain ⟨l, hl⟩ := h'
  refine ⟨k + l, ?_⟩
  refine Int.eq_of_mul_eq_mul_left (show d ≠ 0 by omega) ?_
  have e1 : d * (a * f) = (a * d) * f := by grind
  rw [e1, hk]
  have e2 : (c * b + k * (b * d)) * f = b * (c * f) + k * (b * d) * f := by grind
  rw [e2, hl]
  grind
/-- The turn to the other side. -/
theorem low_neg (m D : Int) (hD : 1 ≤ D) : lowNum (-m) D = (if lowNum m D = 0 then 0 else lowDen m D - lowNum m D) ∧ lowDen (-m) D = lowDen m D := by
  have hb := low_bd m D hD
  have hl := low_lt m D hD
  have hg := gc_low m D hD
  have hc := (congI.low m D hD).neg
  have h1 := congI.same hb.2.1 hD hc
  have h2 := mirror_low (lowNum m D) (lowDen m D) hb.2.1 hg
  rw [← h1.1, ← h1.2, h2.1, h2.2]
  refine ⟨?_, rfl⟩
  generalize lowNum m D = p at *
  generalize lowDen m D = q at *
  split
  · rename_i h; subst h; simp
  · rw [← Int.add_emod_right, Int.emod_eq_of_lt (by omega) (by omega)]; omega

/-! ### When a turn that grows has come to a whole number -/
def firstF (fn fd D den : Int) (now : Bool) : Int × Int × Bool :=
  if fn = 0 ∧ now = true then (0, 1, true) else if D = 0 then fail3 else mkS ((if 0 < D ∨ fn = 0 then fd - fn else fn) * den) (fd * absC D)
theorem spN_zero (d : Int) : spN 0 d = 0 := by unfold spN; simp
theorem spD_zero {d : Int} (hd : 1 ≤ d) : spD 0 d = 1 := by
  unfold spD
  have : gc 0 d = d := by unfold gc; simp; omega
  rw [this]; exact Int.ediv_self (by omega)
theorem mkS_zero {d : Int} (hd : 1 ≤ d) : mkS 0 d = (0, 1, true) := by
  unfold mkS
  rw [spN_zero, spD_zero hd]
  decide
/-- A product with what is in lowest terms already. -/
theorem mkS_prod {gn gd n d : Int} (hg : 1 ≤ gd) (hd : 1 ≤ d) : mkS (gn * spN n d) (gd * spD n d) = mkS (gn * n) (gd * d) := by
  obtain ⟨e1, e2⟩ := sp_mul n d
  have hb : 1 ≤ spD n d := by
    refine (Int.le_ediv_iff_mul_le (by have := gcd_pos_of n d hd; omega)).2 ?_
    have := gcd_le_of n d hd
    omega
  refine mkS_eq (Int.mul_pos (by omega) (by omega)) (Int.mul_pos (by omega) (by omega)) ?_
  generalize spN n d = p at *
  generalize spD n d = q at *
  generalize gc n d = g at *
  subst e1; subst e2
  grind
def agreeS (an ad ap aq bn bd bp bq : Int) : Int × Int × Bool :=
  if clockB an ad ap aq && clockB bn bd bp bq && !(gainI ap aq bp bq == 0) then mkS (aq * bq) (absC (gainI ap aq bp bq)) else fail3
def firstAgreeS (an ad ap aq bn bd bp bq : Int) : Int × Int × Bool :=
  if clockB an ad ap aq && clockB bn bd bp bq then firstF (lowNum (an * bd - bn * ad) (ad * bd)) (lowDen (an * bd - bn * ad) (ad * bd)) (gainI ap aq bp bq) (aq * bq) false else fail3
theorem firstF_no {fn fd den : Int} : firstF fn fd 0 den false = fail3 := by simp [firstF]
/-- The faster one is ahead by a turn that falls short of a whole one. -/
theorem firstF_up {m D G den : Int} (hD : 1 ≤ D) (hG : 0 < G) (hd : 1 ≤ den) :
    firstF (lowNum m D) (lowDen m D) G den false = (if lowNum (-m) D = 0 then mkS den G else mkS (lowNum (-m) D * spN den G) (lowDen (-m) D * spD den G)) := by
  obtain ⟨h1, h2⟩ := low_neg m D hD
  have hb := low_bd m D hD
  have hl := low_lt m D hD
  rw [h1, h2, mkS_prod (by omega) (by omega)]
  unfold firstF
  rw [absC_pos hG, if_neg (by simp), if_neg (by omega), if_pos (Or.inl hG)]
  generalize lowNum m D = p at *
  generalize lowDen m D = q at *
  by_cases hz : p = 0
  · subst hz
    simp only [if_true]
    refine mkS_eq (Int.mul_pos (by omega) (by omega)) (by omega) ?_
    grind
  · rw [if_neg hz, if_neg (by omega)]
theorem firstF_down {m D G den : Int} (hD : 1 ≤ D) (hG : G < 0) (hd : 1 ≤ den) :
    firstF (lowNum m D) (lowDen m D) G den false = (if lowNum m D = 0 then mkS den (-G) else mkS (lowNum m D * spN den (-G)) (lowDen m D * spD den (-G))) := by
  have hb := low_bd m D hD
  rw [mkS_prod (by omega) (by omega)]
  unfold firstF
  rw [absC_neg hG, if_neg (by simp), if_neg (by omega)]
  generalize lowNum m D = p at *
  generalize lowDen m D = q at *
  by_cases hz : p = 0
  · subst hz
    simp only [or_true, if_true]
    refine mkS_eq (Int.mul_pos (by omega) (by omega)) (by omega) ?_
    grind
  · rw [if_neg hz, if_neg (by omega)]
def shownS (n d p q tn td : Int) : Int × Int × Bool :=
  if clockB n d p q && goodB tn td then firstF (lowNum (n * td - tn * d) (d * td)) (lowDen (n * td - tn * d) (d * td)) p q true else fail3
theorem firstF_shown {m D p q : Int} (hD : 1 ≤ D) (hp : 1 ≤ p) (hq : 1 ≤ q) :
    firstF (lowNum m D) (lowDen m D) p q true = mkS (lowNum (-m) D * q) (lowDen (-m) D * p) := by
  obtain ⟨h1, h2⟩ := low_neg m D hD
  have hb := low_bd m D hD
  rw [h1, h2]
  unfold firstF
  rw [absC_pos (by omega)]
  generalize lowNum m D = a at *
  generalize lowDen m D = b at *
  by_cases hz : a = 0
  · subst hz
    simp only [and_self, if_true, Int.zero_mul]
    exact (mkS_zero (Int.mul_pos (by omega) (by omega))).symm
  · rw [if_neg (by simp [hz]), if_neg (by omega), if_pos (Or.inl (by omega)), if_neg hz]
end Go.Proofs.Ytfddlmnfkmiomaa
