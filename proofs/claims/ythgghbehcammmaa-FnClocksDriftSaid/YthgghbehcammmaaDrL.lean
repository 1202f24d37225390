/- Clocks that drift: what the law on them wants of the numbers alone. -/
import Derived.Test.YthgghbehcammmaaDrS
import Derived.Test.YthgghbehcammmaaTa0
set_option linter.unusedSimpArgs false
set_option linter.unusedVariables false
set_option maxRecDepth 100000
namespace Go.Proofs.Ythgghbehcammmaa
open Go.RowKit

theorem shownT_ok {n d p q sn sd l x y : Int} (h : shownT n d p q sn sd l = (x, y, true)) : drTwoB n d p q sn sd = true ∧ mk (sn * (p - l * q) * d + n * (sd * q)) (sd * q * d) = (x, y, true) := by
  unfold shownT at h
  split at h
  · rename_i g; exact ⟨g, h⟩
  · simp [fail3] at h
theorem shownT_is {n d p q sn sd l : Int} (h : drTwoB n d p q sn sd = true) : shownT n d p q sn sd l = mk (sn * (p - l * q) * d + n * (sd * q)) (sd * q * d) := by
  unfold shownT; rw [if_pos h]
theorem twoB_bd {n d p q sn sd : Int} (h : drTwoB n d p q sn sd = true) : clockB n d p q = true ∧ spanB sn sd = true := by
  unfold drTwoB at h; simpa using h
theorem cong_of_good {m D n d : Int} (hD : 1 ≤ D) (h : mk m D = (n, d, true)) : goodB n d = true ∧ congI n d m D := by
  obtain ⟨g, e1, e2⟩ := mk_good hD h
  have := congI.low m D hD
  rw [e1, e2] at this
  exact ⟨g, this⟩
theorem mk_is {m D n d : Int} (hD : 1 ≤ D) (hg : goodB n d = true) (h : congI m D n d) : mk m D = (n, d, true) := by
  obtain ⟨h1, h2, -⟩ := (goodB_iff _ _).1 hg
  obtain ⟨e1, e2⟩ := goodB_low hg
  obtain ⟨k1, k2⟩ := congI.same hD h1 h
  unfold mk
  rw [k1, k2, e1, e2, if_pos h2]
theorem good_zero : goodB 0 1 = true := by decide
/-- The true time and by how much a clock is ahead make what it shows. -/
theorem drift_sum {n d p q sn sd x y a b : Int} (hs : shownT n d p q sn sd 0 = (x, y, true)) (ha : shownT n d p q sn sd 1 = (a, b, true)) :
    makeT sn sd = (lowNum sn sd, lowDen sn sd, true) ∧ addT (lowNum sn sd) (lowDen sn sd) a b = (x, y, true) := by
  obtain ⟨h2, e0⟩ := shownT_ok hs
  obtain ⟨-, e1⟩ := shownT_ok ha
  obtain ⟨ga, gb⟩ := twoB_bd h2
  obtain ⟨⟨a1, a2, a3, a4⟩, ⟨a5, a6⟩, ⟨a7, a8⟩, -, -⟩ := clockB_bd ga
  obtain ⟨b1, b2, b3, b4, -⟩ := spanB_bd gb
  have hD : 1 ≤ sd * q * d := Int.mul_pos (Int.mul_pos (by omega) (by omega)) (by omega)
  obtain ⟨g0, c0⟩ := cong_of_good hD e0
  obtain ⟨g1, c1⟩ := cong_of_good hD e1
  have hb := low_bd sn sd b1
  have hl := low_lt sn sd b1
  have hgl : goodB (lowNum sn sd) (lowDen sn sd) = true := (goodB_iff _ _).2 ⟨hb.2.1, by omega, hb.1, by omega, gc_low sn sd b1⟩
  obtain ⟨k1, -, -, -, -⟩ := (goodB_iff _ _).1 g1
  refine ⟨?_, ?_⟩
  · unfold makeT
    rw [show inB sn (-1000000000000) 1000000000000 = true from decide_eq_true (by omega), show inB sd 1 1000000000000 = true from decide_eq_true (by omega)]
    rw [Bool.and_true, if_pos rfl]
    unfold mk
    exact if_pos (by omega)
  · unfold addT
    rw [hgl, g1, Bool.and_true, if_pos rfl]
    refine mk_is (Int.mul_pos (by omega) (by omega)) g0 ?_
    refine congI.trans (d := sd * (sd * q * d)) (Int.mul_pos (by omega) hD) (congI.add (congI.low sn sd b1) c1) ?_
    refine congI.trans hD ?_ c0.symm
    refine congI.eq ?_
    grind
/-- A clock that is set right is ahead by nothing then. -/
theorem set_none {n d p q sn sd zn zd zp zq : Int} (hs : setS n d p q sn sd = (zn, zd, zp, zq, true)) : (zp = p ∧ zq = q) ∧ shownT zn zd zp zq sn sd 1 = (0, 1, true) := by
  unfold setS at hs
  split at hs
  · rename_i h2
    obtain ⟨ga, gb⟩ := twoB_bd h2
    obtain ⟨⟨a1, a2, a3, a4⟩, ⟨a5, a6⟩, ⟨a7, a8⟩, -, -⟩ := clockB_bd ga
    obtain ⟨b1, b2, b3, b4, -⟩ := spanB_bd gb
    unfold limC at hs
    split at hs
    · rename_i hc
      simp only [Prod.mk.injEq, and_true] at hs
      obtain ⟨rfl, rfl, rfl, rfl⟩ := hs
      refine ⟨⟨rfl, rfl⟩, ?_⟩
      have hD : 1 ≤ sd * q := Int.mul_pos (by omega) (by omega)
      have hlow := congI.low (sn * (q - p)) (sd * q) hD
      have hb := low_bd (sn * (q - p)) (sd * q) hD
      rw [shownT_is (by unfold drTwoB; rw [hc, gb]; rfl)]
      generalize lowNum (sn * (q - p)) (sd * q) = u at *
      generalize lowDen (sn * (q - p)) (sd * q) = v at *
      refine mk_is (Int.mul_pos hD (by omega)) good_zero ?_
      have h1 := congI.add (congI.refl (sn * (p - 1 * q)) (sd * q)) hlow
      refine congI.trans (d := sd * q * (sd * q)) (Int.mul_pos hD hD) ?_ (congI.eq (by grind) : congI (sn * (p - 1 * q) * (sd * q) + sn * (q - p) * (sd * q)) (sd * q * (sd * q)) 0 1)
      exact h1
    · simp [fail5] at hs
  · simp [fail5] at hs
theorem mkS_ok {n d x y : Int} (hd : 1 ≤ d) (h : mkS n d = (x, y, true)) : spanB x y = true ∧ x * d = n * y := by
  unfold mkS limS at h
  split at h
  · rename_i g
    simp only [Prod.mk.injEq, and_true] at h
    obtain ⟨rfl, rfl⟩ := h
    refine ⟨g, ?_⟩
    obtain ⟨e1, e2⟩ := sp_mul n d
    generalize spN n d = a at *
    generalize spD n d = b at *
    generalize gc n d = g at *
    rw [e1, e2]; grind
  · simp [fail3] at h
/-- By how many parts a clock that is not right is short of a whole turn ahead. -/
def goX (n d D : Int) : Int := if 0 < D ∨ n = 0 then d - n else n
theorem firstR_ok {n d p q x y : Int} (h : firstRightS n d p q = (x, y, true)) :
    clockB n d p q = true ∧ p - q ≠ 0 ∧ spanB x y = true ∧ x * (d * absC (p - q)) = goX n d (p - q) * q * y := by
  unfold firstRightS at h
  split at h
  · rename_i hc
    obtain ⟨⟨a1, a2, a3, a4⟩, ⟨a5, a6⟩, ⟨a7, a8⟩, -, -⟩ := clockB_bd hc
    unfold firstF at h
    rw [if_neg (by simp)] at h
    split at h
    · simp [fail3] at h
    · rename_i hD
      have hA : 1 ≤ absC (p - q) := by unfold absC; split <;> omega
      obtain ⟨h1, h2⟩ := mkS_ok (Int.mul_pos (by omega) (by omega)) h
      exact ⟨hc, hD, h1, h2⟩
  · simp [fail3] at h
theorem goX_bd {n d D : Int} (h1 : 1 ≤ d) (h2 : 0 ≤ n ∧ n ≤ d - 1) : 1 ≤ goX n d D ∧ goX n d D ≤ d := by
  unfold goX
  split
  · omega
  · rename_i h; omega
/-- What has gone on by then is a whole turn behind where it stands: nothing is left. -/
theorem goX_cong {n d D : Int} (hD : D ≠ 0) : ∃ k : Int, goX n d D * D + n * absC D = k * (d * absC D) := by
  unfold goX
  by_cases h : 0 < D
  · rw [if_pos (Or.inl h), absC_pos h]
    exact ⟨1, by grind⟩
  · rw [absC_neg (by omega)]
    by_cases hn : n = 0
    · rw [if_pos (Or.inr hn), hn]
      exact ⟨-1, by grind⟩
    · rw [if_neg (by omega)]
      exact ⟨0, by grind⟩
theorem ahead_none {n d p q x y X : Int} (h2 : drTwoB n d p q x y = true) (hD : p - q ≠ 0) (hx : x * (d * absC (p - q)) = X * q * y) (hX : ∃ k : Int, X * (p - q) + n * absC (p - q) = k * (d * absC (p - q))) :
    shownT n d p q x y 1 = (0, 1, true) := by
  obtain ⟨ga, gb⟩ := twoB_bd h2
  obtain ⟨⟨a1, a2, a3, a4⟩, ⟨a5, a6⟩, ⟨a7, a8⟩, -, -⟩ := clockB_bd ga
  obtain ⟨b1, b2, b3, b4, -⟩ := spanB_bd gb
  have hA : 1 ≤ absC (p - q) := by unfold absC; split <;> omega
  obtain ⟨k, hk⟩ := hX
  rw [shownT_is h2]
  have hY : 1 ≤ y * q * d := Int.mul_pos (Int.mul_pos (by omega) (by omega)) (by omega)
  refine mk_is hY good_zero ⟨k, ?_⟩
  have e1 : p - 1 * q = p - q := by omega
  rw [e1]
  generalize absC (p - q) = A at *
  generalize p - q = D at *
  refine Int.eq_of_mul_eq_mul_left (show A ≠ 0 by omega) ?_
  have m1 : A * ((x * D * d + n * (y * q)) * 1) = D * (x * (d * A)) + n * A * (y * q) := by grind
  rw [m1, hx]
  have m2 : D * (X * q * y) + n * A * (y * q) = (X * D + n * A) * (y * q) := by grind
  rw [m2, hk]
  grind
theorem first_none {n d p q x y : Int} (h : firstRightS n d p q = (x, y, true)) : drTwoB n d p q x y = true ∧ shownT n d p q x y 1 = (0, 1, true) ∧ 1 ≤ x := by
  obtain ⟨hc, hD, hs, hx⟩ := firstR_ok h
  obtain ⟨⟨a1, a2, a3, a4⟩, ⟨a5, a6⟩, ⟨a7, a8⟩, -, -⟩ := clockB_bd hc
  obtain ⟨b1, b2, b3, b4, -⟩ := spanB_bd hs
  have h2 : drTwoB n d p q x y = true := by unfold drTwoB; rw [hc, hs]; rfl
  refine ⟨h2, ahead_none h2 hD hx (goX_cong hD), ?_⟩
  have hX := (goX_bd (D := p - q) a1 ⟨a3, a4⟩).1
  have h1 : 1 ≤ goX n d (p - q) * q * y := Int.mul_pos (Int.mul_pos (by omega) (by omega)) (by omega)
  by_cases h0 : 1 ≤ x
  · exact h0
  · have : x = 0 := by omega
    rw [this, Int.zero_mul] at hx
    omega
theorem right_ok {n d p q x y : Int} (h : rightS n d p q = (x, y, true)) : clockB n d p q = true ∧ p - q ≠ 0 ∧ spanB x y = true ∧ x * absC (p - q) = q * y := by
  unfold rightS at h
  split at h
  · rename_i hc
    simp only [Bool.and_eq_true, Bool.not_eq_true', beq_eq_false_iff_ne, ne_eq] at hc
    have hD : p - q ≠ 0 := fun e => hc.2 (by omega)
    have hA : 1 ≤ absC (p - q) := by unfold absC; split <;> omega
    obtain ⟨h1, h2⟩ := mkS_ok hA h
    exact ⟨hc.1, hD, h1, h2⟩
  · simp [fail3] at h
/-- The first time is no later than a whole round, and it comes again behind one. -/
theorem first_every {n d p q x y u v : Int} (h : firstRightS n d p q = (x, y, true)) (h' : rightS n d p q = (u, v, true)) :
    x * v ≤ u * y ∧ ∀ e f, addS x y u v = (e, f, true) → drTwoB n d p q e f = true ∧ shownT n d p q e f 1 = (0, 1, true) := by
  obtain ⟨hc, hD, hs, hx⟩ := firstR_ok h
  obtain ⟨-, -, hs', hu⟩ := right_ok h'
  obtain ⟨⟨a1, a2, a3, a4⟩, ⟨a5, a6⟩, ⟨a7, a8⟩, -, -⟩ := clockB_bd hc
  obtain ⟨b1, b2, b3, b4, -⟩ := spanB_bd hs
  obtain ⟨c1, c2, c3, c4, -⟩ := spanB_bd hs'
  have hX := goX_bd (D := p - q) a1 ⟨a3, a4⟩
  have hk := goX_cong (n := n) (d := d) hD
  have hA : 1 ≤ absC (p - q) := by unfold absC; split <;> omega
  have hAD : absC (p - q) = p - q ∨ absC (p - q) = -(p - q) := by unfold absC; split <;> omega
  refine ⟨?_, fun e f he => ?_⟩
  · refine Int.le_of_mul_le_mul_left (a := d * absC (p - q)) ?_ (Int.mul_pos (by omega) (by omega))
    have m1 : d * absC (p - q) * (x * v) = (x * (d * absC (p - q))) * v := by grind
    have m2 : d * absC (p - q) * (u * y) = d * (u * absC (p - q)) * y := by grind
    rw [m1, m2, hx, hu]
    have m3 : goX n d (p - q) * q * y * v = goX n d (p - q) * (q * y * v) := by grind
    have m4 : d * (q * v) * y = d * (q * y * v) := by grind
    rw [m3, m4]
    exact Int.mul_le_mul_of_nonneg_right hX.2 (Int.mul_nonneg (Int.mul_nonneg (by omega) (by omega)) (by omega))
  · unfold addS at he
    rw [hs, hs', Bool.and_true, if_pos rfl] at he
    obtain ⟨hse, hxe⟩ := mkS_ok (Int.mul_pos (by omega) (by omega)) he
    obtain ⟨e1, e2, -⟩ := spanB_bd hse
    have h2 : drTwoB n d p q e f = true := by unfold drTwoB; rw [hc, hse]; rfl
    refine ⟨h2, ahead_none (X := goX n d (p - q) + d) h2 hD ?_ ?_⟩
    · generalize goX n d (p - q) = X at *
      generalize absC (p - q) = A at *
      refine Int.eq_of_mul_eq_mul_left (show y * v ≠ 0 from by have := Int.mul_pos (show 0 < y by omega) (show 0 < v by omega); omega) ?_
      have m1 : y * v * (e * (d * A)) = (e * (y * v)) * (d * A) := by grind
      rw [m1, hxe]
      have m2 : (x * v + u * y) * f * (d * A) = f * (v * (x * (d * A)) + y * d * (u * A)) := by grind
      rw [m2, hx, hu]
      grind
    · obtain ⟨k, hk⟩ := hk
      rcases hAD with e | e
      · refine ⟨k + 1, ?_⟩
        rw [e] at hk ⊢
        grind
      · refine ⟨k - 1, ?_⟩
        rw [e] at hk ⊢
        grind
/-- When a clock shows a turn, it shows it, within one round of its own. -/
theorem shown_then {n d p q tn td x y : Int} (h : shownS n d p q tn td = (x, y, true)) : drTwoB n d p q x y = true ∧ shownT n d p q x y 0 = (tn, td, true) ∧ x * p < y * q := by
  unfold shownS at h
  split at h
  · rename_i hg
    rw [Bool.and_eq_true] at hg
    obtain ⟨⟨a1, a2, a3, a4⟩, ⟨a5, a6⟩, ⟨a7, a8⟩, -, -⟩ := clockB_bd hg.1
    obtain ⟨t1, -⟩ := goodB_bd hg.2
    have hM : 1 ≤ d * td := Int.mul_pos (by omega) (by omega)
    rw [firstF_shown hM a5 a7] at h
    have hlow := congI.low (-(n * td - tn * d)) (d * td) hM
    have hb := low_bd (-(n * td - tn * d)) (d * td) hM
    have hl := low_lt (-(n * td - tn * d)) (d * td) hM
    generalize lowNum (-(n * td - tn * d)) (d * td) = u at *
    generalize lowDen (-(n * td - tn * d)) (d * td) = v at *
    obtain ⟨hs, hx⟩ := mkS_ok (Int.mul_pos (by omega) (by omega)) h
    obtain ⟨b1, b2, b3, b4, -⟩ := spanB_bd hs
    have h2 : drTwoB n d p q x y = true := by unfold drTwoB; rw [hg.1, hs]; rfl
    refine ⟨h2, ?_, ?_⟩
    · rw [shownT_is h2]
      have hY : 1 ≤ y * q * d := Int.mul_pos (Int.mul_pos (by omega) (by omega)) (by omega)
      refine mk_is hY hg.2 ?_
      have c1 : congI (x * p) (y * q) u v := by
        refine congI.eq ?_
        have : x * p * v = x * (v * p) := by grind
        rw [this, hx]; grind
      have c2 := congI.add (congI.trans (by omega) c1 hlow) (congI.refl n d)
      refine congI.trans (d := d * td * d) (Int.mul_pos hM (by omega)) ?_ (congI.eq (by grind) : congI (-(n * td - tn * d) * d + n * (d * td)) (d * td * d) tn td)
      have e1 : x * (p - 0 * q) * d + n * (y * q) = x * p * d + n * (y * q) := by grind
      rw [e1]; exact c2
    · refine Int.lt_of_mul_lt_mul_left (a := v) ?_ (by omega)
      have m1 : v * (x * p) = x * (v * p) := by grind
      rw [m1, hx]
      have m2 : u * q * y = u * (y * q) := by grind
      rw [m2]
      exact Int.mul_lt_mul_of_pos_right (by omega) (Int.mul_pos (by omega) (by omega))
  · simp [fail3] at h
end Go.Proofs.Ythgghbehcammmaa
