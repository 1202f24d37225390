/- Sums of spans and what is the same without whole turns: arithmetic alone. -/
import Derived.Test.YtnokjdcgokfdhaaDrift8
import Derived.Test.YtnokjdcgokfdhaaDrR
import Derived.Test.YtnokjdcgokfdhaaDrift2
set_option linter.unusedSimpArgs false
set_option linter.unusedVariables false
set_option maxRecDepth 100000
namespace Go.Proofs.Ytnokjdcgokfdhaa
open Go.RowKit

/-- The total, in whatever terms. -/
def valK (L : List (Int × Int)) : Nat → Int × Int
  | 0 => (0, 1)
  | k + 1 => ((valK L k).1 * (L.getD k (0, 0)).2 + (L.getD k (0, 0)).1 * (valK L k).2, (valK L k).2 * (L.getD k (0, 0)).2)
theorem sum_val (L : List (Int × Int)) (hL : ∀ k, k < L.length → 1 ≤ (L.getD k (0, 0)).2) : ∀ k, k ≤ L.length → 1 ≤ (sumK L k).2 ∧ 1 ≤ (valK L k).2 ∧ (sumK L k).1 * (valK L k).2 = (valK L k).1 * (sumK L k).2
  | 0, _ => ⟨by show (1 : Int) ≤ 1; omega, by show (1 : Int) ≤ 1; omega, by show (0 : Int) * 1 = 0 * 1; rfl⟩
  | k + 1, hk => by
    obtain ⟨h1, h2, h3⟩ := sum_val L hL k (by omega)
    have hp := hL k (by omega)
    unfold sumK valK stepS
    generalize sumK L k = s at *
    generalize valK L k = t at *
    generalize L.getD k (0, 0) = p at *
    obtain ⟨N, D⟩ := s
    obtain ⟨V, W⟩ := t
    obtain ⟨x, y⟩ := p
    simp only at *
    have hd : 1 ≤ D * y := Int.mul_pos (by omega) (by omega)
    have hw : 1 ≤ W * y := Int.mul_pos (by omega) (by omega)
    obtain ⟨e1, e2⟩ := sp_mul (N * y + x * D) (D * y)
    have hg := gcd_pos_of (N * y + x * D) (D * y) hd
    have hs : 1 ≤ spD (N * y + x * D) (D * y) := by
      refine (Int.le_ediv_iff_mul_le (by omega)).2 ?_
      have := gcd_le_of (N * y + x * D) (D * y) hd
      omega
    refine ⟨hs, hw, ?_⟩
    generalize spN (N * y + x * D) (D * y) = a at *
    generalize spD (N * y + x * D) (D * y) = b at *
    generalize gc (N * y + x * D) (D * y) = g at *
    refine Int.eq_of_mul_eq_mul_left (show g ≠ 0 by omega) ?_
    have k1 : g * (a * (W * y)) = (N * y + x * D) * (W * y) := by rw [e1]; grind
    have k2 : g * ((V * y + x * W) * b) = (V * y + x * W) * (D * y) := by rw [e2]; grind
    rw [k1, k2]
    grind
theorem sum_one {n d : Int} (L : List (Int × Int)) (h : gc n d = 1) : sumK ((n, d) :: L) 1 = (n, d) := by
  have e : sumK ((n, d) :: L) 1 = (spN (0 * d + n * 1) (1 * d), spD (0 * d + n * 1) (1 * d)) := rfl
  rw [e, Int.zero_mul, Int.zero_add, Int.mul_one, Int.one_mul, (sp_one h).1, (sp_one h).2]
theorem sum_two {n d x y : Int} (L : List (Int × Int)) (h : gc n d = 1) : sumK ((n, d) :: (x, y) :: L) 2 = (spN (n * y + x * d) (d * y), spD (n * y + x * d) (d * y)) := by
  have e : sumK ((n, d) :: (x, y) :: L) 2 = stepS (sumK ((n, d) :: (x, y) :: L) 1) (x, y) := rfl
  rw [e, sum_one _ h]; rfl
theorem sumOk_two {n d x y : Int} (h : gc n d = 1) (h1 : 0 ≤ n ∧ n ≤ 100000000) (h2 : 1 ≤ d ∧ d ≤ 100000000) (h3 : 0 ≤ x ∧ x ≤ 100000000) (h4 : 1 ≤ y ∧ y ≤ 100000000) : SumOk [(n, d), (x, y)] := by
  intro k hk
  have hk' : k = 0 ∨ k = 1 := by simp at hk; omega
  rcases hk' with rfl | rfl
  · show (0 ≤ (0 : Int) * d ∧ (0 : Int) * d ≤ _) ∧ (0 ≤ n * 1 ∧ n * 1 ≤ _) ∧ 1 ≤ 1 * d ∧ 1 * d ≤ _
    omega
  · rw [sum_one _ h]
    show (0 ≤ n * y ∧ n * y ≤ _) ∧ (0 ≤ x * d ∧ x * d ≤ _) ∧ 1 ≤ d * y ∧ d * y ≤ _
    have a1 := mulb h1.1 h1.2 (show 0 ≤ y by omega) h4.2
    have a2 := mulb h3.1 h3.2 (show 0 ≤ d by omega) h2.2
    have a3 := mulb (show 0 ≤ d by omega) h2.2 (show 0 ≤ y by omega) h4.2
    have a4 : 1 ≤ d * y := Int.mul_pos (by omega) (by omega)
    omega
theorem sum2_bd {n d x y : Int} (h1 : 0 ≤ n ∧ n ≤ 1000) (h2 : 1 ≤ d ∧ d ≤ 1000) (h3 : 0 ≤ x ∧ x ≤ 10000000) (h4 : 1 ≤ y ∧ y ≤ 10000000) :
    (0 ≤ spN (n * y + x * d) (d * y) ∧ spN (n * y + x * d) (d * y) ≤ 20000000000) ∧ 1 ≤ spD (n * y + x * d) (d * y) ∧ spD (n * y + x * d) (d * y) ≤ 10000000000 := by
  have a1 := mulb h1.1 h1.2 (show 0 ≤ y by omega) h4.2
  have a2 := mulb h3.1 h3.2 (show 0 ≤ d by omega) h2.2
  have a3 := mulb (show 0 ≤ d by omega) h2.2 (show 0 ≤ y by omega) h4.2
  have a4 : 1 ≤ d * y := Int.mul_pos (by omega) (by omega)
  have b := sp_bd (n * y + x * d) (d * y) (by omega) a4
  omega
theorem sumOk_three {n d x y u v : Int} (h : gc n d = 1) (h1 : 0 ≤ n ∧ n ≤ 1000) (h2 : 1 ≤ d ∧ d ≤ 1000) (h3 : 0 ≤ x ∧ x ≤ 10000000) (h4 : 1 ≤ y ∧ y ≤ 10000000) (h5 : 0 ≤ u ∧ u ≤ 10000) (h6 : 1 ≤ v ∧ v ≤ 10000) : SumOk [(n, d), (x, y), (u, v)] := by
  intro k hk
  have hk' : k = 0 ∨ k = 1 ∨ k = 2 := by simp at hk; omega
  rcases hk' with rfl | rfl | rfl
  · show (0 ≤ (0 : Int) * d ∧ (0 : Int) * d ≤ _) ∧ (0 ≤ n * 1 ∧ n * 1 ≤ _) ∧ 1 ≤ 1 * d ∧ 1 * d ≤ _
    omega
  · rw [sum_one _ h]
    show (0 ≤ n * y ∧ n * y ≤ _) ∧ (0 ≤ x * d ∧ x * d ≤ _) ∧ 1 ≤ d * y ∧ d * y ≤ _
    have a1 := mulb h1.1 h1.2 (show 0 ≤ y by omega) h4.2
    have a2 := mulb h3.1 h3.2 (show 0 ≤ d by omega) h2.2
    have a3 := mulb (show 0 ≤ d by omega) h2.2 (show 0 ≤ y by omega) h4.2
    have a4 : 1 ≤ d * y := Int.mul_pos (by omega) (by omega)
    omega
  · rw [sum_two _ h]
    obtain ⟨⟨b1, b2⟩, b3, b4⟩ := sum2_bd h1 h2 h3 h4
    generalize spN (n * y + x * d) (d * y) = N at *
    generalize spD (n * y + x * d) (d * y) = D at *
    show (0 ≤ N * v ∧ N * v ≤ _) ∧ (0 ≤ u * D ∧ u * D ≤ _) ∧ 1 ≤ D * v ∧ D * v ≤ _
    have a1 := mulb b1 b2 (show 0 ≤ v by omega) h6.2
    have a2 := mulb h5.1 h5.2 (show 0 ≤ D by omega) b4
    have a3 := mulb (show 0 ≤ D by omega) b4 (show 0 ≤ v by omega) h6.2
    have a4 : 1 ≤ D * v := Int.mul_pos (by omega) (by omega)
    omega
theorem mk_cong {a b c d : Int} (hb : 1 ≤ b) (hd : 1 ≤ d) (h : congI a b c d) : mk a b = mk c d := by
  obtain ⟨h1, h2⟩ := congI.same hb hd h
  unfold mk; rw [h1, h2]
def addS (an ad bn bd : Int) : Int × Int × Bool := if spanB an ad && spanB bn bd then mkS (an * bd + bn * ad) (ad * bd) else fail3
/-- What a clock has gone on by, without whole turns. -/
def goN (p q sn sd : Int) : Int := lowNum (spN (p * sn) (q * sd)) (spD (p * sn) (q * sd))
def goD (p q sn sd : Int) : Int := lowDen (spN (p * sn) (q * sd)) (spD (p * sn) (q * sd))
theorem go_bd {p q sn sd : Int} (h1 : 1 ≤ p ∧ p ≤ 1000) (h2 : 1 ≤ q ∧ q ≤ 1000) (h3 : 0 ≤ sn ∧ sn ≤ 1000000) (h4 : 1 ≤ sd ∧ sd ≤ 10000) :
    (0 ≤ p * sn ∧ p * sn ≤ 1000000000) ∧ (1 ≤ q * sd ∧ q * sd ≤ 10000000) ∧ (0 ≤ spN (p * sn) (q * sd) ∧ spN (p * sn) (q * sd) ≤ 1000000000) ∧ (1 ≤ spD (p * sn) (q * sd) ∧ spD (p * sn) (q * sd) ≤ 10000000) ∧ (0 ≤ goN p q sn sd ∧ goN p q sn sd ≤ 10000000) ∧ (1 ≤ goD p q sn sd ∧ goD p q sn sd ≤ 10000000) ∧ gc (goN p q sn sd) (goD p q sn sd) = 1 := by
  have a1 := mulb (show 0 ≤ p by omega) h1.2 h3.1 h3.2
  have a2 := mulb (show 0 ≤ q by omega) h2.2 (show 0 ≤ sd by omega) h4.2
  have a3 : 1 ≤ q * sd := Int.mul_pos (by omega) (by omega)
  have b := sp_bd (p * sn) (q * sd) (by omega) a3
  have c := low_bd (spN (p * sn) (q * sd)) (spD (p * sn) (q * sd)) b.2.2.1
  have c' := low_lt (spN (p * sn) (q * sd)) (spD (p * sn) (q * sd)) b.2.2.1
  have e := gc_low (spN (p * sn) (q * sd)) (spD (p * sn) (q * sd)) b.2.2.1
  unfold goN goD
  refine ⟨by omega, by omega, by omega, by omega, by omega, by omega, e⟩
theorem go_cong {p q sn sd : Int} (h2 : 1 ≤ q) (h4 : 1 ≤ sd) : congI (goN p q sn sd) (goD p q sn sd) (p * sn) (q * sd) := by
  have hd : 1 ≤ q * sd := Int.mul_pos (by omega) (by omega)
  obtain ⟨e1, e2⟩ := sp_mul (p * sn) (q * sd)
  have hg := gcd_pos_of (p * sn) (q * sd) hd
  have hs : 1 ≤ spD (p * sn) (q * sd) := by
    refine (Int.le_ediv_iff_mul_le (by omega)).2 ?_
    have := gcd_le_of (p * sn) (q * sd) hd
    omega
  unfold goN goD
  refine congI.trans hs (congI.low _ _ hs) (congI.eq ?_)
  generalize spN (p * sn) (q * sd) = a at *
  generalize spD (p * sn) (q * sd) = b at *
  generalize gc (p * sn) (q * sd) = g at *
  rw [e1, e2]; grind
/-- The way from the true time to the top. -/
theorem back_bd {sn sd : Int} (h4 : 1 ≤ sd ∧ sd ≤ 10000) : (0 ≤ lowNum (-sn) sd ∧ lowNum (-sn) sd ≤ 10000) ∧ (1 ≤ lowDen (-sn) sd ∧ lowDen (-sn) sd ≤ 10000) := by
  have c := low_bd (-sn) sd h4.1
  have c' := low_lt (-sn) sd h4.1
  omega
def shownT (n d p q sn sd l : Int) : Int × Int × Bool := if drTwoB n d p q sn sd then mk (sn * (p - l * q) * d + n * (sd * q)) (sd * q * d) else fail3
def twoL (n d p q sn sd : Int) : List (Int × Int) := [(n, d), (goN p q sn sd, goD p q sn sd)]
def backL (p q sn sd : Int) : List (Int × Int) := [(goN p q sn sd, goD p q sn sd), (lowNum (-sn) sd, lowDen (-sn) sd)]
def allL (n d p q sn sd : Int) : List (Int × Int) := [(n, d), (goN p q sn sd, goD p q sn sd), (lowNum (-sn) sd, lowDen (-sn) sd)]
theorem congI.refl (a b : Int) : congI a b a b := congI.eq rfl
theorem shown_cong {n d p q sn sd : Int} (ga : clockB n d p q = true) (gb : spanB sn sd = true) : mk (sumK (twoL n d p q sn sd) 2).1 (sumK (twoL n d p q sn sd) 2).2 = shownT n d p q sn sd 0 := by
  obtain ⟨⟨a1, a2, a3, a4⟩, ⟨a5, a6⟩, ⟨a7, a8⟩, a9, a10⟩ := clockB_bd ga
  obtain ⟨b1, b2, b3, b4, b5⟩ := spanB_bd gb
  obtain ⟨-, ⟨m1, m2⟩, -, -, -, ⟨g1, g2⟩, -⟩ := go_bd ⟨a5, a6⟩ ⟨a7, a8⟩ ⟨b3, b4⟩ ⟨b1, b2⟩
  have hc := go_cong (p := p) (q := q) (sn := sn) (sd := sd) a7 b1
  obtain ⟨s1, s2, s3⟩ := sum_val (twoL n d p q sn sd) (fun k hk => by
    have hk' : k = 0 ∨ k = 1 := by simp [twoL] at hk; omega
    rcases hk' with rfl | rfl
    · exact a1
    · exact g1) 2 (by simp [twoL])
  have hv : valK (twoL n d p q sn sd) 2 = ((0 * d + n * 1) * goD p q sn sd + goN p q sn sd * (1 * d), 1 * d * goD p q sn sd) := rfl
  rw [hv] at s2 s3
  unfold shownT drTwoB
  rw [ga, gb, Bool.and_true, if_pos rfl]
  have hY : 1 ≤ sd * q * d := Int.mul_pos (Int.mul_pos (by omega) (by omega)) (by omega)
  refine mk_cong s1 hY ?_
  simp only at s2 s3
  refine congI.trans s2 (congI.eq s3) ?_
  have h2 := congI.add (congI.refl n d) hc
  have hD : 1 ≤ d * (q * sd) := Int.mul_pos (by omega) m1
  have e1 : (0 * d + n * 1) * goD p q sn sd + goN p q sn sd * (1 * d) = n * goD p q sn sd + goN p q sn sd * d := by grind
  have e2 : 1 * d * goD p q sn sd = d * goD p q sn sd := by grind
  rw [e1, e2]
  refine congI.trans hD h2 (congI.eq ?_)
  grind
theorem ahead_cong {n d p q sn sd : Int} (ga : clockB n d p q = true) (gb : spanB sn sd = true) : mk (sumK (allL n d p q sn sd) 3).1 (sumK (allL n d p q sn sd) 3).2 = shownT n d p q sn sd 1 := by
  obtain ⟨⟨a1, a2, a3, a4⟩, ⟨a5, a6⟩, ⟨a7, a8⟩, a9, a10⟩ := clockB_bd ga
  obtain ⟨b1, b2, b3, b4, b5⟩ := spanB_bd gb
  obtain ⟨-, ⟨m1, m2⟩, -, -, -, ⟨g1, g2⟩, -⟩ := go_bd ⟨a5, a6⟩ ⟨a7, a8⟩ ⟨b3, b4⟩ ⟨b1, b2⟩
  obtain ⟨-, r1, r2⟩ := back_bd (sn := sn) ⟨b1, b2⟩
  have hc := go_cong (p := p) (q := q) (sn := sn) (sd := sd) a7 b1
  have hr := congI.low (-sn) sd b1
  obtain ⟨s1, s2, s3⟩ := sum_val (allL n d p q sn sd) (fun k hk => by
    have hk' : k = 0 ∨ k = 1 ∨ k = 2 := by simp [allL] at hk; omega
    rcases hk' with rfl | rfl | rfl
    · exact a1
    · exact g1
    · exact r1) 3 (by simp [allL])
  have hv : valK (allL n d p q sn sd) 3 = (((0 * d + n * 1) * goD p q sn sd + goN p q sn sd * (1 * d)) * lowDen (-sn) sd + lowNum (-sn) sd * (1 * d * goD p q sn sd), 1 * d * goD p q sn sd * lowDen (-sn) sd) := rfl
  rw [hv] at s2 s3
  unfold shownT drTwoB
  rw [ga, gb, Bool.and_true, if_pos rfl]
  have hY : 1 ≤ sd * q * d := Int.mul_pos (Int.mul_pos (by omega) (by omega)) (by omega)
  refine mk_cong s1 hY ?_
  simp only at s2 s3
  refine congI.trans s2 (congI.eq s3) ?_
  have h2 := congI.add (congI.add (congI.refl n d) hc) hr
  have hD : 1 ≤ d * (q * sd) * sd := Int.mul_pos (Int.mul_pos (by omega) m1) (by omega)
  have e1 : ((0 * d + n * 1) * goD p q sn sd + goN p q sn sd * (1 * d)) * lowDen (-sn) sd + lowNum (-sn) sd * (1 * d * goD p q sn sd) = (n * goD p q sn sd + goN p q sn sd * d) * lowDen (-sn) sd + lowNum (-sn) sd * (d * goD p q sn sd) := by grind
  have e2 : 1 * d * goD p q sn sd * lowDen (-sn) sd = d * goD p q sn sd * lowDen (-sn) sd := by grind
  rw [e1, e2]
  refine congI.trans hD h2 (congI.eq ?_)
  grind
def setS (n d p q sn sd : Int) : Int × Int × Int × Int × Bool := if drTwoB n d p q sn sd then limC (lowNum (sn * (q - p)) (sd * q)) (lowDen (sn * (q - p)) (sd * q)) p q else fail5
theorem set_cong {p q sn sd : Int} (a7 : 1 ≤ q) (h1 : 1 ≤ p ∧ p ≤ 1000) (h2 : q ≤ 1000) (h3 : 0 ≤ sn ∧ sn ≤ 1000000) (h4 : 1 ≤ sd ∧ sd ≤ 10000) :
    lowNum (lowNum (sumK (backL p q sn sd) 2).1 (sumK (backL p q sn sd) 2).2 * -1) (lowDen (sumK (backL p q sn sd) 2).1 (sumK (backL p q sn sd) 2).2) = lowNum (sn * (q - p)) (sd * q) ∧
    lowDen (lowNum (sumK (backL p q sn sd) 2).1 (sumK (backL p q sn sd) 2).2 * -1) (lowDen (sumK (backL p q sn sd) 2).1 (sumK (backL p q sn sd) 2).2) = lowDen (sn * (q - p)) (sd * q) := by
  obtain ⟨-, ⟨m1, m2⟩, -, -, -, ⟨g1, g2⟩, -⟩ := go_bd h1 ⟨a7, h2⟩ h3 h4
  obtain ⟨-, r1, r2⟩ := back_bd (sn := sn) h4
  have hc := go_cong (p := p) (q := q) (sn := sn) (sd := sd) a7 h4.1
  have hr := congI.low (-sn) sd h4.1
  obtain ⟨s1, s2, s3⟩ := sum_val (backL p q sn sd) (fun k hk => by
    have hk' : k = 0 ∨ k = 1 := by simp [backL] at hk; omega
    rcases hk' with rfl | rfl
    · exact g1
    · exact r1) 2 (by simp [backL])
  have hv : valK (backL p q sn sd) 2 = ((0 * goD p q sn sd + goN p q sn sd * 1) * lowDen (-sn) sd + lowNum (-sn) sd * (1 * goD p q sn sd), 1 * goD p q sn sd * lowDen (-sn) sd) := rfl
  rw [hv] at s2 s3
  simp only at s2 s3
  have e1 : (0 * goD p q sn sd + goN p q sn sd * 1) * lowDen (-sn) sd + lowNum (-sn) sd * (1 * goD p q sn sd) = goN p q sn sd * lowDen (-sn) sd + lowNum (-sn) sd * goD p q sn sd := by grind
  have e2 : 1 * goD p q sn sd * lowDen (-sn) sd = goD p q sn sd * lowDen (-sn) sd := by grind
  rw [e1, e2] at s3
  rw [e2] at s2
  have h5 := congI.trans s2 (congI.eq s3) (congI.add hc hr)
  have hl := congI.low (sumK (backL p q sn sd) 2).1 (sumK (backL p q sn sd) 2).2 s1
  have hlb := low_bd (sumK (backL p q sn sd) 2).1 (sumK (backL p q sn sd) 2).2 s1
  have h6 := (congI.trans s1 hl h5).neg
  have e3 : lowNum (sumK (backL p q sn sd) 2).1 (sumK (backL p q sn sd) 2).2 * -1 = -lowNum (sumK (backL p q sn sd) 2).1 (sumK (backL p q sn sd) 2).2 := by omega
  rw [e3]
  refine congI.same hlb.2.1 (Int.mul_pos (by omega) (by omega)) ?_
  refine congI.trans (Int.mul_pos m1 (by omega)) h6 (congI.eq ?_)
  grind
end Go.Proofs.Ytnokjdcgokfdhaa
