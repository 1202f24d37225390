/- Hands ahead and at places: what the laws on them (FnHandsMeet, FnHandsAhead) want of the numbers alone. -/
import Derived.Test.YtcfiaacpofpioaaMeet5
import Derived.Test.YtcfiaacpofpioaaLowSame
import Derived.Test.YtcfiaacpofpioaaTa0
import Derived.Test.YtcfiaacpofpioaaTr0
import Derived.Test.YtcfiaacpofpioaaUniq
import Derived.Test.YtcfiaacpofpioaaMeet6
set_option linter.unusedSimpArgs false
set_option linter.unusedVariables false
set_option maxRecDepth 100000
namespace Go.Proofs.Ytcfiaacpofpioaa
open Go.RowKit

theorem parts_mem {m n d : Int} {x : Int × Int} (hx : x ∈ partsL m n d) : ∃ j : Nat, x = twl m n d j := by
  unfold partsL at hx
  split at hx
  · obtain ⟨j, -, e⟩ := List.mem_map.1 hx
    exact ⟨j, e.symm⟩
  · simp at hx
/-- A part of the way, so many times, is the way. -/
theorem twl_cong {m n d M D : Int} {j : Nat} (hm : 1 ≤ m) (hD : 1 ≤ D) (e1 : n = lowNum M D) (e2 : d = lowDen M D) :
    (∃ k : Int, (twl m n d j).1 * m * D = M * (twl m n d j).2 + (twl m n d j).2 * D * k) ∧ 1 ≤ (twl m n d j).2 := by
  have b := low_bd M D hD
  obtain ⟨g, k, hg, p1, p2⟩ := gc_split M D hD
  rw [← e1, ← e2] at b
  rw [← e2] at p1
  rw [← e1] at p2
  have hdm : 1 ≤ d * m := Int.mul_pos (by omega) (by omega)
  have c := low_bd (n + j * d) (d * m) hdm
  obtain ⟨g2, k2, hg2, q1, q2⟩ := gc_split (n + j * d) (d * m) hdm
  unfold twl
  simp only
  generalize lowNum (n + j * d) (d * m) = X at *
  generalize lowDen (n + j * d) (d * m) = Y at *
  refine ⟨⟨j - m * k2 - k, ?_⟩, by omega⟩
  refine Int.eq_of_mul_eq_mul_left (show g2 * d ≠ 0 from by have := Int.mul_pos (show 0 < g2 by omega) (show 0 < d by omega); omega) ?_
  have t1 : g2 * d * (X * m * D) = (g2 * X) * (d * m) * D := by grind
  have t3 : g2 * X = n + j * d - d * m * k2 := by omega
  have t2 : g2 * d * (M * Y + Y * D * (j - m * k2 - k)) = (g2 * Y) * (d * M + d * D * (j - m * k2 - k)) := by grind
  rw [t1, t2, t3, ← q1, p2, p1]
  grind
/-- At each of its times a hand stands at the place. -/
theorem times_back {rn rd rs pn pd : Int} (h1 : 1 ≤ rd) (gp : goodB pn pd = true) {x : Int × Int} (hx : x ∈ (timesR rn rd rs pn pd).1) : mk (rn * x.2 + rs * x.1 * rd) (rd * x.2) = (pn, pd, true) := by
  obtain ⟨pd1, -⟩ := goodB_bd gp
  rcases Int.lt_trichotomy rs 0 with h0 | h0 | h0
  · rw [timesR_neg h0] at hx
    obtain ⟨j, rfl⟩ := parts_mem hx
    have hD : 1 ≤ rd * pd := Int.mul_pos (by omega) (by omega)
    obtain ⟨⟨k, hk⟩, hy⟩ := twl_cong (m := -rs) (j := j) (by omega) hD (rfl : lowNum (rn * pd - pn * rd) (rd * pd) = _) (rfl : lowDen (rn * pd - pn * rd) (rd * pd) = _)
    generalize (twl (-rs) (lowNum (rn * pd - pn * rd) (rd * pd)) (lowDen (rn * pd - pn * rd) (rd * pd)) j) = x at *
    exact mk_eq_of (Int.mul_pos (by omega) (by omega)) gp ⟨-k, by grind⟩ rfl
  · rw [timesR_zero h0] at hx; simp at hx
  · rw [timesR_pos h0] at hx
    obtain ⟨j, rfl⟩ := parts_mem hx
    have hD : 1 ≤ pd * rd := Int.mul_pos (by omega) (by omega)
    obtain ⟨⟨k, hk⟩, hy⟩ := twl_cong (m := rs) (j := j) (by omega) hD (rfl : lowNum (pn * rd - rn * pd) (pd * rd) = _) (rfl : lowDen (pn * rd - rn * pd) (pd * rd) = _)
    generalize (twl rs (lowNum (pn * rd - rn * pd) (pd * rd)) (lowDen (pn * rd - rn * pd) (pd * rd)) j) = x at *
    exact mk_eq_of (Int.mul_pos (by omega) (by omega)) gp ⟨k, by grind⟩ rfl
/-- The times rise, and are as many as the hand has rounds. -/
theorem times_rise {rn rd rs pn pd : Int} (hs : -1000 ≤ rs ∧ rs ≤ 1000) (h1 : 1 ≤ rd) (h2 : 1 ≤ pd) (hok : (timesR rn rd rs pn pd).2 = true) :
    Rises (timesR rn rd rs pn pd).1 ∧ ((timesR rn rd rs pn pd).1.length : Int) = if rs < 0 then -rs else rs := by
  rcases Int.lt_trichotomy rs 0 with h0 | h0 | h0
  · rw [timesR_neg h0] at hok ⊢
    have hD : 1 ≤ rd * pd := Int.mul_pos (by omega) (by omega)
    have b := low_bd (rn * pd - pn * rd) (rd * pd) hD
    have l := low_lt (rn * pd - pn * rd) (rd * pd) hD
    refine ⟨parts_rise (by omega) b.2.1 b.1 (by omega) hok, ?_⟩
    unfold partsL
    rw [if_pos hok, if_pos h0, List.length_map, List.length_range]
    omega
  · rw [timesR_zero h0] at hok; cases hok
  · rw [timesR_pos h0] at hok ⊢
    have hD : 1 ≤ pd * rd := Int.mul_pos (by omega) (by omega)
    have b := low_bd (pn * rd - rn * pd) (pd * rd) hD
    have l := low_lt (pn * rd - rn * pd) (pd * rd) hD
    refine ⟨parts_rise (by omega) b.2.1 b.1 (by omega) hok, ?_⟩
    unfold partsL
    rw [if_pos hok, if_neg (by omega), List.length_map, List.length_range]
    omega
theorem parts_strict {h n d : Int} (hd : 1 ≤ d) (hn : 0 ≤ n) (hn' : n < d) : Strict (partsL h n d) := by
  unfold partsL
  split
  · unfold Strict
    rw [List.pairwise_map]
    refine List.Pairwise.imp_of_mem ?_ List.pairwise_lt_range
    intro i j hi hj hij
    have hj' := List.mem_range.1 hj
    have hD : 1 ≤ d * h := Int.mul_pos (by omega) (by omega)
    have x1 : (i : Int) * d + d ≤ j * d := by
      have : ((i : Int) + 1) * d ≤ j * d := Int.mul_le_mul_of_nonneg_right (by omega) (by omega)
      rw [Int.add_mul, Int.one_mul] at this; exact this
    have x2 : (j : Int) * d + d ≤ d * h := by
      have : ((j : Int) + 1) * d ≤ h * d := Int.mul_le_mul_of_nonneg_right (by omega) (by omega)
      rw [Int.add_mul, Int.one_mul, Int.mul_comm h d] at this; exact this
    have x3 : 0 ≤ (i : Int) * d := Int.mul_nonneg (by omega) (by omega)
    have key := low_rise hD (m1 := n + i * d) (m2 := n + j * d) (by omega) (by omega) (by omega)
    rw [ltT_iff]
    show lowNum (n + i * d) (d * h) * lowDen (n + j * d) (d * h) < lowNum (n + j * d) (d * h) * lowDen (n + i * d) (d * h)
    exact key
  · exact List.Pairwise.nil
/-- The next behind one of a list in order: the one that follows, behind the last the first. -/
theorem next_of {L : List (Int × Int)} (hs : Strict L) {i : Nat} (hi : i < L.length) : nextOf L (L.getD i (0, 0)).1 (L.getD i (0, 0)).2 = L.getD ((i + 1) % L.length) (0, 0) := by
  have hp := List.pairwise_iff_getElem.1 hs
  have hgi : L.getD i (0, 0) = L[i] := by rw [List.getD_eq_getElem?_getD, List.getElem?_eq_getElem hi, Option.getD_some]
  rw [hgi]
  have h1 : (L.take (i + 1)).find? (isBehind L[i].1 L[i].2) = none := by
    rw [List.find?_eq_none]
    intro a ha
    obtain ⟨j, hj, e⟩ := List.getElem_of_mem ha
    rw [List.length_take] at hj
    rw [List.getElem_take] at e
    subst e
    unfold isBehind
    rw [decide_eq_true_eq]
    rcases Nat.lt_or_ge j i with h | h
    · have := hp j i (by omega) hi h
      rw [ltT_iff] at this
      omega
    · have : j = i := by omega
      subst this
      omega
  have gen : ∀ p : Int × Int → Bool, (L.take (i + 1)).find? p = none → L.find? p = (L.drop (i + 1)).find? p := fun p h => by
    conv => lhs; rw [← List.take_append_drop (i + 1) L]
    rw [List.find?_append, h, Option.none_or]
  have h2 := gen _ h1
  unfold nextOf
  rw [h2]
  by_cases hl : i + 1 < L.length
  · rw [Nat.mod_eq_of_lt hl, List.drop_eq_getElem_cons hl]
    have h3 : isBehind L[i].1 L[i].2 L[i + 1] = true := by
      have := hp i (i + 1) hi hl (by omega)
      rw [ltT_iff] at this
      unfold isBehind
      rw [decide_eq_true_eq]
      omega
    rw [List.find?_cons_of_pos h3, Option.getD_some, List.getD_eq_getElem?_getD, List.getElem?_eq_getElem hl, Option.getD_some]
  · have e : i + 1 = L.length := by omega
    rw [e, Nat.mod_self, List.drop_length]
    rfl
end Go.Proofs.Ytcfiaacpofpioaa
