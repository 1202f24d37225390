/- Lists of turns that rise: parts of a turn, one behind the other. -/
import Derived.Test.YtcfiaacpofpioaaLawW
import Derived.Test.YtcfiaacpofpioaaParts
import Derived.Test.YtcfiaacpofpioaaLowSame
import Derived.Test.YtcfiaacpofpioaaTa0
set_option linter.unusedSimpArgs false
set_option linter.unusedVariables false
set_option maxRecDepth 100000
namespace Go.Proofs.Ytcfiaacpofpioaa
open Go.RowKit

/-- A part of a turn and its lowest terms. -/
theorem low_frac {m D : Int} (hD : 1 ≤ D) (h0 : 0 ≤ m) (h1 : m < D) : ∃ g, 1 ≤ g ∧ D = g * lowDen m D ∧ m = g * lowNum m D := by
  obtain ⟨g, k, hg, e1, e2⟩ := gc_split m D hD
  have b := low_bd m D hD
  have l := low_lt m D hD
  have a1 : g * lowNum m D < g * lowDen m D := Int.mul_lt_mul_of_pos_left (by omega) (by omega)
  have a2 : 0 ≤ g * lowNum m D := Int.mul_nonneg (by omega) (by omega)
  have hk : k = 0 := by
    rcases Int.lt_trichotomy k 0 with h | h | h
    · have : D * k ≤ D * (-1) := Int.mul_le_mul_of_nonneg_left (by omega) (by omega)
      omega
    · exact h
    · have : D * 1 ≤ D * k := Int.mul_le_mul_of_nonneg_left (by omega) (by omega)
      omega
  rw [hk] at e2
  exact ⟨g, hg, e1, by omega⟩
theorem low_rise {m1 m2 D : Int} (hD : 1 ≤ D) (h0 : 0 ≤ m1) (h1 : m1 < m2) (h2 : m2 < D) : lowNum m1 D * lowDen m2 D < lowNum m2 D * lowDen m1 D := by
  obtain ⟨g, hg, e1, e2⟩ := low_frac hD h0 (show m1 < D by omega)
  obtain ⟨k, hk, f1, f2⟩ := low_frac hD (show 0 ≤ m2 by omega) h2
  generalize lowNum m1 D = a at *
  generalize lowDen m1 D = b at *
  generalize lowNum m2 D = c at *
  generalize lowDen m2 D = d at *
  have hgk : 0 < g * k := Int.mul_pos (by omega) (by omega)
  refine Int.lt_of_mul_lt_mul_left (a := g * k) ?_ (by omega)
  have t1 : g * k * (a * d) = (g * a) * (k * d) := by grind
  have t2 : g * k * (c * b) = (k * c) * (g * b) := by grind
  rw [t1, t2, ← e2, ← f2, ← e1, ← f1]
  exact Int.mul_lt_mul_of_pos_right h1 (by omega)
theorem map_range_getD (f : Nat → Int × Int) (n j : Nat) (hj : j < n) : ((List.range n).map f).getD j (0, 0) = f j := by
  simp [List.getD_eq_getElem?_getD, hj]
theorem rises_map {f : Nat → Int × Int} {n : Nat} (hb : ∀ j, j < n → (0 ≤ (f j).1 ∧ (f j).1 ≤ 999999) ∧ 1 ≤ (f j).2 ∧ (f j).2 ≤ 1000000) (hr : ∀ j, j + 1 < n → (f j).1 * (f (j + 1)).2 < (f (j + 1)).1 * (f j).2) : Rises ((List.range n).map f) := by
  refine ⟨fun j hj => ?_, fun j hj => ?_⟩
  · simp only [List.length_map, List.length_range] at hj
    rw [map_range_getD f n j hj]
    exact hb j hj
  · simp only [List.length_map, List.length_range] at hj
    rw [map_range_getD f n j (by omega), map_range_getD f n (j + 1) hj]
    exact hr j hj
/-- All parts of which so many times are a turn rise. -/
theorem parts_rise {h n d : Int} (hh : 1 ≤ h ∧ h ≤ 1000) (hd : 1 ≤ d) (hn : 0 ≤ n) (hn' : n < d) (hb : partsOk h n d = true) : Rises (partsL h n d) := by
  have hD : 1 ≤ d * h := Int.mul_pos (by omega) (by omega)
  have hm : ∀ j : Nat, j < h.toNat → 0 ≤ n + j * d ∧ n + j * d < d * h := fun j hj => by
    have h1 : (0 : Int) ≤ j * d := Int.mul_nonneg (by omega) (by omega)
    have h2 : ((j : Int) + 1) * d ≤ h * d := Int.mul_le_mul_of_nonneg_right (by omega) (by omega)
    rw [Int.add_mul, Int.one_mul] at h2
    rw [Int.mul_comm d h]
    omega
  simp only [partsL, hb, if_true]
  simp only [partsOk, List.all_eq_true, List.mem_range, decide_eq_true_eq] at hb
  refine rises_map (fun j hj => ?_) (fun j hj => ?_)
  · have b := low_bd (n + j * d) (d * h) hD
    have l := low_lt (n + j * d) (d * h) hD
    have k := hb j hj
    unfold twl at *
    simp only at *
    omega
  · have a := hm j (by omega)
    have c := hm (j + 1) hj
    unfold twl
    refine low_rise hD a.1 ?_ c.2
    simp only [Int.natCast_add, Int.natCast_one]
    rw [Int.add_mul, Int.one_mul]
    omega
theorem lessT_ok {a b c d x y : Int} (h : lessT a b c d = (x, y, true)) : goodB a b = true ∧ goodB c d = true ∧ goodB x y = true ∧ mk (a * d - c * b) (b * d) = (x, y, true) := by
  unfold lessT at h
  split at h
  · rename_i g
    simp only [Bool.and_eq_true] at g
    have h1 := (goodB_iff _ _).1 g.1
    have h2 := (goodB_iff _ _).1 g.2
    exact ⟨g.1, g.2, (mk_good (Int.mul_pos (by omega) (by omega)) h).1, h⟩
  · simp [fail3] at h
/-- What was taken away is added again. -/
theorem less_back {a b c d x y : Int} {r : Int × Int × Bool} (h : lessT a b c d = (x, y, true)) (hr : addT c d x y = r) : r = (a, b, true) := by
  obtain ⟨g1, g2, g3, hm⟩ := lessT_ok h
  obtain ⟨b1, -⟩ := (goodB_iff _ _).1 g1
  obtain ⟨d1, -⟩ := (goodB_iff _ _).1 g2
  obtain ⟨y1, -⟩ := (goodB_iff _ _).1 g3
  have hD : 1 ≤ b * d := Int.mul_pos (by omega) (by omega)
  obtain ⟨-, e1, e2⟩ := mk_good hD hm
  obtain ⟨g, k, hg, hD2, hm2⟩ := gc_split (a * d - c * b) (b * d) hD
  rw [e2] at hD2
  rw [e1] at hm2
  have hl : addT c d x y = mk (c * y + x * d) (d * y) := by simp [addT, g2, g3]
  rw [hl] at hr
  refine mk_eq_of (Int.mul_pos (by omega) (by omega)) g1 ?_ hr
  refine ⟨-k, ?_⟩
  have hgp : g ≠ 0 := by omega
  refine Int.eq_of_mul_eq_mul_left hgp ?_
  have q1 : g * y = b * d := hD2.symm
  have q2 : g * x = a * d - c * b - b * d * k := by omega
  have t1 : g * ((c * y + x * d) * b - a * (d * y)) = c * (g * y) * b + (g * x) * d * b - a * d * (g * y) := by grind
  have t2 : g * (d * y * b * -k) = (g * y) * d * b * -k := by grind
  rw [t1, t2, q1, q2]
  grind
end Go.Proofs.Ytcfiaacpofpioaa
