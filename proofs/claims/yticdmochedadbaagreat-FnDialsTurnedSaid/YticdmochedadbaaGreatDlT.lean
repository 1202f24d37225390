/- What the walk of FnDialsTurned asks of the numbers. -/
import Derived.Test.YticdmochedadbaaGreatDlL
import Derived.Test.YticdmochedadbaaGreatSeT
set_option linter.unusedSimpArgs false
set_option linter.unusedVariables false
set_option maxRecDepth 100000
namespace Go.Proofs.YticdmochedadbaaGreat
open Go.RowKit

theorem low_low {a b : Int} (hb : 1 ≤ b) : lowNum (lowNum a b) (lowDen a b) = lowNum a b ∧ lowDen (lowNum a b) (lowDen a b) = lowDen a b := by
  have := low_times (h := 1) (k := a) (N := b) hb
  simpa only [Int.mul_one] using this
theorem parts_angle_low {m n d : Int} {j : Nat} (hm : 1 ≤ m) (hd : 1 ≤ d) (hl : lowNum n d = n ∧ lowDen n d = d) : lowNum ((twl m n d j).1 * m) (twl m n d j).2 = n ∧ lowDen ((twl m n d j).1 * m) (twl m n d j).2 = d := by
  have hD : 1 ≤ d * m := Int.mul_pos (by omega) (by omega)
  obtain ⟨u1, u2⟩ := low_times (h := m) (k := n + j * d) (N := d * m) hD
  unfold twl
  simp only
  rw [u1, u2]
  have := (low_same ((n + j * d) * m) (d * m) n d hD hd).2 ⟨j, by grind⟩
  rw [this.1, this.2, hl.1, hl.2]
  exact ⟨rfl, rfl⟩
theorem parts_mem {h n d : Int} (hb : partsOk h n d = true) {x : Int × Int} (hx : x ∈ partsL h n d) : ∃ j : Nat, x = twl h n d j := by
  simp only [partsL, hb, if_true, List.mem_map, List.mem_range] at hx
  obtain ⟨j, -, e⟩ := hx
  exact ⟨j, e.symm⟩
theorem parts_count {h n d : Int} (hh : 0 ≤ h) (hb : partsOk h n d = true) : ((partsL h n d).length : Int) = h := by
  simp only [partsL, hb, if_true, List.length_map, List.length_range]
  omega
theorem turned_all {h a b c e : Int} {L : List (Int × Int)} (k : turR h a b c e = (L, true)) :
    (seAskB h a b c e = true ∧ (2 ≤ h ∧ h ≤ 24)) ∧ (L.length : Int) = h - 1 ∧ Rises L ∧ (trueB h a b c e = true → (a, b) ∈ L) ∧
    ∀ x ∈ L, goodB x.1 x.2 = true ∧ (lowNum (x.1 * (h - 1)) x.2 = apN a b c e ∧ lowDen (x.1 * (h - 1)) x.2 = apD a b c e) := by
  unfold turR at k
  split at k
  · rename_i g
    simp only [Prod.mk.injEq] at k
    obtain ⟨k1, k2⟩ := k
    have g' := g
    simp only [seAskB, Bool.and_eq_true] at g'
    have hh := inB_bd g'.1
    have gs := g'.2
    simp only [seenB, Bool.and_eq_true] at gs
    obtain ⟨b1, -⟩ := goodB_bd gs.1
    obtain ⟨e1, -⟩ := goodB_bd gs.2
    have heb : 1 ≤ e * b := Int.mul_pos (by omega) (by omega)
    have lb := low_bd (c * b - a * e) (e * b) heb
    have ll := low_lt (c * b - a * e) (e * b) heb
    have hlow := low_low (a := c * b - a * e) heb
    have hall := parts_all (h := h - 1) (by omega) (show 1 ≤ apD a b c e from lb.2.1) k2
    have hri := parts_rise (h := h - 1) (by omega) (show 1 ≤ apD a b c e from lb.2.1) (show 0 ≤ apN a b c e from lb.1) (show apN a b c e < apD a b c e from Int.lt_of_le_sub_one ll) k2
    have hct := parts_count (h := h - 1) (by omega) k2
    rw [k1] at hall hri hct
    refine ⟨⟨g, hh⟩, hct, hri, fun ht => ?_, fun x hx => ⟨hall x hx, ?_⟩⟩
    · rw [← k1]; exact short_in g ht k2
    · rw [← k1] at hx
      obtain ⟨j, rfl⟩ := parts_mem k2 hx
      exact parts_angle_low (by omega) lb.2.1 hlow
  · simp at k
theorem turned_seen {h a b c e : Int} {L : List (Int × Int)} (k : turR h a b c e = (L, true)) {x : Int × Int} (hx : x ∈ L) : seenOfT h x.1 x.2 = (x.1, x.2, lowNum (x.1 * h) x.2, lowDen (x.1 * h) x.2, true) := by
  obtain ⟨⟨-, hh⟩, -, -, -, hm⟩ := turned_all k
  unfold seenOfT
  rw [if_pos (by unfold askB; rw [(hm x hx).1, show inB h 2 24 = true from decide_eq_true hh]; rfl)]
theorem turned_back {h a b c e p q : Int} {L : List (Int × Int)} (k : turR h a b c e = (L, true)) {x : Int × Int} (hx : x ∈ L) (hl : lessT a b x.1 x.2 = (p, q, true)) :
    turnT x.1 x.2 (lowNum (x.1 * h) x.2) (lowDen (x.1 * h) x.2) p q = (a, b, c, e, true) := by
  obtain ⟨⟨g, hh⟩, -, -, -, hm⟩ := turned_all k
  obtain ⟨g1, g2⟩ := hm x hx
  simp only [seAskB, Bool.and_eq_true] at g
  have hask : askB h x.1 x.2 = true := by unfold askB; rw [g1, show inB h 2 24 = true from decide_eq_true hh]; rfl
  have u1 := less_back hl (r := addT x.1 x.2 p q) rfl
  have u2 := turned_long g.2 g1 g2 hl (long_good hask)
  unfold turnT
  rw [u1, u2]
  rfl
theorem td_all {h a b c e : Int} {L M : List (Int × Int)} {o : Bool} (k : turR h a b c e = (L, o)) (kd : tdR (turR h a b c e) a b = (M, true)) :
    o = true ∧ M.length = L.length ∧ ∀ j, j < L.length → lessT a b (L.getD j (0, 0)).1 (L.getD j (0, 0)).2 = ((M.getD j (0, 0)).1, (M.getD j (0, 0)).2, true) := by
  rw [k] at kd
  unfold tdR at kd
  split at kd
  · rename_i hx
    simp only [Bool.and_eq_true] at hx
    obtain ⟨h1, h2⟩ := hx
    have h1 : o = true := h1
    subst h1
    simp only [Prod.mk.injEq, and_true] at kd
    subst kd
    obtain ⟨⟨g, -⟩, -, -, -, hm⟩ := turned_all k
    simp only [seAskB, seenB, Bool.and_eq_true] at g
    refine ⟨rfl, by simp, fun j hj => ?_⟩
    have hmem : L.getD j (0, 0) ∈ L := by
      rw [List.getD_eq_getElem?_getD, List.getElem?_eq_getElem hj]; exact List.getElem_mem hj
    have hmap : (L.map (tdl a b)).getD j (0, 0) = tdl a b (L.getD j (0, 0)) := by
      simp [List.getD_eq_getElem?_getD, hj]
    have hden : (tdl a b (L.getD j (0, 0))).2 ≤ 1000000 := by
      have h2 : tdOk a b L = true := h2
      unfold tdOk at h2
      rw [List.all_eq_true] at h2
      exact of_decide_eq_true (h2 _ hmem)
    rw [hmap]
    unfold lessT
    rw [g.2.1, (hm _ hmem).1, Bool.and_true, if_pos rfl]
    exact mk_of hden
  · simp at kd
theorem angle_all {h n d : Int} {L : List (Int × Int)} (k : angR h n d = (L, true)) : (2 ≤ h ∧ h ≤ 24) ∧ (L.length : Int) = h - 1 ∧ Rises L ∧ ∀ x ∈ L, askT h x.1 x.2 (h - 1) = (n, d, true) := by
  unfold angR at k
  split at k
  · rename_i g
    simp only [Prod.mk.injEq] at k
    obtain ⟨k1, k2⟩ := k
    obtain ⟨hh, gd⟩ := ask_bd g
    obtain ⟨d1, -, n0, -⟩ := goodB_bd gd
    have hnd : n < d := by have := ((goodB_iff _ _).1 gd).2.2.2.1; omega
    have hall := parts_all (h := h - 1) (by omega) d1 k2
    have hri := parts_rise (h := h - 1) (by omega) d1 n0 hnd k2
    have hct := parts_count (h := h - 1) (by omega) k2
    rw [k1] at hall hri hct
    refine ⟨hh, hct, hri, fun x hx => ?_⟩
    have gx := hall x hx
    rw [← k1] at hx
    obtain ⟨j, rfl⟩ := parts_mem k2 hx
    obtain ⟨e1, e2⟩ := parts_angle (m := h - 1) (j := j) (by omega) gd
    unfold askT
    rw [if_pos (by unfold askB; rw [gx, show inB h 2 24 = true from decide_eq_true hh]; rfl), e1, e2]
  · simp at k
theorem glass_all {h a b c e : Int} {L : List (Int × Int)} (k : twoR h a b c e (mirQ a b c e) = (L, true)) :
    mirT a b c e = ((mirQ a b c e).1, (mirQ a b c e).2.1, (mirQ a b c e).2.2.1, (mirQ a b c e).2.2.2, true) ∧
    twoR h (mirQ a b c e).1 (mirQ a b c e).2.1 (mirQ a b c e).2.2.1 (mirQ a b c e).2.2.2 (mirQ (mirQ a b c e).1 (mirQ a b c e).2.1 (mirQ a b c e).2.2.1 (mirQ a b c e).2.2.2) = (L, true) ∧
    Rises L ∧ L.length ≤ 2 ∧ ∀ x ∈ L, mirrorT x.1 x.2 = (lowNum (-x.1) x.2, lowDen (-x.1) x.2, true) ∧ (lowNum (-x.1) x.2, lowDen (-x.1) x.2) ∈ L := by
  have hs : seAskB h a b c e = true := by
    unfold twoR at k
    split at k
    · assumption
    · simp at k
  obtain ⟨-, g2, g3, g4, g5⟩ := glass_ok hs
  rw [k] at g2 g3 g4 g5
  simp only [seAskB, Bool.and_eq_true] at hs
  refine ⟨?_, by rw [mirQ_mirQ hs.2, g5], g2, g3, fun x hx => ⟨?_, (g4 x hx).2⟩⟩
  · unfold mirT; rw [if_pos hs.2]
  · unfold mirrorT; rw [if_pos (g4 x hx).1]
theorem glass_two {h a b c e : Int} {L : List (Int × Int)} (k : twoR h a b c e (mirQ a b c e) = (L, true)) (g1 g2 g3 g4 : Int) (hq : mirQ a b c e = (g1, g2, g3, g4)) :
    mirT a b c e = (g1, g2, g3, g4, true) ∧ twoR h g1 g2 g3 g4 (mirQ g1 g2 g3 g4) = (L, true) := by
  obtain ⟨h1, h2, -⟩ := glass_all k
  simp only [mirQ, Prod.mk.injEq] at hq
  obtain ⟨rfl, rfl, rfl, rfl⟩ := hq
  exact ⟨h1, h2⟩
theorem mir_back {a b c e x y z u : Int} {o : Bool} (k : mirT a b c e = (x, y, z, u, o)) : seenB a b c e = o ∧ (o = true → mirT x y z u = (a, b, c, e, true)) := by
  unfold mirT at k
  split at k
  · rename_i g
    simp only [Prod.mk.injEq] at k
    obtain ⟨rfl, rfl, rfl, rfl, rfl⟩ := k
    refine ⟨g, fun _ => ?_⟩
    have hq := mirQ_mirQ g
    have hg : seenB (lowNum (-a) b) (lowDen (-a) b) (lowNum (-c) e) (lowDen (-c) e) = true := mirQ_good g
    unfold mirT
    rw [if_pos hg]
    simp only [mirQ, Prod.mk.injEq] at hq
    rw [hq.1, hq.2.1, hq.2.2.1, hq.2.2.2]
  · rename_i g
    simp only [fail5, Prod.mk.injEq] at k
    obtain ⟨-, -, -, -, rfl⟩ := k
    exact ⟨by simpa using g, fun h => by cases h⟩
theorem turn_back {a b c e n m x y z u : Int} (k : turnT a b c e n m = (x, y, z, u, true)) : mirrorT n m = (lowNum (-n) m, lowDen (-n) m, true) ∧ turnT x y z u (lowNum (-n) m) (lowDen (-n) m) = (a, b, c, e, true) := by
  unfold turnT at k
  split at k
  · rename_i g
    rw [Bool.and_eq_true] at g
    simp only [Prod.mk.injEq, and_true] at k
    obtain ⟨rfl, rfl, rfl, rfl⟩ := k
    have h1 : addT a b n m = ((addT a b n m).1, (addT a b n m).2.1, true) := by rw [← g.1]
    have h2 : addT c e n m = ((addT c e n m).1, (addT c e n m).2.1, true) := by rw [← g.2]
    obtain ⟨-, g2, -⟩ := addT_ok h1
    have hm : mirrorT n m = (lowNum (-n) m, lowDen (-n) m, true) := by unfold mirrorT; rw [if_pos g2]
    refine ⟨hm, ?_⟩
    have a1 := add_away h1 hm
    have a2 := add_away h2 hm
    unfold turnT
    rw [a1, a2]
    rfl
  · simp [fail5] at k
end Go.Proofs.YticdmochedadbaaGreat
