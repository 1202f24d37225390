/- What the walks of FnHandsAhead and FnHandsMeet ask of the numbers. -/
import Derived.Test.YtcfiaacpofpioaaMtL
import Derived.Test.YtcfiaacpofpioaaCong
import Derived.Test.YtcfiaacpofpioaaPlaces
import Derived.Test.YtcfiaacpofpioaaThree
set_option linter.unusedSimpArgs false
set_option linter.unusedVariables false
set_option maxRecDepth 100000
namespace Go.Proofs.Ytcfiaacpofpioaa
open Go.RowKit

theorem mtIs {n d : Int} {x : Int × Int} (h : (n, d) = x) : x.1 = n ∧ x.2 = d := by rw [← h]; exact ⟨rfl, rfl⟩
theorem hasT_in {ts : List (Int × Int)} {x y : Int} (h : (x, y) ∈ ts) : hasT ts x y = true := decide_eq_true h
theorem mem_getD {L : List (Int × Int)} {k : Nat} (hk : k < L.length) : L.getD k (0, 0) ∈ L := by
  rw [List.getD_eq_getElem?_getD, List.getElem?_eq_getElem hk]; exact List.getElem_mem hk
theorem riseS {L : List (Int × Int)} (hg : AllGood L) (hs : Strict L) : Rises L := by
  refine ⟨fun j hj => ?_, fun j hj => ?_⟩
  · obtain ⟨b1, b2, b3, b4⟩ := goodB_bd (hg _ (mem_getD hj))
    exact ⟨⟨b3, b4⟩, b1, b2⟩
  · have h := (List.pairwise_iff_getElem.1 hs) j (j + 1) (by omega) hj (by omega)
    rw [List.getD_eq_getElem?_getD, List.getElem?_eq_getElem (by omega), Option.getD_some, List.getD_eq_getElem?_getD, List.getElem?_eq_getElem hj, Option.getD_some]
    rw [ltT_iff] at h
    omega
theorem times_strict {rn rd rs pn pd : Int} (h1 : 1 ≤ rd) (h2 : 1 ≤ pd) : Strict (timesR rn rd rs pn pd).1 := by
  rcases Int.lt_trichotomy rs 0 with h0 | h0 | h0
  · rw [timesR_neg h0]
    have hD : 1 ≤ rd * pd := Int.mul_pos (by omega) (by omega)
    have b := low_bd (rn * pd - pn * rd) (rd * pd) hD
    have l := low_lt (rn * pd - pn * rd) (rd * pd) hD
    exact parts_strict b.2.1 b.1 (by omega)
  · rw [timesR_zero h0]; exact List.Pairwise.nil
  · rw [timesR_pos h0]
    have hD : 1 ≤ pd * rd := Int.mul_pos (by omega) (by omega)
    have b := low_bd (pn * rd - rn * pd) (pd * rd) hD
    have l := low_lt (pn * rd - rn * pd) (pd * rd) hD
    exact parts_strict b.2.1 b.1 (by omega)
theorem twoB_bd {an ad av bn bd bv : Int} (h : twoB an ad av bn bd bv = true) : handB an ad av = true ∧ handB bn bd bv = true := by
  simpa only [twoB, Bool.and_eq_true] using h
/-- The times at which one hand is ahead of another one by so much. -/
theorem ahead_all {an ad av bn bd bv yn yd : Int} {L : List (Int × Int)} (k : aheadR an ad av bn bd bv yn yd = (L, true)) :
    (twoB an ad av bn bd bv = true ∧ goodB yn yd = true) ∧ (-800 ≤ av - bv ∧ av - bv ≤ 800) ∧ (L.length : Int) = (if av - bv < 0 then -(av - bv) else av - bv) ∧ Rises L ∧ Strict L ∧ AllGood L ∧
    (∀ x ∈ L, aheadAtT an ad av bn bd bv x.1 x.2 = (yn, yd, true)) ∧ 1 ≤ L.length := by
  have hall := aheadR_all (by rw [k] : (aheadR an ad av bn bd bv yn yd).2 = true)
  rw [k] at hall
  unfold aheadR at k
  split at k
  · rename_i g
    rw [Bool.and_eq_true] at g
    obtain ⟨ga, gb⟩ := twoB_bd g.1
    obtain ⟨⟨r1, r2⟩, r3, r4⟩ := rel_bd ga gb
    obtain ⟨y1, -⟩ := startB_bd g.2
    have gy := startB_good g.2
    have h2 : (timesR (relN an ad bn bd) (relD an ad bn bd) (av - bv) yn yd).2 = true := by rw [k]
    have ht := times_rise (rs := av - bv) (by omega) r1 y1 h2
    have hs := times_strict (rn := relN an ad bn bd) (rd := relD an ad bn bd) (rs := av - bv) (pn := yn) (pd := yd) r1 y1
    have hb : ∀ x ∈ (timesR (relN an ad bn bd) (relD an ad bn bd) (av - bv) yn yd).1, _ := fun x hx => times_back r1 gy hx
    have hz : av - bv ≠ 0 := fun e => by rw [timesR_zero e] at h2; cases h2
    rw [k] at ht hs hb
    refine ⟨⟨g.1, gy⟩, r4, ht.2, ht.1, hs, hall, fun x hx => ?_, ?_⟩
    · unfold aheadAtT
      rw [if_pos (by rw [g.1, hall x hx]; rfl)]
      exact hb x hx
    · have := ht.2
      split at this <;> (simp only at this; omega)
  · simp at k
/-- What is ahead of, and how far behind it is: a half is opposite both ways. -/
theorem rel_cong {an ad av bn bd bv : Int} (ga : handB an ad av = true) (gb : handB bn bd bv = true) : 1 ≤ ad * bd ∧ 1 ≤ relD an ad bn bd ∧ congI (relN an ad bn bd) (relD an ad bn bd) (an * bd - bn * ad) (ad * bd) := by
  obtain ⟨⟨a1, -⟩, -⟩ := handB_bd ga
  obtain ⟨⟨b1, -⟩, -⟩ := handB_bd gb
  have hD : 1 ≤ ad * bd := Int.mul_pos (by omega) (by omega)
  exact ⟨hD, (low_bd _ _ hD).2.1, congI.low _ _ hD⟩
theorem ahead_cong {P Q X D s tn td : Int} (h : congI P Q X D) : congI (P * td + s * tn * Q) (Q * td) (X * td + s * tn * D) (D * td) := by
  obtain ⟨k, hk⟩ := h
  exact ⟨k, by grind⟩
theorem mk_half {M D M' D' : Int} (hD : 1 ≤ D) (hD' : 1 ≤ D') (h : mk M D = (1, 2, true)) (hc : congI M' D' (-M) D) : mk M' D' = (1, 2, true) := by
  obtain ⟨-, e1, e2⟩ := mk_good hD h
  have c := (congI.low M D hD).neg
  rw [e1, e2] at c
  have c2 : congI M' D' (-1) 2 := hc.trans hD c.symm
  obtain ⟨u1, u2⟩ := congI.same hD' (by omega) c2
  have n1 : lowNum (-1) 2 = 1 := by decide
  have n2 : lowDen (-1) 2 = 2 := by decide
  unfold mk
  rw [u1, u2, n1, n2]
  rfl
theorem opposite_back {an ad av bn bd bv tn td : Int} (h : aheadAtT an ad av bn bd bv tn td = (1, 2, true)) : aheadAtT bn bd bv an ad av tn td = (1, 2, true) := by
  unfold aheadAtT at h
  split at h
  · rename_i g
    rw [Bool.and_eq_true] at g
    obtain ⟨ga, gb⟩ := twoB_bd g.1
    obtain ⟨t1, -⟩ := goodB_bd g.2
    obtain ⟨d1, q1, c1⟩ := rel_cong ga gb
    obtain ⟨d2, q2, c2⟩ := rel_cong gb ga
    unfold aheadAtT
    rw [if_pos (by rw [g.2, Bool.and_true]; unfold twoB; rw [ga, gb]; rfl)]
    have hQ : 1 ≤ relD an ad bn bd * td := Int.mul_pos (by omega) (by omega)
    have hQ' : 1 ≤ relD bn bd an ad * td := Int.mul_pos (by omega) (by omega)
    refine mk_half hQ hQ' h ?_
    have e1 := ahead_cong (s := bv - av) (tn := tn) (td := td) c2
    have e2 := (ahead_cong (s := av - bv) (tn := tn) (td := td) c1).neg
    have hm : 1 ≤ bd * ad * td := Int.mul_pos d2 (by omega)
    have hm' : 1 ≤ ad * bd * td := Int.mul_pos d1 (by omega)
    refine e1.trans hm (congI.trans hm' (congI.eq ?_) e2.symm)
    grind
  · simp [fail3] at h
/-- Three meet where the first is ahead of the third by nothing. -/
theorem zero_low {M D : Int} (hD : 1 ≤ D) (h : congI M D 0 1) : mk M D = (0, 1, true) := by
  obtain ⟨u1, u2⟩ := congI.same hD (by omega) h
  have n1 : lowNum 0 1 = 0 := by decide
  have n2 : lowDen 0 1 = 1 := by decide
  unfold mk
  rw [u1, u2, n1, n2]
  rfl
theorem lowz {M D : Int} (hD : 1 ≤ D) (h : lowNum M D = 0) : congI M D 0 1 := by
  have c := (congI.low M D hD).symm
  have b := low_bd M D hD
  rw [h] at c
  obtain ⟨k, hk⟩ := c
  refine ⟨k, ?_⟩
  refine Int.eq_of_mul_eq_mul_left (show lowDen M D ≠ 0 by omega) ?_
  grind
theorem three_at {an ad av cn cd cv tn td x y : Int} {o : Bool} (ga : handB an ad av = true) (gc' : handB cn cd cv = true) (gt : goodB tn td = true) (h : aheadAtT an ad av cn cd cv tn td = (x, y, o)) : sameB an ad av cn cd cv (tn, td) = (o && (x == 0)) := by
  obtain ⟨⟨a1, -⟩, -⟩ := handB_bd ga
  obtain ⟨⟨b1, -⟩, -⟩ := handB_bd gc'
  obtain ⟨t1, -⟩ := goodB_bd gt
  obtain ⟨d1, q1, c1⟩ := rel_cong ga gc'
  unfold aheadAtT at h
  rw [if_pos (by rw [gt, Bool.and_true]; unfold twoB; rw [ga, gc']; rfl)] at h
  have hQ : 1 ≤ relD an ad cn cd * td := Int.mul_pos (by omega) (by omega)
  have hm : 1 ≤ ad * cd * td := Int.mul_pos d1 (by omega)
  have e1 := ahead_cong (s := av - cv) (tn := tn) (td := td) c1
  have hA : 1 ≤ ad * td := Int.mul_pos (by omega) (by omega)
  have hC : 1 ≤ cd * td := Int.mul_pos (by omega) (by omega)
  -- the difference of both places is what the first is ahead by
  have key : congI (an * td + av * tn * ad) (ad * td) (cn * td + cv * tn * cd) (cd * td) ↔ congI (relN an ad cn cd * td + (av - cv) * tn * relD an ad cn cd) (relD an ad cn cd * td) 0 1 := by
    constructor
    · rintro ⟨k, hk⟩
      refine e1.trans hm ⟨k, ?_⟩
      refine Int.eq_of_mul_eq_mul_left (show td ≠ 0 by omega) ?_
      grind
    · intro hz
      obtain ⟨k, hk⟩ := e1.symm.trans hQ hz
      exact ⟨k, by grind⟩
  cases hs : sameB an ad av cn cd cv (tn, td)
  · symm
    rw [← Bool.not_eq_true]
    intro hb
    rw [Bool.and_eq_true] at hb
    obtain ⟨rfl, hx⟩ := hb
    have hx : x = 0 := by simpa using hx
    obtain ⟨-, m1, -⟩ := mk_good hQ h
    have hz := lowz hQ (by rw [m1, hx])
    have hcg := key.2 hz
    obtain ⟨s1, s2⟩ := congI.same hA hC hcg
    unfold sameB at hs
    simp only at hs
    rw [s1, s2] at hs
    simp [eqT] at hs
  · unfold sameB at hs
    simp only [eqT, decide_eq_true_eq] at hs
    obtain ⟨k, hk⟩ := (low_same _ _ _ _ hA hC).1 hs
    have hz := zero_low hQ (key.1 ⟨k, by grind⟩)
    rw [hz] at h
    simp only [Prod.mk.injEq] at h
    rw [← h.1, ← h.2.2]
    rfl
theorem three_all {R : List (Int × Int) × Bool} {an ad av cn cd cv : Int} {L M : List (Int × Int)} (kR : R = (L, true)) (hg : AllGood L) (hs : Strict L) (ga : handB an ad av = true) (k : threeR R an ad av cn cd cv = (M, true)) :
    Rises M ∧ M.length ≤ L.length ∧ ∀ x ∈ L, ∀ p q o, aheadAtT an ad av cn cd cv x.1 x.2 = (p, q, o) → hasT M x.1 x.2 = (o && (p == 0)) := by
  subst kR
  unfold threeR at k
  split at k
  · rename_i g
    rw [Bool.and_eq_true] at g
    simp only [Prod.mk.injEq, and_true] at k
    subst k
    refine ⟨riseS (fun x hx => hg x (List.mem_filter.1 hx).1) (List.Pairwise.filter _ hs), List.length_filter_le _ _, fun x hx p q o h => ?_⟩
    have := three_at ga g.2 (hg x hx) h
    rw [← this]
    unfold hasT
    rw [Bool.eq_iff_iff, decide_eq_true_eq, List.mem_filter]
    exact ⟨fun h => h.2, fun h => ⟨hx, h⟩⟩
  · simp at k
/-- The hand that goes as one goes ahead of another one. -/
theorem relative_at {an ad av bn bd bv rn rd rs yn yd : Int} (k : relT an ad av bn bd bv = (rn, rd, rs, true)) : handAtT rn rd rs yn yd = aheadAtT an ad av bn bd bv yn yd ∧ rs = av - bv ∧ (-800 ≤ av - bv ∧ av - bv ≤ 800) := by
  unfold relT at k
  split at k
  · rename_i g
    rw [Bool.and_eq_true] at g
    obtain ⟨ga, gb⟩ := twoB_bd g.1
    simp only [Prod.mk.injEq, and_true] at k
    obtain ⟨rfl, rfl, rfl⟩ := k
    have hr : handB (relN an ad bn bd) (relD an ad bn bd) (av - bv) = true := g.2
    refine ⟨?_, rfl, (rel_bd ga gb).2.2⟩
    unfold handAtT aheadAtT
    rw [hr, g.1]
  · simp [fail4] at k
theorem place_all {n d s yn yd : Int} {L : List (Int × Int)} (k : placeR n d s yn yd = (L, true)) :
    (-400 ≤ s ∧ s ≤ 400) ∧ (L.length : Int) = (if s < 0 then -s else s) ∧ Rises L ∧ ∀ x ∈ L, handAtT n d s x.1 x.2 = (yn, yd, true) := by
  unfold placeR at k
  split at k
  · rename_i g
    rw [Bool.and_eq_true] at g
    obtain ⟨⟨d1, d2, -⟩, s1, s2⟩ := handB_bd g.1
    obtain ⟨y1, y2, -⟩ := startB_bd g.2
    have gy := startB_good g.2
    have h2 : (timesR n d s yn yd).2 = true := by rw [k]
    have ht := times_rise (rs := s) (by omega) d1 y1 h2
    have hall := timesR_all (rs := s) ⟨d1, by omega⟩ ⟨y1, y2⟩ h2
    have hb : ∀ x ∈ (timesR n d s yn yd).1, _ := fun x hx => times_back d1 gy hx
    rw [k] at ht hall hb
    refine ⟨⟨s1, s2⟩, ht.2, ht.1, fun x hx => ?_⟩
    unfold handAtT
    rw [if_pos (by rw [g.1, hall x hx]; rfl)]
    exact hb x hx
  · simp at k
end Go.Proofs.Ytcfiaacpofpioaa
