/- What the walk of FnHandsMeet asks of the numbers. -/
import Derived.Test.YtcfiaacpofpioaaMtT
set_option linter.unusedSimpArgs false
set_option linter.unusedVariables false
set_option maxRecDepth 100000
namespace Go.Proofs.Ytcfiaacpofpioaa
open Go.RowKit

theorem abs_is (n : Int) : absI n = if n < 0 then -n else n := by
  unfold absI most
  split <;> split <;> omega
theorem count_all {an ad av bn bd bv : Int} {L : List (Int × Int)} (k : aheadR an ad av bn bd bv 0 1 = (L, true)) : countT an ad av bn bd bv = ((if av - bv < 0 then -(av - bv) else av - bv), true) := by
  obtain ⟨⟨g, -⟩, -, hl, -, -, -, -, h1⟩ := ahead_all k
  unfold countT askedB
  have hne : (av != bv) = true := by
    rw [bne_iff_ne]
    intro e
    have h0 : (L.length : Int) ≤ 0 := by rw [hl]; split <;> omega
    omega
  rw [g, hne, abs_is]
  rfl
/-- At the times of a meeting both hands stand in one place. -/
theorem meet_same {an ad av bn bd bv : Int} {L : List (Int × Int)} (k : aheadR an ad av bn bd bv 0 1 = (L, true)) : ∀ x ∈ L, handAtT bn bd bv x.1 x.2 = handAtT an ad av x.1 x.2 := by
  obtain ⟨⟨g, -⟩, -, -, -, -, hg, hall, -⟩ := ahead_all k
  obtain ⟨ga, gb⟩ := twoB_bd g
  intro x hx
  have hs := three_at ga gb (hg x hx) (hall x hx)
  simp only [sameB, eqT, decide_eq_true_eq, Bool.true_and] at hs
  have hs := of_decide_eq_true (hs.trans (by rfl))
  unfold handAtT mk
  rw [ga, gb, hg x hx, hs.1, hs.2]
/-- All places at which they meet. -/
theorem place_in {R : List (Int × Int) × Bool} {an ad av : Int} {L M : List (Int × Int)} (kR : R = (L, true)) (hg : AllGood L) (ga : handB an ad av = true) (k : placesR R an ad av = (M, true)) :
    Rises M ∧ (1 ≤ L.length → 1 ≤ M.length) ∧ M.length ≤ L.length ∧ ∀ x ∈ L, ∀ p q, handAtT an ad av x.1 x.2 = (p, q, true) → hasT M p q = true := by
  subst kR
  obtain ⟨⟨a1, -⟩, -⟩ := handB_bd ga
  unfold placesR at k
  split at k
  · rename_i g
    rw [Bool.and_eq_true] at g
    simp only [Prod.mk.injEq, and_true] at k
    have hpl : AllGood (L.map (plc an ad av)) := plc_all a1 hg (fun j hj => by
      have g2 : plcOk an ad av L = true := g.2
      unfold plcOk at g2
      rw [List.all_eq_true] at g2
      exact of_decide_eq_true (g2 _ (mem_getD hj)))
    obtain ⟨i0, i1, i2⟩ := insAll_good hpl
    have hlen := insAll_len (L.map (plc an ad av))
    rw [k] at i0 i1 i2 hlen
    rw [List.length_map] at hlen
    refine ⟨riseS i0 i1, fun h1 => ?_, hlen, fun x hx p q hh => ?_⟩
    · have : plc an ad av (L.getD 0 (0, 0)) ∈ M := (i2 _).2 (List.mem_map.2 ⟨_, mem_getD (by omega), rfl⟩)
      exact List.length_pos_of_mem this
    · refine hasT_in ((i2 _).2 (List.mem_map.2 ⟨x, hx, ?_⟩))
      unfold handAtT at hh
      rw [if_pos (by rw [ga, hg x hx]; rfl)] at hh
      obtain ⟨-, e1, e2⟩ := mk_good (Int.mul_pos (by omega) (by have := (goodB_bd (hg x hx)).1; omega)) hh
      unfold plc
      rw [e1, e2]
  · simp at k
/-- The same meetings from the other hand. -/
theorem meet_back {an ad av bn bd bv : Int} {L : List (Int × Int)} (k : aheadR an ad av bn bd bv 0 1 = (L, true)) : aheadR bn bd bv an ad av 0 1 = (L, true) := by
  obtain ⟨⟨g, -⟩, -, hl, -, -, -, -, h1⟩ := ahead_all k
  obtain ⟨ga, gb⟩ := twoB_bd g
  obtain ⟨d1, q1, c1⟩ := rel_cong ga gb
  obtain ⟨d2, q2, c2⟩ := rel_cong gb ga
  have hst : startB 0 1 = true := by decide
  unfold aheadR at k ⊢
  rw [if_pos (by rw [g, hst]; rfl)] at k
  rw [if_pos (by rw [hst, Bool.and_true]; unfold twoB; rw [ga, gb]; rfl), ← k]
  have hc : congI (relN bn bd an ad) (relD bn bd an ad) (-relN an ad bn bd) (relD an ad bn bd) := c2.trans d2 (congI.trans d1 (congI.eq (by grind)) c1.neg.symm)
  obtain ⟨u1, u2⟩ := congI.same q2 q1 hc
  obtain ⟨v1, v2⟩ := congI.same q2 q1 hc
  have hcn : congI (-relN bn bd an ad) (relD bn bd an ad) (relN an ad bn bd) (relD an ad bn bd) := by
    have := hc.neg
    rwa [Int.neg_neg] at this
  obtain ⟨y1, y2⟩ := congI.same q2 q1 hcn
  rcases Int.lt_trichotomy (av - bv) 0 with h0 | h0 | h0
  · rw [timesR_neg h0, timesR_pos (show 0 < bv - av by omega)]
    simp only [Int.zero_mul, Int.one_mul, Int.mul_one, Int.zero_sub, Int.sub_zero]
    rw [y1, y2, show -(av - bv) = bv - av by omega]
  · have h2 : (L.length : Int) ≤ 0 := by rw [hl]; split <;> omega
    omega
  · rw [timesR_pos h0, timesR_neg (show bv - av < 0 by omega)]
    simp only [Int.zero_mul, Int.one_mul, Int.mul_one, Int.zero_sub, Int.sub_zero]
    rw [u1, u2, show -(bv - av) = av - bv by omega]
theorem next_at {an ad av bn bd bv : Int} {L : List (Int × Int)} (k : aheadR an ad av bn bd bv 0 1 = (L, true)) {i : Nat} (hi : i < L.length) :
    nextR (aheadR an ad av bn bd bv 0 1) (L.getD i (0, 0)).1 (L.getD i (0, 0)).2 = ((L.getD ((i + 1) % L.length) (0, 0)).1, (L.getD ((i + 1) % L.length) (0, 0)).2, true) := by
  obtain ⟨-, -, -, -, hs, hg, -⟩ := ahead_all k
  have hgi := hg _ (mem_getD hi)
  rw [k]
  unfold nextR
  rw [if_pos (by rw [hgi]; rfl)]
  simp only
  rw [next_of hs hi]
/-- The next meeting: one of them, and none lies between. -/
theorem nextM_any {R : List (Int × Int) × Bool} {L : List (Int × Int)} {tn td x y : Int} (kR : R = (L, true)) (hs : Strict L) (hg : AllGood L) (h1 : 1 ≤ L.length) (k : nextR R tn td = (x, y, true)) :
    goodB tn td = true ∧ (x, y) ∈ L ∧ ∀ z ∈ L, tn * z.2 < z.1 * td → tn * y < x * td ∧ x * z.2 ≤ z.1 * y := by
  subst kR
  unfold nextR at k
  split at k
  · rename_i g
    rw [Bool.and_eq_true] at g
    simp only [Prod.mk.injEq, and_true] at k
    have hxy : nextOf L tn td = (x, y) := by rw [← k.1, ← k.2]
    refine ⟨g.2, ?_, fun z hz hb => ?_⟩
    · rw [← hxy]
      unfold nextOf
      cases hf : L.find? (isBehind tn td) with
      | none => exact mem_getD (by omega)
      | some v => exact List.mem_of_find?_eq_some hf
    · obtain ⟨j, hj, rfl⟩ := List.getElem_of_mem hz
      unfold nextOf at hxy
      cases hf : L.find? (isBehind tn td) with
      | none =>
        have := List.find?_eq_none.1 hf _ (List.getElem_mem hj)
        simp only [isBehind, decide_eq_true_eq] at this
        omega
      | some v =>
        rw [hf] at hxy
        have hv : v = (x, y) := hxy
        subst hv
        have hbv := List.find?_some hf
        simp only [isBehind, decide_eq_true_eq] at hbv
        refine ⟨by omega, ?_⟩
        rw [List.find?_eq_some_iff_getElem] at hf
        obtain ⟨-, i, hi, e, hno⟩ := hf
        by_cases hij : i ≤ j
        · rcases Nat.lt_or_eq_of_le hij with h | h
          · have hlt := (List.pairwise_iff_getElem.1 hs) i j hi hj h
            rw [ltT_iff, e] at hlt
            simp only at hlt
            omega
          · subst h
            rw [e]
            exact Int.le_refl _
        · have := hno j (by omega)
          simp only [isBehind, Bool.not_eq_true', decide_eq_false_iff_not] at this
          omega
  · simp [fail3] at k
end Go.Proofs.Ytcfiaacpofpioaa
