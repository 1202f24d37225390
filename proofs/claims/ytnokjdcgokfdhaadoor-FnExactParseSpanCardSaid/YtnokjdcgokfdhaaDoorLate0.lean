/- A statement whose order is open and that ends with the new variable that it fills: as Late, with nothing behind. -/
import Derived.Test.YtnokjdcgokfdhaaDoorLate
set_option linter.unusedSimpArgs false
set_option linter.unusedVariables false
set_option maxRecDepth 100000
namespace Go.Proofs.YtnokjdcgokfdhaaDoor
open Go.RowKit
section
variable {P : Program} {ops : Array Oper} {md : Region.Mode} {S : World → Prop}
theorem anyT_first0 {m i : Nat} {t : Tmp} {om os oi : Oper} {zs vs : Array Value} {T : TypeId} {v : Value} {L : Array Bool → Act → Option (Value × Bool) → Prop} (hom : ops[m]? = some om) (hdst : om.dst = some t) (hos : ops[m + 1]? = some os)
    (hi : ops[i]? = some oi) (him : i ≠ m) (him' : i ≠ m + 1) (hsel : ∀ (j : Nat) (o : Oper) cs b, ops[j]? = some o → o.op ≠ .select cs b)
    (hn : ops.size = m + 2) (hin : i < m + 2)
    (hdone : ∀ listed a pp, L listed a pp → ∀ j ∈ Region.ready md ops listed, m + 2 ≤ j) :
    ∀ (f : Nat) (listed : Array Bool) (a : Act) (pp : Option (Value × Bool)), HeadInv md ops (m + 2) listed →
      (∀ j oj, ops[j]? = some oj → j ≠ i → listed.getD j true = false → (∀ e ∈ oj.after, Region.binds md e = true → e.on ≠ i) → oi.apart ops oj = true) →
      i ∈ Region.ready md ops listed → InS P ops S oi v a →
      anyT P md ops S m t os zs vs T L f (listed.setIfInBounds i true) (a.put oi.dst v) pp → anyT P md ops S m t os zs vs T L (f + 1) listed a pp := by
  intro f
  induction f with
  | zero =>
    intro listed a pp inv _ hr hy H
    have hun := (mem_ready.1 hr).1
    refine ⟨fun h => (by rw [h] at hr; cases hr), fun j hj => ?_⟩
    have hjn : j < m + 2 := by
      rcases Nat.lt_or_ge j (m + 2) with h | h
      · exact h
      · obtain ⟨_, o', ho', _⟩ := mem_ready.1 hj; have := (Array.getElem?_eq_some_iff.1 ho').1; omega
    by_cases hji : j = i
    · subst hji; exact ⟨by omega, .inr (.inr ⟨him, him', oi, v, hi, hy, H⟩)⟩
    · have := hdone _ _ _ H j (ready_mono hj hji)
      omega
  | succ f ih =>
    intro listed a pp inv hfree hr hy H
    have hun := (mem_ready.1 hr).1
    refine ⟨fun h => (by rw [h] at hr; cases hr), fun j hj => ?_⟩
    have hjn : j < m + 2 := by
      rcases Nat.lt_or_ge j (m + 2) with h | h
      · exact h
      · obtain ⟨_, o', ho', _⟩ := mem_ready.1 hj; have := (Array.getElem?_eq_some_iff.1 ho').1; omega
    refine ⟨by omega, ?_⟩
    by_cases hji : j = i
    · subst hji; exact .inr (.inr ⟨him, him', oi, v, hi, hy, H⟩)
    · obtain ⟨hjun, oj, hoj, hall⟩ := mem_ready.1 hj
      have hnot : ∀ e ∈ oj.after, Region.binds md e = true → e.on ≠ i := fun e he hb heq => by
        have h1 := hall e he hb
        rw [heq, getD_both hun] at h1
        cases h1
      have hap := hfree j oj hoj hji hjun hnot
      obtain ⟨p1, p2, p3⟩ := Oper.apart_spec hap
      have hfree' : ∀ k ok, ops[k]? = some ok → k ≠ i → (listed.setIfInBounds j true).getD k true = false →
          (∀ e ∈ ok.after, Region.binds md e = true → e.on ≠ i) → oi.apart ops ok = true := fun k ok hk hki hl hno => by
        refine hfree k ok hk hki ?_ hno
        by_cases hjk : j = k
        · subst hjk; exact hjun
        · rw [getD_set_ne true hjk] at hl; exact hl
      have keep : ∀ u, InS P ops S oi v (a.put oj.dst u) := fun u =>
        hy.of_same (execOp_put oi (fun cs b => hsel i oi cs b hi) a oj.dst u p3) (wanted_put oi a oj.dst u p3)
      rcases (H.2 j (ready_mono hj hji)).2 with ⟨rfl, h3⟩ | ⟨rfl, p, rfl, hfill, h3⟩ | ⟨hjm, hjm', o, u, ho, hu, h3⟩
      · have hoo : oj = om := Option.some.inj (hoj.symm.trans hom)
        subst hoo
        refine .inl ⟨rfl, fun p => ?_⟩
        refine ih (listed.setIfInBounds j true) (a.put (some t) p) (some (p, false)) (inv.set hj hjn) hfree' (ready_mono hr (Ne.symm hji)) (by rw [← hdst]; exact keep p) ?_
        rw [Array.setIfInBounds_comm _ _ hji, ← Act.put_comm a v p (by rw [← hdst]; exact p2)]
        exact h3 p
      · have hoo : oj = os := Option.some.inj (hoj.symm.trans hos)
        subst hoo
        refine .inr (.inl ⟨rfl, p, rfl, ?_, ?_⟩)
        · intro b w hp hw
          have := hfill b w hp hw
          rwa [execOp_put oj (fun cs b => hsel _ oj cs b hos) a oi.dst v p1] at this
        · refine ih (listed.setIfInBounds (m + 1) true) a (some (p, true)) (inv.set hj hjn) hfree' (ready_mono hr (Ne.symm hji)) hy ?_
          rw [Array.setIfInBounds_comm _ _ hji]
          exact h3
      · have hoo : o = oj := Option.some.inj (ho.symm.trans hoj)
        subst hoo
        refine .inr (.inr ⟨hjm, hjm', o, u, ho, ?_, ?_⟩)
        · exact hu.of_same (execOp_put o (fun cs b => hsel j o cs b hoj) a oi.dst v p1).symm (wanted_put o a oi.dst v p1).symm
        · refine ih (listed.setIfInBounds j true) (a.put o.dst u) pp (inv.set hj hjn) hfree' (ready_mono hr (Ne.symm hji)) (keep u) ?_
          rw [Array.setIfInBounds_comm _ _ hji, ← Act.put_comm a v u p2]
          exact h3

/-- Once all ahead of number k are listed, the next one that comes up below n is k, where k waits for nothing more and every later one waits. -/
theorem anyT_lex0 {m g : Nat} {t : Tmp} {om os : Oper} {zs vs : Array Value} {T : TypeId} {Lq : Act → Prop} (hom : ops[m]? = some om) (hdst : om.dst = some t) (hos : ops[m + 1]? = some os) (hsel : Region.noSelect ops = true)
    (hn : ops.size = m + 2) (hw : Region.waitsFor md ops (m + 1) m = true)
    (hfill : ∀ a p, Lq a → FillOK P os zs vs T (a.put (some t) p) p) :
    ∀ (l : List Oper) (k : Nat) (listed : Array Bool) (a : Act), (∀ j, j < l.length → l[j]? = ops[k + j]?) → k + l.length = m → HeadInv md ops (m + 2) listed → (∀ j, j < k → listed.getD j true = true) →
    Region.lexHead md ops g (l.length + 2) k listed = true → wpB P ops S Lq l a →
    anyT P md ops S m t os zs vs T (fun listed' a' pp => Region.seqB md ops g (m + 2) listed' = true ∧ ∃ a0 p, pp = some (p, true) ∧ a' = a0.put (some t) p ∧ Lq a0) (l.length + 2) listed a none
  | [], k, listed, a, _, hk, inv, hdn, hB, h => by
    have hkm : k = m := by simpa using hk
    subst hkm
    simp only [List.length_nil, Nat.zero_add, Region.lexHead, Bool.and_eq_true] at hB
    obtain ⟨⟨hr, _⟩, ⟨hr2, _⟩, hB'⟩ := hB
    have hr' : k ∈ Region.ready md ops listed := by simpa using hr
    have hr2' : k + 1 ∈ Region.ready md ops (listed.setIfInBounds k true) := by simpa using hr2
    have hks : k < listed.size := by rw [inv.size]; omega
    refine ⟨fun h0 => (by rw [h0] at hr'; cases hr'), fun i hi => ?_⟩
    have hin : i < k + 2 := by
      rcases Nat.lt_or_ge i (k + 2) with h' | h'
      · exact h'
      · obtain ⟨_, o', ho', _⟩ := mem_ready.1 hi; have := (Array.getElem?_eq_some_iff.1 ho').1; omega
    have hik : i = k := by
      rcases Nat.lt_or_ge i k with h' | h'
      · have h1 := (mem_ready.1 hi).1
        rw [hdn i h'] at h1
        cases h1
      · by_cases hi1 : i = k + 1
        · subst hi1
          obtain ⟨o', ho', e, he, hb, hon⟩ := Region.waitsFor_spec hw
          obtain ⟨_, o2, ho2, hall⟩ := mem_ready.1 hi
          have : o2 = o' := Option.some.inj (ho2.symm.trans ho')
          subst this
          have h2 := hall e he hb
          rw [hon, getD_both (mem_ready.1 hr').1] at h2
          cases h2
        · omega
    subst hik
    refine ⟨by omega, .inl ⟨rfl, fun p => ?_⟩⟩
    refine ⟨fun h0 => (by rw [h0] at hr2'; cases hr2'), fun j hj => ?_⟩
    have inv' := inv.set hr' (show i < i + 2 by omega)
    have hjn : j < i + 2 := by
      rcases Nat.lt_or_ge j (i + 2) with h' | h'
      · exact h'
      · obtain ⟨_, o', ho', _⟩ := mem_ready.1 hj; have := (Array.getElem?_eq_some_iff.1 ho').1; omega
    have hji : j = i + 1 := by
      rcases Nat.lt_or_ge j i with h' | h'
      · have h1 := (mem_ready.1 hj).1
        rw [getD_set_ne true (by omega), hdn j h'] at h1
        cases h1
      · by_cases h1 : j = i
        · subst h1
          have h1 := (mem_ready.1 hj).1
          simp [hks] at h1
        · omega
    subst hji
    exact ⟨by omega, .inr (.inl ⟨rfl, p, rfl, hfill a p h, hB', a, p, rfl, rfl, h⟩)⟩
  | o :: l, k, listed, a, hl, hk, inv, hdn, hB, h => by
    have h0 : ops[k]? = some o := by simpa using (hl 0 (by simp)).symm
    have hkm : k < m := by simp only [List.length_cons] at hk; omega
    rw [show (o :: l).length + 2 = (l.length + 2) + 1 from rfl] at hB
    rw [Region.lexHead] at hB
    simp only [Bool.and_eq_true] at hB
    obtain ⟨⟨hr, hf⟩, hB'⟩ := hB
    have hr' : k ∈ Region.ready md ops listed := by simpa using hr
    obtain ⟨v, hy, hK⟩ := h
    refine anyT_first0 hom hdst hos h0 (by omega) (by omega) (Region.noSelect_spec hsel) hn (by omega) (fun listed' a' pp hL => seqB_ready hL.1) (l.length + 2) listed a none inv (Region.free_spec h0 hf) hr' hy
      (anyT_lex0 hom hdst hos hsel hn hw hfill l (k + 1) _ _ (fun j hj => by have := hl (j + 1) (by simp; omega); simpa [Nat.add_assoc, Nat.add_comm 1 j] using this) (by simp only [List.length_cons] at hk; omega) (inv.set hr' (by omega)) ?_ hB' hK)
    intro j hj
    by_cases hjk : k = j
    · subst hjk
      have hks : k < listed.size := by rw [inv.size]; omega
      simp [hks]
    · rw [getD_set_ne true hjk]; exact hdn j (by omega)

/-- A statement whose order is open: its operations ahead of number m yield their values in every world in which nothing that was there has turned; number m is a new variable, number m + 1 fills it; behind them the rest stands in one order. -/
theorem wp_region_late0 {id : Nat} {Q : Exit → Act → World → Prop} {a : Act} {w : World} {l : List Oper} (m : Nat) {t : Tmp} {om os : Oper} (zs vs : Array Value) (T : TypeId) (hm : P.follows .mixedOrders = true)
    (hlen : l.length = m + 2) (hB : (Region.noSelect l.toArray && Region.lexHead .any l.toArray (l.toArray.size - (m + 2)) (m + 2) 0 (Array.replicate l.toArray.size false) && Region.waitsFor .any l.toArray (m + 1) m) = true) (hom : l.toArray[m]? = some om) (hdst : om.dst = some t) (hgd : om.guard = none)
    (hos : l.toArray[m + 1]? = some os) (hosd : os.dst = none) (hosg : os.guard = none)
    (hrun : ∀ (a : Act) (w : World), (execOp a.eval om).run P w = .ok (.value (.pointer (some ⟨w.heap.size, 0, none⟩))) (w.alloc (.cells zs T)))
    (h : wpB P l.toArray (fun w' => Below w.heap.size w w') (fun a' => (∀ p, FillOK P os zs vs T (a'.put (some t) p) p) ∧ ∀ (b : Nat) (w' : World), Below w.heap.size w w' → w.heap.size ≤ b → b < w'.heap.size → (∀ i, w'.cell? ⟨b, i, none⟩ = vs[i]?) → (∀ i, w'.frozen? ⟨b, i, none⟩ = false) →
      wpList P l.toArray Q (l.drop (m + 2)) (a'.put (some t) (.pointer (some ⟨b, 0, none⟩))) w') (l.take m) a) : (Code.region id l.toArray true).wp P Q a w := by
  simp only [Bool.and_eq_true] at hB
  obtain ⟨⟨hsel, hlex⟩, hw⟩ := hB
  have hn : l.toArray.size = m + 2 := by simpa using hlen
  have hn' : m + 2 = l.length := hlen.symm
  have htl : (l.take m).length = m := by simp; omega
  have hdl : (l.drop (m + 2)).length = l.toArray.size - (m + 2) := by simp
  have inv0 : HeadInv .any l.toArray (m + 2) (Array.replicate l.toArray.size false) :=
    ⟨by simp, fun j oj _ hl => (by rw [getD_replicate_false] at hl; cases hl), fun t _ ht => getD_in (by simpa using ht) (getD_replicate_false _ _)⟩
  have H := anyT_lex0 (md := .any) (g := l.toArray.size - (m + 2)) (zs := zs) (vs := vs) (T := T) hom hdst hos hsel hn hw (fun a' p hq => hq.1 p) (l.take m) 0 _ a (fun j hj => by
    have hj' : j < m := by rw [htl] at hj; exact hj
    simp [hj']) (by simpa using htl) inv0 (fun j hj => absurd hj (Nat.not_lt_zero _)) (by rw [htl]; exact hlex) h
  refine wp_region_any hm ?_
  have key := wpAny_of_anyT (Q := Q) (W := w) (g := l.toArray.size - (m + 2)) (zs := zs) (vs := vs) (T := T) hom hdst (fun a => by simp [Region.wanted, hgd]) hrun hos hosd (fun a => by simp [Region.wanted, hosg])
    (fun listed a' pp w1 hL hw1 hf => by
      obtain ⟨hq, a0, p, rfl, rfl, hLq⟩ := hL
      obtain ⟨b, rfl, hb1, hb2, hb3⟩ := hf p true rfl
      have hseq := wpAny_of_seq (md := .any) (Q' := Q) (l.drop (m + 2)) (m + 2) listed (a0.put (some t) (.pointer (some ⟨b, 0, none⟩))) w1 (fun j => by simp [List.getElem?_drop]) (by rw [hdl]; exact hq)
        (hLq.2 b w1 hw1 hb1 hb2 (fun i => by simp [World.cell?, hb3]) (fun i => by simp [World.frozen?, hb3]))
      rwa [hdl] at hseq) _ _ _ _ w.drew H (Below.refl _ _).drew (fun p f hp => by cases hp)
  rw [htl, show m + 2 + (l.toArray.size - (m + 2)) = l.toArray.size by omega] at key
  exact key
end
end Go.Proofs.YtnokjdcgokfdhaaDoor
