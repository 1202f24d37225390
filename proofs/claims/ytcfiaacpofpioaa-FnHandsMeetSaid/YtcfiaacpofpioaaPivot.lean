/- Statements whose order is open: (A) a head whose operations yield their values in every world in which nothing that was there has turned, and a tail in one forced order; (B) such a head, ONE operation of whatever make (a call that hands back memory), and behind it operations that yield. -/
import Derived.Test.YtcfiaacpofpioaaLate
set_option linter.unusedSimpArgs false
set_option linter.unusedVariables false
set_option maxRecDepth 100000
namespace Go.Proofs.Ytcfiaacpofpioaa
open Go.RowKit
section
variable {P : Program} {ops : Array Oper} {md : Region.Mode} {C : World → Prop}

def headB (md : Region.Mode) (ops : Array Oper) (E : Nat → Array Bool → Bool) : Nat → Nat → Array Bool → Bool
  | 0, k, listed => E k listed
  | f + 1, k, listed => (Region.ready md ops listed).contains k && Region.free md ops listed k && headB md ops E f (k + 1) (listed.setIfInBounds k true)

def wpAnyQL (P : Program) (md : Region.Mode) (ops : Array Oper) (C : World → Prop) (n : Nat) (L : Array Bool → Act → Prop) : Nat → Array Bool → Act → Prop
  | 0, listed, a => L listed a
  | f + 1, listed, a =>
    Region.ready md ops listed ≠ [] ∧ ∀ i ∈ Region.ready md ops listed, i < n ∧ qOp P ops C i (wpAnyQL P md ops C n L f (listed.setIfInBounds i true)) a

theorem wpAny_of_headQ {n g : Nat} {L : Array Bool → Act → Prop} {Q' : Exit → Act → World → Prop} (hL : ∀ listed a w, C w → L listed a → wpAny P md ops Q' g listed a w) :
    ∀ (f : Nat) (listed : Array Bool) (a : Act) (w : World), C w → wpAnyQL P md ops C n L f listed a → wpAny P md ops Q' (f + g) listed a w
  | 0, listed, a, w, hw, h => by rw [Nat.zero_add]; exact hL _ _ _ hw h
  | f + 1, listed, a, w, hw, h => by
    rw [show f + 1 + g = (f + g) + 1 by omega]
    exact ⟨fun h0 => absurd h0 h.1, fun i hi => wpOp_of_qOp hw (fun a' w' hw' h' => wpAny_of_headQ hL f _ a' w' hw' h') (h.2 i hi).2⟩

theorem wpAnyQL_first {n i : Nat} {oi : Oper} {v : Value} {L : Array Bool → Act → Prop} (hi : ops[i]? = some oi) (hsel : ∀ (j : Nat) (o : Oper) cs b, ops[j]? = some o → o.op ≠ .select cs b)
    (tw : ∀ listed, HeadInv md ops n listed → ∀ i, i < n → listed.getD i true = false → ∀ t, n ≤ t → t ∉ Region.ready md ops listed) (hin : i < n)
    (hdone : ∀ listed a, L listed a → ∀ j ∈ Region.ready md ops listed, n ≤ j) :
    ∀ (f : Nat) (listed : Array Bool) (a : Act), HeadInv md ops n listed →
      (∀ j oj, ops[j]? = some oj → j ≠ i → listed.getD j true = false → (∀ e ∈ oj.after, Region.binds md e = true → e.on ≠ i) → oi.apart ops oj = true) →
      i ∈ Region.ready md ops listed → YieldsIn P ops C oi v a →
      wpAnyQL P md ops C n L f (listed.setIfInBounds i true) (a.put oi.dst v) → wpAnyQL P md ops C n L (f + 1) listed a := by
  intro f
  induction f with
  | zero =>
    intro listed a inv _ hr hy H
    have hun := (mem_ready.1 hr).1
    refine ⟨fun h => (by rw [h] at hr; cases hr), fun j hj => ?_⟩
    have hjn : j < n := by
      rcases Nat.lt_or_ge j n with h | h
      · exact h
      · exact absurd hj (tw _ inv i hin hun j h)
    refine ⟨hjn, ?_⟩
    by_cases hji : j = i
    · subst hji; exact hy.qOp hi H
    · have := hdone _ _ H j (ready_mono hj hji)
      omega
  | succ f ih =>
    intro listed a inv hfree hr hy H
    have hun := (mem_ready.1 hr).1
    refine ⟨fun h => (by rw [h] at hr; cases hr), fun j hj => ?_⟩
    have hjn : j < n := by
      rcases Nat.lt_or_ge j n with h | h
      · exact h
      · exact absurd hj (tw _ inv i hin hun j h)
    refine ⟨hjn, ?_⟩
    by_cases hji : j = i
    · subst hji; exact hy.qOp hi H
    · have h1 := (H.2 j (ready_mono hj hji)).2
      obtain ⟨hjun, oj, hoj, hall⟩ := mem_ready.1 hj
      have hnot : ∀ e ∈ oj.after, Region.binds md e = true → e.on ≠ i := fun e he hb heq => by
        have h1 := hall e he hb
        rw [heq, getD_both hun] at h1
        cases h1
      have h2 := qOp_put hoj (hfree j oj hoj hji hjun hnot) (fun cs b => hsel i oi cs b hi) (fun cs b => hsel j oj cs b hoj) hy h1
      have hfree' : ∀ k ok, ops[k]? = some ok → k ≠ i → (listed.setIfInBounds j true).getD k true = false →
          (∀ e ∈ ok.after, Region.binds md e = true → e.on ≠ i) → oi.apart ops ok = true := fun k ok hk hki hl hno => by
        refine hfree k ok hk hki ?_ hno
        by_cases hjk : j = k
        · subst hjk; exact hjun
        · rw [getD_set_ne true hjk] at hl; exact hl
      refine qOp_mono (fun a' h3 => ih (listed.setIfInBounds j true) a' (inv.set hj hjn) hfree' (ready_mono hr (Ne.symm hji)) h3.1 ?_) h2
      rw [Array.setIfInBounds_comm _ _ hji]
      exact h3.2

theorem wpAnyQL_lex {n : Nat} {E : Nat → Array Bool → Bool} {Lq : Act → Prop} (hsel : Region.noSelect ops = true)
    (tw : ∀ listed, HeadInv md ops n listed → ∀ i, i < n → listed.getD i true = false → ∀ t, n ≤ t → t ∉ Region.ready md ops listed)
    (hE : ∀ listed, E n listed = true → ∀ j ∈ Region.ready md ops listed, n ≤ j) :
    ∀ (l : List Oper) (k : Nat) (listed : Array Bool) (a : Act), (∀ j, j < l.length → l[j]? = ops[k + j]?) → k + l.length = n → HeadInv md ops n listed →
    headB md ops E l.length k listed = true → wpQuiet P ops C Lq l a →
    wpAnyQL P md ops C n (fun listed' a' => E n listed' = true ∧ Lq a') l.length listed a
  | [], k, listed, a, _, hk, _, hB, h => by
    have : k = n := by simpa using hk
    subst this
    exact ⟨by simpa [headB] using hB, h⟩
  | o :: l, k, listed, a, hl, hk, inv, hB, h => by
    have h0 : ops[k]? = some o := by simpa using (hl 0 (by simp)).symm
    simp only [List.length_cons, headB, Bool.and_eq_true] at hB
    obtain ⟨⟨hr, hf⟩, hB'⟩ := hB
    have hkn : k < n := by simp only [List.length_cons] at hk; omega
    have hr' : k ∈ Region.ready md ops listed := by simpa using hr
    have hst : qOp P ops C k (wpQuiet P ops C Lq l) a := by unfold qOp; simp only [h0]; exact h
    obtain ⟨v, hy, hK⟩ := yieldsIn_of_qOp h0 hst
    exact wpAnyQL_first h0 (Region.noSelect_spec hsel) tw hkn (fun listed' a' hL => hE _ hL.1) l.length listed a inv (Region.free_spec h0 hf) hr' hy
      (wpAnyQL_lex hsel tw hE l (k + 1) _ _ (fun j hj => by have := hl (j + 1) (by simp; omega); simpa [Nat.add_assoc, Nat.add_comm 1 j] using this) (by simp only [List.length_cons] at hk; omega) (inv.set hr' hkn) hB' hK)

/-- (A) -/
def tailB (md : Region.Mode) (ops : Array Oper) (n : Nat) : Bool :=
  Region.noSelect ops && decide (n < ops.size) && Region.sinkB md ops n && Region.chainB md ops n && headB md ops (fun k listed => Region.seqB md ops (ops.size - n) k listed) n 0 (Array.replicate ops.size false)

theorem wp_region_btail {id : Nat} {Q : Exit → Act → World → Prop} {a : Act} {w : World} {l : List Oper} (n : Nat) (hm : P.follows .mixedOrders = true) (hB : tailB .any l.toArray n = true)
    (h : wpB P l.toArray (fun w' => Below w.heap.size w w') (fun a' => ∀ w', Below w.heap.size w w' → wpList P l.toArray Q (l.drop n) a' w') (l.take n) a) : (Code.region id l.toArray true).wp P Q a w := by
  simp only [tailB, Bool.and_eq_true, decide_eq_true_eq] at hB
  obtain ⟨⟨⟨⟨hsel, hn⟩, hs⟩, hc⟩, hlex⟩ := hB
  have hn' : n < l.length := by simpa using hn
  have htl : (l.take n).length = n := by simp; omega
  have hdl : (l.drop n).length = l.toArray.size - n := by simp
  have inv0 : HeadInv .any l.toArray n (Array.replicate l.toArray.size false) :=
    ⟨by simp, fun j oj _ hl => (by rw [getD_replicate_false] at hl; cases hl), fun t _ ht => getD_in (by simpa using ht) (getD_replicate_false _ _)⟩
  have hq := quiet_of_wpB (fun w1 w2 h1 h2 => h1.trans (h2.mono h1.size)) (l.take n) a h
  have H := wpAnyQL_lex (md := .any) (n := n) (E := fun k listed => Region.seqB .any l.toArray (l.toArray.size - n) k listed) hsel (fun listed inv i hi hun => tail_waits hs hc hn inv _ i rfl hi hun)
    (fun listed hL => seqB_ready hL) (l.take n) 0 _ a (fun j hj => by
    have hj' : j < n := by rw [htl] at hj; exact hj
    simp [hj']) (by simpa using htl) inv0 (by rw [htl]; exact hlex) hq
  refine wp_region_any hm ?_
  have := wpAny_of_headQ (Q' := Q) (g := l.toArray.size - n) (fun listed a' w' hw hL => by
    have := wpAny_of_seq (md := .any) (Q' := Q) (l.drop n) n listed a' w' (fun j => by simp [List.getElem?_drop]) (by rw [hdl]; exact hL.1) (hL.2 w' hw)
    rwa [hdl] at this) _ _ _ _ (Below.refl _ _).drew H
  rw [htl, show n + (l.toArray.size - n) = l.toArray.size by omega] at this
  exact this

/-! (B) -/
def behindB (md : Region.Mode) (ops : Array Oper) (n : Nat) : Bool :=
  (List.range ops.size).all fun t => decide (t ≤ n) || (List.range t).any fun j => decide (n ≤ j) && Region.waitsFor md ops t j
theorem sink_waits {n : Nat} {listed : Array Bool} (hs : Region.sinkB md ops n = true) (inv : HeadInv md ops n listed) (hn : n < ops.size) :
    ∀ (d i : Nat), n - i = d → i < n → listed.getD i true = false → n ∉ Region.ready md ops listed := by
  intro d
  induction d using Nat.strongRecOn with
  | _ d ih =>
    intro i hd hi hun hr
    obtain ⟨_, ot, hot, hall⟩ := mem_ready.1 hr
    have h1 := List.all_eq_true.1 hs i (List.mem_range.2 hi)
    obtain ⟨j, hj, hj2⟩ := List.any_eq_true.1 h1
    simp only [Bool.and_eq_true, decide_eq_true_eq] at hj2
    obtain ⟨oj, hoj, e, he, hb, hon⟩ := Region.waitsFor_spec hj2.2
    have hjle : j ≤ n := by have := List.mem_range.1 hj; omega
    by_cases hjt : j = n
    · subst hjt
      have : oj = ot := Option.some.inj (hoj.symm.trans hot)
      subst this
      have h2 := hall e he hb
      rw [hon, getD_both hun] at h2
      cases h2
    · cases hl : listed.getD j false with
      | true =>
        have h2 := inv.closed j oj hoj hl e he hb
        rw [hon, getD_both hun] at h2
        cases h2
      | false =>
        have hjs : j < listed.size := by rw [inv.size]; omega
        exact ih (n - j) (by omega) j rfl (by omega) (getD_in hjs hl) hr
theorem pivot_waits {n : Nat} (hs : Region.sinkB md ops n = true) (hb : behindB md ops n = true) (hn : n < ops.size) (listed : Array Bool) (inv : HeadInv md ops n listed) :
    ∀ i, i < n → listed.getD i true = false → ∀ t, n ≤ t → t ∉ Region.ready md ops listed := by
  intro i hi hun t ht hr
  by_cases htn : t = n
  · subst htn; exact sink_waits hs inv hn _ i rfl hi hun hr
  · obtain ⟨_, ot, hot, hall⟩ := mem_ready.1 hr
    have htlt : t < ops.size := (Array.getElem?_eq_some_iff.1 hot).1
    have h1 := List.all_eq_true.1 hb t (List.mem_range.2 htlt)
    simp only [Bool.or_eq_true, decide_eq_true_eq] at h1
    rcases h1 with h1 | h1
    · omega
    · obtain ⟨j, hj, hj2⟩ := List.any_eq_true.1 h1
      simp only [Bool.and_eq_true, decide_eq_true_eq] at hj2
      obtain ⟨o', ho', e, he, hbd, hon⟩ := Region.waitsFor_spec hj2.2
      have hjt := List.mem_range.1 hj
      have : o' = ot := Option.some.inj (ho'.symm.trans hot)
      subst this
      have h2 := hall e he hbd
      rw [hon, getD_both (inv.tail j hj2.1 (by omega))] at h2
      cases h2
def pivotB (md : Region.Mode) (ops : Array Oper) (n : Nat) : Bool :=
  Region.noSelect ops && decide (n < ops.size) && Region.sinkB md ops n && behindB md ops n && headB md ops (fun k listed => decide (Region.ready md ops listed = [k]) && Region.lexFrom md ops (ops.size - n - 1) (k + 1) (listed.setIfInBounds k true)) n 0 (Array.replicate ops.size false)

theorem wp_region_pivot {id : Nat} {Q : Exit → Act → World → Prop} {a : Act} {w : World} {l : List Oper} (n : Nat) {o : Oper} (hm : P.follows .mixedOrders = true) (hB : pivotB .any l.toArray n = true) (ho : l.toArray[n]? = some o) (hg : o.guard = none)
    (h : wpB P l.toArray (fun w' => Below w.heap.size w w') (fun a' => ∀ w', Below w.heap.size w w' →
      o.wp P a' w' (fun a2 w2 => wpB P l.toArray (fun w' => Below w2.heap.size w2 w') (fun a3 => ∀ w3, Below w2.heap.size w2 w3 → Q .normal a3 w3) (l.drop (n + 1)) a2) Q) (l.take n) a) : (Code.region id l.toArray true).wp P Q a w := by
  simp only [pivotB, Bool.and_eq_true, decide_eq_true_eq] at hB
  obtain ⟨⟨⟨⟨hsel, hn⟩, hs⟩, hc⟩, hlex⟩ := hB
  have hn' : n < l.length := by simpa using hn
  have htl : (l.take n).length = n := by simp; omega
  have hdl : (l.drop (n + 1)).length = l.toArray.size - n - 1 := by simp; omega
  have inv0 : HeadInv .any l.toArray n (Array.replicate l.toArray.size false) :=
    ⟨by simp, fun j oj _ hl => (by rw [getD_replicate_false] at hl; cases hl), fun t _ ht => getD_in (by simpa using ht) (getD_replicate_false _ _)⟩
  have hq := quiet_of_wpB (fun w1 w2 h1 h2 => h1.trans (h2.mono h1.size)) (l.take n) a h
  have H := wpAnyQL_lex (md := .any) (n := n) (E := fun k listed => decide (Region.ready .any l.toArray listed = [k]) && Region.lexFrom .any l.toArray (l.toArray.size - n - 1) (k + 1) (listed.setIfInBounds k true)) hsel (pivot_waits hs hc hn)
    (fun listed hL j hj => by
      simp only [Bool.and_eq_true, decide_eq_true_eq] at hL
      rw [hL.1] at hj
      have : j = n := by simpa using hj
      omega) (l.take n) 0 _ a (fun j hj => by
    have hj' : j < n := by rw [htl] at hj; exact hj
    simp [hj']) (by simpa using htl) inv0 (by rw [htl]; exact hlex) hq
  refine wp_region_any hm ?_
  have := wpAny_of_headQ (Q' := Q) (g := (l.toArray.size - n - 1) + 1) (fun listed a' w' hw hL => by
    obtain ⟨hE, hL2⟩ := hL
    simp only [Bool.and_eq_true, decide_eq_true_eq] at hE
    have h3 := hL2 w' hw
    refine ⟨fun h0 => (by rw [hE.1] at h0; cases h0), fun i hi => ?_⟩
    rw [hE.1] at hi
    have hin : i = n := by simpa using hi
    subst hin
    unfold wpOp
    simp only [ho]
    rw [if_pos (by simp [Region.wanted, hg])]
    left
    refine Oper.wp_mono (fun a2 w2 h4 => ?_) h3
    have h5 := quiet_of_wpB (fun w1 w2 h1 h2 => h1.trans (h2.mono h1.size)) (l.drop (i + 1)) a2 h4
    have h6 := wpAnyQ_lex (C := fun w' => Below w2.heap.size w2 w') (md := .any) hsel (l.drop (i + 1)) (i + 1) (listed.setIfInBounds i true) a2 (fun j => by simp [List.getElem?_drop]) (by rw [hdl]; exact hE.2) h5
    rw [hdl] at h6
    exact wpAny_of_quiet (Q := fun a3 => ∀ w3, Below w2.heap.size w2 w3 → Q .normal a3 w3) (fun _ w3 hw3 h => h w3 hw3) _ _ _ _ (Below.refl _ _) h6) _ _ _ _ (Below.refl _ _).drew H
  rw [htl, show n + (l.toArray.size - n - 1 + 1) = l.toArray.size by omega] at this
  exact this
theorem wpB_mono {S S' : World → Prop} {Q : Act → Prop} (hS : ∀ w, S' w → S w) : ∀ (l : List Oper) (a : Act), wpB P ops S Q l a → wpB P ops S' Q l a
  | [], _, h => h
  | _ :: l, _, ⟨v, hv, h⟩ => ⟨v, hv.imp (fun ⟨h1, h2⟩ => ⟨h1, fun w hw => h2 w (hS w hw)⟩) id, wpB_mono hS l _ h⟩
theorem wpB_post {S : World → Prop} {Q Q' : Act → Prop} (hQ : ∀ a, Q a → Q' a) : ∀ (l : List Oper) (a : Act), wpB P ops S Q l a → wpB P ops S Q' l a
  | [], _, h => hQ _ h
  | _ :: l, _, ⟨v, hv, h⟩ => ⟨v, hv, wpB_post hQ l _ h⟩
theorem wp_call_of {o : Oper} {a : Act} {w : World} {f : FuncId} {args : Array Value} {K : Act → World → Prop} {Q : Exit → Act → World → Prop} (h : (execOp a.eval o).run P w = .ok (.enter f args) w)
    (hc : Calls P f args w fun e w'' => ∃ v, e = .returned v ∧ K (a.put o.dst v) w'') : o.wp P a w K Q := by
  unfold Oper.wp
  rw [h]
  exact hc.mono fun e w'' ⟨v, he, hk⟩ => by subst he; exact hk
theorem wp_call_at {P : Program} {o : Oper} {a : Act} {w : World} {f : FuncId} {args : Array Value} {K : Act → World → Prop} {Q : Exit → Act → World → Prop} (d : Tmp) (hd : o.dst = some d) (h : (execOp a.eval o).run P w = .ok (.enter f args) w)
    (hc : Calls P f args w fun e w'' => ∃ v, e = .returned v ∧ K (a.put (some d) v) w'') : o.wp P a w K Q := by
  rw [← hd] at hc
  exact wp_call_of h hc
/-- (B) where the one operation is a call that hands back g v, v of R, and turns nothing that was there. -/
theorem wp_region_made {id : Nat} {Q : Exit → Act → World → Prop} {a : Act} {w : World} {l : List Oper} (n : Nat) {o : Oper} {t : Tmp} {f : FuncId} {args : Array Value} (g : Value → Value) (R : Value → World → Prop)
    (hR : ∀ v w1 w2, R v w1 → Below w1.heap.size w1 w2 → R v w2) (hm : P.follows .mixedOrders = true) (hB : pivotB .any l.toArray n = true) (ho : l.toArray[n]? = some o) (hg : o.guard = none) (hd : o.dst = some t)
    (h : wpB P l.toArray (fun w' => Below w.heap.size w w') (fun a' => (∀ w', Below w.heap.size w w' → (execOp a'.eval o).run P w' = .ok (.enter f args) w') ∧
      (∀ w', Below w.heap.size w w' → Calls P f args w' fun e w2 => ∃ v, e = .returned (g v) ∧ R v w2 ∧ Below w'.heap.size w' w2) ∧
      ∀ v, wpB P l.toArray (fun w' => Below w.heap.size w w') (fun a3 => ∀ w3, Below w.heap.size w w3 → R v w3 → Q .normal a3 w3) (l.drop (n + 1)) (a'.put (some t) (g v))) (l.take n) a) : (Code.region id l.toArray true).wp P Q a w := by
  refine wp_region_pivot n hm hB ho hg (wpB_post (fun a' h1 w' hw' => ?_) _ _ h)
  obtain ⟨hrun, hcall, hrest⟩ := h1
  refine wp_call_of (hrun w' hw') ((hcall w' hw').mono fun e w2 ⟨v, he, hr, hb⟩ => ⟨g v, he, ?_⟩)
  have hw2 : Below w.heap.size w w2 := hw'.trans (hb.mono hw'.size)
  rw [hd]
  exact wpB_mono (fun w3 h3 => hw2.trans (h3.mono hw2.size)) _ _ (wpB_post (fun a3 h3 w3 hw3 => h3 w3 (hw2.trans (hw3.mono hw2.size)) (hR v w2 w3 hr hw3)) _ _ (hrest v))
end
end Go.Proofs.Ytcfiaacpofpioaa
