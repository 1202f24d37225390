/- A statement whose order is open, in which calls that only make memory stand beside ONE new variable that is filled at the end: walked once, in the order of the text. The number of the new variable's block is left open. -/
import Derived.StillTail
import Derived.Below
import Derived.Laws.NewBlocks
import Derived.Deep.Quiet
set_option linter.unusedSimpArgs false
set_option linter.unusedVariables false
set_option maxRecDepth 100000
namespace Go.Proofs.Ytcfiaacpofpioaa
open Go.RowKit
section
variable {P : Program} {ops : Array Oper} {md : Region.Mode} {S : World → Prop}

/-- What is asked of an operation's run in the world w: it yields v and leaves w; or it calls a function that hands back v and turns nothing that was there. -/
def yieldsB (P : Program) (w : World) (v : Value) : Result Next → Prop
  | .ok (.value u) w' => w' = w ∧ u = v
  | .ok .skip w' => w' = w ∧ v = undef
  | .ok (.enter f args) w' => w' = w ∧ Calls P f args w (fun e w'' => e = .returned v ∧ Below w.heap.size w w'')
  | _ => False
def atB (P : Program) (o : Oper) (a : Act) (w : World) (v : Value) : Prop := yieldsB P w v ((execOp a.eval o).run P w)
/-- In the state a the operation o leaves v in its slot, in every world that meets S. -/
def InS (P : Program) (ops : Array Oper) (S : World → Prop) (o : Oper) (v : Value) (a : Act) : Prop :=
  (Region.wanted o (yielded ops a.tmps) = true ∧ ∀ w, S w → atB P o a w v) ∨ (Region.wanted o (yielded ops a.tmps) = false ∧ v = undef)
/-- The walk in the order of the text. -/
def wpB (P : Program) (ops : Array Oper) (S : World → Prop) (Q : Act → Prop) : List Oper → Act → Prop
  | [], a => Q a
  | o :: rest, a => ∃ v, InS P ops S o v a ∧ wpB P ops S Q rest (a.put o.dst v)

theorem InS.of_same {o : Oper} {v : Value} {a a' : Act} (hy : InS P ops S o v a) (he : execOp a'.eval o = execOp a.eval o)
    (hw : Region.wanted o (yielded ops a'.tmps) = Region.wanted o (yielded ops a.tmps)) : InS P ops S o v a' := by
  unfold InS atB at *
  rw [he, hw]
  exact hy

theorem wpOp_of_in {i : Nat} {o : Oper} {v : Value} {a : Act} {w : World} {K : Act → World → Prop} {Q : Exit → Act → World → Prop} (hi : ops[i]? = some o) (h : InS P ops S o v a) (hw : S w)
    (hK : ∀ w', Below w.heap.size w w' → K (a.put o.dst v) w') : wpOp P ops Q i K a w := by
  unfold wpOp
  simp only [hi]
  rcases h with ⟨h1, h2⟩ | ⟨h1, rfl⟩
  · rw [if_pos h1]
    left
    have h3 := h2 w hw
    unfold atB at h3
    unfold Oper.wp
    generalize (execOp a.eval o).run P w = r at *
    cases r with
    | halt x w' => exact h3.elim
    | ok n w' =>
      cases n with
      | value u => obtain ⟨rfl, rfl⟩ := h3; exact hK _ (Below.refl _ _)
      | skip => obtain ⟨rfl, rfl⟩ := h3; exact hK _ (Below.refl _ _)
      | enter f args =>
        obtain ⟨rfl, hc⟩ := h3
        exact hc.mono fun e w'' ⟨he, hb⟩ => by subst he; exact hK _ hb
      | _ => exact h3.elim
  · rw [if_neg (by rw [h1]; exact Bool.false_ne_true)]
    exact hK _ (Below.refl _ _)

theorem wpB_take {Q : Act → Prop} {o : Oper} {rest : List Oper} {a : Act} {v : Value} (hw : Region.wanted o (yielded ops a.tmps) = true) (h : ∀ w, S w → atB P o a w v)
    (hr : wpB P ops S Q rest (a.put o.dst v)) : wpB P ops S Q (o :: rest) a := ⟨v, .inl ⟨hw, h⟩, hr⟩
theorem wpB_skip {Q : Act → Prop} {o : Oper} {rest : List Oper} {a : Act} (hw : Region.wanted o (yielded ops a.tmps) = false)
    (hr : wpB P ops S Q rest (a.put o.dst undef)) : wpB P ops S Q (o :: rest) a := ⟨undef, .inr ⟨hw, rfl⟩, hr⟩
theorem atB_value {o : Oper} {a : Act} {w : World} {v u : Value} (h : (execOp a.eval o).run P w = .ok (.value u) w) (e : u = v) : atB P o a w v := by
  unfold atB; rw [h]; exact ⟨rfl, e⟩
theorem atB_call {o : Oper} {a : Act} {w : World} {v : Value} {f : FuncId} {args : Array Value} (h : (execOp a.eval o).run P w = .ok (.enter f args) w) (hc : Calls P f args w fun e w' => e = .returned v ∧ Below w.heap.size w w') : atB P o a w v := by
  unfold atB; rw [h]; exact ⟨rfl, hc⟩

/-- The world behind the store into the new variable's block b. -/
def FillOK (P : Program) (os : Oper) (zs vs : Array Value) (T : TypeId) (a : Act) (p : Value) : Prop :=
  ∀ (b : Nat) (w : World), p = .pointer (some ⟨b, 0, none⟩) → w.heap[b]? = some (.cells zs T) →
    ∃ w', (execOp a.eval os).run P w = .ok .skip w' ∧ w'.os = w.os ∧ w'.tape = w.tape ∧ w'.output = w.output ∧ w'.heap.size = w.heap.size ∧ (∀ k, k ≠ b → w'.heap[k]? = w.heap[k]?) ∧ w'.heap[b]? = some (.cells vs T)

/-- Whatever order is picked: number m is the new variable, whichever address it has; number m + 1 fills it. -/
def anyT (P : Program) (md : Region.Mode) (ops : Array Oper) (S : World → Prop) (m : Nat) (t : Tmp) (os : Oper) (zs vs : Array Value) (T : TypeId) (L : Array Bool → Act → Option (Value × Bool) → Prop) : Nat → Array Bool → Act → Option (Value × Bool) → Prop
  | 0, listed, a, pp => L listed a pp
  | f + 1, listed, a, pp => Region.ready md ops listed ≠ [] ∧ ∀ i ∈ Region.ready md ops listed, i ≤ m + 1 ∧
      ((i = m ∧ ∀ p, anyT P md ops S m t os zs vs T L f (listed.setIfInBounds i true) (a.put (some t) p) (some (p, false))) ∨
       (i = m + 1 ∧ ∃ p, pp = some (p, false) ∧ FillOK P os zs vs T a p ∧ anyT P md ops S m t os zs vs T L f (listed.setIfInBounds i true) a (some (p, true))) ∨
       (i ≠ m ∧ i ≠ m + 1 ∧ ∃ o v, ops[i]? = some o ∧ InS P ops S o v a ∧ anyT P md ops S m t os zs vs T L f (listed.setIfInBounds i true) (a.put o.dst v) pp))

/-- The new variable's place, and what it holds. -/
def FreshAt (B : Nat) (zs vs : Array Value) (T : TypeId) (pp : Option (Value × Bool)) (w : World) : Prop :=
  ∀ p f, pp = some (p, f) → ∃ b, p = .pointer (some ⟨b, 0, none⟩) ∧ B ≤ b ∧ b < w.heap.size ∧ w.heap[b]? = some (.cells (if f then vs else zs) T)

theorem FreshAt.below {B : Nat} {zs vs : Array Value} {T : TypeId} {pp : Option (Value × Bool)} {w w' : World} (h : FreshAt B zs vs T pp w) (hb : Below w.heap.size w w') : FreshAt B zs vs T pp w' := fun p f hp => by
  obtain ⟨b, h1, h2, h3, h4⟩ := h p f hp
  exact ⟨b, h1, h2, Nat.lt_of_lt_of_le h3 hb.size, (hb.block b h3).trans h4⟩

theorem wpAny_of_anyT {m g : Nat} {W : World} {t : Tmp} {om os : Oper} {zs vs : Array Value} {T : TypeId} {L : Array Bool → Act → Option (Value × Bool) → Prop} {Q : Exit → Act → World → Prop}
    (hom : ops[m]? = some om) (hdst : om.dst = some t) (hgd : ∀ a : Act, Region.wanted om (yielded ops a.tmps) = true)
    (hrun : ∀ (a : Act) (w : World), (execOp a.eval om).run P w = .ok (.value (.pointer (some ⟨w.heap.size, 0, none⟩))) (w.alloc (.cells zs T)))
    (hos : ops[m + 1]? = some os) (hosd : os.dst = none) (hosg : ∀ a : Act, Region.wanted os (yielded ops a.tmps) = true)
    (hL : ∀ listed a pp w, L listed a pp → Below W.heap.size W w → FreshAt W.heap.size zs vs T pp w → wpAny P md ops Q g listed a w) :
    ∀ (f : Nat) (listed : Array Bool) (a : Act) (pp : Option (Value × Bool)) (w : World), anyT P md ops (fun w' => Below W.heap.size W w') m t os zs vs T L f listed a pp → Below W.heap.size W w → FreshAt W.heap.size zs vs T pp w → wpAny P md ops Q (f + g) listed a w
  | 0, listed, a, pp, w, h, hs, hf => by rw [Nat.zero_add]; exact hL _ _ _ _ h hs hf
  | f + 1, listed, a, pp, w, h, hs, hf => by
    rw [show f + 1 + g = (f + g) + 1 by omega]
    refine ⟨fun h0 => absurd h0 h.1, fun i hi => ?_⟩
    obtain ⟨_, h2⟩ := h.2 i hi
    rcases h2 with ⟨rfl, h3⟩ | ⟨rfl, p, rfl, hfill, h3⟩ | ⟨_, _, o, v, ho, hin, h3⟩
    · have hw' : Below W.heap.size W (w.alloc (.cells zs T)) := hs.alloc hs.size _
      have key := wpAny_of_anyT hom hdst hgd hrun hos hosd hosg hL f _ _ _ (w.alloc (.cells zs T)) (h3 (.pointer (some ⟨w.heap.size, 0, none⟩))) hw' (fun p f hp => by
        cases hp
        refine ⟨_, rfl, hs.size, by simp, ?_⟩
        show (w.heap.push _)[w.heap.size]? = _
        simp)
      unfold wpOp
      simp only [hom]
      rw [if_pos (hgd a)]
      left
      unfold Oper.wp
      rw [hrun a w, Oper.upon_value, hdst]
      exact key
    · obtain ⟨b, rfl, hb1, hb2, hb3⟩ := hf p false rfl
      obtain ⟨w', hr, e1, e2, e3, e4, e5, e6⟩ := hfill b w rfl hb3
      have hw' : Below W.heap.size W w' := hs.trans ⟨e1, e2, e3, Nat.le_of_eq e4.symm, fun k hk => e5 k (by omega)⟩
      have key := wpAny_of_anyT hom hdst hgd hrun hos hosd hosg hL f _ _ _ w' h3 hw' (fun p f hp => by
        cases hp
        exact ⟨b, rfl, hb1, by rw [e4]; exact hb2, e6⟩)
      unfold wpOp
      simp only [hos]
      rw [if_pos (hosg a)]
      left
      unfold Oper.wp
      rw [hr, Oper.upon_skip, hosd]
      exact key
    · exact wpOp_of_in ho hin hs fun w' hb => wpAny_of_anyT hom hdst hgd hrun hos hosd hosg hL f _ _ _ w' h3 (hs.trans (hb.mono hs.size)) (hf.below hb)

theorem anyT_first {m i : Nat} {t : Tmp} {om os oi : Oper} {zs vs : Array Value} {T : TypeId} {v : Value} {L : Array Bool → Act → Option (Value × Bool) → Prop} (hom : ops[m]? = some om) (hdst : om.dst = some t) (hos : ops[m + 1]? = some os)
    (hi : ops[i]? = some oi) (him : i ≠ m) (him' : i ≠ m + 1) (hsel : ∀ (j : Nat) (o : Oper) cs b, ops[j]? = some o → o.op ≠ .select cs b)
    (hs : Region.sinkB md ops (m + 2) = true) (hc : Region.chainB md ops (m + 2) = true) (hn : m + 2 < ops.size) (hin : i < m + 2)
    (hdone : ∀ listed a pp, L listed a pp → ∀ j ∈ Region.ready md ops listed, m + 2 ≤ j) :
    ∀ (f : Nat) (listed : Array Bool) (a : Act) (pp : Option (Value × Bool)), HeadInv md ops (m + 2) listed →
      (∀ j oj, ops[j]? = some oj → j ≠ i → listed.getD j true = false → (∀ e ∈ oj.after, Region.binds md e = true → e.on ≠ i) → oi.apart ops oj = true) →
      i ∈ Region.ready md ops listed → InS P ops S oi v a →
      anyT P md ops S m t os zs vs T L f (listed.setIfInBounds i true) (a.put oi.dst v) pp → anyT P md ops S m t os zs vs T L (f + 1) listed a pp := by
  intro f
  induction f with
  | zero =>
    intro listed a pp inv _ hr hy H
    have hun := (mem_ready.1 hr).1
    refine ⟨fun h => (by rw [h] at hr; cases hr), fun j hj => ?_⟩
    have hjn : j < m + 2 := by
      rcases Nat.lt_or_ge j (m + 2) with h | h
      · exact h
      · exact absurd hj (tail_waits hs hc hn inv _ i rfl hin hun j h)
    by_cases hji : j = i
    · subst hji; exact ⟨by omega, .inr (.inr ⟨him, him', oi, v, hi, hy, H⟩)⟩
    · have := hdone _ _ _ H j (ready_mono hj hji)
      omega
  | succ f ih =>
    intro listed a pp inv hfree hr hy H
    have hun := (mem_ready.1 hr).1
    refine ⟨fun h => (by rw [h] at hr; cases hr), fun j hj => ?_⟩
    have hjn : j < m + 2 := by
      rcases Nat.lt_or_ge j (m + 2) with h | h
      · exact h
      · exact absurd hj (tail_waits hs hc hn inv _ i rfl hin hun j h)
    refine ⟨by omega, ?_⟩
    by_cases hji : j = i
    · subst hji; exact .inr (.inr ⟨him, him', oi, v, hi, hy, H⟩)
    · obtain ⟨hjun, oj, hoj, hall⟩ := mem_ready.1 hj
      have hnot : ∀ e ∈ oj.after, Region.binds md e = true → e.on ≠ i := fun e he hb heq => by
        have h1 := hall e he hb
        rw [heq, getD_both hun] at h1
        cases h1
      have hap := hfree j oj hoj hji hjun hnot
      obtain ⟨p1, p2, p3⟩ := Oper.apart_spec hap
      have hfree' : ∀ k ok, ops[k]? = some ok → k ≠ i → (listed.setIfInBounds j true).getD k true = false →
          (∀ e ∈ ok.after, Region.binds md e = true → e.on ≠ i) → oi.apart ops ok = true := fun k ok hk hki hl hno => by
        refine hfree k ok hk hki ?_ hno
        by_cases hjk : j = k
        · subst hjk; exact hjun
        · rw [getD_set_ne true hjk] at hl; exact hl
      have keep : ∀ u, InS P ops S oi v (a.put oj.dst u) := fun u =>
        hy.of_same (execOp_put oi (fun cs b => hsel i oi cs b hi) a oj.dst u p3) (wanted_put oi a oj.dst u p3)
      rcases (H.2 j (ready_mono hj hji)).2 with ⟨rfl, h3⟩ | ⟨rfl, p, rfl, hfill, h3⟩ | ⟨hjm, hjm', o, u, ho, hu, h3⟩
      · have hoo : oj = om := Option.some.inj (hoj.symm.trans hom)
        subst hoo
        refine .inl ⟨rfl, fun p => ?_⟩
        refine ih (listed.setIfInBounds j true) (a.put (some t) p) (some (p, false)) (inv.set hj hjn) hfree' (ready_mono hr (Ne.symm hji)) (by rw [← hdst]; exact keep p) ?_
        rw [Array.setIfInBounds_comm _ _ hji, ← Act.put_comm a v p (by rw [← hdst]; exact p2)]
        exact h3 p
      · have hoo : oj = os := Option.some.inj (hoj.symm.trans hos)
        subst hoo
        refine .inr (.inl ⟨rfl, p, rfl, ?_, ?_⟩)
        · intro b w hp hw
          have := hfill b w hp hw
          rwa [execOp_put oj (fun cs b => hsel _ oj cs b hos) a oi.dst v p1] at this
        · refine ih (listed.setIfInBounds (m + 1) true) a (some (p, true)) (inv.set hj hjn) hfree' (ready_mono hr (Ne.symm hji)) hy ?_
          rw [Array.setIfInBounds_comm _ _ hji]
          exact h3
      · have hoo : o = oj := Option.some.inj (ho.symm.trans hoj)
        subst hoo
        refine .inr (.inr ⟨hjm, hjm', o, u, ho, ?_, ?_⟩)
        · exact hu.of_same (execOp_put o (fun cs b => hsel j o cs b hoj) a oi.dst v p1).symm (wanted_put o a oi.dst v p1).symm
        · refine ih (listed.setIfInBounds j true) (a.put o.dst u) pp (inv.set hj hjn) hfree' (ready_mono hr (Ne.symm hji)) (keep u) ?_
          rw [Array.setIfInBounds_comm _ _ hji, ← Act.put_comm a v u p2]
          exact h3

/-- Once all ahead of number k are listed, the next one that comes up below n is k, where k waits for nothing more and every later one waits. -/
theorem anyT_lex {m g : Nat} {t : Tmp} {om os : Oper} {zs vs : Array Value} {T : TypeId} {Lq : Act → Prop} (hom : ops[m]? = some om) (hdst : om.dst = some t) (hos : ops[m + 1]? = some os) (hsel : Region.noSelect ops = true)
    (hs : Region.sinkB md ops (m + 2) = true) (hc : Region.chainB md ops (m + 2) = true) (hn : m + 2 < ops.size) (hw : Region.waitsFor md ops (m + 1) m = true)
    (hfill : ∀ a p, Lq a → FillOK P os zs vs T (a.put (some t) p) p) :
    ∀ (l : List Oper) (k : Nat) (listed : Array Bool) (a : Act), (∀ j, j < l.length → l[j]? = ops[k + j]?) → k + l.length = m → HeadInv md ops (m + 2) listed → (∀ j, j < k → listed.getD j true = true) →
    Region.lexHead md ops g (l.length + 2) k listed = true → wpB P ops S Lq l a →
    anyT P md ops S m t os zs vs T (fun listed' a' pp => Region.seqB md ops g (m + 2) listed' = true ∧ ∃ a0 p, pp = some (p, true) ∧ a' = a0.put (some t) p ∧ Lq a0) (l.length + 2) listed a none
  | [], k, listed, a, _, hk, inv, hdn, hB, h => by
    have hkm : k = m := by simpa using hk
    subst hkm
    simp only [List.length_nil, Nat.zero_add, Region.lexHead, Bool.and_eq_true] at hB
    obtain ⟨⟨hr, _⟩, ⟨hr2, _⟩, hB'⟩ := hB
    have hr' : k ∈ Region.ready md ops listed := by simpa using hr
    have hr2' : k + 1 ∈ Region.ready md ops (listed.setIfInBounds k true) := by simpa using hr2
    have hks : k < listed.size := by rw [inv.size]; omega
    refine ⟨fun h0 => (by rw [h0] at hr'; cases hr'), fun i hi => ?_⟩
    have hin : i < k + 2 := by
      rcases Nat.lt_or_ge i (k + 2) with h' | h'
      · exact h'
      · exact absurd hi (tail_waits hs hc hn inv _ k rfl (by omega) (mem_ready.1 hr').1 i h')
    have hik : i = k := by
      rcases Nat.lt_or_ge i k with h' | h'
      · have h1 := (mem_ready.1 hi).1
        rw [hdn i h'] at h1
        cases h1
      · by_cases hi1 : i = k + 1
        · subst hi1
          obtain ⟨o', ho', e, he, hb, hon⟩ := Region.waitsFor_spec hw
          obtain ⟨_, o2, ho2, hall⟩ := mem_ready.1 hi
          have : o2 = o' := Option.some.inj (ho2.symm.trans ho')
          subst this
          have h2 := hall e he hb
          rw [hon, getD_both (mem_ready.1 hr').1] at h2
          cases h2
        · omega
    subst hik
    refine ⟨by omega, .inl ⟨rfl, fun p => ?_⟩⟩
    refine ⟨fun h0 => (by rw [h0] at hr2'; cases hr2'), fun j hj => ?_⟩
    have inv' := inv.set hr' (show i < i + 2 by omega)
    have hjn : j < i + 2 := by
      rcases Nat.lt_or_ge j (i + 2) with h' | h'
      · exact h'
      · exact absurd hj (tail_waits hs hc hn inv' _ (i + 1) rfl (by omega) (mem_ready.1 hr2').1 j h')
    have hji : j = i + 1 := by
      rcases Nat.lt_or_ge j i with h' | h'
      · have h1 := (mem_ready.1 hj).1
        rw [getD_set_ne true (by omega), hdn j h'] at h1
        cases h1
      · by_cases h1 : j = i
        · subst h1
          have h1 := (mem_ready.1 hj).1
          simp [hks] at h1
        · omega
    subst hji
    exact ⟨by omega, .inr (.inl ⟨rfl, p, rfl, hfill a p h, hB', a, p, rfl, rfl, h⟩)⟩
  | o :: l, k, listed, a, hl, hk, inv, hdn, hB, h => by
    have h0 : ops[k]? = some o := by simpa using (hl 0 (by simp)).symm
    have hkm : k < m := by simp only [List.length_cons] at hk; omega
    rw [show (o :: l).length + 2 = (l.length + 2) + 1 from rfl] at hB
    rw [Region.lexHead] at hB
    simp only [Bool.and_eq_true] at hB
    obtain ⟨⟨hr, hf⟩, hB'⟩ := hB
    have hr' : k ∈ Region.ready md ops listed := by simpa using hr
    obtain ⟨v, hy, hK⟩ := h
    refine anyT_first hom hdst hos h0 (by omega) (by omega) (Region.noSelect_spec hsel) hs hc hn (by omega) (fun listed' a' pp hL => seqB_ready hL.1) (l.length + 2) listed a none inv (Region.free_spec h0 hf) hr' hy
      (anyT_lex hom hdst hos hsel hs hc hn hw hfill l (k + 1) _ _ (fun j hj => by have := hl (j + 1) (by simp; omega); simpa [Nat.add_assoc, Nat.add_comm 1 j] using this) (by simp only [List.length_cons] at hk; omega) (inv.set hr' (by omega)) ?_ hB' hK)
    intro j hj
    by_cases hjk : k = j
    · subst hjk
      have hks : k < listed.size := by rw [inv.size]; omega
      simp [hks]
    · rw [getD_set_ne true hjk]; exact hdn j (by omega)

/-- A statement whose order is open: its operations ahead of number m yield their values in every world in which nothing that was there has turned; number m is a new variable, number m + 1 fills it; behind them the rest stands in one order. -/
theorem wp_region_late {id : Nat} {Q : Exit → Act → World → Prop} {a : Act} {w : World} {l : List Oper} (m : Nat) {t : Tmp} {om os : Oper} (zs vs : Array Value) (T : TypeId) (hm : P.follows .mixedOrders = true)
    (hB : (Region.lexTailB .any l.toArray (m + 2) && Region.waitsFor .any l.toArray (m + 1) m) = true) (hom : l.toArray[m]? = some om) (hdst : om.dst = some t) (hgd : om.guard = none)
    (hos : l.toArray[m + 1]? = some os) (hosd : os.dst = none) (hosg : os.guard = none)
    (hrun : ∀ (a : Act) (w : World), (execOp a.eval om).run P w = .ok (.value (.pointer (some ⟨w.heap.size, 0, none⟩))) (w.alloc (.cells zs T)))
    (h : wpB P l.toArray (fun w' => Below w.heap.size w w') (fun a' => (∀ p, FillOK P os zs vs T (a'.put (some t) p) p) ∧ ∀ (b : Nat) (w' : World), Below w.heap.size w w' → w.heap.size ≤ b → b < w'.heap.size → (∀ i, w'.cell? ⟨b, i, none⟩ = vs[i]?) → (∀ i, w'.frozen? ⟨b, i, none⟩ = false) →
      wpList P l.toArray Q (l.drop (m + 2)) (a'.put (some t) (.pointer (some ⟨b, 0, none⟩))) w') (l.take m) a) : (Code.region id l.toArray true).wp P Q a w := by
  simp only [Region.lexTailB, Bool.and_eq_true, decide_eq_true_eq] at hB
  obtain ⟨⟨⟨⟨⟨hsel, hn⟩, hs⟩, hc⟩, hlex⟩, hw⟩ := hB
  have hn' : m + 2 < l.length := by simpa using hn
  have htl : (l.take m).length = m := by simp; omega
  have hdl : (l.drop (m + 2)).length = l.toArray.size - (m + 2) := by simp
  have inv0 : HeadInv .any l.toArray (m + 2) (Array.replicate l.toArray.size false) :=
    ⟨by simp, fun j oj _ hl => (by rw [getD_replicate_false] at hl; cases hl), fun t _ ht => getD_in (by simpa using ht) (getD_replicate_false _ _)⟩
  have H := anyT_lex (md := .any) (g := l.toArray.size - (m + 2)) (zs := zs) (vs := vs) (T := T) hom hdst hos hsel hs hc hn hw (fun a' p hq => hq.1 p) (l.take m) 0 _ a (fun j hj => by
    have hj' : j < m := by rw [htl] at hj; exact hj
    simp [hj']) (by simpa using htl) inv0 (fun j hj => absurd hj (Nat.not_lt_zero _)) (by rw [htl]; exact hlex) h
  refine wp_region_any hm ?_
  have key := wpAny_of_anyT (Q := Q) (W := w) (g := l.toArray.size - (m + 2)) (zs := zs) (vs := vs) (T := T) hom hdst (fun a => by simp [Region.wanted, hgd]) hrun hos hosd (fun a => by simp [Region.wanted, hosg])
    (fun listed a' pp w1 hL hw1 hf => by
      obtain ⟨hq, a0, p, rfl, rfl, hLq⟩ := hL
      obtain ⟨b, rfl, hb1, hb2, hb3⟩ := hf p true rfl
      have hseq := wpAny_of_seq (md := .any) (Q' := Q) (l.drop (m + 2)) (m + 2) listed (a0.put (some t) (.pointer (some ⟨b, 0, none⟩))) w1 (fun j => by simp [List.getElem?_drop]) (by rw [hdl]; exact hq)
        (hLq.2 b w1 hw1 hb1 hb2 (fun i => by simp [World.cell?, hb3]) (fun i => by simp [World.frozen?, hb3]))
      rwa [hdl] at hseq) _ _ _ _ w.drew H (Below.refl _ _).drew (fun p f hp => by cases hp)
  rw [htl, show m + 2 + (l.toArray.size - (m + 2)) = l.toArray.size by omega] at key
  exact key

/-- What a store of all cells of a block leaves. -/
def FillEnd (w w' : World) (b : Nat) (vs : Array Value) (T : TypeId) : Prop := w'.os = w.os ∧ w'.tape = w.tape ∧ w'.output = w.output ∧ w'.heap.size = w.heap.size ∧ (∀ k, k ≠ b → w'.heap[k]? = w.heap[k]?) ∧ w'.heap[b]? = some (.cells vs T)
theorem setCell_block {w : World} {b i : Nat} {zs : Array Value} {T : TypeId} (v : Value) (hw : w.heap[b]? = some (.cells zs T)) : (w.setCell ⟨b, i, none⟩ v).heap[b]? = some (.cells (zs.setIfInBounds i v) T) := by
  simp [World.setCell, Array.getElem?_modify, hw]
theorem setCell_apart {w : World} {b i k : Nat} (v : Value) (h : k ≠ b) : (w.setCell ⟨b, i, none⟩ v).heap[k]? = w.heap[k]? := by
  simp only [World.setCell, Array.getElem?_modify]
  rw [if_neg (by omega)]
theorem FillEnd.start {w : World} {b : Nat} {zs : Array Value} {T : TypeId} (hw : w.heap[b]? = some (.cells zs T)) : FillEnd w w b zs T := ⟨rfl, rfl, rfl, rfl, fun _ _ => rfl, hw⟩
theorem FillEnd.set {w w' : World} {b i : Nat} {zs : Array Value} {T : TypeId} (v : Value) (h : FillEnd w w' b zs T) : FillEnd w (w'.setCell ⟨b, i, none⟩ v) b (zs.setIfInBounds i v) T := by
  obtain ⟨h1, h2, h3, h4, h5, h6⟩ := h
  exact ⟨h1, h2, h3, by simpa [World.setCell] using h4, fun k hk => (setCell_apart v hk).trans (h5 k hk), setCell_block v h6⟩
theorem cells_of_block {w : World} {b : Nat} {zs : Array Value} {T : TypeId} (hw : w.heap[b]? = some (.cells zs T)) : (∀ i, w.cell? ⟨b, i, none⟩ = zs[i]?) ∧ (∀ i, w.frozen? ⟨b, i, none⟩ = false) :=
  ⟨fun i => by simp [World.cell?, hw], fun i => by simp [World.frozen?, hw]⟩
theorem fillOK_of {os : Oper} {zs vs : Array Value} {T : TypeId} {a : Act} {p : Value}
    (h : ∀ (b : Nat) (w : World), p = .pointer (some ⟨b, 0, none⟩) → w.heap[b]? = some (.cells zs T) → ∃ w', (execOp a.eval os).run P w = .ok .skip w' ∧ FillEnd w w' b vs T) : FillOK P os zs vs T a p :=
  fun b w hp hw => h b w hp hw
theorem fillOK2 {os : Oper} {z0 z1 x y : Value} {T : TypeId} {a : Act} {p : Value}
    (h : ∀ (b : Nat) (w : World), p = .pointer (some ⟨b, 0, none⟩) → (∀ i, w.cell? ⟨b, i, none⟩ = #[z0, z1][i]?) → (∀ i, w.frozen? ⟨b, i, none⟩ = false) →
      (execOp a.eval os).run P w = .ok .skip ((w.setCell ⟨b, 0, none⟩ x).setCell ⟨b, 1, none⟩ y)) : FillOK P os #[z0, z1] #[x, y] T a p :=
  fillOK_of fun b w hp hw => ⟨_, h b w hp (cells_of_block hw).1 (cells_of_block hw).2, by simpa using ((FillEnd.start hw).set (i := 0) x).set (i := 1) y⟩
theorem fillOK3 {os : Oper} {z0 z1 z2 x y z : Value} {T : TypeId} {a : Act} {p : Value}
    (h : ∀ (b : Nat) (w : World), p = .pointer (some ⟨b, 0, none⟩) → (∀ i, w.cell? ⟨b, i, none⟩ = #[z0, z1, z2][i]?) → (∀ i, w.frozen? ⟨b, i, none⟩ = false) →
      (execOp a.eval os).run P w = .ok .skip (((w.setCell ⟨b, 0, none⟩ x).setCell ⟨b, 1, none⟩ y).setCell ⟨b, 2, none⟩ z)) : FillOK P os #[z0, z1, z2] #[x, y, z] T a p :=
  fillOK_of fun b w hp hw => ⟨_, h b w hp (cells_of_block hw).1 (cells_of_block hw).2, by simpa using (((FillEnd.start hw).set (i := 0) x).set (i := 1) y).set (i := 2) z⟩
/-! ### The same where nothing is filled: all operations yield their values. -/
theorem quiet_of_wpB {Q : Act → Prop} (hS : ∀ w w', S w → Below w.heap.size w w' → S w') : ∀ (l : List Oper) (a : Act), wpB P ops S Q l a → wpQuiet P ops S Q l a
  | [], _, h => h
  | o :: l, a, ⟨v, hv, h⟩ => by
    have ih := quiet_of_wpB hS l _ h
    rcases hv with ⟨hw, hv⟩ | ⟨hw, rfl⟩
    · refine wpQuiet_step fun K hK => ?_
      rw [if_pos hw]
      refine ⟨v, fun w hSw => ?_, hK _ ih⟩
      have h3 := hv w hSw
      unfold atB at h3
      unfold Oper.quietAt
      generalize (execOp a.eval o).run P w = r at *
      cases r with
      | halt x w' => exact h3.elim
      | ok n w' =>
        cases n with
        | value u => exact h3
        | skip => exact h3
        | enter f args => obtain ⟨rfl, hc⟩ := h3; exact ⟨rfl, hc.mono fun e w'' ⟨he, hb⟩ => ⟨he, hS _ _ hSw hb⟩⟩
        | _ => exact h3.elim
    · refine wpQuiet_step fun K hK => ?_
      rw [if_neg (by rw [hw]; exact Bool.false_ne_true)]
      exact hK _ ih
theorem wp_region_below {id : Nat} {Q : Exit → Act → World → Prop} {a : Act} {w : World} {l : List Oper} (hm : P.follows .mixedOrders = true) (hB : Region.lexB .any l.toArray = true)
    (h : wpB P l.toArray (fun w' => Below w.heap.size w w') (fun a' => ∀ w', Below w.heap.size w w' → Q .normal a' w') l a) : (Code.region id l.toArray true).wp P Q a w :=
  wp_region_quiet (C := fun w' => Below w.heap.size w w') hm hB (Below.refl _ _).drew (quiet_of_wpB (fun w1 w2 h1 h2 => h1.trans (h2.mono h1.size)) l a (by simpa using h))
end
end Go.Proofs.Ytcfiaacpofpioaa
