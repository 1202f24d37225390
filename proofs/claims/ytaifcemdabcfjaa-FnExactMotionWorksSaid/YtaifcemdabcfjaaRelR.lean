/- The same in a round of a range over a function: of a region's first p operations, each by a relation, in whatever order they come; then the rest. -/
import Derived.Test.YtaifcemdabcfjaaRel
import Derived.Test.YtaifcemdabcfjaaOrdR
set_option linter.unusedSimpArgs false
set_option linter.unusedVariables false
set_option maxRecDepth 100000
namespace Go.Proofs.Ytaifcemdabcfjaa
open Go.RowKit
section
variable {P : Program} {ops : Array Oper} {Q : Exit → Act → World → Prop} {md : Region.Mode} {w0 : World} {a0 : Act} {R : Nat → Value → World → Prop}

def FrameH (ops : Array Oper) (p : Nat) (a0 a : Act) : Prop :=
  a.tmps.size = a0.tmps.size ∧ a.defers = a0.defers ∧ ∀ s, ((ops.toList.take p).all fun o => o.dst != some s) = true → a.eval (.tmp s) = a0.eval (.tmp s)
def DoneH (ops : Array Oper) (p : Nat) (R : Nat → Value → World → Prop) (listed : Array Bool) (a : Act) (w : World) : Prop :=
  ∀ i o, i < p → ops[i]? = some o → listed.getD i false = true → ∀ d, o.dst = some d → R i (a.eval (.tmp d)) w
def headsB (ops : Array Oper) (p n : Nat) : Bool :=
  (List.range p).all fun i => match ops[i]? with
    | some o => (match o.dst with | some d => decide (d < n) && (List.range p).all fun j => j == i || ((ops[j]?).bind (·.dst)) != some d | none => false) && o.after.all (fun e => decide (e.on < i)) && o.guard.isNone
    | none => false
theorem headsB_at {p n : Nat} (h : headsB ops p n = true) {i : Nat} {o : Oper} (hip : i < p) (hi : ops[i]? = some o) :
    ∃ d, o.dst = some d ∧ d < n ∧ (∀ j oj, j < p → ops[j]? = some oj → j ≠ i → oj.dst ≠ some d) ∧ (∀ e ∈ o.after, e.on < i) ∧ o.guard = none := by
  have h1 := List.all_eq_true.1 h i (List.mem_range.2 hip)
  simp only [hi, Bool.and_eq_true] at h1
  obtain ⟨⟨h1, h2⟩, h3⟩ := h1
  cases hd : o.dst with
  | none => rw [hd] at h1; cases h1
  | some d =>
    rw [hd] at h1
    simp only [Bool.and_eq_true, decide_eq_true_eq] at h1
    refine ⟨d, rfl, h1.1, fun j oj hjp hj hji hc => ?_, fun e he => ?_, by simpa using h3⟩
    · have h4 := List.all_eq_true.1 h1.2 j (List.mem_range.2 hjp)
      simp [hj, hc, hji] at h4
    · have := Array.all_eq_true'.1 h2 e he
      simpa using this
/-- Which have been when the first p have. -/
def headL (m p : Nat) : Array Bool := Array.ofFn (n := m) fun i => decide (i.val < p)
theorem headL_of {p : Nat} {listed : Array Bool} (hs : listed.size = ops.size) (ht : ∀ t, p ≤ t → t < ops.size → listed.getD t true = false) (hh : ∀ i, i < p → i < ops.size → listed.getD i false = true) : listed = headL ops.size p := by
  apply Array.ext
  · simp [headL, hs]
  · intro i h1 h2
    simp only [headL, Array.getElem_ofFn]
    by_cases hip : i < p
    · have := hh i hip (by omega)
      simp [h1] at this
      simp [hip, this]
    · have := ht i (by omega) (by omega)
      simp [h1] at this
      simp [hip, this]

theorem anyR_heads {p n : Nat} (hp : p < ops.size) (hB : headsB ops p n = true) (hs : Region.sinkB md ops p = true) (hb : behindB md ops p = true)
    (hR : ∀ i v w1 w2, R i v w1 → Below w1.heap.size w1 w2 → R i v w2)
    (hstep : ∀ i o, i < p → ops[i]? = some o → ∀ a w, Below w0.heap.size w0 w → FrameH ops p a0 a → (∀ j d, Region.waitsFor md ops i j = true → (ops[j]?).bind (·.dst) = some d → R j (a.eval (.tmp d)) w) →
      opR P ops Q i (fun a' w' => ∃ v, a' = a.put o.dst v ∧ Below w.heap.size w w' ∧ R i v w') a w)
    (hend : ∀ a w, Below w0.heap.size w0 w → FrameH ops p a0 a → (∀ i o, i < p → ops[i]? = some o → ∀ d, o.dst = some d → R i (a.eval (.tmp d)) w) → anyR P md ops Q (fun _ => True) (ops.size - p) (headL ops.size p) a w) (hn : n ≤ a0.tmps.size) :
    ∀ (f : Nat) (listed : Array Bool) (a : Act) (w : World), HeadInv md ops p listed → (List.range p).countP (fun i => !listed.getD i false) = f →
      Below w0.heap.size w0 w → FrameH ops p a0 a → DoneH ops p R listed a w → anyR P md ops Q (fun _ => True) (f + (ops.size - p)) listed a w := by
  intro f
  induction f with
  | zero =>
    intro listed a w inv hc hbw hF hD
    have hall : ∀ i, i < p → listed.getD i false = true := fun i hi => by
      cases hl : listed.getD i false with
      | true => rfl
      | false =>
        have : 0 < (List.range p).countP (fun i => !listed.getD i false) := List.countP_pos_iff.2 ⟨i, List.mem_range.2 hi, by simp [hl]⟩
        omega
    rw [Nat.zero_add, headL_of inv.size inv.tail (fun i hi _ => hall i hi)]
    exact hend a w hbw hF fun i o hi ho d hd => hD i o hi ho (hall i hi) d hd
  | succ f ih =>
    intro listed a w inv hc hbw hF hD
    obtain ⟨i0, hi0, hun0⟩ : ∃ i, i < p ∧ listed.getD i false = false := by
      have : 0 < (List.range p).countP (fun i => !listed.getD i false) := by omega
      obtain ⟨i, hi, h⟩ := List.countP_pos_iff.1 this
      exact ⟨i, List.mem_range.1 hi, by simpa using h⟩
    have hun0' : listed.getD i0 true = false := getD_in (by rw [inv.size]; omega) hun0
    rw [show f + 1 + (ops.size - p) = (f + (ops.size - p)) + 1 by omega]
    refine ⟨fun hr => ?_, fun i hi => ?_⟩
    · exfalso
      have hmin : ∀ i, i < p → listed.getD i false = true := by
        intro i
        induction i using Nat.strongRecOn with
        | _ i ihi =>
          intro hip
          cases hl : listed.getD i false with
          | true => rfl
          | false =>
            obtain ⟨o, ho⟩ : ∃ o, ops[i]? = some o := ⟨ops[i], by simp [show i < ops.size by omega]⟩
            obtain ⟨d, -, -, -, hlt, -⟩ := headsB_at hB hip ho
            have : i ∈ Region.ready md ops listed := mem_ready.2 ⟨getD_in (by rw [inv.size]; omega) hl, o, ho, fun e he _ => ihi _ (hlt e he) (by have := hlt e he; omega)⟩
            rw [hr] at this
            cases this
      rw [hmin i0 hi0] at hun0
      cases hun0
    · have hip : i < p := by
        rcases Nat.lt_or_ge i p with h | h
        · exact h
        · exact absurd hi (pivot_waits hs hb hp listed inv i0 hi0 hun0' i h)
      obtain ⟨hun, o, ho, hall⟩ := mem_ready.1 hi
      obtain ⟨d, hd, hdn, hother, hlt, hg⟩ := headsB_at hB hip ho
      refine opR_mono ?_ (hstep i o hip ho a w hbw hF fun j e hw hj => ?_)
      · rintro a' w' ⟨v, rfl, hbw', hv⟩
        rw [hd]
        have hda : d < a.tmps.size := by rw [hF.1]; exact Nat.lt_of_lt_of_le hdn hn
        refine ⟨trivial, ih _ _ _ ?_ ?_ (hbw.trans (hbw'.mono hbw.size)) ⟨by simp [Act.put, hF.1], by simp [Act.put, hF.2.1], fun s hs' => ?_⟩ ?_⟩
        · refine ⟨by simpa using inv.size, fun j oj hoj hl e he hbd => ?_, fun t ht hts => ?_⟩
          · by_cases hij : i = j
            · subst hij
              obtain rfl : o = oj := by rw [ho] at hoj; exact Option.some.inj hoj
              exact getD_set_true (hall e he hbd)
            · rw [getD_set_ne false hij] at hl
              exact getD_set_true (inv.closed j oj hoj hl e he hbd)
          · rw [getD_set_ne true (by omega)]
            exact inv.tail t ht hts
        · have := countP_one hip (by rw [inv.size]; omega) hun
          omega
        · rw [eval_put_other, hF.2.2 s hs']
          rintro rfl
          have hm : o ∈ ops.toList.take p := List.mem_iff_getElem?.2 ⟨i, by rw [List.getElem?_take, if_pos hip]; simpa using ho⟩
          have := List.all_eq_true.1 hs' o hm
          simp [hd] at this
        · intro k ok hkp hk hkl dk hdk
          by_cases hik : i = k
          · subst hik
            obtain rfl : o = ok := by rw [ho] at hk; exact Option.some.inj hk
            obtain rfl : d = dk := by rw [hd] at hdk; exact Option.some.inj hdk
            rw [eval_put_same hda]
            exact hv
          · rw [eval_put_other (by rintro rfl; exact hother k ok hkp hk (Ne.symm hik) hdk)]
            refine hR k _ w w' (hD k ok hkp hk ?_ dk hdk) hbw'
            rw [getD_set_ne false hik] at hkl
            exact hkl
      · obtain ⟨o', ho', e', he, hbd, hon⟩ := Region.waitsFor_spec hw
        obtain rfl : o = o' := by rw [ho] at ho'; exact Option.some.inj ho'
        obtain ⟨oj, hoj, hdj⟩ := Option.bind_eq_some_iff.1 hj
        have := hall e' he hbd
        rw [hon] at this
        have hjp : j < p := by have := hlt e' he; omega
        exact hD j oj hjp hoj this e hdj
where
  countP_one {listed : Array Bool} {m i : Nat} (hi : i < m) (hl : i < listed.size) (hun : listed.getD i true = false) :
      (List.range m).countP (fun j => !listed.getD j false) = (List.range m).countP (fun j => !(listed.setIfInBounds i true).getD j false) + 1 := by
    have hsame : ∀ m, m ≤ i → (List.range m).countP (fun j => !(listed.setIfInBounds i true).getD j false) = (List.range m).countP (fun j => !listed.getD j false) := fun m hm => by
      refine List.countP_congr fun j hj => ?_
      rw [getD_set_ne false (by have := List.mem_range.1 hj; omega)]
    induction m with
    | zero => omega
    | succ m ih =>
      rw [List.range_succ, List.countP_append, List.countP_append]
      by_cases him : i = m
      · subst him
        have h2 : List.countP (fun j => !(listed.setIfInBounds i true).getD j false) [i] = 0 := by simp [hl]
        have h3 : List.countP (fun j => !listed.getD j false) [i] = 1 := by rw [List.countP_singleton, if_pos]; simp [getD_both hun]
        rw [hsame i (Nat.le_refl _)]
        omega
      · have h1 := ih (by omega)
        have h2 : List.countP (fun j => !(listed.setIfInBounds i true).getD j false) [m] = List.countP (fun j => !listed.getD j false) [m] := by
          simp only [List.countP_singleton, getD_set_ne false him]
        omega

def noDefer (o : Oper) : Bool := match o.op with | .defer _ => false | _ => true
theorem region_heads {l id : Nat} {a : Act} {w : World} {L : List Oper} (p : Nat) (R : Nat → Value → World → Prop) (hm : P.follows .mixedOrders = true) (hd : L.all noDefer = true)
    (hp : p < L.toArray.size) (hB : headsB L.toArray p a.tmps.size = true) (hs : Region.sinkB .any L.toArray p = true) (hb : behindB .any L.toArray p = true)
    (hR : ∀ i v w1 w2, R i v w1 → Below w1.heap.size w1 w2 → R i v w2)
    (hstep : AllOps (fun i o => ∀ a' w', Below w.heap.size w w' → FrameH L.toArray p a a' → (∀ j d, Region.waitsFor .any L.toArray i j = true → (L.toArray[j]?).bind (·.dst) = some d → R j (a'.eval (.tmp d)) w') →
      opR P L.toArray Q i (fun a2 w2 => ∃ v, a2 = a'.put o.dst v ∧ Below w'.heap.size w' w2 ∧ R i v w2) a' w') 0 (L.take p))
    (hend : ∀ a' w', Below w.heap.size w w' → FrameH L.toArray p a a' → (∀ i o, i < p → L[i]? = some o → ∀ d, o.dst = some d → R i (a'.eval (.tmp d)) w') → anyR P .any L.toArray Q (fun _ => True) (L.toArray.size - p) (headL L.toArray.size p) a' w') :
    (Code.region id L.toArray true).wpIn (Fence.wide.inRound l) 0 P Q a w := by
  refine wpIn_region_any hm (anyR_in (S := fun _ => True) (fun j o ho c hc => ?_) _ _ _ _ ?_)
  · have h1 := List.all_eq_true.1 hd o (List.mem_iff_getElem?.2 ⟨j, by simpa using ho⟩)
    simp [noDefer, hc] at h1
  have hc : (List.range p).countP (fun i => !(Array.replicate L.toArray.size false).getD i false) = p := by
    have : ∀ j, (!(Array.replicate L.toArray.size false).getD j false) = true := fun j => by rw [getD_replicate_false]; rfl
    rw [List.countP_eq_length.2 (fun j _ => this j)]
    simp
  have := anyR_heads (w0 := w) (a0 := a) hp hB hs hb hR (fun i o hi ho => by
    have := AllOps.at _ 0 hstep i o (by rw [List.getElem?_take, if_pos hi]; simpa using ho)
    rw [Nat.zero_add] at this
    exact this) (fun a' w' h1 h2 h3 => hend a' w' h1 h2 fun i o hi ho => h3 i o hi (by simpa using ho)) (Nat.le_refl _) p (Array.replicate L.toArray.size false) a w.drew
    ⟨by simp, fun j oj _ hl => (by rw [getD_replicate_false] at hl; cases hl), fun t _ ht => getD_in (by simpa using ht) (getD_replicate_false _ _)⟩ hc (Below.refl _ _).drew ⟨rfl, rfl, fun _ _ => rfl⟩ (fun i o _ _ hl => by rw [getD_replicate_false] at hl; cases hl)
  rwa [show p + (L.toArray.size - p) = L.toArray.size by omega] at this
theorem relR_value {i : Nat} {o : Oper} {a : Act} {w w2 : World} {C : Value → World → Prop} (v : Value) (d : Tmp) (hi : ops[i]? = some o) (hd : o.dst = some d) (hg : o.guard = none) (h : (execOp a.eval o).run P w = .ok (.value v) w2) (hb : Below w.heap.size w w2) (hC : C v w2) :
    opR P ops Q i (fun a' w' => ∃ v, a' = a.put o.dst v ∧ Below w.heap.size w w' ∧ C v w') a w :=
  valueR d hi hd (by simp [Region.wanted, hg]) h ⟨v, by rw [hd], hb, hC⟩
theorem relR_call {i : Nat} {o : Oper} {a : Act} {w : World} {C : Value → World → Prop} {f : FuncId} {args : Array Value} {v : Value} (d : Tmp) (hi : ops[i]? = some o) (hd : o.dst = some d) (hg : o.guard = none) (h : (execOp a.eval o).run P w = .ok (.enter f args) w)
    (hc : Calls P f args w fun e w' => e = .returned v ∧ Below w.heap.size w w') (hC : ∀ w', Below w.heap.size w w' → C v w') :
    opR P ops Q i (fun a' w' => ∃ v, a' = a.put o.dst v ∧ Below w.heap.size w w' ∧ C v w') a w :=
  callR d hi hd (by simp [Region.wanted, hg]) h (hc.mono fun e w' ⟨he, hb⟩ => ⟨v, he, v, by rw [hd], hb, hC w' hb⟩)
end
end Go.Proofs.Ytaifcemdabcfjaa
