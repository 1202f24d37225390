/- Statements whose order is open, of any number that make memory or call: what each yields is told by a relation that stays true while memory only grows. -/
import Derived.Test.YtaifcemdabcfjaaOrder
import Derived.Test.YtaifcemdabcfjaaPivot
set_option linter.unusedSimpArgs false
set_option linter.unusedVariables false
set_option maxRecDepth 100000
namespace Go.Proofs.Ytaifcemdabcfjaa
open Go.RowKit
section
variable {P : Program} {ops : Array Oper} {Q : Exit → Act → World → Prop} {md : Region.Mode} {w0 : World} {a0 : Act} {R : Nat → Value → World → Prop}

/-- What no operation writes is as it was. -/
def FrameR (ops : Array Oper) (a0 a : Act) : Prop :=
  a.tmps.size = a0.tmps.size ∧ a.defers = a0.defers ∧ ∀ s, (ops.toList.all fun o => o.dst != some s) = true → a.eval (.tmp s) = a0.eval (.tmp s)
/-- What those yield that have been. -/
def DoneR (ops : Array Oper) (R : Nat → Value → World → Prop) (listed : Array Bool) (a : Act) (w : World) : Prop :=
  ∀ i o, ops[i]? = some o → listed.getD i false = true → ∀ d, o.dst = some d → R i (a.eval (.tmp d)) w
/-- Each has a slot of its own, waits for earlier ones only, has no guard. -/
def relB (md : Region.Mode) (ops : Array Oper) (n : Nat) : Bool :=
  (List.range ops.size).all fun i => match ops[i]? with
    | some o => (match o.dst with | some d => decide (d < n) && (List.range ops.size).all fun j => j == i || ((ops[j]?).bind (·.dst)) != some d | none => false) && o.after.all (fun e => decide (e.on < i)) && o.guard.isNone
    | none => false

theorem relB_at {n : Nat} (h : relB md ops n = true) {i : Nat} {o : Oper} (hi : ops[i]? = some o) :
    ∃ d, o.dst = some d ∧ d < n ∧ (∀ j oj, ops[j]? = some oj → j ≠ i → oj.dst ≠ some d) ∧ (∀ e ∈ o.after, e.on < i) ∧ o.guard = none := by
  have hlt : i < ops.size := (Array.getElem?_eq_some_iff.1 hi).1
  have h1 := List.all_eq_true.1 h i (List.mem_range.2 hlt)
  simp only [hi, Bool.and_eq_true] at h1
  obtain ⟨⟨h1, h2⟩, h3⟩ := h1
  cases hd : o.dst with
  | none => rw [hd] at h1; cases h1
  | some d =>
    rw [hd] at h1
    simp only [Bool.and_eq_true, decide_eq_true_eq] at h1
    refine ⟨d, rfl, h1.1, fun j oj hj hji hc => ?_, fun e he => ?_, by simpa using h3⟩
    · have hjl : j < ops.size := (Array.getElem?_eq_some_iff.1 hj).1
      have h4 := List.all_eq_true.1 h1.2 j (List.mem_range.2 hjl)
      simp [hj, hc, hji] at h4
    · have := Array.all_eq_true'.1 h2 e he
      simpa using this

theorem ready_none {n : Nat} (hB : relB md ops n = true) {listed : Array Bool} (hs : listed.size = ops.size) (hr : Region.ready md ops listed = []) : ∀ i, i < ops.size → listed.getD i false = true := by
  intro i
  induction i using Nat.strongRecOn with
  | _ i ih =>
    intro hi
    cases hl : listed.getD i false with
    | true => rfl
    | false =>
      obtain ⟨o, ho⟩ : ∃ o, ops[i]? = some o := ⟨ops[i], by simp [hi]⟩
      obtain ⟨d, -, -, -, hlt, -⟩ := relB_at hB ho
      have : i ∈ Region.ready md ops listed := mem_ready.2 ⟨getD_in (by omega) hl, o, ho, fun e he _ => ih _ (hlt e he) (by have := hlt e he; omega)⟩
      rw [hr] at this
      cases this

theorem eval_put_same {a : Act} {d : Tmp} {v : Value} (h : d < a.tmps.size) : (a.put (some d) v).eval (.tmp d) = v := by
  simp [Act.put, Act.eval, h]
theorem eval_put_other {a : Act} {d s : Tmp} {v : Value} (h : d ≠ s) : (a.put (some d) v).eval (.tmp s) = a.eval (.tmp s) := by
  simp [Act.put, Act.eval, Array.getElem?_setIfInBounds_ne h]

theorem wpAny_rel {n : Nat} (hB : relB md ops n = true)
    (hR : ∀ i v w1 w2, R i v w1 → Below w1.heap.size w1 w2 → R i v w2)
    (hstep : ∀ i o, ops[i]? = some o → ∀ a w, Below w0.heap.size w0 w → FrameR ops a0 a → (∀ j d, Region.waitsFor md ops i j = true → (ops[j]?).bind (·.dst) = some d → R j (a.eval (.tmp d)) w) →
      o.wp P a w (fun a' w' => ∃ v, a' = a.put o.dst v ∧ Below w.heap.size w w' ∧ R i v w') Q)
    (hend : ∀ a w, Below w0.heap.size w0 w → FrameR ops a0 a → (∀ i o, ops[i]? = some o → ∀ d, o.dst = some d → R i (a.eval (.tmp d)) w) → Q .normal a w) (hn : n ≤ a0.tmps.size) :
    ∀ (f : Nat) (listed : Array Bool) (a : Act) (w : World), listed.size = ops.size → (∀ i, i < ops.size → listed.getD i false = false → 0 < f) → (List.range ops.size).countP (fun i => !listed.getD i false) ≤ f →
      Below w0.heap.size w0 w → FrameR ops a0 a → DoneR ops R listed a w → wpAny P md ops Q f listed a w := by
  intro f
  induction f with
  | zero =>
    intro listed a w hs hf _ hb hF hD
    have hall : ∀ i, i < ops.size → listed.getD i false = true := fun i hi => by
      cases hl : listed.getD i false with
      | true => rfl
      | false => exact absurd (hf i hi hl) (by omega)
    refine ⟨?_, hend a w hb hF fun i o ho d hd => hD i o ho (hall i (Array.getElem?_eq_some_iff.1 ho).1) d hd⟩
    cases hr : Region.ready md ops listed with
    | nil => rfl
    | cons i l =>
      have hm : i ∈ Region.ready md ops listed := by rw [hr]; exact List.mem_cons_self
      obtain ⟨h1, o, ho, -⟩ := mem_ready.1 hm
      have := hall i (Array.getElem?_eq_some_iff.1 ho).1
      rw [getD_both h1] at this
      cases this
  | succ f ih =>
    intro listed a w hs _ hc hb hF hD
    refine ⟨fun hr => hend a w hb hF fun i o ho d hd => hD i o ho (ready_none hB hs hr i (Array.getElem?_eq_some_iff.1 ho).1) d hd, fun i hi => ?_⟩
    obtain ⟨hun, o, ho, hall⟩ := mem_ready.1 hi
    have hil := (Array.getElem?_eq_some_iff.1 ho).1
    obtain ⟨d, hd, hdn, hother, hlt, hg⟩ := relB_at hB ho
    refine wpOp_wp ho (by simp [Region.wanted, hg]) (Oper.wp_mono ?_ (hstep i o ho a w hb hF fun j e hw hj => ?_))
    · rintro a' w' ⟨v, rfl, hbw, hv⟩
      rw [hd]
      have hda : d < a.tmps.size := by rw [hF.1]; exact Nat.lt_of_lt_of_le hdn hn
      refine ih _ _ _ (by simpa using hs) ?_ ?_ (hb.trans (hbw.mono hb.size)) ⟨by simp [Act.put, hF.1], by simp [Act.put, hF.2.1], fun s hs' => ?_⟩ ?_
      · intro k hk hkun
        have h2 : 0 < (List.range ops.size).countP (fun j => !(listed.setIfInBounds i true).getD j false) := List.countP_pos_iff.2 ⟨k, List.mem_range.2 hk, by simp [hkun]⟩
        have h3 : (List.range ops.size).countP (fun j => !(listed.setIfInBounds i true).getD j false) < (List.range ops.size).countP (fun j => !listed.getD j false) := countP_set hil (by omega) hun
        omega
      · have h3 : (List.range ops.size).countP (fun j => !(listed.setIfInBounds i true).getD j false) < (List.range ops.size).countP (fun j => !listed.getD j false) := countP_set hil (by omega) hun
        omega
      · rw [eval_put_other, hF.2.2 s hs']
        rintro rfl
        have := List.all_eq_true.1 hs' o (by rw [← (Array.getElem?_eq_some_iff.1 ho).2]; exact Array.mem_toList_iff.2 (Array.getElem_mem hil))
        simp [hd] at this
      · intro k ok hk hkl dk hdk
        by_cases hik : i = k
        · subst hik
          obtain rfl : o = ok := by rw [ho] at hk; exact Option.some.inj hk
          obtain rfl : d = dk := by rw [hd] at hdk; exact Option.some.inj hdk
          rw [eval_put_same hda]
          exact hv
        · rw [eval_put_other (by rintro rfl; exact hother k ok hk (Ne.symm hik) hdk)]
          refine hR k _ w w' (hD k ok hk ?_ dk hdk) hbw
          rw [getD_set_ne false hik] at hkl
          exact hkl
    · obtain ⟨o', ho', e', he, hbd, hon⟩ := Region.waitsFor_spec hw
      obtain rfl : o = o' := by rw [ho] at ho'; exact Option.some.inj ho'
      obtain ⟨oj, hoj, hdj⟩ := Option.bind_eq_some_iff.1 hj
      have := hall e' he hbd
      rw [hon] at this
      exact hD j oj hoj this e hdj
where
  countP_set {listed : Array Bool} {m i : Nat} (hi : i < m) (hl : i < listed.size) (hun : listed.getD i true = false) :
      (List.range m).countP (fun j => !(listed.setIfInBounds i true).getD j false) < (List.range m).countP (fun j => !listed.getD j false) := by
    have hle : ∀ m, (List.range m).countP (fun j => !(listed.setIfInBounds i true).getD j false) ≤ (List.range m).countP (fun j => !listed.getD j false) := fun m => List.countP_mono_left fun j _ hj => by
      by_cases hij : i = j
      · subst hij; simp [hl] at hj
      · rw [getD_set_ne false hij] at hj; exact hj
    induction m with
    | zero => omega
    | succ m ih =>
      rw [List.range_succ, List.countP_append, List.countP_append]
      by_cases him : i = m
      · subst him
        have h1 := hle i
        have h2 : List.countP (fun j => !(listed.setIfInBounds i true).getD j false) [i] = 0 := by simp [hl]
        have h3 : List.countP (fun j => !listed.getD j false) [i] = 1 := by rw [List.countP_singleton, if_pos]; simp [getD_both hun]
        omega
      · have h1 := ih (by omega)
        have h2 : List.countP (fun j => !(listed.setIfInBounds i true).getD j false) [m] ≤ List.countP (fun j => !listed.getD j false) [m] := by
          simp only [List.countP_singleton, getD_set_ne false him]; exact Nat.le_refl _
        omega

theorem wp_region_rel {id : Nat} {a : Act} {w : World} (R : Nat → Value → World → Prop) (hm : P.follows .mixedOrders = true) (hB : relB .any ops a.tmps.size = true)
    (hR : ∀ i v w1 w2, R i v w1 → Below w1.heap.size w1 w2 → R i v w2)
    (hstep : ∀ i o, ops[i]? = some o → ∀ a' w', Below w.heap.size w w' → FrameR ops a a' → (∀ j d, Region.waitsFor .any ops i j = true → (ops[j]?).bind (·.dst) = some d → R j (a'.eval (.tmp d)) w') →
      o.wp P a' w' (fun a2 w2 => ∃ v, a2 = a'.put o.dst v ∧ Below w'.heap.size w' w2 ∧ R i v w2) Q)
    (hend : ∀ a' w', Below w.heap.size w w' → FrameR ops a a' → (∀ i o, ops[i]? = some o → ∀ d, o.dst = some d → R i (a'.eval (.tmp d)) w') → Q .normal a' w') : (Code.region id ops true).wp P Q a w := by
  refine wp_region_any hm (wpAny_rel (w0 := w) hB hR hstep hend (Nat.le_refl _) _ _ _ _ (by simp) (fun i hi _ => by omega) ?_ (Below.refl _ _).drew ⟨rfl, rfl, fun _ _ => rfl⟩ fun i o _ hl => ?_)
  · exact Nat.le_trans List.countP_le_length (by simp)
  · rw [getD_replicate_false] at hl; cases hl
/-- Of each of a list of operations, with its number. -/
def AllOps (C : Nat → Oper → Prop) : Nat → List Oper → Prop
  | _, [] => True
  | k, o :: l => C k o ∧ AllOps C (k + 1) l
theorem AllOps.at {C : Nat → Oper → Prop} : ∀ (l : List Oper) (k : Nat), AllOps C k l → ∀ i o, l[i]? = some o → C (k + i) o
  | [], _, _, i, o, h => by simp at h
  | x :: l, k, ⟨h1, h2⟩, i, o, h => by
    cases i with
    | zero => simp at h; subst h; exact h1
    | succ i =>
      have := AllOps.at l (k + 1) h2 i o (by simpa using h)
      rwa [show k + 1 + i = k + (i + 1) by omega] at this
theorem wp_region_rels {id : Nat} {a : Act} {w : World} {l : List Oper} (R : Nat → Value → World → Prop) (hm : P.follows .mixedOrders = true) (hB : relB .any l.toArray a.tmps.size = true)
    (hR : ∀ i v w1 w2, R i v w1 → Below w1.heap.size w1 w2 → R i v w2)
    (hstep : AllOps (fun i o => ∀ a' w', Below w.heap.size w w' → FrameR l.toArray a a' → (∀ j d, Region.waitsFor .any l.toArray i j = true → (l.toArray[j]?).bind (·.dst) = some d → R j (a'.eval (.tmp d)) w') →
      o.wp P a' w' (fun a2 w2 => ∃ v, a2 = a'.put o.dst v ∧ Below w'.heap.size w' w2 ∧ R i v w2) Q) 0 l)
    (hend : ∀ a' w', Below w.heap.size w w' → FrameR l.toArray a a' → (∀ i o, l[i]? = some o → ∀ d, o.dst = some d → R i (a'.eval (.tmp d)) w') → Q .normal a' w') : (Code.region id l.toArray true).wp P Q a w :=
  wp_region_rel R hm hB hR (fun i o ho a' w' => by
    have := AllOps.at l 0 hstep i o (by simpa using ho)
    rw [Nat.zero_add] at this
    exact this a' w') (fun a' w' h1 h2 h3 => hend a' w' h1 h2 fun i o ho => h3 i o (by simpa using ho))
theorem rel_value {o : Oper} {a : Act} {w w2 : World} {C : Value → World → Prop} (v : Value) (h : (execOp a.eval o).run P w = .ok (.value v) w2) (hb : Below w.heap.size w w2) (hC : C v w2) :
    o.wp P a w (fun a' w' => ∃ v, a' = a.put o.dst v ∧ Below w.heap.size w w' ∧ C v w') Q := by
  unfold Oper.wp
  rw [h]
  exact ⟨v, rfl, hb, hC⟩
theorem rel_call {o : Oper} {a : Act} {w : World} {C : Value → World → Prop} {f : FuncId} {args : Array Value} {v : Value} (h : (execOp a.eval o).run P w = .ok (.enter f args) w)
    (hc : Calls P f args w fun e w' => e = .returned v ∧ Below w.heap.size w w') (hC : ∀ w', Below w.heap.size w w' → C v w') :
    o.wp P a w (fun a' w' => ∃ v, a' = a.put o.dst v ∧ Below w.heap.size w w' ∧ C v w') Q :=
  wp_call_of h (hc.mono fun e w' ⟨he, hb⟩ => ⟨v, he, v, rfl, hb, hC w' hb⟩)
end
end Go.Proofs.Ytaifcemdabcfjaa
