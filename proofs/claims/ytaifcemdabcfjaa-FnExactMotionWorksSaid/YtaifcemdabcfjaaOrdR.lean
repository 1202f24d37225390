/- Statements whose order is open, in a round of a range over a function: what only reads may be taken first; of what makes memory, whichever comes up. A call of yield may be one of the operations. -/
import Derived.Test.YtaifcemdabcfjaaRng
import Derived.OrdersHeld
import Derived.OrdersIn
import Derived.TacticsIn
set_option linter.unusedSimpArgs false
set_option linter.unusedVariables false
set_option maxRecDepth 100000
namespace Go.Proofs.Ytaifcemdabcfjaa
open Go.RowKit
section
variable {P : Program} {ops : Array Oper} {Q : Exit → Act → World → Prop} {md : Region.Mode} {S : World → Prop}

/-- One operation, carried out as everywhere. -/
def opR (P : Program) (ops : Array Oper) (Q : Exit → Act → World → Prop) (j : Nat) (K : Act → World → Prop) (a : Act) (w : World) : Prop :=
  ∀ o, ops[j]? = some o → (Region.wanted o (yielded ops a.tmps) = true → o.uponIn Fence.wide 0 P a K Q ((execOp a.eval o).run P w)) ∧ (Region.wanted o (yielded ops a.tmps) = false → K (a.put o.dst undef) w)

theorem upon_mono {o : Oper} {a : Act} {K K' : Act → World → Prop} (h : ∀ a w, K a w → K' a w) {r : Result Next} (hr : o.uponIn Fence.wide 0 P a K Q r) : o.uponIn Fence.wide 0 P a K' Q r := by
  cases r with
  | halt x w' => cases x <;> first | exact hr | exact hr.elim
  | ok x w' =>
    cases x <;> simp only [Oper.uponIn] at hr ⊢ <;> first
      | exact h _ _ hr
      | exact ⟨hr.1, CallsIn.mono hr.2 (fun e w2 he => by cases e <;> first | exact h _ _ he | exact he)⟩
      | exact ⟨hr.1, RowsIn.mono hr.2 (fun _ _ he => h _ _ he)⟩
      | exact ⟨hr.1, RoundIn.mono hr.2 (fun e w2 he => by cases e <;> first | exact h _ _ he | exact he)⟩

/-- Whatever order is picked from here on; S holds behind each operation. -/
def anyR (P : Program) (md : Region.Mode) (ops : Array Oper) (Q : Exit → Act → World → Prop) (S : World → Prop) : Nat → Array Bool → Act → World → Prop
  | 0, listed, a, w => Region.ready md ops listed = [] ∧ Q .normal a w
  | f + 1, listed, a, w => (Region.ready md ops listed = [] → Q .normal a w) ∧ ∀ i ∈ Region.ready md ops listed, opR P ops Q i (fun a' w' => S w' ∧ anyR P md ops Q S f (listed.setIfInBounds i true) a' w') a w

theorem anyR_in {l : Nat} (hd : ∀ (j : Nat) (o : Oper), ops[j]? = some o → ∀ c, o.op ≠ .defer c) : ∀ (f : Nat) (listed : Array Bool) (a : Act) (w : World), anyR P md ops Q S f listed a w → wpAnyIn (Fence.wide.inRound l) 0 P md ops Q f listed a w
  | 0, _, _, _, h => h
  | f + 1, listed, a, w, h => by
    refine ⟨h.1, fun i hi => ?_⟩
    have h2 := h.2 i hi
    unfold wpOpIn
    cases ho : ops[i]? with
    | none =>
      obtain ⟨_, o, ho', _⟩ := mem_ready.1 hi
      rw [ho] at ho'; cases ho'
    | some o =>
      obtain ⟨k1, k2⟩ := h2 o ho
      simp only
      split
      · rename_i hw
        refine ⟨fun _ _ => trivial, ?_⟩
        have e : o.semAt (Fence.wide.inRound l).round a.eval = execOp a.eval o := Oper.semAt_some l _ _ (hd i o ho)
        rw [e]
        exact upon_mono (Q := Q) (fun a' w' hk => anyR_in hd f _ a' w' hk.2) (k1 hw)
      · rename_i hw
        exact ⟨fun _ _ => trivial, anyR_in hd f _ _ _ (k2 (by simpa using hw)).2⟩

theorem region_round {l id : Nat} {a : Act} {w : World} (S : World → Prop) (hm : P.follows .mixedOrders = true) (hd : (ops.toList.all fun o => match o.op with | .defer _ => false | _ => true) = true)
    (h : anyR P .any ops Q S ops.size (Array.replicate ops.size false) a w.drew) : (Code.region id ops true).wpIn (Fence.wide.inRound l) 0 P Q a w := by
  refine wpIn_region_any hm (anyR_in (fun j o ho c hc => ?_) _ _ _ _ h)
  have h1 := List.all_eq_true.1 hd o (by
    obtain ⟨hlt, e⟩ := Array.getElem?_eq_some_iff.1 ho
    rw [← e]; exact Array.mem_toList_iff.2 (Array.getElem_mem hlt))
  rw [hc] at h1
  cases h1

/-- Where oi yields v in every world of S, and oj is apart from it: it does not matter to oj whether oi has been. -/
theorem opR_put {j : Nat} {oi oj : Oper} {v : Value} (hj : ops[j]? = some oj) (hap : oi.apart ops oj = true) (hsi : ∀ cs b, oi.op ≠ .select cs b) (hsj : ∀ cs b, oj.op ≠ .select cs b)
    (hQ : ∀ c a w, Q (.panic c) (a.put oi.dst v) w → Q (.panic c) a w) {K : Act → World → Prop} {a : Act} {w : World} (hy : YieldsIf P ops S oi v a) (h : opR P ops Q j K (a.put oi.dst v) w) :
    opR P ops Q j (fun a' w' => YieldsIf P ops S oi v a' ∧ K (a'.put oi.dst v) w') a w := by
  obtain ⟨h1, h2, h3⟩ := Oper.apart_spec hap
  have stays : ∀ (b : Act), YieldsIf P ops S oi v b → ∀ u, YieldsIf P ops S oi v (b.put oj.dst u) := fun b hb u => hb.of_same (execOp_put oi hsi b oj.dst u h3) (wanted_put oi b oj.dst u h3)
  intro o ho
  obtain rfl : oj = o := by rw [hj] at ho; exact Option.some.inj ho
  obtain ⟨k1, k2⟩ := h oj hj
  rw [wanted_put oj a oi.dst v h1] at k1 k2
  refine ⟨fun hw => ?_, fun hw => ⟨stays a hy _, by rw [← Act.put_comm a v undef h2]; exact k2 hw⟩⟩
  have k := k1 hw
  rw [execOp_put oj hsj a oi.dst v h1] at k
  generalize (execOp a.eval oj).run P w = r at k ⊢
  have back : ∀ u w', K ((a.put oi.dst v).put oj.dst u) w' → YieldsIf P ops S oi v (a.put oj.dst u) ∧ K ((a.put oj.dst u).put oi.dst v) w' := fun u w' hk => ⟨stays a hy u, by rw [← Act.put_comm a v u h2]; exact hk⟩
  cases r with
  | halt x w' =>
    cases x <;> first | exact hQ _ _ _ k | exact k.elim
  | ok x w' =>
    cases x
    case value u => exact back u w' k
    case skip => exact back undef w' k
    case defer d =>
      simp only [Oper.uponIn] at k ⊢
      refine ⟨stays { a with defers := d :: a.defers } (hy.of_same rfl rfl) _, ?_⟩
      rw [← Act.put_comm _ v undef h2, ← Act.put_defers]
      exact k
    case enter f args =>
      refine ⟨k.1, CallsIn.mono k.2 fun e w2 he => ?_⟩
      cases e with
      | returned u => exact back u w2 he
      | panicked c => exact hQ _ _ _ he
      | outgrown => exact he
    case row row args => exact ⟨k.1, RowsIn.mono k.2 fun u w2 he => back u w2 he⟩
    case round l f tmps assign body =>
      refine ⟨k.1, RoundIn.mono k.2 fun e w2 he => ?_⟩
      cases e with
      | returned u => exact back u w2 he
      | panicked c => exact hQ _ _ _ he
      | outgrown => exact he
    all_goals exact k.elim

theorem opR_mono {j : Nat} {K K' : Act → World → Prop} {a : Act} {w : World} (h : ∀ a w, K a w → K' a w) (hr : opR P ops Q j K a w) : opR P ops Q j K' a w :=
  fun o ho => ⟨fun hw => upon_mono h ((hr o ho).1 hw), fun hw => h _ _ ((hr o ho).2 hw)⟩

theorem opR_yields {i : Nat} {o : Oper} {v : Value} {a : Act} (hi : ops[i]? = some o) (hy : YieldsIf P ops S o v a) {K : Act → World → Prop} {w : World} (hS : S w) (h : K (a.put o.dst v) w) : opR P ops Q i K a w := by
  intro o' ho
  obtain rfl : o = o' := by rw [hi] at ho; exact Option.some.inj ho
  rcases hy with ⟨hw, hv⟩ | ⟨hw, rfl⟩
  · exact ⟨fun _ => by rw [hv w hS]; exact h, fun h' => by rw [hw] at h'; cases h'⟩
  · exact ⟨fun h' => (by rw [hw] at h'; cases h'), fun _ => h⟩

theorem anyR_first {i : Nat} {oi : Oper} {v : Value} (hi : ops[i]? = some oi) (hsel : ∀ (j : Nat) (o : Oper) cs b, ops[j]? = some o → o.op ≠ .select cs b) (hQ : ∀ c a w, Q (.panic c) (a.put oi.dst v) w → Q (.panic c) a w) :
    ∀ (f : Nat) (listed : Array Bool) (a : Act) (w : World),
      (∀ j oj, ops[j]? = some oj → j ≠ i → listed.getD j true = false → (∀ e ∈ oj.after, Region.binds md e = true → e.on ≠ i) → oi.apart ops oj = true) →
      i ∈ Region.ready md ops listed → YieldsIf P ops S oi v a → S w → anyR P md ops Q S f (listed.setIfInBounds i true) (a.put oi.dst v) w → anyR P md ops Q S (f + 1) listed a w := by
  intro f
  induction f with
  | zero =>
    intro listed a w _ hr hy hS H
    refine ⟨fun h => (by rw [h] at hr; cases hr), fun j hj => ?_⟩
    by_cases hji : j = i
    · subst hji; exact opR_yields hi hy hS ⟨hS, H⟩
    · have := ready_mono hj hji
      rw [H.1] at this
      cases this
  | succ f ih =>
    intro listed a w hfree hr hy hS H
    refine ⟨fun h => (by rw [h] at hr; cases hr), fun j hj => ?_⟩
    by_cases hji : j = i
    · subst hji; exact opR_yields hi hy hS ⟨hS, H⟩
    · have h1 := H.2 j (ready_mono hj hji)
      obtain ⟨hjun, oj, hoj, hall⟩ := mem_ready.1 hj
      have hnot : ∀ e ∈ oj.after, Region.binds md e = true → e.on ≠ i := fun e he hb heq => by
        have h1 := hall e he hb
        have h0 := (mem_ready.1 hr).1
        rw [heq] at h1
        rcases Nat.lt_or_ge i listed.size with h' | h'
        · simp [h'] at h0 h1; rw [h0] at h1; cases h1
        · simp [Array.getElem?_eq_none h'] at h1
      have h2 := opR_put hoj (hfree j oj hoj hji hjun hnot) (fun cs b => hsel i oi cs b hi) (fun cs b => hsel j oj cs b hoj) hQ hy h1
      have hfree' : ∀ k ok, ops[k]? = some ok → k ≠ i → (listed.setIfInBounds j true).getD k true = false → (∀ e ∈ ok.after, Region.binds md e = true → e.on ≠ i) → oi.apart ops ok = true := fun k ok hk hki hun hno => by
        refine hfree k ok hk hki ?_ hno
        by_cases hjk : j = k
        · subst hjk; exact hjun
        · rw [getD_set_ne true hjk] at hun; exact hun
      refine opR_mono (fun a' w' h3 => ⟨h3.2.1, ih (listed.setIfInBounds j true) a' w' hfree' (ready_mono hr (Ne.symm hji)) h3.1 h3.2.1 ?_⟩) h2
      rw [Array.setIfInBounds_comm _ _ hji]
      exact h3.2.2

/-- Number i first: it only reads. -/
theorem takeR {i : Nat} {oi : Oper} {v : Value} {f : Nat} {listed : Array Bool} {a : Act} {w : World} (d : Tmp) (hi : ops[i]? = some oi) (hd : oi.dst = some d)
    (hs : Region.noSelect ops = true) (hf : Region.free md ops listed i = true) (hr : (Region.ready md ops listed).contains i = true)
    (hQ : ∀ c a w, Q (.panic c) (a.put (some d) v) w → Q (.panic c) a w) (hw : Region.wanted oi (yielded ops a.tmps) = true) (hy : ∀ w, S w → (execOp a.eval oi).run P w = .ok (.value v) w) (hS : S w)
    (h : anyR P md ops Q S f (listed.setIfInBounds i true) (a.put (some d) v) w) : anyR P md ops Q S (f + 1) listed a w := by
  rw [← hd] at h hQ
  exact anyR_first hi (Region.noSelect_spec hs) hQ f listed a w (Region.free_spec hi hf) (by simpa using hr) (Or.inl ⟨hw, hy⟩) hS h
/-- Number i first: its guard passes it over. -/
theorem skipR {i : Nat} {oi : Oper} {f : Nat} {listed : Array Bool} {a : Act} {w : World} (d : Tmp) (hi : ops[i]? = some oi) (hd : oi.dst = some d)
    (hs : Region.noSelect ops = true) (hf : Region.free md ops listed i = true) (hr : (Region.ready md ops listed).contains i = true)
    (hQ : ∀ c a w, Q (.panic c) (a.put (some d) undef) w → Q (.panic c) a w) (hw : Region.wanted oi (yielded ops a.tmps) = false) (hS : S w)
    (h : anyR P md ops Q S f (listed.setIfInBounds i true) (a.put (some d) undef) w) : anyR P md ops Q S (f + 1) listed a w := by
  rw [← hd] at h hQ
  exact anyR_first hi (Region.noSelect_spec hs) hQ f listed a w (Region.free_spec hi hf) (by simpa using hr) (Or.inr ⟨hw, rfl⟩) hS h
/-- Whichever of those that may come up. -/
theorem allR {rs : List Nat} {f : Nat} {listed : Array Bool} {a : Act} {w : World} (hr : Region.ready md ops listed = rs) (hne : rs ≠ [])
    (h : ∀ i ∈ rs, opR P ops Q i (fun a' w' => S w' ∧ anyR P md ops Q S f (listed.setIfInBounds i true) a' w') a w) : anyR P md ops Q S (f + 1) listed a w :=
  ⟨fun h0 => absurd (hr ▸ h0) hne, hr ▸ h⟩
theorem doneR {listed : Array Bool} {a : Act} {w : World} (hr : Region.ready md ops listed = []) (h : Q .normal a w) : ∀ f, anyR P md ops Q S f listed a w
  | 0 => ⟨hr, h⟩
  | _ + 1 => ⟨fun _ => h, by rw [hr]; simp⟩
/-- An operation that yields a value and may turn the world. -/
theorem valueR {i : Nat} {o : Oper} {K : Act → World → Prop} {a : Act} {w w' : World} {v : Value} (d : Tmp) (hi : ops[i]? = some o) (hd : o.dst = some d) (hw : Region.wanted o (yielded ops a.tmps) = true)
    (hr : (execOp a.eval o).run P w = .ok (.value v) w') (h : K (a.put (some d) v) w') : opR P ops Q i K a w := by
  intro o' ho
  obtain rfl : o = o' := by rw [hi] at ho; exact Option.some.inj ho
  refine ⟨fun _ => by rw [hr]; rw [← hd] at h; exact h, fun h' => by rw [hw] at h'; cases h'⟩
/-- A call of a function. -/
theorem callR {i : Nat} {o : Oper} {K : Act → World → Prop} {a : Act} {w : World} {f : FuncId} {args : Array Value} (d : Tmp) (hi : ops[i]? = some o) (hd : o.dst = some d) (hw : Region.wanted o (yielded ops a.tmps) = true)
    (hr : (execOp a.eval o).run P w = .ok (.enter f args) w) (h : Calls P f args w fun e w2 => ∃ v, e = .returned v ∧ K (a.put (some d) v) w2) : opR P ops Q i K a w := by
  intro o' ho
  obtain rfl : o = o' := by rw [hi] at ho; exact Option.some.inj ho
  refine ⟨fun _ => ?_, fun h' => by rw [hw] at h'; cases h'⟩
  rw [hr]
  refine ⟨fun h' => (by cases h'), callsIn_wide.2 (h.mono fun e w2 ⟨v, he, hk⟩ => ?_)⟩
  subst he
  rw [← hd] at hk
  exact hk
/-- A call of yield. -/
theorem yieldR {i : Nat} {o : Oper} {K : Act → World → Prop} {a : Act} {w : World} {l fn : Nat} {tmps : Array Value} {assign body : Code} (d : Tmp) (hi : ops[i]? = some o) (hd : o.dst = some d) (hw : Region.wanted o (yielded ops a.tmps) = true)
    (hr : (execOp a.eval o).run P w = .ok (.round l fn tmps assign body) w) (h : RoundIn Fence.wide 0 P l fn tmps assign body w fun e w2 => ∃ v, e = .returned v ∧ K (a.put (some d) v) w2) : opR P ops Q i K a w := by
  intro o' ho
  obtain rfl : o = o' := by rw [hi] at ho; exact Option.some.inj ho
  refine ⟨fun _ => ?_, fun h' => by rw [hw] at h'; cases h'⟩
  rw [hr]
  refine ⟨fun h' => (by cases h'), h.mono fun e w2 ⟨v, he, hk⟩ => ?_⟩
  subst he
  rw [← hd] at hk
  exact hk
end
end Go.Proofs.Ytaifcemdabcfjaa
