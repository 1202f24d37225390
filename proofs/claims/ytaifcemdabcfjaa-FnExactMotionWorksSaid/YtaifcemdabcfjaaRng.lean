/- A range over a function, by laws of my own: the iterator may hand over memory that it has just made, may keep state of its own in cells, and may stand in a round of another loop. What belongs to the caller is told by a set of blocks. -/
import Derived.RangeFuncNested
import Derived.RangeFuncBound
import Derived.RangeFuncCalls
import Derived.RangeFuncLeaves
import Derived.Below
set_option linter.unusedSimpArgs false
set_option linter.unusedVariables false
set_option maxRecDepth 100000
namespace Go.Proofs.Ytaifcemdabcfjaa
open Go.RowKit

theorem setCell_far (A : World) {b o k : Nat} {v : Value} (h : k ≠ b) : (A.setCell ⟨b, o, none⟩ v).heap[k]? = A.heap[k]? := by
  simp only [World.setCell, Array.getElem?_modify]
  rw [if_neg (by omega)]
/-- Of the blocks that lay in W only those of M have turned in W'. -/
structure Kept (M : Nat → Prop) (W W' : World) : Prop where
  os : W'.os = W.os
  tape : W'.tape = W.tape
  output : W'.output = W.output
  size : W.heap.size ≤ W'.heap.size
  block : ∀ k, k < W.heap.size → ¬ M k → W'.heap[k]? = W.heap[k]?
theorem Kept.refl (M : Nat → Prop) (W : World) : Kept M W W := ⟨rfl, rfl, rfl, Nat.le_refl _, fun _ _ _ => rfl⟩
theorem Kept.trans {M M' M'' : Nat → Prop} {A B C : World} (h : Kept M A B) (k : Kept M' B C) (h1 : ∀ j, j < A.heap.size → M j → M'' j) (h2 : ∀ j, j < A.heap.size → M' j → M'' j) : Kept M'' A C :=
  ⟨k.os.trans h.os, k.tape.trans h.tape, k.output.trans h.output, Nat.le_trans h.size k.size,
    fun j hj hn => (k.block j (Nat.lt_of_lt_of_le hj h.size) (fun hm => hn (h2 j hj hm))).trans (h.block j hj (fun hm => hn (h1 j hj hm)))⟩
theorem Kept.weaken {M M' : Nat → Prop} {A B : World} (h : Kept M A B) (hM : ∀ k, k < A.heap.size → M k → M' k) : Kept M' A B :=
  ⟨h.os, h.tape, h.output, h.size, fun k hk hn => h.block k hk (fun hm => hn (hM k hk hm))⟩
theorem Kept.of_below {M : Nat → Prop} {W W' : World} (h : Below W.heap.size W W') : Kept M W W' := ⟨h.os, h.tape, h.output, h.size, fun k hk _ => h.block k hk⟩
theorem Kept.below {M : Nat → Prop} {W W' : World} {B : Nat} (h : Kept M W W') (hB : B ≤ W.heap.size) (hM : ∀ k, k < B → ¬ M k) : Below B W W' :=
  ⟨h.os, h.tape, h.output, h.size, fun k hk => h.block k (Nat.lt_of_lt_of_le hk hB) (hM k hk)⟩
theorem Kept.of_grown {M : Nat → Prop} {W W' : World} {row : Option Nat} (h : W.grownBy W' row) (hM : ∀ k, row = some k → M k) : Kept M W W' :=
  ⟨h.os, h.tape, h.output, h.size, fun k hk hn => h.block k hk (fun e => hn (hM k e.symm))⟩
theorem Kept.putObj {M : Nat → Prop} (W : World) (l : Nat) (o : Obj) (hM : M l) : Kept M W (W.putObj l o) :=
  .of_grown (grownBy_putObj' W l o) (fun k e => by cases e; exact hM)

theorem Kept.setCell {M : Nat → Prop} {W A : World} {b o : Nat} {v : Value} (h : Kept M W A) (hb : M b ∨ W.heap.size ≤ b) : Kept M W (A.setCell ⟨b, o, none⟩ v) := by
  have hs : (A.setCell ⟨b, o, none⟩ v).heap.size = A.heap.size := by simp
  have h1 : Below b A (A.setCell ⟨b, o, none⟩ v) := (Below.refl b A).setCell (p := ⟨b, o, none⟩) (Nat.le_refl _) v
  refine ⟨h1.os.trans h.os, h1.tape.trans h.tape, h1.output.trans h.output, Nat.le_trans h.size h1.size, fun k hk hn => ?_⟩
  have hkb : k ≠ b := fun e => by
    subst e
    rcases hb with hb | hb
    · exact hn hb
    · omega
  exact (setCell_far A hkb).trans (h.block k hk hn)
theorem Kept.alloc {M : Nat → Prop} {W A : World} {ob : Obj} (h : Kept M W A) : Kept M W (A.alloc ob) :=
  Kept.trans (M' := fun _ => False) h (Kept.of_below ((Below.refl _ A).alloc (Nat.le_refl _) ob)) (fun _ _ h => h) (fun _ _ h => h.elim)
theorem Kept.drew {M : Nat → Prop} {W A : World} (h : Kept M W A) : Kept M W A.drew :=
  Kept.trans (M' := fun _ => False) h (Kept.of_below (Below.refl _ A).drew) (fun _ _ h => h) (fun _ _ h => h.elim)
theorem Kept.call {M : Nat → Prop} {W A B : World} (h : Kept M W A) (hb : Below A.heap.size A B) : Kept M W B :=
  Kept.trans (M' := fun _ => False) h (Kept.of_below hb) (fun _ _ h => h) (fun _ _ h => h.elim)
/-- What is told of a list, of the caller's blocks M and of a world abides whatever turns neither a block below B nor one of M. -/
def Local {β : Type} (B : Nat) (J : β → (Nat → Prop) → World → Prop) : Prop :=
  ∀ s M A A', J s M A → Kept (fun k => B ≤ k ∧ ¬ M k) A A' → J s M A'

theorem Kept.low {B : Nat} {M : Nat → Prop} {A A' : World} (h : Kept (fun k => B ≤ k ∧ ¬ M k) A A') {b : Nat} (hA : b < A.heap.size) (hB : b < B) : A'.heap[b]? = A.heap[b]? := h.block b hA (fun hh => by omega)
theorem Kept.mine {B : Nat} {M : Nat → Prop} {A A' : World} (h : Kept (fun k => B ≤ k ∧ ¬ M k) A A') {b : Nat} (hA : b < A.heap.size) (hM : M b) : A'.heap[b]? = A.heap[b]? := h.block b hA (fun hh => hh.2 hM)
/-- What cells hold: of each block, offset and value; and no string shares them. -/
def CellsAt (W : World) (l : List (Nat × Nat × Value)) : Prop := ∀ p, p ∈ l → p.1 < W.heap.size ∧ W.cell? ⟨p.1, p.2.1, none⟩ = some p.2.2 ∧ W.frozen? ⟨p.1, p.2.1, none⟩ = false
theorem CellsAt.of_same {W W' : World} {l : List (Nat × Nat × Value)} (h : CellsAt W l) (hs : W.heap.size ≤ W'.heap.size) (hb : ∀ p, p ∈ l → W'.heap[p.1]? = W.heap[p.1]?) : CellsAt W' l := fun p hp => by
  obtain ⟨h1, h2, h3⟩ := h p hp
  exact ⟨by omega, (World.cell?_of_block (hb p hp)).trans h2, (World.frozen?_of_block (hb p hp)).trans h3⟩
theorem CellsAt.kept {M : Nat → Prop} {W W' : World} {l : List (Nat × Nat × Value)} (h : CellsAt W l) (hk : Kept M W W') (hM : ∀ p, p ∈ l → ¬ M p.1) : CellsAt W' l :=
  h.of_same hk.size (fun p hp => hk.block _ (h p hp).1 (hM p hp))
theorem CellsAt.below {W W' : World} {l : List (Nat × Nat × Value)} (h : CellsAt W l) (hb : Below W.heap.size W W') : CellsAt W' l :=
  h.of_same hb.size (fun p hp => hb.block _ (h p hp).1)
theorem CellsAt.low {B : Nat} {M : Nat → Prop} {A A' : World} {l : List (Nat × Nat × Value)} (h : CellsAt A l) (hk : Kept (fun k => B ≤ k ∧ ¬ M k) A A') (hB : ∀ p, p ∈ l → p.1 < B) : CellsAt A' l :=
  h.of_same hk.size (fun p hp => hk.low (h p hp).1 (hB p hp))
theorem Below.low {n0 B : Nat} {M : Nat → Prop} {w A A' : World} (h : Below n0 w A) (hk : Kept (fun k => B ≤ k ∧ ¬ M k) A A') (h1 : n0 ≤ w.heap.size) (h2 : n0 ≤ B) : Below n0 w A' :=
  h.trans (hk.below (Nat.le_trans h1 h.size) (fun k hk hh => by omega))
/-- The contract of an iterator: it hands over the elements of a list for which S holds (or, where a round says 'no more', of one for which Sp holds), each of them with V in the world in which it is handed over; it turns no block of the caller's and none that lay before; O are the blocks that it reads; T are the blocks that it hands over with an element: they may be the caller's from then on. -/
def Seqs {α : Type} (P : Program) (g : FuncId) (lb : Array Value) (encs : α → Array Value) (V : α → World → Prop) (T : α → Nat → Prop) (S Sp : List α → Prop) (O : Nat → Prop) (w0 : World) : Prop :=
  ∀ (l : Nat) (J Jx : List α → (Nat → Prop) → World → Prop) (M0 : Nat → Prop) (W : World),
    Below w0.heap.size w0 W → Local W.heap.size J → Local W.heap.size Jx → (∀ k, O k → ¬ M0 k) → (∀ k, M0 k → k < W.heap.size) →
    (∀ pre x M W1, J pre M W1 → V x W1 → (∀ k, T x k → W.heap.size ≤ k ∧ k < W1.heap.size ∧ ¬ M k) → Sp (pre ++ [x]) → YieldAt Fence.wide 0 P l (encs x) W1 fun e W' =>
      ∃ M', Kept M W1 W' ∧ (∀ k, M' k → (M k ∨ T x k ∨ W1.heap.size ≤ k) ∧ k < W'.heap.size) ∧ ((e = .returned (.bool true) ∧ J (pre ++ [x]) M' W') ∨ (e = .returned (.bool false) ∧ Jx (pre ++ [x]) M' W'))) →
    J [] M0 W →
    Calls P g (#[.func (.yield l) #[] #[]] ++ lb) W fun e W' => (∃ v, e = .returned v) ∧ ∃ M', (∀ k, M' k → M0 k ∨ W.heap.size ≤ k) ∧ ((∃ xs, S xs ∧ J xs M' W') ∨ (∃ pre, Sp pre ∧ Jx pre M' W'))

/-- The record of a loop. -/
def lrec (fn : FuncId) (tmps : Array Value) (ps : Array Tmp) (assign body : Code) (d : Nat) (st : LoopState) (pe : Option Code) : Loop :=
  { state := st, pending := pe, fn := fn, tmps := tmps, params := ps, assign := assign, body := body, defers := d }
/-- The record of the loop l has turned, and nothing else. -/
def Turned (l : Nat) (W1 W2 : World) : Prop := Kept (fun k => k = l) W1 W2 ∧ W2.heap.size = W1.heap.size ∧ ∃ r, W2.heap[l]? = some (.loop r)
/-- What a round owes at its end; B: how many blocks there were when it began. -/
def roundEnd {α : Type} (I : List α → (Nat → Prop) → World → Prop) (Ix : Code → List α → (Nat → Prop) → World → Prop) (xs : List α) (M Tx : Nat → Prop) (B : Nat) (W2 : World) : Exit → Act → World → Prop
  | .normal, _, W3 => ∃ M', Kept M W2 W3 ∧ (∀ k, M' k → (M k ∨ Tx k ∨ B ≤ k) ∧ k < W3.heap.size) ∧ I xs M' W3
  | .ret, _, W3 => ∃ M', Kept M W2 W3 ∧ (∀ k, M' k → (M k ∨ Tx k ∨ B ≤ k) ∧ k < W3.heap.size) ∧ Ix .ret xs M' W3
  | .exit i, _, W3 => ∃ M', Kept M W2 W3 ∧ (∀ k, M' k → (M k ∨ Tx k ∨ B ≤ k) ∧ k < W3.heap.size) ∧ Ix (.exit i) xs M' W3
  | .goto t, _, W3 => ∃ M', Kept M W2 W3 ∧ (∀ k, M' k → (M k ∨ Tx k ∨ B ≤ k) ∧ k < W3.heap.size) ∧ Ix (.goto t) xs M' W3
  | .panic _, _, _ => False
  | .outgrown, _, _ => False

section
variable {P : Program} {α : Type} {ps : Array Tmp} {assign body : Code} {gf : FuncId} {lb : Array Value}
    {encs : α → Array Value} {V : α → World → Prop} {T : α → Nat → Prop} {S Sp : List α → Prop} {O : Nat → Prop} {w0 : World}

theorem range_core {w W1 : World} (hseq : Seqs P gf lb encs V T S Sp O w0) (hb0 : Below w0.heap.size w0 W1) (hps : ∀ x, (encs x).size = ps.size)
    (I : List α → (Nat → Prop) → World → Prop) (Ix : Code → List α → (Nat → Prop) → World → Prop) (hI : Local w.heap.size I) (hIx : ∀ c, Local w.heap.size (Ix c))
    (M0 : Nat → Prop) (hM0 : ∀ k, M0 k → k < w.heap.size) (hO : ∀ k, O k → k < w.heap.size ∧ ¬ M0 k)
    (fn : FuncId) (tmps : Array Value) (d l : Nat) (E : Nat → Prop) (X : World → Prop)
    (hl : w.heap.size ≤ l) (hE : ∀ k, E k → w.heap.size ≤ k ∧ k ≠ l ∧ k < W1.heap.size) (hX : ∀ A A', X A → (∀ k, E k → A'.heap[k]? = A.heap[k]?) → X A') (hw1 : w.heap.size ≤ W1.heap.size)
    (hL : W1.heap[l]? = some (.loop (lrec fn tmps ps assign body d .ready none))) (hX1 : X W1) (h0 : I [] M0 W1)
    (hround : ∀ pre x M W, ¬ M l → (∀ k, M k → k < W.heap.size) → l < W.heap.size → I pre M W → V x W → (∀ k, T x k → w.heap.size ≤ k ∧ k < W.heap.size ∧ ¬ M k ∧ k ≠ l) → Sp (pre ++ [x]) →
      assign.wpIn (Fence.wide.inRound l) 0 P (Exit.then (fun a' Wa => Below W.heap.size W Wa ∧ ∀ W2, Turned l Wa W2 → body.wpIn (Fence.wide.inRound l) 0 P (roundEnd I Ix (pre ++ [x]) M (T x) W.heap.size W2) a' W2) (fun _ _ _ => False))
        { tmps := (ps.zip (encs x)).foldl (fun t (p, v) => t.setIfInBounds p v) tmps, defers := [] } W) :
    Calls P gf (#[.func (.yield l) #[] #[]] ++ lb) W1 fun e W3 => (∃ v, e = .returned v) ∧ ∃ M, ¬ M l ∧ (∀ k, E k → ¬ M k) ∧ (∀ k, M k → k < W3.heap.size) ∧ X W3 ∧
      ((∃ xs, S xs ∧ I xs M W3 ∧ W3.heap[l]? = some (.loop (lrec fn tmps ps assign body d .ready none))) ∨
       (∃ c pre, Sp pre ∧ Ix c pre M W3 ∧ W3.heap[l]? = some (.loop (lrec fn tmps ps assign body d .done (some c))))) := by
  have hlW1 : l < W1.heap.size := (Array.getElem?_eq_some_iff.1 hL).1
  -- the caller's blocks and the law's own two
  let TT : (Nat → Prop) → (Nat → Prop) → World → Prop := fun M M1 W => (∀ k, M k ↔ M1 k ∨ k = l ∨ E k) ∧ ¬ M1 l ∧ (∀ k, E k → ¬ M1 k) ∧ (∀ k, M1 k → k < W.heap.size) ∧ W1.heap.size ≤ W.heap.size ∧ X W
  have hT : ∀ {M M1 : Nat → Prop} {A A' : World}, TT M M1 A → Kept (fun k => W1.heap.size ≤ k ∧ ¬ M k) A A' → TT M M1 A' := by
    rintro M M1 A A' ⟨h1, h2, h3, h4, h5, h6⟩ hk
    refine ⟨h1, h2, h3, fun k hm => Nat.lt_of_lt_of_le (h4 k hm) hk.size, Nat.le_trans h5 hk.size, hX A A' h6 (fun k he => hk.block k (Nat.lt_of_lt_of_le (hE k he).2.2 h5) (fun hh => hh.2 ((h1 k).2 (.inr (.inr he)))))⟩
  have hTI : ∀ {M M1 : Nat → Prop} {A A' : World}, TT M M1 A → Kept (fun k => W1.heap.size ≤ k ∧ ¬ M k) A A' → Kept (fun k => w.heap.size ≤ k ∧ ¬ M1 k) A A' := by
    rintro M M1 A A' ⟨h1, -⟩ hk
    exact hk.weaken (fun k _ hh => ⟨Nat.le_trans hw1 hh.1, fun hm => hh.2 ((h1 k).2 (.inl hm))⟩)
  have hTl : ∀ {M M1 : Nat → Prop} {A A' : World} {o : Obj}, TT M M1 A → Kept (fun k => W1.heap.size ≤ k ∧ ¬ M k) A A' → A.heap[l]? = some o → A'.heap[l]? = some o := by
    rintro M M1 A A' o ⟨h1, -⟩ hk ho
    exact (hk.block l (Array.getElem?_eq_some_iff.1 ho).1 (fun hh => hh.2 ((h1 l).2 (.inr (.inl rfl))))).trans ho
  refine (hseq l
    (fun pre M W => ∃ M1, TT M M1 W ∧ I pre M1 W ∧ W.heap[l]? = some (.loop (lrec fn tmps ps assign body d .ready none)))
    (fun pre M W => ∃ c M1, TT M M1 W ∧ Ix c pre M1 W ∧ W.heap[l]? = some (.loop (lrec fn tmps ps assign body d .done (some c))))
    (fun k => M0 k ∨ k = l ∨ E k) W1 hb0 ?_ ?_ ?_ ?_ ?_ ?_).mono ?_
  · rintro s M A A' ⟨M1, hT1, hi, hr⟩ hk
    exact ⟨M1, hT hT1 hk, hI s M1 A A' hi (hTI hT1 hk), hTl hT1 hk hr⟩
  · rintro s M A A' ⟨c, M1, hT1, hi, hr⟩ hk
    exact ⟨c, M1, hT hT1 hk, hIx c s M1 A A' hi (hTI hT1 hk), hTl hT1 hk hr⟩
  · rintro k ho (hm | rfl | he)
    · exact (hO k ho).2 hm
    · have := (hO k ho).1; omega
    · have := (hO k ho).1; have := (hE k he).1; omega
  · rintro k (hm | rfl | he)
    · have := hM0 k hm; omega
    · exact hlW1
    · exact (hE k he).2.2
  · rintro pre x M W ⟨M1, hT1, hi, hr⟩ hv htx hsp
    have hT1' := hT1
    obtain ⟨hM, hnl, hnE, hlt, hW, hx⟩ := hT1'
    have hlW : l < W.heap.size := (Array.getElem?_eq_some_iff.1 hr).1
    have hy := run_yield (P := P) (args := encs x) hr (hps x)
    refine ⟨fn, _, assign, body, hy, roundIn_of_wpIn trivial (wpIn_mono (hround pre x M1 W hnl hlt hlW hi hv (fun k h => ⟨Nat.le_trans hw1 (htx k h).1, (htx k h).2.1, fun hm => (htx k h).2.2 ((hM k).2 (.inl hm)), fun e => (htx k h).2.2 ((hM k).2 (.inr (.inl e)))⟩) hsp) ?_)⟩
    rintro e a' Wa hq
    cases e with
    | normal =>
      obtain ⟨hbel, hb⟩ := hq
      have hr2 := (hbel.block l hlW).trans hr
      have hlWa : l < Wa.heap.size := (Array.getElem?_eq_some_iff.1 hr2).1
      refine ⟨_, run_beginRound hr2 rfl, wpIn_mono (hb _ ⟨Kept.putObj _ _ _ rfl, World.putObj_size, _, World.putObj_heap_same hlWa⟩) ?_⟩
      -- what the two turns of the record and the round's own doing come to
      have fin : ∀ (jump : Option Code) (M' : Nat → Prop) (W3 : World), Kept M1 (Wa.putObj l (.loop { lrec fn tmps ps assign body d .ready none with state := .busy })) W3 →
          (∀ k, M' k → (M1 k ∨ T x k ∨ W.heap.size ≤ k) ∧ k < W3.heap.size) →
          (Instr.endRound l jump).run P W3 = .ok (.bool jump.isNone) (W3.putObj l (.loop (lrec fn tmps ps assign body d (if jump.isNone then .ready else .done) jump))) ∧
          Kept M W (W3.putObj l (.loop (lrec fn tmps ps assign body d (if jump.isNone then .ready else .done) jump))) ∧
          (∀ k, (M' k ∨ k = l ∨ E k) → (M k ∨ T x k ∨ W.heap.size ≤ k) ∧ k < (W3.putObj l (.loop (lrec fn tmps ps assign body d (if jump.isNone then .ready else .done) jump))).heap.size) ∧
          TT (fun k => M' k ∨ k = l ∨ E k) M' (W3.putObj l (.loop (lrec fn tmps ps assign body d (if jump.isNone then .ready else .done) jump))) ∧
          Kept (fun k => w.heap.size ≤ k ∧ ¬ M' k) W3 (W3.putObj l (.loop (lrec fn tmps ps assign body d (if jump.isNone then .ready else .done) jump))) ∧
          (W3.putObj l (.loop (lrec fn tmps ps assign body d (if jump.isNone then .ready else .done) jump))).heap[l]? = some (.loop (lrec fn tmps ps assign body d (if jump.isNone then .ready else .done) jump)) := by
        intro jump M' W3 hk hg
        have hsz := hk.size
        rw [World.putObj_size] at hsz
        have hl3 : W3.heap[l]? = some (.loop { lrec fn tmps ps assign body d .ready none with state := .busy }) :=
          (hk.block l (by rw [World.putObj_size]; exact hlWa) hnl).trans (World.putObj_heap_same hlWa)
        have hlW3 := (Array.getElem?_eq_some_iff.1 hl3).1
        have hM'l : ¬ M' l := fun h => by
          rcases (hg l h).1 with h | h | h
          · exact hnl h
          · exact (htx l h).2.2 ((hM l).2 (.inr (.inl rfl)))
          · omega
        have hWa : W.heap.size ≤ Wa.heap.size := hbel.size
        have k1 : Kept (fun k => M1 k ∨ k = l) W W3 :=
          Kept.trans (Kept.of_below (M := fun k => k = l) hbel) (Kept.trans (Kept.putObj (M := fun k => k = l) Wa l _ rfl) hk (M'' := fun k => M1 k ∨ k = l) (fun _ _ h => .inr h) (fun _ _ h => .inl h)) (fun _ _ h => .inr h) (fun _ _ h => h)
        have k2 : Kept (fun k => M1 k ∨ k = l) W (W3.putObj l (.loop (lrec fn tmps ps assign body d (if jump.isNone then .ready else .done) jump))) :=
          Kept.trans k1 (Kept.putObj (M := fun k => k = l) W3 l _ rfl) (fun _ _ h => h) (fun _ _ h => .inr h)
        refine ⟨run_endRound jump hl3, k2.weaken (fun k _ h => (hM k).2 (h.elim .inl (fun h => .inr (.inl h)))), ?_, ⟨fun k => Iff.rfl, hM'l, ?_, ?_, ?_, ?_⟩, Kept.putObj _ _ _ ⟨hl, hM'l⟩, World.putObj_heap_same hlW3⟩
        · rintro k (h | h | h)
          · refine ⟨?_, by rw [World.putObj_size]; exact (hg k h).2⟩
            rcases (hg k h).1 with h | h
            · exact .inl ((hM k).2 (.inl h))
            · exact .inr h
          · exact ⟨.inl ((hM k).2 (.inr (.inl h))), by rw [World.putObj_size]; omega⟩
          · have := (hE k h).2.2
            exact ⟨.inl ((hM k).2 (.inr (.inr h))), by rw [World.putObj_size]; omega⟩
        · intro k he hm
          rcases (hg k hm).1 with h | h | h
          · exact hnE k he h
          · exact (htx k h).2.2 ((hM k).2 (.inr (.inr he)))
          · have := (hE k he).2.2; omega
        · intro k hm
          rw [World.putObj_size]; exact (hg k hm).2
        · rw [World.putObj_size]; omega
        · refine hX _ _ hx (fun k he => k2.block k (Nat.lt_of_lt_of_le (hE k he).2.2 hW) (fun h => ?_))
          rcases h with h | h
          · exact hnE k he h
          · exact (hE k he).2.1 h
      rintro e a3 W3 hp
      cases e with
      | normal =>
        obtain ⟨M', hk, hg, hi3⟩ := hp
        obtain ⟨f1, f2, f3, f4, f5, f6⟩ := fin none M' W3 hk hg
        exact ⟨_, _, f1, fun k => M' k ∨ k = l ∨ E k, f2, f3, .inl ⟨rfl, M', f4, hI _ _ _ _ hi3 f5, f6⟩⟩
      | ret =>
        obtain ⟨M', hk, hg, hi3⟩ := hp
        obtain ⟨f1, f2, f3, f4, f5, f6⟩ := fin (some .ret) M' W3 hk hg
        exact ⟨_, _, f1, fun k => M' k ∨ k = l ∨ E k, f2, f3, .inr ⟨rfl, .ret, M', f4, hIx _ _ _ _ _ hi3 f5, f6⟩⟩
      | exit i =>
        obtain ⟨M', hk, hg, hi3⟩ := hp
        obtain ⟨f1, f2, f3, f4, f5, f6⟩ := fin (some (.exit i)) M' W3 hk hg
        exact ⟨_, _, f1, fun k => M' k ∨ k = l ∨ E k, f2, f3, .inr ⟨rfl, .exit i, M', f4, hIx _ _ _ _ _ hi3 f5, f6⟩⟩
      | goto t =>
        obtain ⟨M', hk, hg, hi3⟩ := hp
        obtain ⟨f1, f2, f3, f4, f5, f6⟩ := fin (some (.goto t)) M' W3 hk hg
        exact ⟨_, _, f1, fun k => M' k ∨ k = l ∨ E k, f2, f3, .inr ⟨rfl, .goto t, M', f4, hIx _ _ _ _ _ hi3 f5, f6⟩⟩
      | panic ch => exact hp.elim
      | outgrown => exact hp.elim
    | ret => exact hq.elim
    | exit i => exact hq.elim
    | goto t => exact hq.elim
    | panic ch => exact hq.elim
    | outgrown => exact hq.elim
  · refine ⟨M0, ⟨fun k => Iff.rfl, fun h => ?_, fun k he h => ?_, fun k h => ?_, Nat.le_refl _, hX1⟩, h0, hL⟩
    · have := hM0 l h; omega
    · have := hM0 k h; have := (hE k he).1; omega
    · have := hM0 k h; omega
  · rintro e W3 ⟨hv, M, -, (⟨xs, hS, M1, ⟨h1, h2, h3, h4, h5, h6⟩, hi, hr⟩ | ⟨pre, hSp, c, M1, ⟨h1, h2, h3, h4, h5, h6⟩, hi, hr⟩)⟩
    · exact ⟨hv, M1, h2, h3, h4, h6, .inl ⟨xs, hS, hi, hr⟩⟩
    · exact ⟨hv, M1, h2, h3, h4, h6, .inr ⟨c, pre, hSp, hi, hr⟩⟩

/-- A range over a function that stands in no round. -/
theorem range_outer {g : Operand} {Q : Exit → Act → World → Prop} {a : Act} {w : World} (hg : a.eval g = .func (.func gf) #[] lb) (eg : ∀ args w, (callFunc gf args).run P w = .ok (.enter gf args) w)
    (hseq : Seqs P gf lb encs V T S Sp O w0) (hb0 : Below w0.heap.size w0 w) (hps : ∀ x, (encs x).size = ps.size)
    (I : List α → (Nat → Prop) → World → Prop) (Ix : Code → List α → (Nat → Prop) → World → Prop) (hI : Local w.heap.size I) (hIx : ∀ c, Local w.heap.size (Ix c))
    (M0 : Nat → Prop) (hM0 : ∀ k, M0 k → k < w.heap.size) (hO : ∀ k, O k → k < w.heap.size ∧ ¬ M0 k) (h0 : I [] M0 w)
    (hround : ∀ l pre x M W, w.heap.size ≤ l → ¬ M l → (∀ k, M k → k < W.heap.size) → l < W.heap.size → I pre M W → V x W → (∀ k, T x k → w.heap.size ≤ k ∧ k < W.heap.size ∧ ¬ M k ∧ k ≠ l) → Sp (pre ++ [x]) →
      assign.wpIn (Fence.wide.inRound l) 0 P (Exit.then (fun a' Wa => Below W.heap.size W Wa ∧ ∀ W2, Turned l Wa W2 → body.wpIn (Fence.wide.inRound l) 0 P (roundEnd I Ix (pre ++ [x]) M (T x) W.heap.size W2) a' W2) (fun _ _ _ => False))
        { tmps := (ps.zip (encs x)).foldl (fun t (p, v) => t.setIfInBounds p v) a.tmps, defers := [] } W)
    (hdone : ∀ D xs M W, w.heap.size ≤ D → ¬ M D → (∀ k, M k → k < W.heap.size) → S xs → I xs M W → W.heap[D]? = some (.deferred (some [])) → Q .normal { a with defers := { target := .collected D, args := #[] } :: a.defers } W)
    (hstop : ∀ D c pre M W, w.heap.size ≤ D → ¬ M D → (∀ k, M k → k < W.heap.size) → Sp pre → Ix c pre M W → W.heap[D]? = some (.deferred (some [])) → c.wpIn Fence.wide 0 P Q { a with defers := { target := .collected D, args := #[] } :: a.defers } W) :
    (Code.rangeFunc g ps assign body).wpIn Fence.wide 0 P Q a w := by
  refine wpIn_rangeFunc fun fn _ => ?_
  have hL : ((w.alloc (.deferred (some []))).alloc (.loop (lrec fn a.tmps ps assign body w.heap.size .ready none))).heap[w.heap.size + 1]? = some (.loop (lrec fn a.tmps ps assign body w.heap.size .ready none)) := by
    have := World.alloc_heap_new (w.alloc (.deferred (some []))) (.loop (lrec fn a.tmps ps assign body w.heap.size .ready none)); rwa [World.size_alloc] at this
  have hK : ((w.alloc (.deferred (some []))).alloc (.loop (lrec fn a.tmps ps assign body w.heap.size .ready none))).heap[w.heap.size]? = some (.deferred (some [])) :=
    (Below.heap_alloc _ _ _ (by simp)).trans (World.alloc_heap_new w _)
  have hB : Below w.heap.size w ((w.alloc (.deferred (some []))).alloc (.loop (lrec fn a.tmps ps assign body w.heap.size .ready none))) := ((Below.refl _ w).alloc (Nat.le_refl _) _).alloc (by simp) _
  refine ⟨w.heap.size + 1, [{ target := .collected w.heap.size, args := #[] }], ((w.alloc (.deferred (some []))).alloc (.loop (lrec fn a.tmps ps assign body w.heap.size .ready none))), { target := .fn (.func gf) lb, args := #[.func (.yield (w.heap.size + 1)) #[] #[]] }, ((w.alloc (.deferred (some []))).alloc (.loop (lrec fn a.tmps ps assign body w.heap.size .ready none))), gf,
    #[.func (.yield (w.heap.size + 1)) #[] #[]] ++ lb, ((w.alloc (.deferred (some []))).alloc (.loop (lrec fn a.tmps ps assign body w.heap.size .ready none))), run_enterLoop_outer _ _ _ _ _, ?_, fun _ _ => trivial, ?_, (fun h => by cases h), ?_⟩
  · simp only [resolve, hg]
    simp [go_sem]
  · simp [invoke, go_sem, eg]
  · refine callsIn_wide.2 ((range_core (w := w) hseq (hb0.trans (hB.mono hb0.size)) hps I Ix hI hIx M0 hM0 hO fn a.tmps w.heap.size (w.heap.size + 1) (fun k => k = w.heap.size) (fun W => W.heap[w.heap.size]? = some (.deferred (some [])))
      (by omega) (fun k e => by subst e; refine ⟨Nat.le_refl _, by omega, by simp only [World.size_alloc]; omega⟩) (fun A A' h he => (he _ rfl).trans h) (by simp; omega) hL hK (hI _ _ _ _ h0 (Kept.of_below hB)) (fun pre x M W h1 h2 h3 => hround _ pre x M W (by omega) h1 h2 h3)).mono ?_)
    rintro e W3 ⟨⟨v, rfl⟩, M, hMl, hME, hMb, hX, (⟨xs, hS, hi, hr⟩ | ⟨c, pre, hSp, hi, hr⟩)⟩
    · refine ⟨none, _, run_endLoop hr (by simp [lrec]), hdone _ xs M _ (Nat.le_refl _) (hME _ rfl) (by simpa using hMb) hS (hI _ _ _ _ hi (Kept.putObj _ _ _ ⟨by omega, hMl⟩)) ((World.putObj_heap_other (by omega)).trans hX)⟩
    · refine ⟨some c, _, run_endLoop hr (by simp [lrec]), hstop _ c pre M _ (Nat.le_refl _) (hME _ rfl) (by simpa using hMb) hSp (hIx _ _ _ _ _ hi (Kept.putObj _ _ _ ⟨by omega, hMl⟩)) ((World.putObj_heap_other (by omega)).trans hX)⟩

/-- A range over a function in a round of the loop l0. -/
theorem range_inner {l0 : Nat} {r0 : Loop} {g : Operand} {Q : Exit → Act → World → Prop} {a : Act} {w : World} (hl0 : w.heap[l0]? = some (.loop r0)) (hg : a.eval g = .func (.func gf) #[] lb) (eg : ∀ args w, (callFunc gf args).run P w = .ok (.enter gf args) w)
    (hseq : Seqs P gf lb encs V T S Sp O w0) (hb0 : Below w0.heap.size w0 w) (hps : ∀ x, (encs x).size = ps.size)
    (I : List α → (Nat → Prop) → World → Prop) (Ix : Code → List α → (Nat → Prop) → World → Prop) (hI : Local w.heap.size I) (hIx : ∀ c, Local w.heap.size (Ix c))
    (M0 : Nat → Prop) (hM0 : ∀ k, M0 k → k < w.heap.size) (hO : ∀ k, O k → k < w.heap.size ∧ ¬ M0 k) (h0 : I [] M0 w)
    (hround : ∀ l pre x M W, w.heap.size ≤ l → ¬ M l → (∀ k, M k → k < W.heap.size) → l < W.heap.size → I pre M W → V x W → (∀ k, T x k → w.heap.size ≤ k ∧ k < W.heap.size ∧ ¬ M k ∧ k ≠ l) → Sp (pre ++ [x]) →
      assign.wpIn (Fence.wide.inRound l) 0 P (Exit.then (fun a' Wa => Below W.heap.size W Wa ∧ ∀ W2, Turned l Wa W2 → body.wpIn (Fence.wide.inRound l) 0 P (roundEnd I Ix (pre ++ [x]) M (T x) W.heap.size W2) a' W2) (fun _ _ _ => False))
        { tmps := (ps.zip (encs x)).foldl (fun t (p, v) => t.setIfInBounds p v) a.tmps, defers := [] } W)
    (hdone : ∀ xs M W, (∀ k, M k → k < W.heap.size) → S xs → I xs M W → Q .normal a W)
    (hstop : ∀ c pre M W, (∀ k, M k → k < W.heap.size) → Sp pre → Ix c pre M W → c.wpIn (Fence.wide.inRound l0) 0 P Q a W) :
    (Code.rangeFunc g ps assign body).wpIn (Fence.wide.inRound l0) 0 P Q a w := by
  refine wpIn_rangeFunc fun fn _ => ?_
  have hL : (w.alloc (.loop (lrec fn a.tmps ps assign body r0.defers .ready none))).heap[w.heap.size]? = some (.loop (lrec fn a.tmps ps assign body r0.defers .ready none)) := World.alloc_heap_new w _
  have hB : Below w.heap.size w (w.alloc (.loop (lrec fn a.tmps ps assign body r0.defers .ready none))) := (Below.refl _ w).alloc (Nat.le_refl _) _
  refine ⟨w.heap.size, [], (w.alloc (.loop (lrec fn a.tmps ps assign body r0.defers .ready none))), { target := .fn (.func gf) lb, args := #[.func (.yield w.heap.size) #[] #[]] }, (w.alloc (.loop (lrec fn a.tmps ps assign body r0.defers .ready none))), gf,
    #[.func (.yield w.heap.size) #[] #[]] ++ lb, (w.alloc (.loop (lrec fn a.tmps ps assign body r0.defers .ready none))), run_enterLoop_inner hl0 _ _ _ _ _, ?_, fun _ _ => trivial, ?_, (fun h => by cases h), ?_⟩
  · simp only [resolve, hg]
    simp [go_sem]
  · simp [invoke, go_sem, eg]
  · refine (callsIn_wide.2 ((range_core (w := w) hseq (hb0.trans (hB.mono hb0.size)) hps I Ix hI hIx M0 hM0 hO fn a.tmps r0.defers w.heap.size (fun _ => False) (fun _ => True)
      (Nat.le_refl _) (fun k e => e.elim) (fun _ _ _ _ => trivial) (by simp) hL trivial (hI _ _ _ _ h0 (Kept.of_below hB)) (fun pre x M W h1 h2 h3 => hround _ pre x M W (Nat.le_refl _) h1 h2 h3)).mono ?_) : CallsIn Fence.wide (0 - 1) P gf _ _ _).inRound l0
    rintro e W3 ⟨⟨v, rfl⟩, M, hMl, -, hMb, -, (⟨xs, hS, hi, hr⟩ | ⟨c, pre, hSp, hi, hr⟩)⟩
    · exact ⟨none, _, run_endLoop hr (by simp [lrec]), hdone xs M _ (by simpa using hMb) hS (hI _ _ _ _ hi (Kept.putObj _ _ _ ⟨Nat.le_refl _, hMl⟩))⟩
    · exact ⟨some c, _, run_endLoop hr (by simp [lrec]), hstop c pre M _ (by simpa using hMb) hSp (hIx _ _ _ _ _ hi (Kept.putObj _ _ _ ⟨Nat.le_refl _, hMl⟩))⟩
end
end Go.Proofs.Ytaifcemdabcfjaa
