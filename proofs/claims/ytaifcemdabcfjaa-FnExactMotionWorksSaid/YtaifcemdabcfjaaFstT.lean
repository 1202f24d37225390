/- The first one of what an iterator over trains hands over. -/
import Derived.Test.YtaifcemdabcfjaaIt3
set_option linter.unusedSimpArgs false
set_option linter.unusedVariables false
set_option maxRecDepth 100000
namespace Go.Proofs.Ytaifcemdabcfjaa
open Go.RowKit Go.Shelf
attribute [local go_sem] Oper.semAt_some

/-- The pairs of a train, if there is one. -/
def trL : Option Tr → List (Int × Int)
  | none => []
  | some t => [t.1, t.2]
/-- What is handed back of a train and whether there is one: it lies in a block of its own, not below B. -/
def TrainOut (B : Nat) (w0 : World) (r : Option Tr) (e : Ending) (w' : World) : Prop :=
  ∃ v, e = .returned (.tuple #[v, .bool r.isSome]) ∧ RowPair w' B v (trL r) ∧ Below w0.heap.size w0 w'
/-- The value of a train that has been handed over, if there is one. -/
def TrainV (B : Nat) (r : Option Tr) (w' : World) (v : Value) : Prop := match r with
  | none => v = .slice none 0 0
  | some t => ∃ g, v = .slice (some ⟨g, 0, none⟩) 2 2 ∧ TrAt B (g, t) w'
theorem TrainV.row {B : Nat} {r : Option Tr} {w' : World} {v : Value} (h : TrainV B r w' v) : RowPair w' B v (trL r) := by
  cases r with
  | none => rw [show v = .slice none 0 0 from h]; exact World.ownsRow_nil _ _ _ _
  | some t =>
    obtain ⟨g, rfl, ht⟩ := h
    exact ht
theorem TrAt.same {B : Nat} {x : Nat × Tr} {W W' : World} (h : TrAt B x W) (hb : W'.heap[x.1]? = W.heap[x.1]?) : TrAt B x W' := by
  refine ⟨h.1, ?_⟩
  rcases h.2 with ⟨e, -⟩ | ⟨g, cap, cur, h1, h2, h3, h4⟩
  · cases e
  · have hg : g = x.1 := by
      simp only [Value.slice.injEq, Option.some.injEq, Addr.mk.injEq] at h1
      exact h1.1.1.symm
    subst hg
    exact .inr ⟨x.1, cap, cur, h1, h2, hb.trans h3, h4⟩
theorem head_pre {LL : List Tr} {t : Tr} (h : [t] <+: LL) : LL.head? = some t := by
  obtain ⟨s, rfl⟩ := h
  rfl
/-- What has been found: a train in its own block, which is the caller's now. -/
def FtX (w : World) (B : Nat) (pre : List (Nat × Tr)) (M : Nat → Prop) (W : World) : Prop :=
  ∃ (g : Nat) (t : Tr), pre = [(g, t)] ∧ M = (fun k => k = w.heap.size ∨ k = w.heap.size + 1 ∨ k = g) ∧ Below w.heap.size w W ∧ CellsAt W [(w.heap.size, 0, .slice (some ⟨g, 0, none⟩) 2 2), (w.heap.size + 1, 0, .bool true)] ∧ TrAt B (g, t) W ∧ g < W.heap.size ∧ w.heap.size + 2 ≤ g
set_option maxRecDepth 100000 in
set_option maxHeartbeats 1600000 in
theorem firstOf_trainV {gf : FuncId} {lb : Array Value} {O : Nat → Prop} {B : Nat} {w0 : World} (LL : List Tr) (eg : ∀ args w, (callFunc gf args).run Try.prog w = .ok (.enter gf args) w)
    (hseq : Seqs Try.prog gf lb trEnc (fun x W => TrAt B x W) (fun x k => k = x.1) (fun xs => xs.map (·.2) = LL) (fun pre => pre.map (·.2) <+: LL) O w0) (hO : ∀ k, O k → k < w0.heap.size) (w : World) (hb0 : Below w0.heap.size w0 w) :
    Calls Try.prog 80 #[.func (.func gf) #[] lb] w fun e w' => ∃ v, e = .returned (.tuple #[v, .bool LL.head?.isSome]) ∧ TrainV B LL.head? w' v ∧ Below w.heap.size w w' := by
  have hO' : ∀ k, O k → k < w.heap.size + 2 ∧ ¬ (fun k => k = w.heap.size ∨ k = w.heap.size + 1) k := fun k h => by
    have h1 := hO k h
    have h2 := hb0.size
    refine ⟨by omega, ?_⟩
    rintro (rfl | rfl) <;> omega
  refine (callsIn_wide (n := 0)).1 (callsIn_of_wp_marks Try.func80 rfl trivial ?_ rfl)
  simp only [Try.ntmps80, List.size_toArray, List.length_cons, List.length_nil, Nat.reduceAdd, Nat.reduceSub, Array.replicate_succ, Array.replicate_zero, List.push_toArray, List.append_toArray, List.nil_append, List.cons_append]
  gi_wp2
  have sz2 : ((w.alloc (Obj.cells #[Value.slice none 0 0] 31)).alloc (Obj.cells #[Value.bool false] 4)).heap.size = w.heap.size + 2 := by simp only [World.size_alloc]
  refine range_outer rfl eg hseq (hb0.trans (Below.mono (B := w.heap.size) (by (repeat' (first | (with_reducible exact Below.refl _ _) | (with_reducible assumption) | (with_reducible refine Below.alloc ?_ ?_ _) | (with_reducible refine Below.drew ?_) | (with_reducible refine below_drewN ?_ _) | (with_reducible refine Below.setCell ?_ ?_ _) | (with_reducible refine below_call ?_ ?_ (by assumption)) | go_size))) hb0.size)) (fun _ => rfl)
    (fun pre M W => pre = [] ∧ M = (fun k => k = w.heap.size ∨ k = w.heap.size + 1) ∧ Below w.heap.size w W ∧ CellsAt W [(w.heap.size, 0, .slice none 0 0), (w.heap.size + 1, 0, .bool false)])
    (fun c pre M W => c = .ret ∧ FtX w B pre M W)
    ?hI ?hIx (fun k => k = w.heap.size ∨ k = w.heap.size + 1) ?hM0 (by rw [sz2]; exact hO') ?h0 ?hround ?hdone ?hstop
  case hI =>
    rintro s M A A' ⟨rfl, rfl, hb, hc⟩ hk
    rw [sz2] at hk
    exact ⟨rfl, rfl, Below.low hb hk (Nat.le_refl _) (by omega), hc.low hk (by simp)⟩
  case hIx =>
    rintro c s M A A' ⟨rfl, g, t, rfl, rfl, hb, hc, ht, hg, hg2⟩ hk
    rw [sz2] at hk
    exact ⟨rfl, g, t, rfl, rfl, Below.low hb hk (Nat.le_refl _) (by omega), hc.low hk (by simp), ht.same (hk.mine hg (.inr (.inr rfl))), Nat.lt_of_lt_of_le hg hk.size, hg2⟩
  case hM0 =>
    rw [sz2]
    rintro k (rfl | rfl) <;> omega
  case h0 =>
    refine ⟨rfl, rfl, by (repeat' (first | (with_reducible exact Below.refl _ _) | (with_reducible assumption) | (with_reducible refine Below.alloc ?_ ?_ _) | (with_reducible refine Below.drew ?_) | (with_reducible refine below_drewN ?_ _) | (with_reducible refine Below.setCell ?_ ?_ _) | (with_reducible refine below_call ?_ ?_ (by assumption)) | go_size)), ?_⟩
    intro p hp
    simp only [List.mem_cons, List.not_mem_nil, or_false] at hp
    rcases hp with rfl | rfl
    all_goals exact ⟨by (simp only [World.size_alloc]; omega), by go_simp, by go_simp⟩

  case hround =>
    rintro l pre ⟨g, t⟩ M W hl hMl hMb hlt ⟨rfl, rfl, hb, hc⟩ hv htx hsp
    obtain ⟨tx1, tx2, -, tx3⟩ := htx g rfl
    rw [sz2] at hl tx1
    gi_wp2
    refine ⟨Below.refl _ _, fun W2 ht => ?_⟩
    obtain ⟨hk2, hs2, -⟩ := ht
    have hz := hb.size
    have hc2 := hc.kept hk2 (by simp; omega)
    have b2 : Below w.heap.size w W2 := hb.trans (hk2.below hz (fun k hk e => by omega))
    have hv2 := Lib.hid (TrAt.same hv (hk2.block g tx2 tx3))
    have rc0 : W2.cell? ⟨w.heap.size, 0, none⟩ = some (.slice none 0 0) := (hc2 (w.heap.size, 0, .slice none 0 0) (by simp)).2.1
    have rf0 : W2.frozen? ⟨w.heap.size, 0, none⟩ = false := (hc2 (w.heap.size, 0, .slice none 0 0) (by simp)).2.2
    have rs0 : w.heap.size < W2.heap.size := (hc2 (w.heap.size, 0, .slice none 0 0) (by simp)).1
    have rc1 : W2.cell? ⟨w.heap.size + 1, 0, none⟩ = some (.bool false) := (hc2 (w.heap.size + 1, 0, .bool false) (by simp)).2.1
    have rf1 : W2.frozen? ⟨w.heap.size + 1, 0, none⟩ = false := (hc2 (w.heap.size + 1, 0, .bool false) (by simp)).2.2
    have rs1 : w.heap.size + 1 < W2.heap.size := (hc2 (w.heap.size + 1, 0, .bool false) (by simp)).1
    have r1 : w.heap.size + 1 < W2.heap.size := by omega
    have hs3 : W.heap.size ≤ W2.heap.size := by omega
    clear hc hc2 hk2 hv hs2
    gi_wp2
    refine ⟨fun k => k = w.heap.size ∨ k = w.heap.size + 1 ∨ k = g, by (repeat' (first | (with_reducible exact Kept.refl _ _) | (with_reducible assumption) | (with_reducible refine Kept.setCell ?_ ?_) | (with_reducible refine Kept.alloc ?_) | (with_reducible refine Kept.drew ?_) | (exact .inl (by assumption)) | (exact .inl (by simp; done)) | (exact .inl (by omega)) | (exact .inr (by go_size)))), ?_, rfl, (show FtX _ _ _ _ _ from ⟨g, t, rfl, rfl, by (repeat' (first | (with_reducible exact Below.refl _ _) | (with_reducible assumption) | (with_reducible refine Below.alloc ?_ ?_ _) | (with_reducible refine Below.drew ?_) | (with_reducible refine below_drewN ?_ _) | (with_reducible refine Below.setCell ?_ ?_ _) | (with_reducible refine below_call ?_ ?_ (by assumption)) | go_size)), ?_, ?_, by simp; omega, tx1⟩)⟩
    · rintro k (rfl | rfl | rfl)
      · exact ⟨.inl (.inl rfl), by simp; omega⟩
      · exact ⟨.inl (.inr rfl), by simp; omega⟩
      · exact ⟨.inr (.inl rfl), by simp; omega⟩
    · intro p hp
      simp only [List.mem_cons, List.not_mem_nil, or_false] at hp
      rcases hp with rfl | rfl
      all_goals exact ⟨by go_size, by go_simp, by go_simp⟩

    · exact hv2.out.same ((setCell_far _ (b := w.heap.size + 1) (by simp only; omega)).trans (setCell_far _ (b := w.heap.size) (by simp only; omega)))
  case hdone =>
    rintro D xs M W hD hMD hMb hS ⟨rfl, rfl, hb, hc⟩ hK
    obtain rfl : LL = [] := hS.symm
    rw [sz2] at hD
    have hz := hb.size
    have hDl := (Array.getElem?_eq_some_iff.1 hK).1
    have rc0 : W.cell? ⟨w.heap.size, 0, none⟩ = some (.slice none 0 0) := (hc (w.heap.size, 0, .slice none 0 0) (by simp)).2.1
    have rf0 : W.frozen? ⟨w.heap.size, 0, none⟩ = false := (hc (w.heap.size, 0, .slice none 0 0) (by simp)).2.2
    have rs0 : w.heap.size < W.heap.size := (hc (w.heap.size, 0, .slice none 0 0) (by simp)).1
    have rc1 : W.cell? ⟨w.heap.size + 1, 0, none⟩ = some (.bool false) := (hc (w.heap.size + 1, 0, .bool false) (by simp)).2.1
    have rf1 : W.frozen? ⟨w.heap.size + 1, 0, none⟩ = false := (hc (w.heap.size + 1, 0, .bool false) (by simp)).2.2
    have rs1 : w.heap.size + 1 < W.heap.size := (hc (w.heap.size + 1, 0, .bool false) (by simp)).1
    have r1 : w.heap.size + 1 < W.heap.size := by omega
    gi_wp2
    have hkk : Kept (fun k => k = w.heap.size ∨ k = w.heap.size + 1) W (((W.setCell ⟨w.heap.size, 0, none⟩ (.slice none 0 0)).setCell ⟨w.heap.size + 1, 0, none⟩ (.bool false))) := by (repeat' (first | (with_reducible exact Kept.refl _ _) | (with_reducible assumption) | (with_reducible refine Kept.setCell ?_ ?_) | (with_reducible refine Kept.alloc ?_) | (with_reducible refine Kept.drew ?_) | (exact .inl (by assumption)) | (exact .inl (by simp; done)) | (exact .inl (by omega)) | (exact .inr (by go_size))))
    have hcc : CellsAt (((W.setCell ⟨w.heap.size, 0, none⟩ (.slice none 0 0)).setCell ⟨w.heap.size + 1, 0, none⟩ (.bool false))) [(w.heap.size, 0, .slice none 0 0), (w.heap.size + 1, 0, .bool false)] := by
      intro p hp
      simp only [List.mem_cons, List.not_mem_nil, or_false] at hp
      rcases hp with rfl | rfl
      all_goals exact ⟨by go_size, by go_simp, by go_simp⟩

    have hbb : Below w.heap.size w (((W.setCell ⟨w.heap.size, 0, none⟩ (.slice none 0 0)).setCell ⟨w.heap.size + 1, 0, none⟩ (.bool false))) := by (repeat' (first | (with_reducible exact Below.refl _ _) | (with_reducible assumption) | (with_reducible refine Below.alloc ?_ ?_ _) | (with_reducible refine Below.drew ?_) | (with_reducible refine below_drewN ?_ _) | (with_reducible refine Below.setCell ?_ ?_ _) | (with_reducible refine below_call ?_ ?_ (by assumption)) | go_size))
    generalize (((W.setCell ⟨w.heap.size, 0, none⟩ (.slice none 0 0)).setCell ⟨w.heap.size + 1, 0, none⟩ (.bool false))) = W9 at *
    have hK' := (hkk.block D hDl (by omega)).trans hK
    refine ⟨by simp, .inl ⟨_, _, rfl, run_takeDeferred hK', ?_⟩⟩
    have hc9 := hcc.kept (Kept.putObj (M := fun k => k = D) W9 D (.deferred none) rfl) (by simp; omega)
    have hb9 : Below w.heap.size w (W9.putObj D (.deferred none)) := hbb.trans ((Kept.putObj (M := fun k => k = D) W9 D (.deferred none) rfl).below hbb.size (fun k hk e => by omega))
    have qc0 : (W9.putObj D (.deferred none)).cell? ⟨w.heap.size, 0, none⟩ = some (.slice none 0 0) := (hc9 (w.heap.size, 0, .slice none 0 0) (by simp)).2.1
    have qf0 : (W9.putObj D (.deferred none)).frozen? ⟨w.heap.size, 0, none⟩ = false := (hc9 (w.heap.size, 0, .slice none 0 0) (by simp)).2.2
    have qs0 : w.heap.size < (W9.putObj D (.deferred none)).heap.size := (hc9 (w.heap.size, 0, .slice none 0 0) (by simp)).1
    have qc1 : (W9.putObj D (.deferred none)).cell? ⟨w.heap.size + 1, 0, none⟩ = some (.bool false) := (hc9 (w.heap.size + 1, 0, .bool false) (by simp)).2.1
    have qf1 : (W9.putObj D (.deferred none)).frozen? ⟨w.heap.size + 1, 0, none⟩ = false := (hc9 (w.heap.size + 1, 0, .bool false) (by simp)).2.2
    have qs1 : w.heap.size + 1 < (W9.putObj D (.deferred none)).heap.size := (hc9 (w.heap.size + 1, 0, .bool false) (by simp)).1
    refine ⟨.tuple #[.slice none 0 0, .bool false], ?_, _, rfl, rfl, hb9⟩
    simp [results, Try.f80, go_sem, qc0, qc1]
  case hstop =>
    rintro D c pre M W hD hMD hMb hsp ⟨rfl, g, t, rfl, rfl, hb, hc, hv, hg, hg2⟩ hK
    rw [sz2] at hD
    have hz := hb.size
    gi_wp2
    refine ⟨by simp, .inl ⟨_, _, rfl, run_takeDeferred hK, ?_⟩⟩
    have hc9 := hc.kept (Kept.putObj (M := fun k => k = D) W D (.deferred none) rfl) (by simp; omega)
    have hb9 : Below w.heap.size w (W.putObj D (.deferred none)) := hb.trans ((Kept.putObj (M := fun k => k = D) W D (.deferred none) rfl).below hb.size (fun k hk e => by omega))
    have hv9 : TrAt B (g, t) (W.putObj D (.deferred none)) := hv.same (World.putObj_heap_other (by simp only; omega))
    have qc0 : (W.putObj D (.deferred none)).cell? ⟨w.heap.size, 0, none⟩ = some (.slice (some ⟨g, 0, none⟩) 2 2) := (hc9 (w.heap.size, 0, .slice (some ⟨g, 0, none⟩) 2 2) (by simp)).2.1
    have qf0 : (W.putObj D (.deferred none)).frozen? ⟨w.heap.size, 0, none⟩ = false := (hc9 (w.heap.size, 0, .slice (some ⟨g, 0, none⟩) 2 2) (by simp)).2.2
    have qs0 : w.heap.size < (W.putObj D (.deferred none)).heap.size := (hc9 (w.heap.size, 0, .slice (some ⟨g, 0, none⟩) 2 2) (by simp)).1
    have qc1 : (W.putObj D (.deferred none)).cell? ⟨w.heap.size + 1, 0, none⟩ = some (.bool true) := (hc9 (w.heap.size + 1, 0, .bool true) (by simp)).2.1
    have qf1 : (W.putObj D (.deferred none)).frozen? ⟨w.heap.size + 1, 0, none⟩ = false := (hc9 (w.heap.size + 1, 0, .bool true) (by simp)).2.2
    have qs1 : w.heap.size + 1 < (W.putObj D (.deferred none)).heap.size := (hc9 (w.heap.size + 1, 0, .bool true) (by simp)).1
    have hh : LL.head? = some t := head_pre hsp
    rw [hh]
    refine ⟨.tuple #[.slice (some ⟨g, 0, none⟩) 2 2, .bool true], ?_, _, rfl, ⟨g, rfl, hv9⟩, hb9⟩
    simp [results, Try.f80, go_sem, qc0, qc1]
theorem firstOf_train {gf : FuncId} {lb : Array Value} {O : Nat → Prop} {B : Nat} {w0 : World} (LL : List Tr) (eg : ∀ args w, (callFunc gf args).run Try.prog w = .ok (.enter gf args) w)
    (hseq : Seqs Try.prog gf lb trEnc (fun x W => TrAt B x W) (fun x k => k = x.1) (fun xs => xs.map (·.2) = LL) (fun pre => pre.map (·.2) <+: LL) O w0) (hO : ∀ k, O k → k < w0.heap.size) (w : World) (hb0 : Below w0.heap.size w0 w) :
    Calls Try.prog 80 #[.func (.func gf) #[] lb] w (TrainOut B w LL.head?) :=
  (firstOf_trainV LL eg hseq hO w hb0).mono fun e w' ⟨v, he, hv, hb⟩ => ⟨v, he, hv.row, hb⟩
end Go.Proofs.Ytaifcemdabcfjaa
