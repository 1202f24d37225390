/- The first one of what an iterator hands over: a pair. -/
import Derived.Test.YtaifcemdabcfjaaIt2w
set_option linter.unusedSimpArgs false
set_option linter.unusedVariables false
set_option maxRecDepth 100000
namespace Go.Proofs.Ytaifcemdabcfjaa
open Go.RowKit Go.Shelf
attribute [local go_sem] Oper.semAt_some

/-- What is handed back of the first one of a list of pairs. -/
def headR (L : List (Int × Int)) : Int × Int × Bool := match L with
  | [] => (0, 0, false)
  | p :: _ => (p.1, p.2, true)
/-- A pair and whether there is one. -/
abbrev pv (r : Int × Int × Bool) : Value := .tuple #[tv r.1 r.2.1, .bool r.2.2]
theorem ret_pv {a b : Int × Int × Bool} (h : a = b) : Ending.returned (pv a) = .returned (pv b) := by rw [h]
theorem headR_pre {L : List (Int × Int)} {x : Int × Int} (h : [x] <+: L) : headR L = (x.1, x.2, true) := by
  obtain ⟨t, rfl⟩ := h
  rfl

set_option maxRecDepth 100000 in
set_option maxHeartbeats 1600000 in
theorem firstOf_pair {gf : FuncId} {lb : Array Value} {O : Nat → Prop} {w0 : World} (L : List (Int × Int)) (eg : ∀ args w, (callFunc gf args).run Try.prog w = .ok (.enter gf args) w)
    (hseq : Seqs Try.prog gf lb (fun p : Int × Int => #[tv p.1 p.2]) (fun _ _ => True) (fun _ _ => False) (fun xs => xs = L) (fun pre => pre <+: L) O w0) (hO : ∀ k, O k → k < w0.heap.size) (w : World) (hb0 : Below w0.heap.size w0 w) :
    Calls Try.prog 76 #[.func (.func gf) #[] lb] w fun e w' => e = .returned (pv (headR L)) ∧ Below w.heap.size w w' := by
  have hO' : ∀ k, O k → k < w.heap.size + 2 ∧ ¬ (fun k => k = w.heap.size ∨ k = w.heap.size + 1) k := fun k h => by
    have h1 := hO k h
    have h2 := hb0.size
    refine ⟨by omega, ?_⟩
    rintro (rfl | rfl) <;> omega
  refine (callsIn_wide (n := 0)).1 (callsIn_of_wp_marks Try.func76 rfl trivial ?_ rfl)
  simp only [Try.ntmps76, List.size_toArray, List.length_cons, List.length_nil, Nat.reduceAdd, Nat.reduceSub, Array.replicate_succ, Array.replicate_zero, List.push_toArray, List.append_toArray, List.nil_append, List.cons_append]
  gi_wp2
  have sz2 : ((w.alloc (Obj.cells #[Value.int .i64 0, Value.int .i64 0] 25)).alloc (Obj.cells #[Value.bool false] 4)).heap.size = w.heap.size + 2 := by simp only [World.size_alloc]
  refine range_outer rfl eg hseq (hb0.trans (Below.mono (B := w.heap.size) (by (repeat' (first | (with_reducible exact Below.refl _ _) | (with_reducible assumption) | (with_reducible refine Below.alloc ?_ ?_ _) | (with_reducible refine Below.drew ?_) | (with_reducible refine below_drewN ?_ _) | (with_reducible refine Below.setCell ?_ ?_ _) | (with_reducible refine below_call ?_ ?_ (by assumption)) | go_size))) hb0.size)) (fun _ => rfl)
    (fun pre M W => pre = [] ∧ M = (fun k => k = w.heap.size ∨ k = w.heap.size + 1) ∧ Below w.heap.size w W ∧ CellsAt W [(w.heap.size, 0, .int .i64 0), (w.heap.size, 1, .int .i64 0), (w.heap.size + 1, 0, .bool false)])
    (fun c pre M W => c = .ret ∧ ∃ x y : Int, pre = [(x, y)] ∧ Below w.heap.size w W ∧ CellsAt W [(w.heap.size, 0, .int .i64 x), (w.heap.size, 1, .int .i64 y), (w.heap.size + 1, 0, .bool true)])
    ?hI ?hIx (fun k => k = w.heap.size ∨ k = w.heap.size + 1) ?hM0 (by rw [sz2]; exact hO') ?h0 ?hround ?hdone ?hstop
  case hI =>
    rintro s M A A' ⟨rfl, rfl, hb, hc⟩ hk
    rw [sz2] at hk
    exact ⟨rfl, rfl, Below.low hb hk (Nat.le_refl _) (by omega), hc.low hk (by simp)⟩
  case hIx =>
    rintro c s M A A' ⟨rfl, x, y, rfl, hb, hc⟩ hk
    rw [sz2] at hk
    exact ⟨rfl, x, y, rfl, Below.low hb hk (Nat.le_refl _) (by omega), hc.low hk (by simp)⟩
  case hM0 =>
    rw [sz2]
    rintro k (rfl | rfl) <;> omega
  case h0 =>
    refine ⟨rfl, rfl, by (repeat' (first | (with_reducible exact Below.refl _ _) | (with_reducible assumption) | (with_reducible refine Below.alloc ?_ ?_ _) | (with_reducible refine Below.drew ?_) | (with_reducible refine below_drewN ?_ _) | (with_reducible refine Below.setCell ?_ ?_ _) | (with_reducible refine below_call ?_ ?_ (by assumption)) | go_size)), ?_⟩
    intro p hp
    simp only [List.mem_cons, List.not_mem_nil, or_false] at hp
    rcases hp with rfl | rfl | rfl
    all_goals exact ⟨by (simp only [World.size_alloc]; omega), by go_simp, by go_simp⟩

  case hround =>
    rintro l pre ⟨x, y⟩ M W hl hMl hMb hlt ⟨rfl, rfl, hb, hc⟩ - - hsp
    rw [sz2] at hl
    gi_wp2
    refine ⟨by (repeat' (first | (with_reducible exact Below.refl _ _) | (with_reducible assumption) | (with_reducible refine Below.alloc ?_ ?_ _) | (with_reducible refine Below.drew ?_) | (with_reducible refine below_drewN ?_ _) | (with_reducible refine Below.setCell ?_ ?_ _) | (with_reducible refine below_call ?_ ?_ (by assumption)) | go_size)), fun W2 ht => ?_⟩
    obtain ⟨hk2, hs2, -⟩ := ht
    have hz := hb.size
    have hs2 : W2.heap.size = W.heap.size + 1 := by rw [hs2]; simp
    have hc2 := (hc.below (show Below W.heap.size W _ by (repeat' (first | (with_reducible exact Below.refl _ _) | (with_reducible assumption) | (with_reducible refine Below.alloc ?_ ?_ _) | (with_reducible refine Below.drew ?_) | (with_reducible refine below_drewN ?_ _) | (with_reducible refine Below.setCell ?_ ?_ _) | (with_reducible refine below_call ?_ ?_ (by assumption)) | go_size)))).kept hk2 (by simp; omega)
    have b2 : Below w.heap.size w W2 := (hb.trans (Below.mono (B := W.heap.size) (by (repeat' (first | (with_reducible exact Below.refl _ _) | (with_reducible assumption) | (with_reducible refine Below.alloc ?_ ?_ _) | (with_reducible refine Below.drew ?_) | (with_reducible refine below_drewN ?_ _) | (with_reducible refine Below.setCell ?_ ?_ _) | (with_reducible refine below_call ?_ ?_ (by assumption)) | go_size))) hz)).trans (hk2.below (by simp; omega) (fun k hk e => by omega))
    have x0 : W2.cell? ⟨W.heap.size, 0, none⟩ = some (.int .i64 x) := (World.cell?_of_block (hk2.block W.heap.size (by simp) (by omega))).trans (by go_simp)
    have x1 : W2.cell? ⟨W.heap.size, 1, none⟩ = some (.int .i64 y) := (World.cell?_of_block (hk2.block W.heap.size (by simp) (by omega))).trans (by go_simp)
    have sW : W.heap.size < W2.heap.size := by omega
    have rc0 : W2.cell? ⟨w.heap.size, 0, none⟩ = some (.int .i64 0) := (hc2 (w.heap.size, 0, .int .i64 0) (by simp)).2.1
    have rf0 : W2.frozen? ⟨w.heap.size, 0, none⟩ = false := (hc2 (w.heap.size, 0, .int .i64 0) (by simp)).2.2
    have rs0 : w.heap.size < W2.heap.size := (hc2 (w.heap.size, 0, .int .i64 0) (by simp)).1
    have rc1 : W2.cell? ⟨w.heap.size, 1, none⟩ = some (.int .i64 0) := (hc2 (w.heap.size, 1, .int .i64 0) (by simp)).2.1
    have rf1 : W2.frozen? ⟨w.heap.size, 1, none⟩ = false := (hc2 (w.heap.size, 1, .int .i64 0) (by simp)).2.2
    have rc2 : W2.cell? ⟨w.heap.size + 1, 0, none⟩ = some (.bool false) := (hc2 (w.heap.size + 1, 0, .bool false) (by simp)).2.1
    have rf2 : W2.frozen? ⟨w.heap.size + 1, 0, none⟩ = false := (hc2 (w.heap.size + 1, 0, .bool false) (by simp)).2.2
    have rs2 : w.heap.size + 1 < W2.heap.size := (hc2 (w.heap.size + 1, 0, .bool false) (by simp)).1
    have r1 : w.heap.size + 1 < W2.heap.size := by omega
    clear hc hc2 hk2
    gi_wp2
    refine ⟨fun k => k = w.heap.size ∨ k = w.heap.size + 1, by (repeat' (first | (with_reducible exact Kept.refl _ _) | (with_reducible assumption) | (with_reducible refine Kept.setCell ?_ ?_) | (with_reducible refine Kept.alloc ?_) | (with_reducible refine Kept.drew ?_) | (exact .inl (by assumption)) | (exact .inl (by simp; done)) | (exact .inl (by omega)) | (exact .inr (by go_size)))), fun k hk => ⟨.inl hk, by rcases hk with rfl | rfl <;> simp <;> omega⟩, rfl, x, y, rfl, by (repeat' (first | (with_reducible exact Below.refl _ _) | (with_reducible assumption) | (with_reducible refine Below.alloc ?_ ?_ _) | (with_reducible refine Below.drew ?_) | (with_reducible refine below_drewN ?_ _) | (with_reducible refine Below.setCell ?_ ?_ _) | (with_reducible refine below_call ?_ ?_ (by assumption)) | go_size)), ?_⟩
    · intro p hp
      simp only [List.mem_cons, List.not_mem_nil, or_false] at hp
      rcases hp with rfl | rfl | rfl
      all_goals exact ⟨by go_size, by go_simp, by go_simp⟩

  case hdone =>
    rintro D xs M W hD hMD hMb rfl ⟨rfl, rfl, hb, hc⟩ hK
    rw [sz2] at hD
    have hz := hb.size
    have hDl := (Array.getElem?_eq_some_iff.1 hK).1
    have rc0 : W.cell? ⟨w.heap.size, 0, none⟩ = some (.int .i64 0) := (hc (w.heap.size, 0, .int .i64 0) (by simp)).2.1
    have rf0 : W.frozen? ⟨w.heap.size, 0, none⟩ = false := (hc (w.heap.size, 0, .int .i64 0) (by simp)).2.2
    have rs0 : w.heap.size < W.heap.size := (hc (w.heap.size, 0, .int .i64 0) (by simp)).1
    have rc1 : W.cell? ⟨w.heap.size, 1, none⟩ = some (.int .i64 0) := (hc (w.heap.size, 1, .int .i64 0) (by simp)).2.1
    have rf1 : W.frozen? ⟨w.heap.size, 1, none⟩ = false := (hc (w.heap.size, 1, .int .i64 0) (by simp)).2.2
    have rc2 : W.cell? ⟨w.heap.size + 1, 0, none⟩ = some (.bool false) := (hc (w.heap.size + 1, 0, .bool false) (by simp)).2.1
    have rf2 : W.frozen? ⟨w.heap.size + 1, 0, none⟩ = false := (hc (w.heap.size + 1, 0, .bool false) (by simp)).2.2
    have rs2 : w.heap.size + 1 < W.heap.size := (hc (w.heap.size + 1, 0, .bool false) (by simp)).1
    have r1 : w.heap.size + 1 < W.heap.size := by omega
    gi_wp2
    have hkk : Kept (fun k => k = w.heap.size ∨ k = w.heap.size + 1) W (((((W.setCell ⟨w.heap.size, 0, none⟩ (.int .i64 0)).setCell ⟨w.heap.size, 1, none⟩ (.int .i64 0)).setCell ⟨w.heap.size + 1, 0, none⟩ (.bool false)).alloc (Obj.cells #[Value.int .i64 0, Value.int .i64 0] 25))) := by (repeat' (first | (with_reducible exact Kept.refl _ _) | (with_reducible assumption) | (with_reducible refine Kept.setCell ?_ ?_) | (with_reducible refine Kept.alloc ?_) | (with_reducible refine Kept.drew ?_) | (exact .inl (by assumption)) | (exact .inl (by simp; done)) | (exact .inl (by omega)) | (exact .inr (by go_size))))
    have hcc : CellsAt (((((W.setCell ⟨w.heap.size, 0, none⟩ (.int .i64 0)).setCell ⟨w.heap.size, 1, none⟩ (.int .i64 0)).setCell ⟨w.heap.size + 1, 0, none⟩ (.bool false)).alloc (Obj.cells #[Value.int .i64 0, Value.int .i64 0] 25))) [(w.heap.size, 0, .int .i64 0), (w.heap.size, 1, .int .i64 0), (w.heap.size + 1, 0, .bool false)] := by
      intro p hp
      simp only [List.mem_cons, List.not_mem_nil, or_false] at hp
      rcases hp with rfl | rfl | rfl
      all_goals exact ⟨by go_size, by go_simp, by go_simp⟩

    have hbb : Below w.heap.size w (((((W.setCell ⟨w.heap.size, 0, none⟩ (.int .i64 0)).setCell ⟨w.heap.size, 1, none⟩ (.int .i64 0)).setCell ⟨w.heap.size + 1, 0, none⟩ (.bool false)).alloc (Obj.cells #[Value.int .i64 0, Value.int .i64 0] 25))) := by (repeat' (first | (with_reducible exact Below.refl _ _) | (with_reducible assumption) | (with_reducible refine Below.alloc ?_ ?_ _) | (with_reducible refine Below.drew ?_) | (with_reducible refine below_drewN ?_ _) | (with_reducible refine Below.setCell ?_ ?_ _) | (with_reducible refine below_call ?_ ?_ (by assumption)) | go_size))
    generalize (((((W.setCell ⟨w.heap.size, 0, none⟩ (.int .i64 0)).setCell ⟨w.heap.size, 1, none⟩ (.int .i64 0)).setCell ⟨w.heap.size + 1, 0, none⟩ (.bool false)).alloc (Obj.cells #[Value.int .i64 0, Value.int .i64 0] 25))) = W9 at *
    have hK' := (hkk.block D hDl (by omega)).trans hK
    refine ⟨by simp, .inl ⟨_, _, rfl, run_takeDeferred hK', ?_⟩⟩
    have hc9 := hcc.kept (Kept.putObj (M := fun k => k = D) W9 D (.deferred none) rfl) (by simp; omega)
    have hb9 : Below w.heap.size w (W9.putObj D (.deferred none)) := hbb.trans ((Kept.putObj (M := fun k => k = D) W9 D (.deferred none) rfl).below hbb.size (fun k hk e => by omega))
    have qc0 : (W9.putObj D (.deferred none)).cell? ⟨w.heap.size, 0, none⟩ = some (.int .i64 0) := (hc9 (w.heap.size, 0, .int .i64 0) (by simp)).2.1
    have qf0 : (W9.putObj D (.deferred none)).frozen? ⟨w.heap.size, 0, none⟩ = false := (hc9 (w.heap.size, 0, .int .i64 0) (by simp)).2.2
    have qs0 : w.heap.size < (W9.putObj D (.deferred none)).heap.size := (hc9 (w.heap.size, 0, .int .i64 0) (by simp)).1
    have qc1 : (W9.putObj D (.deferred none)).cell? ⟨w.heap.size, 1, none⟩ = some (.int .i64 0) := (hc9 (w.heap.size, 1, .int .i64 0) (by simp)).2.1
    have qf1 : (W9.putObj D (.deferred none)).frozen? ⟨w.heap.size, 1, none⟩ = false := (hc9 (w.heap.size, 1, .int .i64 0) (by simp)).2.2
    have qc2 : (W9.putObj D (.deferred none)).cell? ⟨w.heap.size + 1, 0, none⟩ = some (.bool false) := (hc9 (w.heap.size + 1, 0, .bool false) (by simp)).2.1
    have qf2 : (W9.putObj D (.deferred none)).frozen? ⟨w.heap.size + 1, 0, none⟩ = false := (hc9 (w.heap.size + 1, 0, .bool false) (by simp)).2.2
    have qs2 : w.heap.size + 1 < (W9.putObj D (.deferred none)).heap.size := (hc9 (w.heap.size + 1, 0, .bool false) (by simp)).1
    refine ⟨pv (headR []), ?_, rfl, hb9⟩
    simp [results, Try.f76, go_sem, headR, qc0, qc1, qc2]
  case hstop =>
    rintro D c pre M W hD hMD hMb hsp ⟨rfl, x, y, rfl, hb, hc⟩ hK
    rw [sz2] at hD
    have hz := hb.size
    gi_wp2
    refine ⟨by simp, .inl ⟨_, _, rfl, run_takeDeferred hK, ?_⟩⟩
    have hc9 := hc.kept (Kept.putObj (M := fun k => k = D) W D (.deferred none) rfl) (by simp; omega)
    have hb9 : Below w.heap.size w (W.putObj D (.deferred none)) := hb.trans ((Kept.putObj (M := fun k => k = D) W D (.deferred none) rfl).below hb.size (fun k hk e => by omega))
    have qc0 : (W.putObj D (.deferred none)).cell? ⟨w.heap.size, 0, none⟩ = some (.int .i64 x) := (hc9 (w.heap.size, 0, .int .i64 x) (by simp)).2.1
    have qf0 : (W.putObj D (.deferred none)).frozen? ⟨w.heap.size, 0, none⟩ = false := (hc9 (w.heap.size, 0, .int .i64 x) (by simp)).2.2
    have qs0 : w.heap.size < (W.putObj D (.deferred none)).heap.size := (hc9 (w.heap.size, 0, .int .i64 x) (by simp)).1
    have qc1 : (W.putObj D (.deferred none)).cell? ⟨w.heap.size, 1, none⟩ = some (.int .i64 y) := (hc9 (w.heap.size, 1, .int .i64 y) (by simp)).2.1
    have qf1 : (W.putObj D (.deferred none)).frozen? ⟨w.heap.size, 1, none⟩ = false := (hc9 (w.heap.size, 1, .int .i64 y) (by simp)).2.2
    have qc2 : (W.putObj D (.deferred none)).cell? ⟨w.heap.size + 1, 0, none⟩ = some (.bool true) := (hc9 (w.heap.size + 1, 0, .bool true) (by simp)).2.1
    have qf2 : (W.putObj D (.deferred none)).frozen? ⟨w.heap.size + 1, 0, none⟩ = false := (hc9 (w.heap.size + 1, 0, .bool true) (by simp)).2.2
    have qs2 : w.heap.size + 1 < (W.putObj D (.deferred none)).heap.size := (hc9 (w.heap.size + 1, 0, .bool true) (by simp)).1
    refine ⟨pv (headR L), ?_, rfl, hb9⟩
    rw [headR_pre hsp]
    simp [results, Try.f76, go_sem, qc0, qc1, qc2]
end Go.Proofs.Ytaifcemdabcfjaa
