/- The one with the fewest teeth of what an iterator over trains hands over. -/
import Derived.Test.YtaifcemdabcfjaaFtP
set_option linter.unusedSimpArgs false
set_option linter.unusedVariables false
set_option maxRecDepth 100000
namespace Go.Proofs.Ytaifcemdabcfjaa
open Go.RowKit Go.Shelf
attribute [local go_sem] Oper.semAt_some

def okTr (t : Tr) : Prop := pairB t.1 = true ∧ pairB t.2 = true
theorem sumT_two (p q : Int × Int) : sumT [p, q] = sumTr (p, q) := by simp [sumT, sumTr]; omega
theorem ok_train {t : Tr} (h : okTr t) : trainB [t.1, t.2] = true := by simp [trainB, h.1, h.2]
theorem TrAt.inn {B : Nat} {g : Nat} {t : Tr} {W : World} (h : TrAt B (g, t) W) : PIn W (some ⟨g, 0, none⟩) [t.1, t.2] := by
  obtain ⟨a, c, e, hi, -⟩ := RowPair.inn h
  simp only [Value.slice.injEq] at e
  rw [e.1]
  exact hi
set_option maxHeartbeats 400000 in
theorem teethOf_tr {B : Nat} {g : Nat} {t : Tr} (ht : okTr t) (w : World) (h : TrAt B (g, t) w) :
    Calls Try.prog 91 #[.slice (some ⟨g, 0, none⟩) 2 2] w fun e w' => e = .returned (.int .i64 (sumTr t)) ∧ Below w.heap.size w w' := by
  have := teethOf_any (some ⟨g, 0, none⟩) 2 [t.1, t.2] (ok_train ht) w h.inn
  rw [sumT_two] at this
  exact this
theorem sumTr_bd {t : Tr} (h : okTr t) : 24 ≤ sumTr t ∧ sumTr t ≤ 480 := by
  obtain ⟨⟨a, b⟩, c, d⟩ := pairB_bd h.1
  obtain ⟨⟨e, f⟩, i, j⟩ := pairB_bd h.2
  unfold sumTr
  omega
theorem TrAt.below {B : Nat} {g : Nat} {t : Tr} {w w' : World} (h : TrAt B (g, t) w) (hg : g < w.heap.size) (hb : Below w.heap.size w w') : TrAt B (g, t) w' := h.same (hb.block g hg)
theorem TrAt.lt {B : Nat} {g : Nat} {t : Tr} {w : World} (h : TrAt B (g, t) w) : g < w.heap.size := (World.ownsRow.lt h g rfl).2
set_option maxHeartbeats 400000 in
theorem teethOrder_tr {B g1 g2 : Nat} {t1 t2 : Tr} (h1 : okTr t1) (h2 : okTr t2) (w : World) (a1 : TrAt B (g1, t1) w) (a2 : TrAt B (g2, t2) w) :
    Calls Try.prog 83 #[.slice (some ⟨g1, 0, none⟩) 2 2, .slice (some ⟨g2, 0, none⟩) 2 2] w fun e w' => e = .returned (.int .i64 (sg (sumTr t1 - sumTr t2))) ∧ Below w.heap.size w w' := by
  have A1 := Lib.hid a1
  have A2 := Lib.hid a2
  clear a1 a2
  (go_enter Try.func83, Try.ntmps83)
  go_wp2_with fail
  refine (teethOf_tr h1 _ A1.out).mono ?_
  (rintro e1 w1 ⟨rfl, hb1⟩; obtain ⟨hc1, hf1⟩ := bcell hb1; have hz1 := hb1.size; (try simp only [World.size_alloc, World.size_setCell, World.size_drew] at hz1); have q1 : w.heap.size ≤ w1.heap.size := (by omega); (try have q1_0 : w.heap.size < w1.heap.size := (by omega)); (try have q1_1 : w.heap.size + 1 < w1.heap.size := (by omega)); (try have q1_2 : w.heap.size + 2 < w1.heap.size := (by omega)); (try have q1_3 : w.heap.size + 3 < w1.heap.size := (by omega)))
  go_wp2_with fail
  refine (teethOf_tr h2 _ (A2.out.below A2.out.lt hb1)).mono ?_
  (rintro e2 w2 ⟨rfl, hb2⟩; obtain ⟨hc2, hf2⟩ := bcell hb2; have hz2 := hb2.size; (try simp only [World.size_alloc, World.size_setCell, World.size_drew] at hz2); have q2 : w.heap.size ≤ w2.heap.size := (by omega); (try have q2_0 : w.heap.size < w2.heap.size := (by omega)); (try have q2_1 : w.heap.size + 1 < w2.heap.size := (by omega)); (try have q2_2 : w.heap.size + 2 < w2.heap.size := (by omega)); (try have q2_3 : w.heap.size + 3 < w2.heap.size := (by omega)); (try have q2_1_0 : w1.heap.size < w2.heap.size := (by omega)); (try have q2_1_1 : w1.heap.size + 1 < w2.heap.size := (by omega)))
  go_wp2_with fail
  refine (cmpCompare_any (sumTr t1) (sumTr t2) _).mono ?_
  (rintro e1 w1 ⟨rfl, rfl⟩)
  go_wp2
  go_ret
  exact ⟨rfl, by (repeat' (first | (with_reducible exact Below.refl _ _) | (with_reducible assumption) | (with_reducible refine Below.alloc ?_ ?_ _) | (with_reducible refine Below.drew ?_) | (with_reducible refine below_drewN ?_ _) | (with_reducible refine Below.setCell ?_ ?_ _) | (with_reducible refine below_call ?_ ?_ (by assumption)) | go_size))⟩
theorem sg_lt (n : Int) : decide (sg n < 0) = decide (n < 0) := by
  unfold sg
  rw [decide_eq_decide]
  split
  · omega
  · split <;> omega
theorem fold_some (LL : List Tr) (s : Tr) : ∃ t, LL.foldl (stepT true) (some s) = some t := by
  induction LL generalizing s with
  | nil => exact ⟨s, rfl⟩
  | cons a LL ih =>
    simp only [List.foldl_cons, stepT, Bool.true_and]
    split
    · exact ih a
    · exact ih s
/-- What the loop knows: the best one of those that have come, and where it lies. -/
def LsI (w w1 : World) (B : Nat) (t0 : Tr) (pre : List (Nat × Tr)) (M : Nat → Prop) (W : World) : Prop :=
  ∃ (g : Nat) (t : Tr), (pre.map (·.2)).foldl (stepT true) (some t0) = some t ∧ (M w1.heap.size ∧ ∀ k, M k → w1.heap.size ≤ k) ∧ Below w.heap.size w W ∧ CellsAt W [(w1.heap.size, 0, .slice (some ⟨g, 0, none⟩) 2 2), (w.heap.size, 0, .func (.func 83) #[] #[])] ∧ TrAt B (g, t) W ∧ (g < w1.heap.size + 1 ∨ M g)
theorem LsI_mem {LL : List Tr} {t0 t : Tr} {P : Tr → Prop} (h : LL.foldl (stepT true) (some t0) = some t) (hP : ∀ x, x ∈ LL → P x) (h0 : P t0) : P t := by
  induction LL generalizing t0 with
  | nil => cases h; exact h0
  | cons a LL ih =>
    simp only [List.foldl_cons, stepT, Bool.true_and] at h
    split at h
    · exact ih h (fun x hx => hP x (List.mem_cons_of_mem _ hx)) (hP a List.mem_cons_self)
    · exact ih h (fun x hx => hP x (List.mem_cons_of_mem _ hx)) h0
theorem bestT_again (s : Tr) (LL : List Tr) : (s :: LL).foldl (stepT true) (some s) = bestT true (s :: LL) := by
  simp [bestT, stepT]
set_option maxRecDepth 100000 in
set_option maxHeartbeats 3200000 in
theorem leastOf_none {gf : FuncId} {lb : Array Value} {O : Nat → Prop} {B : Nat} {w0 : World}  (eg : ∀ args w, (callFunc gf args).run Try.prog w = .ok (.enter gf args) w)
    (hseq : Seqs Try.prog gf lb trEnc (fun x W => TrAt B x W) (fun x k => k = x.1) (fun xs => xs.map (·.2) = ([] : List Tr)) (fun pre => pre.map (·.2) <+: ([] : List Tr)) O w0) (hO : ∀ k, O k → k < w0.heap.size) (w : World) (hb0 : Below w0.heap.size w0 w) :
    Calls Try.prog 82 #[.func (.func gf) #[] lb, .func (.func 83) #[] #[]] w (TrainOut B w (bestT true (([] : List Tr)))) := by
  refine (callsIn_wide (n := 0)).1 (callsIn_of_wp_marks Try.func82 rfl trivial ?_ rfl)
  simp only [Try.ntmps82, List.size_toArray, List.length_cons, List.length_nil, Nat.reduceAdd, Nat.reduceSub, Array.replicate_succ, Array.replicate_zero, List.push_toArray, List.append_toArray, List.nil_append, List.cons_append]
  gi_wp2
  refine ⟨trivial, rfl, (callsIn_wide.2 (firstOf_trainV (([] : List Tr)) eg hseq hO _ (hb0.trans (Below.mono (B := w.heap.size) (by (repeat' (first | (with_reducible exact Below.refl _ _) | (with_reducible assumption) | (with_reducible refine Below.alloc ?_ ?_ _) | (with_reducible refine Below.drew ?_) | (with_reducible refine below_drewN ?_ _) | (with_reducible refine Below.setCell ?_ ?_ _) | (with_reducible refine below_call ?_ ?_ (by assumption)) | go_size))) hb0.size)))).mono ?_⟩
  rintro e1 w1 ⟨v1, rfl, hr1, hb1⟩
  have hz1 := hb1.size
  simp only [World.size_alloc] at hz1
  have hbw : Below w.heap.size w w1 := Below.trans (b := w.alloc (Obj.cells #[Value.func (.func 83) #[] #[]] 83)) (by (repeat' (first | (with_reducible exact Below.refl _ _) | (with_reducible assumption) | (with_reducible refine Below.alloc ?_ ?_ _) | (with_reducible refine Below.drew ?_) | (with_reducible refine below_drewN ?_ _) | (with_reducible refine Below.setCell ?_ ?_ _) | (with_reducible refine below_call ?_ ?_ (by assumption)) | go_size))) (hb1.mono (by simp))
  have hf1 : w1.cell? ⟨w.heap.size, 0, none⟩ = some (.func (.func 83) #[] #[]) := ((bcell hb1).1 _ _ (by simp)).trans (by go_simp)
  have hff1 : w1.frozen? ⟨w.heap.size, 0, none⟩ = false := ((bcell hb1).2 _ _ (by simp)).trans (by go_simp)
  have HR := Lib.hid hr1
  have hlt0 : w.heap.size < w1.heap.size := by omega
  clear hb1 hr1
  have hv1 : v1 = .slice none 0 0 := HR.out
  subst hv1
  simp only [List.head?_nil, Option.isSome_none]
  gi_wp2
  have sz2 : (w1.alloc (Obj.cells #[Value.slice none 0 0] 31)).heap.size = w1.heap.size + 1 := by simp only [World.size_alloc]
  refine range_outer rfl eg hseq ((hb0.trans (hbw.mono hb0.size)).trans (Below.mono (B := w1.heap.size) (by (repeat' (first | (with_reducible exact Below.refl _ _) | (with_reducible assumption) | (with_reducible refine Below.alloc ?_ ?_ _) | (with_reducible refine Below.drew ?_) | (with_reducible refine below_drewN ?_ _) | (with_reducible refine Below.setCell ?_ ?_ _) | (with_reducible refine below_call ?_ ?_ (by assumption)) | go_size))) (by have := hb0.size; have := hbw.size; omega))) (fun _ => rfl)
    (fun pre M W => pre = [] ∧ M = (fun k => k = w1.heap.size) ∧ Below w.heap.size w W ∧ CellsAt W [(w1.heap.size, 0, .slice none 0 0)])
    (fun c pre M W => False)
    ?hI ?hIx (fun k => k = w1.heap.size) ?hM0 ?hO ?h0 ?hround ?hdone ?hstop
  case hI =>
    rintro s M A A' ⟨rfl, rfl, hb, hc⟩ hk
    rw [sz2] at hk
    exact ⟨rfl, rfl, Below.low hb hk (Nat.le_refl _) (by omega), hc.low hk (by simp)⟩
  case hIx => rintro c s M A A' h; exact h.elim
  case hM0 => rw [sz2]; rintro k rfl; omega
  case hO =>
    rw [sz2]
    intro k hk
    have := hO k hk; have := hb0.size; have := hbw.size
    exact ⟨by omega, fun e => by omega⟩
  case h0 =>
    refine ⟨rfl, rfl, hbw.trans (Below.mono (B := w1.heap.size) (by (repeat' (first | (with_reducible exact Below.refl _ _) | (with_reducible assumption) | (with_reducible refine Below.alloc ?_ ?_ _) | (with_reducible refine Below.drew ?_) | (with_reducible refine below_drewN ?_ _) | (with_reducible refine Below.setCell ?_ ?_ _) | (with_reducible refine below_call ?_ ?_ (by assumption)) | go_size))) hbw.size), ?_⟩
    intro p hp
    simp only [List.mem_cons, List.not_mem_nil, or_false] at hp
    subst hp
    all_goals exact ⟨by (simp only [World.size_alloc]; omega), by go_simp, by go_simp⟩

  case hround =>
    rintro l pre x M W - - - - ⟨rfl, -⟩ - - hsp
    simp at hsp
  case hdone =>
    rintro D xs M W hD hMD hMb hS ⟨rfl, rfl, hb, hc⟩ hK
    rw [sz2] at hD
    have rc0 : W.cell? ⟨w1.heap.size, 0, none⟩ = some (.slice none 0 0) := (hc (w1.heap.size, 0, .slice none 0 0) (by simp)).2.1
    have rf0 : W.frozen? ⟨w1.heap.size, 0, none⟩ = false := (hc (w1.heap.size, 0, .slice none 0 0) (by simp)).2.2
    have rs0 : w1.heap.size < W.heap.size := (hc (w1.heap.size, 0, .slice none 0 0) (by simp)).1
    gi_wp2
    refine ⟨by simp, .inl ⟨_, _, rfl, run_takeDeferred hK, ?_⟩⟩
    have hb9 : Below w.heap.size w (W.putObj D (.deferred none)) := hb.trans ((Kept.putObj (M := fun k => k = D) W D (.deferred none) rfl).below hb.size (fun k hk e => by have := hbw.size; omega))
    refine ⟨.tuple #[.slice none 0 0, .bool false], ?_, _, rfl, World.ownsRow_nil _ _ _ _, hb9⟩
    simp [results, Try.f82, go_sem]
  case hstop =>
    rintro D c pre M W - - - - h
    exact h.elim
set_option maxRecDepth 100000 in
set_option maxHeartbeats 3200000 in
theorem leastOf_some {gf : FuncId} {lb : Array Value} {O : Nat → Prop} {B : Nat} {w0 : World} (t0 : Tr) (LL : List Tr) (hok : ∀ t, t ∈ t0 :: LL → okTr t) (eg : ∀ args w, (callFunc gf args).run Try.prog w = .ok (.enter gf args) w)
    (hseq : Seqs Try.prog gf lb trEnc (fun x W => TrAt B x W) (fun x k => k = x.1) (fun xs => xs.map (·.2) = t0 :: LL) (fun pre => pre.map (·.2) <+: t0 :: LL) O w0) (hO : ∀ k, O k → k < w0.heap.size) (w : World) (hb0 : Below w0.heap.size w0 w) :
    Calls Try.prog 82 #[.func (.func gf) #[] lb, .func (.func 83) #[] #[]] w (TrainOut B w (bestT true (t0 :: LL))) := by
  refine (callsIn_wide (n := 0)).1 (callsIn_of_wp_marks Try.func82 rfl trivial ?_ rfl)
  simp only [Try.ntmps82, List.size_toArray, List.length_cons, List.length_nil, Nat.reduceAdd, Nat.reduceSub, Array.replicate_succ, Array.replicate_zero, List.push_toArray, List.append_toArray, List.nil_append, List.cons_append]
  gi_wp2
  refine ⟨trivial, rfl, (callsIn_wide.2 (firstOf_trainV (t0 :: LL) eg hseq hO _ (hb0.trans (Below.mono (B := w.heap.size) (by (repeat' (first | (with_reducible exact Below.refl _ _) | (with_reducible assumption) | (with_reducible refine Below.alloc ?_ ?_ _) | (with_reducible refine Below.drew ?_) | (with_reducible refine below_drewN ?_ _) | (with_reducible refine Below.setCell ?_ ?_ _) | (with_reducible refine below_call ?_ ?_ (by assumption)) | go_size))) hb0.size)))).mono ?_⟩
  rintro e1 w1 ⟨v1, rfl, hr1, hb1⟩
  have hz1 := hb1.size
  simp only [World.size_alloc] at hz1
  have hbw : Below w.heap.size w w1 := Below.trans (b := w.alloc (Obj.cells #[Value.func (.func 83) #[] #[]] 83)) (by (repeat' (first | (with_reducible exact Below.refl _ _) | (with_reducible assumption) | (with_reducible refine Below.alloc ?_ ?_ _) | (with_reducible refine Below.drew ?_) | (with_reducible refine below_drewN ?_ _) | (with_reducible refine Below.setCell ?_ ?_ _) | (with_reducible refine below_call ?_ ?_ (by assumption)) | go_size))) (hb1.mono (by simp))
  have hf1 : w1.cell? ⟨w.heap.size, 0, none⟩ = some (.func (.func 83) #[] #[]) := ((bcell hb1).1 _ _ (by simp)).trans (by go_simp)
  have hff1 : w1.frozen? ⟨w.heap.size, 0, none⟩ = false := ((bcell hb1).2 _ _ (by simp)).trans (by go_simp)
  have HR := Lib.hid hr1
  have hlt0 : w.heap.size < w1.heap.size := by omega
  clear hb1 hr1
  obtain ⟨g0, rfl, ht0⟩ := HR.out
  have hg0 := ht0.lt
  clear HR
  simp only [List.head?_cons, Option.isSome_some]
  gi_wp2
  have sz2 : (w1.alloc (Obj.cells #[Value.slice (some ⟨g0, 0, none⟩) 2 2] 31)).heap.size = w1.heap.size + 1 := by simp only [World.size_alloc]
  refine range_outer rfl eg hseq ((hb0.trans (hbw.mono hb0.size)).trans (Below.mono (B := w1.heap.size) (by (repeat' (first | (with_reducible exact Below.refl _ _) | (with_reducible assumption) | (with_reducible refine Below.alloc ?_ ?_ _) | (with_reducible refine Below.drew ?_) | (with_reducible refine below_drewN ?_ _) | (with_reducible refine Below.setCell ?_ ?_ _) | (with_reducible refine below_call ?_ ?_ (by assumption)) | go_size))) (by have := hb0.size; have := hbw.size; omega))) (fun _ => rfl)
    (fun pre M W => LsI w w1 B t0 pre M W) (fun c pre M W => False)
    ?hI ?hIx (fun k => k = w1.heap.size) ?hM0 ?hO ?h0 ?hround ?hdone ?hstop
  case hI =>
    rintro s M A A' ⟨g, t, hf, hM, hb, hc, ht, hg⟩ hk
    rw [sz2] at hk
    refine ⟨g, t, hf, hM, Below.low hb hk (Nat.le_refl _) (by have := hbw.size; omega), hc.low hk (by simp; omega), ht.same ?_, hg⟩
    rcases hg with hg | hg
    · exact hk.low ht.lt (by omega)
    · exact hk.mine ht.lt hg
  case hIx => rintro c s M A A' h; exact h.elim
  case hM0 => rw [sz2]; rintro k rfl; omega
  case hO =>
    rw [sz2]
    intro k hk
    have := hO k hk; have := hb0.size; have := hbw.size
    exact ⟨by omega, fun e => by omega⟩
  case h0 =>
    refine ⟨g0, t0, rfl, ⟨rfl, fun k e => by omega⟩, hbw.trans (Below.mono (B := w1.heap.size) (by (repeat' (first | (with_reducible exact Below.refl _ _) | (with_reducible assumption) | (with_reducible refine Below.alloc ?_ ?_ _) | (with_reducible refine Below.drew ?_) | (with_reducible refine below_drewN ?_ _) | (with_reducible refine Below.setCell ?_ ?_ _) | (with_reducible refine below_call ?_ ?_ (by assumption)) | go_size))) hbw.size), ?_, ht0.below hg0 (by (repeat' (first | (with_reducible exact Below.refl _ _) | (with_reducible assumption) | (with_reducible refine Below.alloc ?_ ?_ _) | (with_reducible refine Below.drew ?_) | (with_reducible refine below_drewN ?_ _) | (with_reducible refine Below.setCell ?_ ?_ _) | (with_reducible refine below_call ?_ ?_ (by assumption)) | go_size))), .inl (by omega)⟩
    intro p hp
    simp only [List.mem_cons, List.not_mem_nil, or_false] at hp
    rcases hp with rfl | rfl
    all_goals exact ⟨by (simp only [World.size_alloc]; omega), by go_simp, by go_simp⟩

  case hround =>
    rintro l pre ⟨gx, tx⟩ M W hl hMl hMb hlt ⟨g, t, hf, hM, hb, hc, ht, hg⟩ hv htx hsp
    obtain ⟨q1, q2, q3, q4⟩ := htx gx rfl
    rw [sz2] at hl q1
    have hzw := hbw.size
    have hz := hb.size
    have hmem : tx ∈ t0 :: LL := hsp.subset (by simp)
    have hokx := hok _ hmem
    have hokt : okTr t := LsI_mem (P := okTr) hf (fun x hx => hok x (hsp.subset (by rw [List.map_append]; exact List.mem_append_left _ hx))) (hok t0 List.mem_cons_self)
    gi_wp2
    refine ⟨Below.refl _ _, fun W2 ht2 => ?_⟩
    obtain ⟨hk2, hs2, -⟩ := ht2
    have hgl : g ≠ l := by
      rintro rfl
      rcases hg with hg | hg
      · omega
      · exact hMl hg
    have hc2 := hc.kept hk2 (by simp; omega)
    have b2 : Below w.heap.size w W2 := hb.trans (hk2.below hz (fun k hk e => by omega))
    have hv2 : TrAt B (gx, tx) W2 := TrAt.same hv (hk2.block gx q2 q4)
    have ht2 : TrAt B (g, t) W2 := ht.same (hk2.block g ht.lt hgl)
    have hgx := hv2.lt
    have hgt := ht2.lt
    have hs3 : W.heap.size ≤ W2.heap.size := by omega
    have hnew : pre.map (·.2) ++ [tx] = (pre ++ [(gx, tx)]).map (·.2) := by simp
    have rc0 : W2.cell? ⟨w1.heap.size, 0, none⟩ = some (.slice (some ⟨g, 0, none⟩) 2 2) := (hc2 (w1.heap.size, 0, .slice (some ⟨g, 0, none⟩) 2 2) (by simp)).2.1
    have rf0 : W2.frozen? ⟨w1.heap.size, 0, none⟩ = false := (hc2 (w1.heap.size, 0, .slice (some ⟨g, 0, none⟩) 2 2) (by simp)).2.2
    have rs0 : w1.heap.size < W2.heap.size := (hc2 (w1.heap.size, 0, .slice (some ⟨g, 0, none⟩) 2 2) (by simp)).1
    have rc1 : W2.cell? ⟨w.heap.size, 0, none⟩ = some (.func (.func 83) #[] #[]) := (hc2 (w.heap.size, 0, .func (.func 83) #[] #[]) (by simp)).2.1
    have rf1 : W2.frozen? ⟨w.heap.size, 0, none⟩ = false := (hc2 (w.heap.size, 0, .func (.func 83) #[] #[]) (by simp)).2.2
    have rs1 : w.heap.size < W2.heap.size := (hc2 (w.heap.size, 0, .func (.func 83) #[] #[]) (by simp)).1
    have HV := Lib.hid hv2
    have HT := Lib.hid ht2
    have CO := Lib.hid (fun W a1 a2 => teethOrder_tr (B := B) (g1 := gx) (g2 := g) hokx hokt W a1 a2)
    have HS := Lib.hid (sg_lt (sumTr tx - sumTr t))
    clear hs2 hc hc2 ht hv hk2 hv2 ht2
    gi_wp2
    refine ⟨trivial, rfl, (callsIn_wide.2 (CO.out W2 HV.out HT.out)).mono ?_⟩
    rintro e3 W3 ⟨rfl, hb3⟩
    have hz3 := hb3.size
    have k3 : Kept M W2 W3 := Kept.of_below hb3
    have b3 : Below w.heap.size w W3 := b2.trans (hb3.mono b2.size)
    have c3 : CellsAt W3 [(w1.heap.size, 0, .slice (some ⟨g, 0, none⟩) 2 2), (w.heap.size, 0, .func (.func 83) #[] #[])] := by
      intro p hp
      simp only [List.mem_cons, List.not_mem_nil, or_false] at hp
      rcases hp with rfl | rfl
      · exact ⟨by simp only; omega, (hb3.cell (p := ⟨w1.heap.size, 0, none⟩) rs0).trans rc0, (hb3.frozen (p := ⟨w1.heap.size, 0, none⟩) rs0).trans rf0⟩
      · exact ⟨by simp only; omega, (hb3.cell (p := ⟨w.heap.size, 0, none⟩) rs1).trans rc1, (hb3.frozen (p := ⟨w.heap.size, 0, none⟩) rs1).trans rf1⟩
    have HV3 := Lib.hid (HV.out.below hgx hb3)
    have HT3 := Lib.hid (HT.out.below hgt hb3)
    clear rc0 rf0 rs0 rc1 rf1 rs1
    have rc0 : W3.cell? ⟨w1.heap.size, 0, none⟩ = some (.slice (some ⟨g, 0, none⟩) 2 2) := (c3 (w1.heap.size, 0, .slice (some ⟨g, 0, none⟩) 2 2) (by simp)).2.1
    have rf0 : W3.frozen? ⟨w1.heap.size, 0, none⟩ = false := (c3 (w1.heap.size, 0, .slice (some ⟨g, 0, none⟩) 2 2) (by simp)).2.2
    have rs0 : w1.heap.size < W3.heap.size := (c3 (w1.heap.size, 0, .slice (some ⟨g, 0, none⟩) 2 2) (by simp)).1
    have rc1 : W3.cell? ⟨w.heap.size, 0, none⟩ = some (.func (.func 83) #[] #[]) := (c3 (w.heap.size, 0, .func (.func 83) #[] #[]) (by simp)).2.1
    have rf1 : W3.frozen? ⟨w.heap.size, 0, none⟩ = false := (c3 (w.heap.size, 0, .func (.func 83) #[] #[]) (by simp)).2.2
    have rs1 : w.heap.size < W3.heap.size := (c3 (w.heap.size, 0, .func (.func 83) #[] #[]) (by simp)).1
    by_cases hless : sumTr tx - sumTr t < 0
    · have hM1 := hM.1
      have hd : sg (sumTr tx - sumTr t) < 0 := by
        have := HS.out
        rw [decide_eq_true hless] at this
        exact of_decide_eq_true this
      gi_wp2
      refine ⟨fun k => k = w1.heap.size ∨ k = gx, by (repeat' (first | (with_reducible exact Kept.refl _ _) | (with_reducible assumption) | (with_reducible refine Kept.setCell ?_ ?_) | (with_reducible refine Kept.alloc ?_) | (with_reducible refine Kept.drew ?_) | (exact .inl (by assumption)) | (exact .inl (by simp; done)) | (exact .inl (by omega)) | (exact .inr (by go_size)))), ?_, gx, tx, ?_, ⟨.inl rfl, ?_⟩, by (repeat' (first | (with_reducible exact Below.refl _ _) | (with_reducible assumption) | (with_reducible refine Below.alloc ?_ ?_ _) | (with_reducible refine Below.drew ?_) | (with_reducible refine below_drewN ?_ _) | (with_reducible refine Below.setCell ?_ ?_ _) | (with_reducible refine below_call ?_ ?_ (by assumption)) | go_size)), ?_, HV3.out.same (setCell_far (b := w1.heap.size) _ (show gx ≠ w1.heap.size by omega)), .inr (.inr rfl)⟩
      · rintro k (rfl | rfl)
        · exact ⟨.inl hM.1, by simp; omega⟩
        · exact ⟨.inr (.inl rfl), by simp; omega⟩
      · rw [← hnew, List.foldl_append, hf]
        simp only [List.foldl_cons, List.foldl_nil, stepT, Bool.true_and]
        rw [if_pos (by simp; omega)]
      · rintro k (rfl | rfl) <;> omega
      · intro p hp
        simp only [List.mem_cons, List.not_mem_nil, or_false] at hp
        rcases hp with rfl | rfl
        all_goals exact ⟨by (simp; omega), by go_simp, by go_simp⟩

    · have hd : ¬ sg (sumTr tx - sumTr t) < 0 := by
        have := HS.out
        rw [decide_eq_false hless] at this
        exact of_decide_eq_false this
      gi_wp2
      refine ⟨M, k3, fun k hk => ⟨.inl hk, Nat.lt_of_lt_of_le (hMb k hk) (by omega)⟩, g, t, ?_, hM, b3, c3, HT3.out, hg⟩
      rw [← hnew, List.foldl_append, hf]
      simp only [List.foldl_cons, List.foldl_nil, stepT, Bool.true_and]
      rw [if_neg (by simp; omega)]
  case hdone =>
    rintro D xs M W hD hMD hMb hS ⟨g, t, hf, hM, hb, hc, ht, hg⟩ hK
    rw [sz2] at hD
    have rc0 : W.cell? ⟨w1.heap.size, 0, none⟩ = some (.slice (some ⟨g, 0, none⟩) 2 2) := (hc (w1.heap.size, 0, .slice (some ⟨g, 0, none⟩) 2 2) (by simp)).2.1
    have rf0 : W.frozen? ⟨w1.heap.size, 0, none⟩ = false := (hc (w1.heap.size, 0, .slice (some ⟨g, 0, none⟩) 2 2) (by simp)).2.2
    have rs0 : w1.heap.size < W.heap.size := (hc (w1.heap.size, 0, .slice (some ⟨g, 0, none⟩) 2 2) (by simp)).1
    have rc1 : W.cell? ⟨w.heap.size, 0, none⟩ = some (.func (.func 83) #[] #[]) := (hc (w.heap.size, 0, .func (.func 83) #[] #[]) (by simp)).2.1
    have rf1 : W.frozen? ⟨w.heap.size, 0, none⟩ = false := (hc (w.heap.size, 0, .func (.func 83) #[] #[]) (by simp)).2.2
    have rs1 : w.heap.size < W.heap.size := (hc (w.heap.size, 0, .func (.func 83) #[] #[]) (by simp)).1
    gi_wp2
    refine ⟨by simp, .inl ⟨_, _, rfl, run_takeDeferred hK, ?_⟩⟩
    have hb9 : Below w.heap.size w (W.putObj D (.deferred none)) := hb.trans ((Kept.putObj (M := fun k => k = D) W D (.deferred none) rfl).below hb.size (fun k hk e => by have := hbw.size; omega))
    have hbest : bestT true (t0 :: LL) = some t := by
      rw [← bestT_again, ← hS]
      exact hf
    rw [hbest]
    have hgD : g ≠ D := by
      rintro rfl
      rcases hg with hg | hg
      · omega
      · exact hMD hg
    refine ⟨.tuple #[.slice (some ⟨g, 0, none⟩) 2 2, .bool true], ?_, _, rfl, (ht.same (World.putObj_heap_other hgD) : TrAt B (g, t) _), hb9⟩
    simp [results, Try.f82, go_sem]
  case hstop =>
    rintro D c pre M W - - - - h
    exact h.elim
end Go.Proofs.Ytaifcemdabcfjaa
