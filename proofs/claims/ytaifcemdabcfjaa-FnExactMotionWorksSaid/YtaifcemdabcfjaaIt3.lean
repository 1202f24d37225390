/- All trains of two pairs with a ratio: an iterator's contract. -/
import Derived.Test.YtaifcemdabcfjaaFp
import Derived.Test.YtaifcemdabcfjaaOrdR
set_option linter.unusedSimpArgs false
set_option linter.unusedVariables false
set_option maxRecDepth 100000
namespace Go.Proofs.Ytaifcemdabcfjaa
open Go.RowKit Go.Shelf
attribute [local go_sem] Oper.semAt_some

abbrev Tr := (Int × Int) × (Int × Int)
theorem flat_pre {α β : Type} (F : α → List β) {L pre : List α} {p : α} {ys : List β} (h1 : pre ++ [p] <+: L) (h2 : ys <+: F p) : pre.flatMap F ++ ys <+: L.flatMap F := by
  obtain ⟨t, rfl⟩ := h1
  obtain ⟨s, hs⟩ := h2
  exact ⟨s ++ t.flatMap F, by simp [← hs]⟩
def innerP (N D : Int) (p : Int × Int) : Int := spN (N * p.2) (D * p.1)
def innerQ (N D : Int) (p : Int × Int) : Int := spD (N * p.2) (D * p.1)
def innerL (N D : Int) (n : Nat) (p : Int × Int) : List (Int × Int) := wlK (innerP N D p) (innerQ N D p) (wlN (innerP N D p) (innerQ N D p) (5 + (n : Int)))
def trE (N D : Int) (n : Nat) (p : Int × Int) : List Tr := (innerL N D n p).map fun q => (p, q)
/-- All of them, in order. -/
def trainsL (N D : Int) (n : Nat) : List Tr := (allP n).flatMap (trE N D n)
theorem mem_allP {n : Nat} {p : Int × Int} (h : p ∈ allP n) : (6 ≤ p.1 ∧ p.1 ≤ 5 + (n : Int)) ∧ 6 ≤ p.2 ∧ p.2 ≤ 5 + (n : Int) := by
  simp only [allP, rowP, List.mem_flatMap, List.mem_range, List.mem_map] at h
  obtain ⟨a, ha, b, hb, rfl⟩ := h
  exact ⟨⟨by simp only; omega, by simp only; omega⟩, by simp only; omega, by simp only; omega⟩
set_option maxHeartbeats 400000 in
theorem trainsOfTwo_makes (P Q m : Int) (w : World) :
    Calls Try.prog 81 #[tv P Q, .int .i64 m] w fun e w' => e = .returned (.func (.func 104) #[] #[.pointer (some ⟨w.heap.size + 1, 0, none⟩), .pointer (some ⟨w.heap.size, 0, none⟩)]) ∧ w' = (w.alloc (.cells #[.int .i64 P, .int .i64 Q] 63)).alloc (.cells #[.int .i64 m] 3) := by
  (go_enter Try.func81, Try.ntmps81)
  go_wp2
  go_ret
  exact ⟨by simp, rfl⟩
theorem through_one {N D a b : Int} (hN : 1 ≤ N ∧ N ≤ 1000) (hD : 1 ≤ D ∧ D ≤ 1000) (hp : pairB (a, b) = true) (g : Nat) (w : World) (hg : g < w.heap.size) (h0 : w.cell? ⟨g, 0, none⟩ = some (.int .i64 a)) (h1 : w.cell? ⟨g, 1, none⟩ = some (.int .i64 b)) :
    Calls Try.prog 98 #[tv (spN N D) (spD N D), .func (.func 105) #[] #[], .slice (some ⟨g, 0, none⟩) 1 1] w fun e w' => e = .returned (tv (innerP N D (a, b)) (innerQ N D (a, b))) ∧ Below w.heap.size w w' := by
  have h := through_without N D ⟨hN.1, by omega⟩ ⟨hD.1, by omega⟩ (some ⟨g, 0, none⟩) 1 [(a, b)] (train_one hp) w (PIn_one hg h0 h1)
  simp only [numT, denT, Int.mul_one] at h
  exact h
/-- A train that has been handed over lies in a block of its own. -/
def TrAt (B : Nat) (x : Nat × Tr) (W : World) : Prop := RowPair W B (.slice (some ⟨x.1, 0, none⟩) 2 2) [x.2.1, x.2.2]
abbrev trEnc (x : Nat × Tr) : Array Value := #[.slice (some ⟨x.1, 0, none⟩) 2 2]
set_option maxRecDepth 100000 in
set_option maxHeartbeats 4000000 in
theorem trainsOfTwo_seqs (N D : Int) (hN : 1 ≤ N ∧ N ≤ 1000) (hD : 1 ≤ D ∧ D ≤ 1000) (n : Nat) (hn : n ≤ 115) (B1 B2 : Nat) (w0 : World)
    (hC : CellsAt w0 [(B1, 0, .int .i64 (spN N D)), (B1, 1, .int .i64 (spD N D)), (B2, 0, .int .i64 (5 + (n : Int)))]) :
    Seqs Try.prog 104 #[.pointer (some ⟨B2, 0, none⟩), .pointer (some ⟨B1, 0, none⟩)] trEnc (fun x W => TrAt w0.heap.size x W) (fun x k => k = x.1) (fun xs => xs.map (·.2) = trainsL N D n) (fun pre => pre.map (·.2) <+: trainsL N D n) (fun k => k = B1 ∨ k = B2) w0 := by
  intro l J Jx M0 W hW hJ hJx hO hM0 hY h0
  have hCW := hC.below hW
  have hW1 : B1 < W.heap.size := (hCW (B1, 0, .int .i64 (spN N D)) (by simp)).1
  have hW2 : B2 < W.heap.size := (hCW (B2, 0, .int .i64 (5 + (n : Int))) (by simp)).1
  have hn1 : ¬ M0 B1 := hO B1 (.inl rfl)
  have hn2 : ¬ M0 B2 := hO B2 (.inr rfl)
  have hsW := hW.size
  have HY := Lib.hid hY
  have HJ := Lib.hid hJ
  have HJx := Lib.hid hJx
  have HM0 := Lib.hid hM0
  clear hY hJ hJx hO hM0 hC hW
  have cc0 : W.cell? ⟨B1, 0, none⟩ = some (.int .i64 (spN N D)) := (hCW (B1, 0, .int .i64 (spN N D)) (by simp)).2.1
  have cf0 : W.frozen? ⟨B1, 0, none⟩ = false := (hCW (B1, 0, .int .i64 (spN N D)) (by simp)).2.2
  have cs0 : B1 < W.heap.size := (hCW (B1, 0, .int .i64 (spN N D)) (by simp)).1
  have cc1 : W.cell? ⟨B1, 1, none⟩ = some (.int .i64 (spD N D)) := (hCW (B1, 1, .int .i64 (spD N D)) (by simp)).2.1
  have cf1 : W.frozen? ⟨B1, 1, none⟩ = false := (hCW (B1, 1, .int .i64 (spD N D)) (by simp)).2.2
  have cc2 : W.cell? ⟨B2, 0, none⟩ = some (.int .i64 (5 + (n : Int))) := (hCW (B2, 0, .int .i64 (5 + (n : Int))) (by simp)).2.1
  have cf2 : W.frozen? ⟨B2, 0, none⟩ = false := (hCW (B2, 0, .int .i64 (5 + (n : Int))) (by simp)).2.2
  have cs2 : B2 < W.heap.size := (hCW (B2, 0, .int .i64 (5 + (n : Int))) (by simp)).1
  refine (callsIn_wide (n := 0)).1 (callsIn_of_wp_marks Try.func104 rfl trivial ?_ rfl)
  simp only [Try.ntmps104, List.size_toArray, List.length_cons, List.length_nil, Nat.reduceAdd, Nat.reduceSub, Array.replicate_succ, Array.replicate_zero, List.push_toArray, List.append_toArray, List.nil_append, List.cons_append]
  gi_wp2
  refine ⟨trivial, rfl, (callsIn_wide.2 (pairsUpTo_makes (5 + (n : Int)) _)).mono ?_⟩
  rintro e1 w1 ⟨rfl, hw1⟩
  simp only [World.size_alloc] at hw1 ⊢
  have hb1 : Below W.heap.size W w1 := by rw [hw1]; (repeat' (first | (with_reducible exact Below.refl _ _) | (with_reducible assumption) | (with_reducible refine Below.alloc ?_ ?_ _) | (with_reducible refine Below.drew ?_) | (with_reducible refine below_drewN ?_ _) | (with_reducible refine Below.setCell ?_ ?_ _) | (with_reducible refine below_call ?_ ?_ (by assumption)) | go_size))
  have hs1 : w1.heap.size = W.heap.size + 2 := by rw [hw1]; simp
  have hm1 : w1.cell? ⟨W.heap.size + 1, 0, none⟩ = some (.int .i64 (5 + (n : Int))) := by rw [hw1]; go_simp
  have hcell1 : CellsAt w1 [(W.heap.size, 0, .func (.yield l) #[] #[]), (B1, 0, .int .i64 (spN N D)), (B1, 1, .int .i64 (spD N D)), (B2, 0, .int .i64 (5 + (n : Int)))] := by
    rw [hw1]
    intro p hp
    simp only [List.mem_cons, List.not_mem_nil, or_false] at hp
    rcases hp with rfl | rfl | rfl | rfl
    all_goals exact ⟨by (simp only [World.size_alloc]; omega), by go_simp, by go_simp⟩

  clear hw1
  gi_wp2
  refine range_outer rfl (enters_of Try.func106 (by kernel_rfl) rfl) (pairsUpTo_seqs n hn (W.heap.size + 1) w1 (by omega) hm1) (Below.refl _ _) (fun _ => rfl)
    (fun pre M V => ∃ ts : List (Nat × Tr), J ts M V ∧ ts.map (·.2) = pre.flatMap (trE N D n) ∧ (¬ M B1 ∧ ¬ M B2 ∧ ¬ M W.heap.size ∧ ¬ M (W.heap.size + 1)) ∧ (∀ k, M k → M0 k ∨ W.heap.size ≤ k) ∧ w1.heap.size ≤ V.heap.size ∧ CellsAt V [(W.heap.size, 0, .func (.yield l) #[] #[]), (B1, 0, .int .i64 (spN N D)), (B1, 1, .int .i64 (spD N D)), (B2, 0, .int .i64 (5 + (n : Int)))])
    (fun c pre M V => c = .ret ∧ ∃ ts : List (Nat × Tr), Jx ts M V ∧ ts.map (·.2) <+: trainsL N D n ∧ (∀ k, M k → M0 k ∨ W.heap.size ≤ k))
    ?hI ?hIx M0 ?hM0 ?hO ?h0 ?hround ?hdone ?hstop
  case hI =>
    rintro s M A A' ⟨ts, h1, h2, h3, h4, h5, h6⟩ hk
    rw [hs1] at hk
    exact ⟨ts, HJ.out _ _ _ _ h1 (hk.weaken (fun k _ h => ⟨by omega, h.2⟩)), h2, h3, h4, Nat.le_trans h5 hk.size, h6.low hk (by simp; omega)⟩
  case hIx =>
    rintro c s M A A' ⟨rfl, ts, h1, h2, h3⟩ hk
    rw [hs1] at hk
    exact ⟨rfl, ts, HJx.out _ _ _ _ h1 (hk.weaken (fun k _ h => ⟨by omega, h.2⟩)), h2, h3⟩
  case hM0 => intro k hk; have := HM0.out k hk; omega
  case hO =>
    rintro k rfl
    exact ⟨by omega, fun h => by have := HM0.out _ h; omega⟩
  case h0 =>
    refine ⟨[], HJ.out _ _ _ _ h0 (Kept.of_below hb1), rfl, ⟨hn1, hn2, fun h => by have := HM0.out _ h; omega, fun h => by have := HM0.out _ h; omega⟩, fun k h => .inl h, Nat.le_refl _, hcell1⟩
  case hround =>
    rintro l1 pre ⟨a, b⟩ M V hl hMl hMb hlt ⟨ts, hJt, hts, ⟨n1, n2, n3, n4⟩, hgr, hsV, hcV⟩ - - hsp
    have hsW1 : W.heap.size + 2 ≤ V.heap.size := by omega
    have hpm := mem_allP (p := (a, b)) ((hsp.subset (List.mem_append_right _ List.mem_cons_self)))
    simp only at hpm
    obtain ⟨⟨pa1, pa2⟩, pb1, pb2⟩ := hpm
    have hpb : pairB (a, b) = true := pairB_of ⟨⟨by omega, by omega⟩, by omega, by omega⟩
    gi_wp2
    refine ⟨by (repeat' (first | (with_reducible exact Below.refl _ _) | (with_reducible assumption) | (with_reducible refine Below.alloc ?_ ?_ _) | (with_reducible refine Below.drew ?_) | (with_reducible refine below_drewN ?_ _) | (with_reducible refine Below.setCell ?_ ?_ _) | (with_reducible refine below_call ?_ ?_ (by assumption)) | go_size)), fun W2 ht => ?_⟩
    obtain ⟨hk2, hs0, r, hr⟩ := ht
    have hs2 : W2.heap.size = V.heap.size + 1 := by rw [hs0]; simp
    clear hs0
    have hcA : CellsAt W2 [(W.heap.size, 0, .func (.yield l) #[] #[]), (B1, 0, .int .i64 (spN N D)), (B1, 1, .int .i64 (spD N D)), (B2, 0, .int .i64 (5 + (n : Int)))] := (hcV.below (show Below V.heap.size V _ by (repeat' (first | (with_reducible exact Below.refl _ _) | (with_reducible assumption) | (with_reducible refine Below.alloc ?_ ?_ _) | (with_reducible refine Below.drew ?_) | (with_reducible refine below_drewN ?_ _) | (with_reducible refine Below.setCell ?_ ?_ _) | (with_reducible refine below_call ?_ ?_ (by assumption)) | go_size)))).kept hk2 (by simp; omega)
    have hcX : CellsAt W2 [(V.heap.size, 0, .int .i64 a), (V.heap.size, 1, .int .i64 b)] := by
      refine CellsAt.kept (W := V.alloc (Obj.cells #[Value.int .i64 a, Value.int .i64 b] 25)) ?_ hk2 (by simp; omega)
      intro p hp
      simp only [List.mem_cons, List.not_mem_nil, or_false] at hp
      rcases hp with rfl | rfl
      all_goals exact ⟨by (simp only [World.size_alloc]; omega), by go_simp, by go_simp⟩

    have hJ2 : J ts M W2 := HJ.out _ _ _ _ hJt (Kept.trans (Kept.of_below (M := fun _ => False) (show Below V.heap.size V (V.alloc (Obj.cells #[Value.int .i64 a, Value.int .i64 b] 25)) by (repeat' (first | (with_reducible exact Below.refl _ _) | (with_reducible assumption) | (with_reducible refine Below.alloc ?_ ?_ _) | (with_reducible refine Below.drew ?_) | (with_reducible refine below_drewN ?_ _) | (with_reducible refine Below.setCell ?_ ?_ _) | (with_reducible refine below_call ?_ ?_ (by assumption)) | go_size)))) hk2 (fun _ _ h => h.elim) (fun k _ e => ⟨by omega, by subst e; exact hMl⟩))
    have cc0 : W2.cell? ⟨W.heap.size, 0, none⟩ = some (.func (.yield l) #[] #[]) := (hcA (W.heap.size, 0, .func (.yield l) #[] #[]) (by simp)).2.1
    have cf0 : W2.frozen? ⟨W.heap.size, 0, none⟩ = false := (hcA (W.heap.size, 0, .func (.yield l) #[] #[]) (by simp)).2.2
    have cs0 : W.heap.size < W2.heap.size := (hcA (W.heap.size, 0, .func (.yield l) #[] #[]) (by simp)).1
    have cc1 : W2.cell? ⟨B1, 0, none⟩ = some (.int .i64 (spN N D)) := (hcA (B1, 0, .int .i64 (spN N D)) (by simp)).2.1
    have cf1 : W2.frozen? ⟨B1, 0, none⟩ = false := (hcA (B1, 0, .int .i64 (spN N D)) (by simp)).2.2
    have cs1 : B1 < W2.heap.size := (hcA (B1, 0, .int .i64 (spN N D)) (by simp)).1
    have cc2 : W2.cell? ⟨B1, 1, none⟩ = some (.int .i64 (spD N D)) := (hcA (B1, 1, .int .i64 (spD N D)) (by simp)).2.1
    have cf2 : W2.frozen? ⟨B1, 1, none⟩ = false := (hcA (B1, 1, .int .i64 (spD N D)) (by simp)).2.2
    have cc3 : W2.cell? ⟨B2, 0, none⟩ = some (.int .i64 (5 + (n : Int))) := (hcA (B2, 0, .int .i64 (5 + (n : Int))) (by simp)).2.1
    have cf3 : W2.frozen? ⟨B2, 0, none⟩ = false := (hcA (B2, 0, .int .i64 (5 + (n : Int))) (by simp)).2.2
    have cs3 : B2 < W2.heap.size := (hcA (B2, 0, .int .i64 (5 + (n : Int))) (by simp)).1
    have xc0 : W2.cell? ⟨V.heap.size, 0, none⟩ = some (.int .i64 a) := (hcX (V.heap.size, 0, .int .i64 a) (by simp)).2.1
    have xf0 : W2.frozen? ⟨V.heap.size, 0, none⟩ = false := (hcX (V.heap.size, 0, .int .i64 a) (by simp)).2.2
    have xs0 : V.heap.size < W2.heap.size := (hcX (V.heap.size, 0, .int .i64 a) (by simp)).1
    have xc1 : W2.cell? ⟨V.heap.size, 1, none⟩ = some (.int .i64 b) := (hcX (V.heap.size, 1, .int .i64 b) (by simp)).2.1
    have xf1 : W2.frozen? ⟨V.heap.size, 1, none⟩ = false := (hcX (V.heap.size, 1, .int .i64 b) (by simp)).2.2
    have hb1' : W.heap.size < W2.heap.size := by omega
    clear hk2 hcV hJt
    have hs2a : V.heap.size + 1 ≤ W2.heap.size := by omega
    have hs2b : W2.heap.size ≤ V.heap.size + 1 := by omega
    clear hs2
    gi_wp2
    have hS1 : Below W2.heap.size W2 W2.drew := (Below.refl _ _).drew
    refine region_round (fun U => Below W2.heap.size W2 U) (by kernel_rfl) (by kernel_rfl) ?_
    refine takeR (i := 0) (v := tv (spN N D) (spD N D)) 9 rfl rfl (by kernel_rfl) (by kernel_rfl) (by kernel_rfl) (fun _ _ _ h => h) (by rfl) ?_ (by assumption) ?_
    · intro U hU
      obtain ⟨hcq, hfq⟩ := bcell hU
      have e0 := (hcq B1 0 cs1).trans cc1
      have e1 := (hcq B1 1 cs1).trans cc2
      go_simp
    simp only [Act.put, List.setIfInBounds_toArray, List.set_cons_zero, List.set_cons_succ]
    refine takeR (i := 1) (v := tv a b) 10 rfl rfl (by kernel_rfl) (by kernel_rfl) (by kernel_rfl) (fun _ _ _ h => h) (by rfl) ?_ (by assumption) ?_
    · intro U hU
      obtain ⟨hcq, hfq⟩ := bcell hU
      go_simp
    simp only [Act.put, List.setIfInBounds_toArray, List.set_cons_zero, List.set_cons_succ]
    refine takeR (i := 4) (v := .int .i64 (5 + (n : Int))) 13 rfl rfl (by kernel_rfl) (by kernel_rfl) (by kernel_rfl) (fun _ _ _ h => h) (by rfl) ?_ (by assumption) ?_
    · intro U hU
      obtain ⟨hcq, hfq⟩ := bcell hU
      have e0 := (hcq B2 0 cs3).trans cc3
      go_simp
    simp only [Act.put, List.setIfInBounds_toArray, List.set_cons_zero, List.set_cons_succ]
    refine allR (rs := [2]) (by kernel_rfl) (by decide) (List.forall_mem_cons.2 ⟨?_, fun _ h => absurd h List.not_mem_nil⟩)
    refine valueR (v := .slice (some ⟨W2.heap.size, 0, none⟩) 1 1) (w' := W2.drew.alloc (Obj.cells #[Value.int .i64 a, Value.int .i64 b] 25)) 11 rfl rfl (by rfl) (by go_simp) ⟨by (repeat' (first | (with_reducible exact Below.refl _ _) | (with_reducible assumption) | (with_reducible refine Below.alloc ?_ ?_ _) | (with_reducible refine Below.drew ?_) | (with_reducible refine below_drewN ?_ _) | (with_reducible refine Below.setCell ?_ ?_ _) | (with_reducible refine below_call ?_ ?_ (by assumption)) | go_size)), ?_⟩
    simp only [Act.put, List.setIfInBounds_toArray, List.set_cons_zero, List.set_cons_succ]
    refine allR (rs := [3]) (by kernel_rfl) (by decide) (List.forall_mem_cons.2 ⟨?_, fun _ h => absurd h List.not_mem_nil⟩)
    refine callR 12 rfl rfl (by rfl) (f := 98) (args := #[tv (spN N D) (spD N D), .func (.func 105) #[] #[], .slice (some ⟨W2.heap.size, 0, none⟩) 1 1]) (by go_simp) ((through_one hN hD hpb W2.heap.size _ (by simp) (by go_simp) (by go_simp)).mono ?_)
    rintro e4 U4 ⟨rfl, hbU4⟩
    have hS4 : Below W2.heap.size W2 U4 := Below.trans (b := W2.drew.alloc (Obj.cells #[Value.int .i64 a, Value.int .i64 b] 25)) (by (repeat' (first | (with_reducible exact Below.refl _ _) | (with_reducible assumption) | (with_reducible refine Below.alloc ?_ ?_ _) | (with_reducible refine Below.drew ?_) | (with_reducible refine below_drewN ?_ _) | (with_reducible refine Below.setCell ?_ ?_ _) | (with_reducible refine below_call ?_ ?_ (by assumption)) | go_size))) (hbU4.mono (by simp))
    have hz4 := hS4.size
    refine ⟨_, rfl, hS4, ?_⟩
    simp only [Act.put, List.setIfInBounds_toArray, List.set_cons_zero, List.set_cons_succ]
    refine allR (rs := [5]) (by kernel_rfl) (by decide) (List.forall_mem_cons.2 ⟨?_, fun _ h => absurd h List.not_mem_nil⟩)
    refine callR 14 rfl rfl (by rfl) (f := 77) (args := #[tv (innerP N D (a, b)) (innerQ N D (a, b)), .int .i64 (5 + (n : Int))]) (by go_simp) ((pairsWith_makes (innerP N D (a, b)) (innerQ N D (a, b)) (5 + (n : Int)) _).mono ?_)
    rintro e5 U5 ⟨rfl, hU5⟩
    have hbi : Below W2.heap.size W2 U5 := by rw [hU5]; (repeat' (first | (with_reducible exact Below.refl _ _) | (with_reducible assumption) | (with_reducible refine Below.alloc ?_ ?_ _) | (with_reducible refine Below.drew ?_) | (with_reducible refine below_drewN ?_ _) | (with_reducible refine Below.setCell ?_ ?_ _) | (with_reducible refine below_call ?_ ?_ (by assumption)) | go_size))
    have hsi : U5.heap.size = U4.heap.size + 2 := by rw [hU5]; simp
    have i0 : U5.cell? ⟨U4.heap.size, 0, none⟩ = some (.int .i64 (innerP N D (a, b))) := by rw [hU5]; go_simp
    have i1 : U5.cell? ⟨U4.heap.size, 1, none⟩ = some (.int .i64 (innerQ N D (a, b))) := by rw [hU5]; go_simp
    have i2 : U5.cell? ⟨U4.heap.size + 1, 0, none⟩ = some (.int .i64 (5 + (n : Int))) := by rw [hU5]; go_simp
    clear hU5 hbU4
    refine ⟨_, rfl, hbi, ?_⟩
    simp only [Act.put, List.setIfInBounds_toArray, List.set_cons_zero, List.set_cons_succ]
    refine doneR (by kernel_rfl) ?_ _
    gi_wp2
    have hcI : CellsAt U5 [(W.heap.size, 0, .func (.yield l) #[] #[]), (B1, 0, .int .i64 (spN N D)), (B1, 1, .int .i64 (spD N D)), (B2, 0, .int .i64 (5 + (n : Int))), (V.heap.size, 0, .int .i64 a), (V.heap.size, 1, .int .i64 b)] := by
      intro p hp
      rcases List.mem_append.1 (show p ∈ [(W.heap.size, 0, .func (.yield l) #[] #[]), (B1, 0, .int .i64 (spN N D)), (B1, 1, .int .i64 (spD N D)), (B2, 0, .int .i64 (5 + (n : Int)))] ++ [(V.heap.size, 0, .int .i64 a), (V.heap.size, 1, .int .i64 b)] from hp) with h | h
      · exact hcA.below hbi p h
      · exact hcX.below hbi p h
    have hr5 : U5.heap[l1]? = some (.loop r) := (hbi.block l1 (by omega)).trans hr
    have hJ5 : J ts M U5 := HJ.out _ _ _ _ hJ2 (Kept.of_below hbi)
    have hk5 : Kept M W2 U5 := Kept.of_below hbi
    have hz5 := hbi.size
    have hPb : (1 ≤ innerP N D (a, b) ∧ innerP N D (a, b) ≤ 1000000000) ∧ 1 ≤ innerQ N D (a, b) ∧ innerQ N D (a, b) ≤ 1000000000 := by
      have m1 := mulb (show 0 ≤ N by omega) hN.2 (show 0 ≤ b by omega) (show b ≤ 120 by omega)
      have m2 := mulb (show 0 ≤ D by omega) hD.2 (show 0 ≤ a by omega) (show a ≤ 120 by omega)
      have m3 := Int.mul_pos (show 0 < N by omega) (show 0 < b by omega)
      have m4 := Int.mul_pos (show 0 < D by omega) (show 0 < a by omega)
      obtain ⟨⟨s1, s2⟩, s3, s4⟩ := sp_pos (N * b) (D * a) (by omega) (by omega)
      exact ⟨⟨s1, Int.le_trans s2 (by omega)⟩, s3, Int.le_trans s4 (by omega)⟩
    have hcc : ∀ k, M k → k < V.heap.size := hMb
    refine range_inner (l0 := l1) (r0 := r) hr5 rfl (enters_of Try.func102 (by kernel_rfl) rfl)
      (pairsWith_seqs (innerP N D (a, b)) (innerQ N D (a, b)) (5 + (n : Int)) hPb.1 hPb.2 ⟨by omega, by omega⟩ U4.heap.size (U4.heap.size + 1) U5 (by omega) (by omega) i0 i1 i2) (Below.refl _ _) (fun _ => rfl)
      (fun pre' M' Z => ∃ ts' : List (Nat × Tr), J ts' M' Z ∧ ts'.map (·.2) = pre.flatMap (trE N D n) ++ pre'.map (fun q => ((a, b), q)) ∧ (¬ M' B1 ∧ ¬ M' B2 ∧ ¬ M' W.heap.size ∧ ¬ M' (W.heap.size + 1) ∧ ¬ M' V.heap.size) ∧ (∀ k, M' k → M k ∨ V.heap.size ≤ k) ∧ Kept M W2 Z ∧ U5.heap.size ≤ Z.heap.size ∧ CellsAt Z [(W.heap.size, 0, .func (.yield l) #[] #[]), (B1, 0, .int .i64 (spN N D)), (B1, 1, .int .i64 (spD N D)), (B2, 0, .int .i64 (5 + (n : Int))), (V.heap.size, 0, .int .i64 a), (V.heap.size, 1, .int .i64 b)])
      (fun c pre' M' Z => c = .ret ∧ ∃ ts' : List (Nat × Tr), Jx ts' M' Z ∧ ts'.map (·.2) <+: trainsL N D n ∧ (∀ k, M' k → M0 k ∨ W.heap.size ≤ k) ∧ (∀ k, M' k → M k ∨ V.heap.size ≤ k) ∧ Kept M W2 Z)
      ?kI ?kIx M ?kM0 ?kO ?k0 ?kround ?kdone ?kstop
    case kI =>
      rintro s M' A A' ⟨ts', h1, h2, h3, h4, h5, h6, h7⟩ hk
      exact ⟨ts', HJ.out _ _ _ _ h1 (hk.weaken (fun k _ h => ⟨by omega, h.2⟩)), h2, h3, h4, Kept.trans h5 hk (fun _ _ h => h) (fun j hj h => by omega), Nat.le_trans h6 hk.size, h7.low hk (by simp; omega)⟩
    case kIx =>
      rintro c s M' A A' ⟨rfl, ts', h1, h2, h3, h4, h5⟩ hk
      exact ⟨rfl, ts', HJx.out _ _ _ _ h1 (hk.weaken (fun k _ h => ⟨by omega, h.2⟩)), h2, h3, h4, Kept.trans h5 hk (fun _ _ h => h) (fun j hj h => by omega)⟩
    case kM0 => intro k hk; have := hcc k hk; omega
    case kO =>
      rintro k (rfl | rfl)
      · exact ⟨by omega, fun h => by have := hcc _ h; omega⟩
      · exact ⟨by omega, fun h => by have := hcc _ h; omega⟩
    case k0 =>
      exact ⟨ts, hJ5, by simpa using hts, ⟨n1, n2, n3, n4, fun h => by have := hcc _ h; omega⟩, fun k h => .inl h, hk5, Nat.le_refl _, hcI⟩
    case kround =>
      rintro l2 pre' ⟨c, d⟩ M2 Z hl2 hMl2 hMb2 hlt2 ⟨ts', hJz, htz, ⟨m1, m2, m3, m4, m5⟩, hg2, hkz, hsz, hcz⟩ - - hsp2
      gi_wp2
      refine ⟨by (repeat' (first | (with_reducible exact Below.refl _ _) | (with_reducible assumption) | (with_reducible refine Below.alloc ?_ ?_ _) | (with_reducible refine Below.drew ?_) | (with_reducible refine below_drewN ?_ _) | (with_reducible refine Below.setCell ?_ ?_ _) | (with_reducible refine below_call ?_ ?_ (by assumption)) | go_size)), fun Z2 ht2 => ?_⟩
      obtain ⟨hq2, hq0, -⟩ := ht2
      have hqs : Z2.heap.size = Z.heap.size + 1 := by rw [hq0]; simp
      clear hq0
      have hcB : CellsAt Z2 [(W.heap.size, 0, .func (.yield l) #[] #[]), (B1, 0, .int .i64 (spN N D)), (B1, 1, .int .i64 (spD N D)), (B2, 0, .int .i64 (5 + (n : Int))), (V.heap.size, 0, .int .i64 a), (V.heap.size, 1, .int .i64 b)] := (hcz.below (show Below Z.heap.size Z _ by (repeat' (first | (with_reducible exact Below.refl _ _) | (with_reducible assumption) | (with_reducible refine Below.alloc ?_ ?_ _) | (with_reducible refine Below.drew ?_) | (with_reducible refine below_drewN ?_ _) | (with_reducible refine Below.setCell ?_ ?_ _) | (with_reducible refine below_call ?_ ?_ (by assumption)) | go_size)))).kept hq2 (by simp; omega)
      have hcY : CellsAt Z2 [(Z.heap.size, 0, .int .i64 c), (Z.heap.size, 1, .int .i64 d)] := by
        refine CellsAt.kept (W := Z.alloc (Obj.cells #[Value.int .i64 c, Value.int .i64 d] 25)) ?_ hq2 (by simp; omega)
        intro p hp
        simp only [List.mem_cons, List.not_mem_nil, or_false] at hp
        rcases hp with rfl | rfl
        all_goals exact ⟨by (simp only [World.size_alloc]; omega), by go_simp, by go_simp⟩

      have hkZ2 : Kept (fun k => k = l2) Z Z2 := Kept.trans (Kept.of_below (M := fun _ => False) (show Below Z.heap.size Z (Z.alloc (Obj.cells #[Value.int .i64 c, Value.int .i64 d] 25)) by (repeat' (first | (with_reducible exact Below.refl _ _) | (with_reducible assumption) | (with_reducible refine Below.alloc ?_ ?_ _) | (with_reducible refine Below.drew ?_) | (with_reducible refine below_drewN ?_ _) | (with_reducible refine Below.setCell ?_ ?_ _) | (with_reducible refine below_call ?_ ?_ (by assumption)) | go_size)))) hq2 (fun _ _ h => h.elim) (fun _ _ h => h)
      have hJz2 : J ts' M2 Z2 := HJ.out _ _ _ _ hJz (hkZ2.weaken (fun k _ e => ⟨by omega, by subst e; exact hMl2⟩))
      have zc0 : Z2.cell? ⟨W.heap.size, 0, none⟩ = some (.func (.yield l) #[] #[]) := (hcB (W.heap.size, 0, .func (.yield l) #[] #[]) (by simp)).2.1
      have zf0 : Z2.frozen? ⟨W.heap.size, 0, none⟩ = false := (hcB (W.heap.size, 0, .func (.yield l) #[] #[]) (by simp)).2.2
      have zs0 : W.heap.size < Z2.heap.size := (hcB (W.heap.size, 0, .func (.yield l) #[] #[]) (by simp)).1
      have zc1 : Z2.cell? ⟨B1, 0, none⟩ = some (.int .i64 (spN N D)) := (hcB (B1, 0, .int .i64 (spN N D)) (by simp)).2.1
      have zf1 : Z2.frozen? ⟨B1, 0, none⟩ = false := (hcB (B1, 0, .int .i64 (spN N D)) (by simp)).2.2
      have zs1 : B1 < Z2.heap.size := (hcB (B1, 0, .int .i64 (spN N D)) (by simp)).1
      have zc2 : Z2.cell? ⟨B1, 1, none⟩ = some (.int .i64 (spD N D)) := (hcB (B1, 1, .int .i64 (spD N D)) (by simp)).2.1
      have zf2 : Z2.frozen? ⟨B1, 1, none⟩ = false := (hcB (B1, 1, .int .i64 (spD N D)) (by simp)).2.2
      have zc3 : Z2.cell? ⟨B2, 0, none⟩ = some (.int .i64 (5 + (n : Int))) := (hcB (B2, 0, .int .i64 (5 + (n : Int))) (by simp)).2.1
      have zf3 : Z2.frozen? ⟨B2, 0, none⟩ = false := (hcB (B2, 0, .int .i64 (5 + (n : Int))) (by simp)).2.2
      have zs3 : B2 < Z2.heap.size := (hcB (B2, 0, .int .i64 (5 + (n : Int))) (by simp)).1
      have zc4 : Z2.cell? ⟨V.heap.size, 0, none⟩ = some (.int .i64 a) := (hcB (V.heap.size, 0, .int .i64 a) (by simp)).2.1
      have zf4 : Z2.frozen? ⟨V.heap.size, 0, none⟩ = false := (hcB (V.heap.size, 0, .int .i64 a) (by simp)).2.2
      have zs4 : V.heap.size < Z2.heap.size := (hcB (V.heap.size, 0, .int .i64 a) (by simp)).1
      have zc5 : Z2.cell? ⟨V.heap.size, 1, none⟩ = some (.int .i64 b) := (hcB (V.heap.size, 1, .int .i64 b) (by simp)).2.1
      have zf5 : Z2.frozen? ⟨V.heap.size, 1, none⟩ = false := (hcB (V.heap.size, 1, .int .i64 b) (by simp)).2.2
      have yc0 : Z2.cell? ⟨Z.heap.size, 0, none⟩ = some (.int .i64 c) := (hcY (Z.heap.size, 0, .int .i64 c) (by simp)).2.1
      have yf0 : Z2.frozen? ⟨Z.heap.size, 0, none⟩ = false := (hcY (Z.heap.size, 0, .int .i64 c) (by simp)).2.2
      have ys0 : Z.heap.size < Z2.heap.size := (hcY (Z.heap.size, 0, .int .i64 c) (by simp)).1
      have yc1 : Z2.cell? ⟨Z.heap.size, 1, none⟩ = some (.int .i64 d) := (hcY (Z.heap.size, 1, .int .i64 d) (by simp)).2.1
      have yf1 : Z2.frozen? ⟨Z.heap.size, 1, none⟩ = false := (hcY (Z.heap.size, 1, .int .i64 d) (by simp)).2.2
      have hqa : Z.heap.size + 1 ≤ Z2.heap.size := by omega
      have hqb : Z2.heap.size ≤ Z.heap.size + 1 := by omega
      have hsp3 : (ts' ++ [(Z2.heap.size, (((a, b), (c, d)) : Tr))]).map (·.2) <+: trainsL N D n := by
        have := flat_pre (trE N D n) hsp (ys := (pre' ++ [(c, d)]).map fun q => ((a, b), q)) (List.IsPrefix.map _ hsp2)
        simpa [htz, trainsL] using this
      have hJ3 : J ts' M2 (Z2.alloc (Obj.cells #[Value.int .i64 a, Value.int .i64 b, Value.int .i64 c, Value.int .i64 d] 25)) := HJ.out _ _ _ _ hJz2 (Kept.of_below (by (repeat' (first | (with_reducible exact Below.refl _ _) | (with_reducible assumption) | (with_reducible refine Below.alloc ?_ ?_ _) | (with_reducible refine Below.drew ?_) | (with_reducible refine below_drewN ?_ _) | (with_reducible refine Below.setCell ?_ ?_ _) | (with_reducible refine below_call ?_ ?_ (by assumption)) | go_size))))
      have hV3 : TrAt w0.heap.size (Z2.heap.size, (((a, b), (c, d)) : Tr)) (Z2.alloc (Obj.cells #[Value.int .i64 a, Value.int .i64 b, Value.int .i64 c, Value.int .i64 d] 25)) :=
        World.ownsRow_lit (size := 2) Z2 #[Value.int .i64 a, Value.int .i64 b, Value.int .i64 c, Value.int .i64 d] 2 (by omega) (by unfold maxLen; omega) rfl
      obtain ⟨fn, tmps, assign, body, hyl, hR⟩ := HY.out ts' (Z2.heap.size, ((a, b), (c, d))) M2 _ hJ3 hV3 (fun k e => by subst e; exact ⟨by simp only; omega, by simp, fun h => by have := hMb2 _ h; simp only at this; omega⟩) hsp3
      have hk3 : Kept M W2 (Z2.alloc (Obj.cells #[Value.int .i64 a, Value.int .i64 b, Value.int .i64 c, Value.int .i64 d] 25)) := by
        refine Kept.alloc (Kept.trans hkz hkZ2 (fun _ _ h => h) (fun j hj e => by omega))
      have HCB := Lib.hid (hcB.below (show Below Z2.heap.size Z2 (Z2.alloc (Obj.cells #[Value.int .i64 a, Value.int .i64 b, Value.int .i64 c, Value.int .i64 d] 25)) by (repeat' (first | (with_reducible exact Below.refl _ _) | (with_reducible assumption) | (with_reducible refine Below.alloc ?_ ?_ _) | (with_reducible refine Below.drew ?_) | (with_reducible refine below_drewN ?_ _) | (with_reducible refine Below.setCell ?_ ?_ _) | (with_reducible refine below_call ?_ ?_ (by assumption)) | go_size))))
      clear hqs hcz hcB hcY hJz hJz2 hV3 hJ3 hq2 hkZ2 hk5 hcI hcA hcX hkz
      simp only [trEnc] at hyl
      gi_wp2
      refine ⟨rfl, hR.mono ?_⟩
      rintro e3 Z3 ⟨M3, hk4, hg3, hh⟩
      have hsz3 := hk4.size
      simp only [World.size_alloc] at hsz3 hg3
      have hkM : Kept M W2 Z3 := Kept.trans hk3 hk4 (fun _ _ h => h) (fun j hj h => by
        rcases hg2 j h with h' | h'
        · exact h'
        · obtain rfl : j = V.heap.size := by omega
          exact absurd h m5)
      have hkZ : Kept M2 Z2 Z3 := Kept.trans (Kept.of_below (M := fun _ => False) (show Below Z2.heap.size Z2 (Z2.alloc (Obj.cells #[Value.int .i64 a, Value.int .i64 b, Value.int .i64 c, Value.int .i64 d] 25)) by (repeat' (first | (with_reducible exact Below.refl _ _) | (with_reducible assumption) | (with_reducible refine Below.alloc ?_ ?_ _) | (with_reducible refine Below.drew ?_) | (with_reducible refine below_drewN ?_ _) | (with_reducible refine Below.setCell ?_ ?_ _) | (with_reducible refine below_call ?_ ?_ (by assumption)) | go_size)))) hk4 (fun _ _ h => h.elim) (fun _ _ h => h)
      have hgZ : ∀ k, M3 k → (M2 k ∨ False ∨ Z.heap.size ≤ k) ∧ k < Z3.heap.size := fun k h => ⟨(hg3 k h).1.elim .inl (fun h' => .inr (.inr (by omega))), (hg3 k h).2⟩
      have hgM : ∀ k, M3 k → M k ∨ V.heap.size ≤ k := fun k h => (hg3 k h).1.elim (fun h' => hg2 k h') (fun h' => .inr (by omega))
      have hn3 : ∀ k, k < Z2.heap.size → ¬ M2 k → ¬ M3 k := fun k hk hm h => (hg3 k h).1.elim hm (fun h' => by omega)
      rcases hh with ⟨rfl, hJ4⟩ | ⟨rfl, hJ4⟩
      · have HC3 := Lib.hid (HCB.out.kept hk4 (by simp only [List.mem_cons, List.not_mem_nil, or_false]; rintro p (rfl | rfl | rfl | rfl | rfl | rfl) <;> assumption))
        gi_wp2
        refine ⟨M3, hkZ, hgZ, ts' ++ [(Z2.heap.size, ((a, b), (c, d)))], hJ4, by simp [htz], ⟨hn3 _ (by omega) m1, hn3 _ (by omega) m2, hn3 _ (by omega) m3, hn3 _ (by omega) m4, hn3 _ (by omega) m5⟩, hgM, hkM, by omega, HC3.out⟩
      · gi_wp2
        refine ⟨M3, hkZ, hgZ, rfl, ts' ++ [(Z2.heap.size, ((a, b), (c, d)))], hJ4, hsp3, fun k h => (hgM k h).elim (fun h' => hgr k h') (fun h' => .inr (by omega)), hgM, hkM⟩
    case kdone =>
      rintro xs M' Z hMb2 rfl ⟨ts', hJz, htz, ⟨m1, m2, m3, m4, m5⟩, hg2, hkz, hsz, hcz⟩
      gi_wp2
      refine ⟨M', hkz, fun k h => ⟨(hg2 k h).imp_right .inr, hMb2 k h⟩, ts', hJz, by simp [htz, trE, innerL], ⟨m1, m2, m3, m4⟩, fun k h => (hg2 k h).elim (fun h' => hgr k h') (fun h' => .inr (by omega)), by omega, fun p hp => hcz p (List.mem_append_left ([(V.heap.size, 0, .int .i64 a), (V.heap.size, 1, .int .i64 b)] : List (Nat × Nat × Value)) hp)⟩
    case kstop =>
      rintro c pre' M' Z hMb2 hsp2 ⟨rfl, ts', hJz, htz, hg1, hg2, hkz⟩
      gi_wp2
      exact ⟨M', hkz, fun k h => ⟨(hg2 k h).imp_right .inr, hMb2 k h⟩, rfl, ts', hJz, htz, hg1⟩

  case hdone =>
    rintro D9 xs M V hD hMD hMb rfl ⟨ts, hJt, hts, ⟨n1, n2, n3, n4⟩, hgr, hsV, hcV⟩ hK
    gi_wp2
    refine ⟨by simp, .inl ⟨_, _, rfl, run_takeDeferred hK, ?_⟩⟩
    refine ⟨.tuple #[], by simp [results, Try.f104, go_sem], ⟨_, rfl⟩, M, hgr, .inl ⟨ts, hts, HJ.out _ _ _ _ hJt (Kept.putObj _ _ _ ⟨by omega, hMD⟩)⟩⟩
  case hstop =>
    rintro D9 c pre M V hD hMD hMb hsp ⟨rfl, ts, hJt, hts, hgr⟩ hK
    gi_wp2
    refine ⟨by simp, .inl ⟨_, _, rfl, run_takeDeferred hK, ?_⟩⟩
    refine ⟨.tuple #[], by simp [results, Try.f104, go_sem], ⟨_, rfl⟩, M, hgr, .inr ⟨ts, hts, HJx.out _ _ _ _ hJt (Kept.putObj _ _ _ ⟨by omega, hMD⟩)⟩⟩
end Go.Proofs.Ytaifcemdabcfjaa
