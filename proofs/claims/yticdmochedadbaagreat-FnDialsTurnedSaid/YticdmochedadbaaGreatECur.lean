/- What the laws of chapter 5 draw: hours, what is seen. -/
import Derived.Test.YticdmochedadbaaGreatTCur
import Derived.Test.YticdmochedadbaaGreatSeen1
import Derived.Test.YticdmochedadbaaGreatSeen2
import Derived.Test.YticdmochedadbaaGreatOrder
import Derived.Test.YticdmochedadbaaGreatPivot
set_option linter.unusedSimpArgs false
set_option linter.unusedVariables false
set_option maxRecDepth 100000
namespace Go.Proofs.YticdmochedadbaaGreat
open Go.RowKit
attribute [local go_sem ↓] Go.wp_at_zero Go.wp_at_succ

theorem wpOp_store {P : Program} {ops : Array Oper} {Q : Exit → Act → World → Prop} {K : Act → World → Prop} {i : Nat} {o : Oper} {a : Act} {w w' : World} (hi : ops[i]? = some o) (hw : Region.wanted o (yielded ops a.tmps) = true) (hr : (execOp a.eval o).run P w = .ok .skip w') (hK : K (a.put o.dst undef) w') : wpOp P ops Q i K a w := by
  refine wpOp_wp hi hw ?_
  unfold Oper.wp
  rw [hr]
  exact hK
set_option maxHeartbeats 1600000 in
theorem hours_any (L : List Int) (a : Option Addr) (n cp : Nat) (w0 : World) (b T : Nat) (hO : CurOK L a n w0 b) (hT : T ≤ 700000) (w : World) (hC : Cur w0 w b a n cp T) :
    Calls Tryz.prog 60 #[.pointer (some ⟨b, 0, none⟩)] w fun e w' => ∃ x, e = .returned (.int .i64 x) ∧ (0 ≤ x ∧ x ≤ 25) ∧ Cur w0 w' b a n cp (T + 2) ∧ w.grownBy w' (some b) := by
  have HC := Lib.hid hC
  clear hC
  have hlt := Cur.lt HC.out
  have hI0 := Lib.hid (iin_new w [(12 : Int), (24 : Int), (10 : Int), (12 : Int), (24 : Int), (6 : Int), (2 : Int), (3 : Int), (5 : Int), (12 : Int), (1 : Int), (25 : Int), (0 : Int)] 3)
  (go_enter Tryz.func60, Tryz.ntmps60)
  go_wp2_with fail
  refine (among_any L a n cp w0 b T [(12 : Int), (24 : Int), (10 : Int), (12 : Int), (24 : Int), (6 : Int), (2 : Int), (3 : Int), (5 : Int), (12 : Int), (1 : Int), (25 : Int), (0 : Int)] 13 rfl (by omega) w.heap.size 0 13 hO (by omega) _ (Cur.alloc HC.out _) hI0.out (by omega)).mono ?_
  rintro e1 w1 ⟨x, rfl, hm1, hC1, hg1⟩
  have xm : 0 ≤ x ∧ x ≤ 25 := by simp only [List.mem_cons, List.not_mem_nil, or_false] at hm1; omega
  clear hm1
  go_wp2
  go_ret
  exact ⟨x, rfl, xm, hC1, grown_trans (World.grownBy_alloc w _ (some b)) hg1⟩

theorem askB_all {h n d : Int} (k : askB h n d = true) : (2 ≤ h ∧ h ≤ 24) ∧ goodB n d = true := by
  simp only [askB, Bool.and_eq_true] at k
  exact ⟨inB_bd k.1, k.2⟩
theorem hhE {h : Int} (hh : 2 ≤ h ∧ h ≤ 24) : 4 ≤ h * h ∧ h * h ≤ 576 := by
  have a1 : 2 * 2 ≤ h * h := Int.mul_le_mul hh.1 hh.1 (by omega) (by omega)
  have a2 : h * h ≤ 24 * 24 := Int.mul_le_mul hh.2 hh.2 (by omega) (by omega)
  omega
theorem i64s {p : Int} (h : -4611686018427387904 ≤ p ∧ p ≤ 4611686018427387904) : I64 p := ⟨by omega, by omega⟩
theorem mk_bdE {j N x y : Int} {o : Bool} (hN : 3 ≤ N ∧ N ≤ 575) (h : mk j N = (x, y, o)) : 0 ≤ x ∧ x ≤ 999999 ∧ 1 ≤ y ∧ y ≤ 1000000 := by
  have b := low_bd j N (by omega)
  have l := low_lt j N (by omega)
  rw [show mk j N = (lowNum j N, lowDen j N, true) from if_pos (by omega)] at h
  simp only [Prod.mk.injEq] at h
  obtain ⟨rfl, rfl, -⟩ := h
  omega
set_option maxHeartbeats 6400000 in
theorem seen_any (h : Int) (L : List Int) (a : Option Addr) (n cp : Nat) (w0 : World) (b T : Nat) (hO : CurOK L a n w0 b) (hT : T ≤ 500000) (w : World) (hC : Cur w0 w b a n cp T) :
    Calls Tryz.prog 54 #[.pointer (some ⟨b, 0, none⟩), .int .i64 h] w fun e w' => ∃ p q x y, e = .returned (sn p q x y) ∧ (I64 p ∧ I64 q ∧ I64 x ∧ I64 y) ∧ Cur w0 w' b a n cp (T + 24) ∧ w.grownBy w' (some b) := by
  have HC := Lib.hid hC
  clear hC
  have hlt := Cur.lt HC.out
  (go_enter Tryz.func54, Tryz.ntmps54)
  go_wp2_with fail
  refine (turn_any L a n cp w0 b (T + 0)  hO (by omega) _ (Cur.alloc HC.out _)).mono ?_
  rintro e1 w1 ⟨p, q, rfl, ⟨ip, iq⟩, hC1, hg1⟩
  have HC1 := Lib.hid hC1
  have hz1 := hg1.size
  try simp only [World.size_alloc, World.size_setCell, World.size_drew] at hz1
  have r1_A_0 : w1.cell? ⟨w.heap.size, 0, none⟩ = some (.int .i64 0) := (World.grownBy.cell_far hg1 ⟨w.heap.size, 0, none⟩ (by show w.heap.size < _; first | omega | (simp; omega) | go_size) (fun e => by simp only [Option.some.injEq] at e; omega)).trans (by go_simp)
  have z1_A_0 : w1.frozen? ⟨w.heap.size, 0, none⟩ = false := (World.grownBy.frozen_far hg1 ⟨w.heap.size, 0, none⟩ (by show w.heap.size < _; first | omega | (simp; omega) | go_size) (fun e => by simp only [Option.some.injEq] at e; omega)).trans (by go_simp)
  have r1_A_1 : w1.cell? ⟨w.heap.size, 1, none⟩ = some (.int .i64 0) := (World.grownBy.cell_far hg1 ⟨w.heap.size, 1, none⟩ (by show w.heap.size < _; first | omega | (simp; omega) | go_size) (fun e => by simp only [Option.some.injEq] at e; omega)).trans (by go_simp)
  have z1_A_1 : w1.frozen? ⟨w.heap.size, 1, none⟩ = false := (World.grownBy.frozen_far hg1 ⟨w.heap.size, 1, none⟩ (by show w.heap.size < _; first | omega | (simp; omega) | go_size) (fun e => by simp only [Option.some.injEq] at e; omega)).trans (by go_simp)
  have r1_A_2 : w1.cell? ⟨w.heap.size, 2, none⟩ = some (.int .i64 0) := (World.grownBy.cell_far hg1 ⟨w.heap.size, 2, none⟩ (by show w.heap.size < _; first | omega | (simp; omega) | go_size) (fun e => by simp only [Option.some.injEq] at e; omega)).trans (by go_simp)
  have z1_A_2 : w1.frozen? ⟨w.heap.size, 2, none⟩ = false := (World.grownBy.frozen_far hg1 ⟨w.heap.size, 2, none⟩ (by show w.heap.size < _; first | omega | (simp; omega) | go_size) (fun e => by simp only [Option.some.injEq] at e; omega)).trans (by go_simp)
  have r1_A_3 : w1.cell? ⟨w.heap.size, 3, none⟩ = some (.int .i64 0) := (World.grownBy.cell_far hg1 ⟨w.heap.size, 3, none⟩ (by show w.heap.size < _; first | omega | (simp; omega) | go_size) (fun e => by simp only [Option.some.injEq] at e; omega)).trans (by go_simp)
  have z1_A_3 : w1.frozen? ⟨w.heap.size, 3, none⟩ = false := (World.grownBy.frozen_far hg1 ⟨w.heap.size, 3, none⟩ (by show w.heap.size < _; first | omega | (simp; omega) | go_size) (fun e => by simp only [Option.some.injEq] at e; omega)).trans (by go_simp)
  have HG1 := Lib.hid ((grown_trans (World.grownBy_alloc w _ (some b)) hg1))
  clear hC1 hg1 
  cases ga : askB h p q
  · go_wp2_with fail
    refine (diAsked_is h p q ga iq _).mono ?_
    rintro e2 w2 ⟨rfl, hb2⟩
    obtain ⟨hc2, hf2⟩ := bcell hb2
    have hz2 := hb2.size
    try simp only [World.size_alloc, World.size_setCell, World.size_drew] at hz2
    have r2_A_0 : w2.cell? ⟨w.heap.size, 0, none⟩ = some (.int .i64 0) := (hc2 _ _ (by first | omega | go_size)).trans (by first | exact r1_A_0 | exact (World.cell?_alloc_past _ _ _ (by show w.heap.size < _; omega)).trans r1_A_0 | (go_simp; done))
    have z2_A_0 : w2.frozen? ⟨w.heap.size, 0, none⟩ = false := (hf2 _ _ (by first | omega | go_size)).trans (by first | exact z1_A_0 | exact (World.frozen?_alloc_past _ _ _ (by show w.heap.size < _; omega)).trans z1_A_0 | (go_simp; done))
    have r2_A_1 : w2.cell? ⟨w.heap.size, 1, none⟩ = some (.int .i64 0) := (hc2 _ _ (by first | omega | go_size)).trans (by first | exact r1_A_1 | exact (World.cell?_alloc_past _ _ _ (by show w.heap.size < _; omega)).trans r1_A_1 | (go_simp; done))
    have z2_A_1 : w2.frozen? ⟨w.heap.size, 1, none⟩ = false := (hf2 _ _ (by first | omega | go_size)).trans (by first | exact z1_A_1 | exact (World.frozen?_alloc_past _ _ _ (by show w.heap.size < _; omega)).trans z1_A_1 | (go_simp; done))
    have r2_A_2 : w2.cell? ⟨w.heap.size, 2, none⟩ = some (.int .i64 0) := (hc2 _ _ (by first | omega | go_size)).trans (by first | exact r1_A_2 | exact (World.cell?_alloc_past _ _ _ (by show w.heap.size < _; omega)).trans r1_A_2 | (go_simp; done))
    have z2_A_2 : w2.frozen? ⟨w.heap.size, 2, none⟩ = false := (hf2 _ _ (by first | omega | go_size)).trans (by first | exact z1_A_2 | exact (World.frozen?_alloc_past _ _ _ (by show w.heap.size < _; omega)).trans z1_A_2 | (go_simp; done))
    have r2_A_3 : w2.cell? ⟨w.heap.size, 3, none⟩ = some (.int .i64 0) := (hc2 _ _ (by first | omega | go_size)).trans (by first | exact r1_A_3 | exact (World.cell?_alloc_past _ _ _ (by show w.heap.size < _; omega)).trans r1_A_3 | (go_simp; done))
    have z2_A_3 : w2.frozen? ⟨w.heap.size, 3, none⟩ = false := (hf2 _ _ (by first | omega | go_size)).trans (by first | exact z1_A_3 | exact (World.frozen?_alloc_past _ _ _ (by show w.heap.size < _; omega)).trans z1_A_3 | (go_simp; done))
    have r2_T_0 : w2.cell? ⟨w1.heap.size, 0, none⟩ = some (.int .i64 p) := (hc2 _ _ (by first | omega | go_size)).trans (by go_simp)
    have z2_T_0 : w2.frozen? ⟨w1.heap.size, 0, none⟩ = false := (hf2 _ _ (by first | omega | go_size)).trans (by go_simp)
    have r2_T_1 : w2.cell? ⟨w1.heap.size, 1, none⟩ = some (.int .i64 q) := (hc2 _ _ (by first | omega | go_size)).trans (by go_simp)
    have z2_T_1 : w2.frozen? ⟨w1.heap.size, 1, none⟩ = false := (hf2 _ _ (by first | omega | go_size)).trans (by go_simp)
    have HC2 := Lib.hid (Cur.below (Cur.far HC1.out ((show Below w.heap.size w1 _ from by (repeat' (first | (with_reducible exact Below.refl _ _) | (with_reducible assumption) | (with_reducible refine Below.alloc ?_ ?_ _) | (with_reducible refine Below.drew ?_) | (with_reducible refine below_drewN ?_ _) | (with_reducible refine Below.setCell ?_ ?_ _) | (with_reducible refine below_call ?_ ?_ (by assumption)) | go_size))).mono (by omega))) hb2)
    have HG2 := Lib.hid (grown_trans (grown_far HG1.out (by (repeat' (first | (with_reducible exact Below.refl _ _) | (with_reducible assumption) | (with_reducible refine Below.alloc ?_ ?_ _) | (with_reducible refine Below.drew ?_) | (with_reducible refine below_drewN ?_ _) | (with_reducible refine Below.setCell ?_ ?_ _) | (with_reducible refine below_call ?_ ?_ (by assumption)) | go_size)))) (below_grown hb2 (some b)))
    clear hc2 hf2 hb2 r1_A_0 z1_A_0 r1_A_1 z1_A_1 r1_A_2 z1_A_2 r1_A_3 z1_A_3
    go_wp2_with fail
    have hS0 : Below w2.heap.size w2 w2.drew := (Below.refl _ _).drew
    have hSS : (w2.drew).cell? ⟨w1.heap.size, 0, none⟩ = some (.int .i64 p) ∧ (w2.drew).cell? ⟨w1.heap.size, 1, none⟩ = some (.int .i64 q) := ⟨r2_T_0, r2_T_1⟩
    refine wp_region_held (by kernel_rfl) (S := fun W => W.cell? ⟨w1.heap.size, 0, none⟩ = some (.int .i64 p) ∧ W.cell? ⟨w1.heap.size, 1, none⟩ = some (.int .i64 q)) ?_
    refine take_first (i := 0) (v := tv p q) _ rfl rfl (by kernel_rfl) (by kernel_rfl) (by kernel_rfl) (fun _ _ _ h => h) (by rfl) ?_ (by assumption) ?_
    · intro wq hq
      obtain ⟨xq0, xq1⟩ := hq
      go_simp
      try rfl
    try simp only [Act.put, List.setIfInBounds_toArray, List.set_cons_zero, List.set_cons_succ]
    refine take_first (i := 1) (v := .pointer (some ⟨b, 0, none⟩)) _ rfl rfl (by kernel_rfl) (by kernel_rfl) (by kernel_rfl) (fun _ _ _ h => h) (by rfl) ?_ (by assumption) ?_
    · intro wq hq
      obtain ⟨xq0, xq1⟩ := hq
      go_simp
      try rfl
    try simp only [Act.put, List.setIfInBounds_toArray, List.set_cons_zero, List.set_cons_succ]
    refine wpAnyH_all (rs := [2]) (by kernel_rfl) (by decide) (List.forall_mem_cons.2 ⟨?_, fun _ h => absurd h List.not_mem_nil⟩)
    refine wpOp_wp rfl rfl (wp_call_at _ rfl (f := 55) (args := #[.pointer (some ⟨b, 0, none⟩)]) (by go_simp) ((turn_any L a n cp w0 b (T + 8) hO (by omega) _ (Cur.below HC2.out hS0)).mono ?_))
    rintro e3 w3 ⟨x, y, rfl, ⟨ix, iy⟩, hC3, hg3⟩
    have HC3 := Lib.hid hC3
    have hz3 := hg3.size
    try simp only [World.size_drew] at hz3
    have r3_A_0 : w3.cell? ⟨w.heap.size, 0, none⟩ = some (.int .i64 0) := (World.grownBy.cell_far hg3 ⟨w.heap.size, 0, none⟩ (by show w.heap.size < _; first | omega | (simp; omega) | go_size) (fun e => by simp only [Option.some.injEq] at e; omega)).trans (r2_A_0)
    have z3_A_0 : w3.frozen? ⟨w.heap.size, 0, none⟩ = false := (World.grownBy.frozen_far hg3 ⟨w.heap.size, 0, none⟩ (by show w.heap.size < _; first | omega | (simp; omega) | go_size) (fun e => by simp only [Option.some.injEq] at e; omega)).trans (z2_A_0)
    have r3_A_1 : w3.cell? ⟨w.heap.size, 1, none⟩ = some (.int .i64 0) := (World.grownBy.cell_far hg3 ⟨w.heap.size, 1, none⟩ (by show w.heap.size < _; first | omega | (simp; omega) | go_size) (fun e => by simp only [Option.some.injEq] at e; omega)).trans (r2_A_1)
    have z3_A_1 : w3.frozen? ⟨w.heap.size, 1, none⟩ = false := (World.grownBy.frozen_far hg3 ⟨w.heap.size, 1, none⟩ (by show w.heap.size < _; first | omega | (simp; omega) | go_size) (fun e => by simp only [Option.some.injEq] at e; omega)).trans (z2_A_1)
    have r3_A_2 : w3.cell? ⟨w.heap.size, 2, none⟩ = some (.int .i64 0) := (World.grownBy.cell_far hg3 ⟨w.heap.size, 2, none⟩ (by show w.heap.size < _; first | omega | (simp; omega) | go_size) (fun e => by simp only [Option.some.injEq] at e; omega)).trans (r2_A_2)
    have z3_A_2 : w3.frozen? ⟨w.heap.size, 2, none⟩ = false := (World.grownBy.frozen_far hg3 ⟨w.heap.size, 2, none⟩ (by show w.heap.size < _; first | omega | (simp; omega) | go_size) (fun e => by simp only [Option.some.injEq] at e; omega)).trans (z2_A_2)
    have r3_A_3 : w3.cell? ⟨w.heap.size, 3, none⟩ = some (.int .i64 0) := (World.grownBy.cell_far hg3 ⟨w.heap.size, 3, none⟩ (by show w.heap.size < _; first | omega | (simp; omega) | go_size) (fun e => by simp only [Option.some.injEq] at e; omega)).trans (r2_A_3)
    have z3_A_3 : w3.frozen? ⟨w.heap.size, 3, none⟩ = false := (World.grownBy.frozen_far hg3 ⟨w.heap.size, 3, none⟩ (by show w.heap.size < _; first | omega | (simp; omega) | go_size) (fun e => by simp only [Option.some.injEq] at e; omega)).trans (z2_A_3)
    have r3_T_0 : w3.cell? ⟨w1.heap.size, 0, none⟩ = some (.int .i64 p) := (World.grownBy.cell_far hg3 ⟨w1.heap.size, 0, none⟩ (by show w1.heap.size < _; first | omega | (simp; omega) | go_size) (fun e => by simp only [Option.some.injEq] at e; omega)).trans (r2_T_0)
    have z3_T_0 : w3.frozen? ⟨w1.heap.size, 0, none⟩ = false := (World.grownBy.frozen_far hg3 ⟨w1.heap.size, 0, none⟩ (by show w1.heap.size < _; first | omega | (simp; omega) | go_size) (fun e => by simp only [Option.some.injEq] at e; omega)).trans (z2_T_0)
    have r3_T_1 : w3.cell? ⟨w1.heap.size, 1, none⟩ = some (.int .i64 q) := (World.grownBy.cell_far hg3 ⟨w1.heap.size, 1, none⟩ (by show w1.heap.size < _; first | omega | (simp; omega) | go_size) (fun e => by simp only [Option.some.injEq] at e; omega)).trans (r2_T_1)
    have z3_T_1 : w3.frozen? ⟨w1.heap.size, 1, none⟩ = false := (World.grownBy.frozen_far hg3 ⟨w1.heap.size, 1, none⟩ (by show w1.heap.size < _; first | omega | (simp; omega) | go_size) (fun e => by simp only [Option.some.injEq] at e; omega)).trans (z2_T_1)
    have HG3 := Lib.hid (grown_trans (grown_trans HG2.out (below_grown hS0 (some b))) hg3)
    clear hC3 hg3 hSS hS0 r2_A_0 z2_A_0 r2_A_1 z2_A_1 r2_A_2 z2_A_2 r2_A_3 z2_A_3 r2_T_0 z2_T_0 r2_T_1 z2_T_1
    refine ⟨_, rfl, ⟨r3_T_0, r3_T_1⟩, ?_⟩
    try simp only [Act.put, List.setIfInBounds_toArray, List.set_cons_zero, List.set_cons_succ]
    refine wpAnyH_all (rs := [3]) (by kernel_rfl) (by decide) (List.forall_mem_cons.2 ⟨?_, fun _ h => absurd h List.not_mem_nil⟩)
    refine wpOp_value (v := sn p q x y) (w' := w3) _ rfl rfl rfl (by go_simp; try rfl) ⟨⟨r3_T_0, r3_T_1⟩, ?_⟩
    try simp only [Act.put, List.setIfInBounds_toArray, List.set_cons_zero, List.set_cons_succ]
    refine wpAnyH_all (rs := [4]) (by kernel_rfl) (by decide) (List.forall_mem_cons.2 ⟨?_, fun _ h => absurd h List.not_mem_nil⟩)
    have hne : w1.heap.size ≠ w.heap.size := by omega
    refine wpOp_store rfl rfl (w' := (((w3.setCell ⟨w.heap.size, 0, none⟩ (.int .i64 p)).setCell ⟨w.heap.size, 1, none⟩ (.int .i64 q)).setCell ⟨w.heap.size, 2, none⟩ (.int .i64 x)).setCell ⟨w.heap.size, 3, none⟩ (.int .i64 y)) (by go_simp; try rfl) ⟨⟨by go_simp, by go_simp⟩, ?_⟩
    refine wpAnyH_done (by kernel_rfl) ?_ _
    try simp only [Act.put, List.setIfInBounds_toArray, List.set_cons_zero, List.set_cons_succ]
    have s3_A : w.heap.size < w3.heap.size := by omega
    have s3_T : w1.heap.size < w3.heap.size := by omega
    go_wp2
    (refine bodyPost_ret (by simp [results, Tryz.results54, go_sem, *]; try rfl) rfl ?_)
    refine ⟨p, q, x, y, rfl, ⟨ip, iq, ix, iy⟩, Cur.far (Cur.mono HC3.out (by omega)) ((show Below w.heap.size w3 _ from by (repeat' (first | (with_reducible exact Below.refl _ _) | (with_reducible assumption) | (with_reducible refine Below.alloc ?_ ?_ _) | (with_reducible refine Below.drew ?_) | (with_reducible refine below_drewN ?_ _) | (with_reducible refine Below.setCell ?_ ?_ _) | (with_reducible refine below_call ?_ ?_ (by assumption)) | go_size))).mono (by omega)), grown_far HG3.out (by (repeat' (first | (with_reducible exact Below.refl _ _) | (with_reducible assumption) | (with_reducible refine Below.alloc ?_ ?_ _) | (with_reducible refine Below.drew ?_) | (with_reducible refine below_drewN ?_ _) | (with_reducible refine Below.setCell ?_ ?_ _) | (with_reducible refine below_call ?_ ?_ (by assumption)) | go_size)))⟩
  obtain ⟨hh2, gd⟩ := askB_all ga
  obtain ⟨d1, d2, n1, n2⟩ := goodB_bd gd
  have hq2 := hhE hh2
  go_wp2_with fail
  refine (diAsked_is h p q ga iq _).mono ?_
  rintro e2 w2 ⟨rfl, hb2⟩
  obtain ⟨hc2, hf2⟩ := bcell hb2
  have hz2 := hb2.size
  try simp only [World.size_alloc, World.size_setCell, World.size_drew] at hz2
  have r2_A_0 : w2.cell? ⟨w.heap.size, 0, none⟩ = some (.int .i64 0) := (hc2 _ _ (by first | omega | go_size)).trans (by first | exact r1_A_0 | exact (World.cell?_alloc_past _ _ _ (by show w.heap.size < _; omega)).trans r1_A_0 | (go_simp; done))
  have z2_A_0 : w2.frozen? ⟨w.heap.size, 0, none⟩ = false := (hf2 _ _ (by first | omega | go_size)).trans (by first | exact z1_A_0 | exact (World.frozen?_alloc_past _ _ _ (by show w.heap.size < _; omega)).trans z1_A_0 | (go_simp; done))
  have r2_A_1 : w2.cell? ⟨w.heap.size, 1, none⟩ = some (.int .i64 0) := (hc2 _ _ (by first | omega | go_size)).trans (by first | exact r1_A_1 | exact (World.cell?_alloc_past _ _ _ (by show w.heap.size < _; omega)).trans r1_A_1 | (go_simp; done))
  have z2_A_1 : w2.frozen? ⟨w.heap.size, 1, none⟩ = false := (hf2 _ _ (by first | omega | go_size)).trans (by first | exact z1_A_1 | exact (World.frozen?_alloc_past _ _ _ (by show w.heap.size < _; omega)).trans z1_A_1 | (go_simp; done))
  have r2_A_2 : w2.cell? ⟨w.heap.size, 2, none⟩ = some (.int .i64 0) := (hc2 _ _ (by first | omega | go_size)).trans (by first | exact r1_A_2 | exact (World.cell?_alloc_past _ _ _ (by show w.heap.size < _; omega)).trans r1_A_2 | (go_simp; done))
  have z2_A_2 : w2.frozen? ⟨w.heap.size, 2, none⟩ = false := (hf2 _ _ (by first | omega | go_size)).trans (by first | exact z1_A_2 | exact (World.frozen?_alloc_past _ _ _ (by show w.heap.size < _; omega)).trans z1_A_2 | (go_simp; done))
  have r2_A_3 : w2.cell? ⟨w.heap.size, 3, none⟩ = some (.int .i64 0) := (hc2 _ _ (by first | omega | go_size)).trans (by first | exact r1_A_3 | exact (World.cell?_alloc_past _ _ _ (by show w.heap.size < _; omega)).trans r1_A_3 | (go_simp; done))
  have z2_A_3 : w2.frozen? ⟨w.heap.size, 3, none⟩ = false := (hf2 _ _ (by first | omega | go_size)).trans (by first | exact z1_A_3 | exact (World.frozen?_alloc_past _ _ _ (by show w.heap.size < _; omega)).trans z1_A_3 | (go_simp; done))
  have r2_T_0 : w2.cell? ⟨w1.heap.size, 0, none⟩ = some (.int .i64 p) := (hc2 _ _ (by first | omega | go_size)).trans (by go_simp)
  have z2_T_0 : w2.frozen? ⟨w1.heap.size, 0, none⟩ = false := (hf2 _ _ (by first | omega | go_size)).trans (by go_simp)
  have r2_T_1 : w2.cell? ⟨w1.heap.size, 1, none⟩ = some (.int .i64 q) := (hc2 _ _ (by first | omega | go_size)).trans (by go_simp)
  have z2_T_1 : w2.frozen? ⟨w1.heap.size, 1, none⟩ = false := (hf2 _ _ (by first | omega | go_size)).trans (by go_simp)
  have HC2 := Lib.hid (Cur.below (Cur.far HC1.out ((show Below w.heap.size w1 _ from by (repeat' (first | (with_reducible exact Below.refl _ _) | (with_reducible assumption) | (with_reducible refine Below.alloc ?_ ?_ _) | (with_reducible refine Below.drew ?_) | (with_reducible refine below_drewN ?_ _) | (with_reducible refine Below.setCell ?_ ?_ _) | (with_reducible refine below_call ?_ ?_ (by assumption)) | go_size))).mono (by omega))) hb2)
  have HG2 := Lib.hid (grown_trans (grown_far HG1.out (by (repeat' (first | (with_reducible exact Below.refl _ _) | (with_reducible assumption) | (with_reducible refine Below.alloc ?_ ?_ _) | (with_reducible refine Below.drew ?_) | (with_reducible refine below_drewN ?_ _) | (with_reducible refine Below.setCell ?_ ?_ _) | (with_reducible refine below_call ?_ ?_ (by assumption)) | go_size)))) (below_grown hb2 (some b)))
  clear hc2 hf2 hb2 r1_A_0 z1_A_0 r1_A_1 z1_A_1 r1_A_2 z1_A_2 r1_A_3 z1_A_3
  go_wp2_with fail
  refine (one_any L a n cp w0 b (T + 8) 5 (by omega) hO (by omega) _ HC2.out).mono ?_
  rintro e3 w3 ⟨o5, rfl, hC3, hg3⟩
  have HC3 := Lib.hid hC3
  have hz3 := hg3.size
  try simp only [World.size_alloc, World.size_setCell, World.size_drew] at hz3
  have r3_A_0 : w3.cell? ⟨w.heap.size, 0, none⟩ = some (.int .i64 0) := (World.grownBy.cell_far hg3 ⟨w.heap.size, 0, none⟩ (by show w.heap.size < _; first | omega | (simp; omega) | go_size) (fun e => by simp only [Option.some.injEq] at e; omega)).trans (r2_A_0)
  have z3_A_0 : w3.frozen? ⟨w.heap.size, 0, none⟩ = false := (World.grownBy.frozen_far hg3 ⟨w.heap.size, 0, none⟩ (by show w.heap.size < _; first | omega | (simp; omega) | go_size) (fun e => by simp only [Option.some.injEq] at e; omega)).trans (z2_A_0)
  have r3_A_1 : w3.cell? ⟨w.heap.size, 1, none⟩ = some (.int .i64 0) := (World.grownBy.cell_far hg3 ⟨w.heap.size, 1, none⟩ (by show w.heap.size < _; first | omega | (simp; omega) | go_size) (fun e => by simp only [Option.some.injEq] at e; omega)).trans (r2_A_1)
  have z3_A_1 : w3.frozen? ⟨w.heap.size, 1, none⟩ = false := (World.grownBy.frozen_far hg3 ⟨w.heap.size, 1, none⟩ (by show w.heap.size < _; first | omega | (simp; omega) | go_size) (fun e => by simp only [Option.some.injEq] at e; omega)).trans (z2_A_1)
  have r3_A_2 : w3.cell? ⟨w.heap.size, 2, none⟩ = some (.int .i64 0) := (World.grownBy.cell_far hg3 ⟨w.heap.size, 2, none⟩ (by show w.heap.size < _; first | omega | (simp; omega) | go_size) (fun e => by simp only [Option.some.injEq] at e; omega)).trans (r2_A_2)
  have z3_A_2 : w3.frozen? ⟨w.heap.size, 2, none⟩ = false := (World.grownBy.frozen_far hg3 ⟨w.heap.size, 2, none⟩ (by show w.heap.size < _; first | omega | (simp; omega) | go_size) (fun e => by simp only [Option.some.injEq] at e; omega)).trans (z2_A_2)
  have r3_A_3 : w3.cell? ⟨w.heap.size, 3, none⟩ = some (.int .i64 0) := (World.grownBy.cell_far hg3 ⟨w.heap.size, 3, none⟩ (by show w.heap.size < _; first | omega | (simp; omega) | go_size) (fun e => by simp only [Option.some.injEq] at e; omega)).trans (r2_A_3)
  have z3_A_3 : w3.frozen? ⟨w.heap.size, 3, none⟩ = false := (World.grownBy.frozen_far hg3 ⟨w.heap.size, 3, none⟩ (by show w.heap.size < _; first | omega | (simp; omega) | go_size) (fun e => by simp only [Option.some.injEq] at e; omega)).trans (z2_A_3)
  have r3_T_0 : w3.cell? ⟨w1.heap.size, 0, none⟩ = some (.int .i64 p) := (World.grownBy.cell_far hg3 ⟨w1.heap.size, 0, none⟩ (by show w1.heap.size < _; first | omega | (simp; omega) | go_size) (fun e => by simp only [Option.some.injEq] at e; omega)).trans (r2_T_0)
  have z3_T_0 : w3.frozen? ⟨w1.heap.size, 0, none⟩ = false := (World.grownBy.frozen_far hg3 ⟨w1.heap.size, 0, none⟩ (by show w1.heap.size < _; first | omega | (simp; omega) | go_size) (fun e => by simp only [Option.some.injEq] at e; omega)).trans (z2_T_0)
  have r3_T_1 : w3.cell? ⟨w1.heap.size, 1, none⟩ = some (.int .i64 q) := (World.grownBy.cell_far hg3 ⟨w1.heap.size, 1, none⟩ (by show w1.heap.size < _; first | omega | (simp; omega) | go_size) (fun e => by simp only [Option.some.injEq] at e; omega)).trans (r2_T_1)
  have z3_T_1 : w3.frozen? ⟨w1.heap.size, 1, none⟩ = false := (World.grownBy.frozen_far hg3 ⟨w1.heap.size, 1, none⟩ (by show w1.heap.size < _; first | omega | (simp; omega) | go_size) (fun e => by simp only [Option.some.injEq] at e; omega)).trans (z2_T_1)
  have HG3 := Lib.hid (grown_trans HG2.out hg3)
  clear hC3 hg3 r2_A_0 z2_A_0 r2_A_1 z2_A_1 r2_A_2 z2_A_2 r2_A_3 z2_A_3 r2_T_0 z2_T_0 r2_T_1 z2_T_1
  cases o5 with
  | true =>
    go_wp2_with fail
    have hS0 : Below w3.heap.size w3 w3.drew := (Below.refl _ _).drew
    have hSS : (w3.drew).cell? ⟨w1.heap.size, 0, none⟩ = some (.int .i64 p) ∧ (w3.drew).cell? ⟨w1.heap.size, 1, none⟩ = some (.int .i64 q) := ⟨r3_T_0, r3_T_1⟩
    refine wp_region_held (by kernel_rfl) (S := fun W => W.cell? ⟨w1.heap.size, 0, none⟩ = some (.int .i64 p) ∧ W.cell? ⟨w1.heap.size, 1, none⟩ = some (.int .i64 q)) ?_
    refine take_first (i := 0) (v := tv p q) _ rfl rfl (by kernel_rfl) (by kernel_rfl) (by kernel_rfl) (fun _ _ _ h => h) (by rfl) ?_ (by assumption) ?_
    · intro wq hq
      obtain ⟨xq0, xq1⟩ := hq
      go_simp
      try rfl
    try simp only [Act.put, List.setIfInBounds_toArray, List.set_cons_zero, List.set_cons_succ]
    refine take_first (i := 1) (v := .pointer (some ⟨b, 0, none⟩)) _ rfl rfl (by kernel_rfl) (by kernel_rfl) (by kernel_rfl) (fun _ _ _ h => h) (by rfl) ?_ (by assumption) ?_
    · intro wq hq
      obtain ⟨xq0, xq1⟩ := hq
      go_simp
      try rfl
    try simp only [Act.put, List.setIfInBounds_toArray, List.set_cons_zero, List.set_cons_succ]
    refine wpAnyH_all (rs := [2]) (by kernel_rfl) (by decide) (List.forall_mem_cons.2 ⟨?_, fun _ h => absurd h List.not_mem_nil⟩)
    refine wpOp_wp rfl rfl (wp_call_at _ rfl (f := 55) (args := #[.pointer (some ⟨b, 0, none⟩)]) (by go_simp) ((turn_any L a n cp w0 b (T + 10) hO (by omega) _ (Cur.below HC3.out hS0)).mono ?_))
    rintro e4 w4 ⟨x, y, rfl, ⟨ix, iy⟩, hC4, hg4⟩
    have HC4 := Lib.hid hC4
    have hz4 := hg4.size
    try simp only [World.size_drew] at hz4
    have r4_A_0 : w4.cell? ⟨w.heap.size, 0, none⟩ = some (.int .i64 0) := (World.grownBy.cell_far hg4 ⟨w.heap.size, 0, none⟩ (by show w.heap.size < _; first | omega | (simp; omega) | go_size) (fun e => by simp only [Option.some.injEq] at e; omega)).trans (r3_A_0)
    have z4_A_0 : w4.frozen? ⟨w.heap.size, 0, none⟩ = false := (World.grownBy.frozen_far hg4 ⟨w.heap.size, 0, none⟩ (by show w.heap.size < _; first | omega | (simp; omega) | go_size) (fun e => by simp only [Option.some.injEq] at e; omega)).trans (z3_A_0)
    have r4_A_1 : w4.cell? ⟨w.heap.size, 1, none⟩ = some (.int .i64 0) := (World.grownBy.cell_far hg4 ⟨w.heap.size, 1, none⟩ (by show w.heap.size < _; first | omega | (simp; omega) | go_size) (fun e => by simp only [Option.some.injEq] at e; omega)).trans (r3_A_1)
    have z4_A_1 : w4.frozen? ⟨w.heap.size, 1, none⟩ = false := (World.grownBy.frozen_far hg4 ⟨w.heap.size, 1, none⟩ (by show w.heap.size < _; first | omega | (simp; omega) | go_size) (fun e => by simp only [Option.some.injEq] at e; omega)).trans (z3_A_1)
    have r4_A_2 : w4.cell? ⟨w.heap.size, 2, none⟩ = some (.int .i64 0) := (World.grownBy.cell_far hg4 ⟨w.heap.size, 2, none⟩ (by show w.heap.size < _; first | omega | (simp; omega) | go_size) (fun e => by simp only [Option.some.injEq] at e; omega)).trans (r3_A_2)
    have z4_A_2 : w4.frozen? ⟨w.heap.size, 2, none⟩ = false := (World.grownBy.frozen_far hg4 ⟨w.heap.size, 2, none⟩ (by show w.heap.size < _; first | omega | (simp; omega) | go_size) (fun e => by simp only [Option.some.injEq] at e; omega)).trans (z3_A_2)
    have r4_A_3 : w4.cell? ⟨w.heap.size, 3, none⟩ = some (.int .i64 0) := (World.grownBy.cell_far hg4 ⟨w.heap.size, 3, none⟩ (by show w.heap.size < _; first | omega | (simp; omega) | go_size) (fun e => by simp only [Option.some.injEq] at e; omega)).trans (r3_A_3)
    have z4_A_3 : w4.frozen? ⟨w.heap.size, 3, none⟩ = false := (World.grownBy.frozen_far hg4 ⟨w.heap.size, 3, none⟩ (by show w.heap.size < _; first | omega | (simp; omega) | go_size) (fun e => by simp only [Option.some.injEq] at e; omega)).trans (z3_A_3)
    have r4_T_0 : w4.cell? ⟨w1.heap.size, 0, none⟩ = some (.int .i64 p) := (World.grownBy.cell_far hg4 ⟨w1.heap.size, 0, none⟩ (by show w1.heap.size < _; first | omega | (simp; omega) | go_size) (fun e => by simp only [Option.some.injEq] at e; omega)).trans (r3_T_0)
    have z4_T_0 : w4.frozen? ⟨w1.heap.size, 0, none⟩ = false := (World.grownBy.frozen_far hg4 ⟨w1.heap.size, 0, none⟩ (by show w1.heap.size < _; first | omega | (simp; omega) | go_size) (fun e => by simp only [Option.some.injEq] at e; omega)).trans (z3_T_0)
    have r4_T_1 : w4.cell? ⟨w1.heap.size, 1, none⟩ = some (.int .i64 q) := (World.grownBy.cell_far hg4 ⟨w1.heap.size, 1, none⟩ (by show w1.heap.size < _; first | omega | (simp; omega) | go_size) (fun e => by simp only [Option.some.injEq] at e; omega)).trans (r3_T_1)
    have z4_T_1 : w4.frozen? ⟨w1.heap.size, 1, none⟩ = false := (World.grownBy.frozen_far hg4 ⟨w1.heap.size, 1, none⟩ (by show w1.heap.size < _; first | omega | (simp; omega) | go_size) (fun e => by simp only [Option.some.injEq] at e; omega)).trans (z3_T_1)
    have HG4 := Lib.hid (grown_trans (grown_trans HG3.out (below_grown hS0 (some b))) hg4)
    clear hC4 hg4 hSS hS0 r3_A_0 z3_A_0 r3_A_1 z3_A_1 r3_A_2 z3_A_2 r3_A_3 z3_A_3 r3_T_0 z3_T_0 r3_T_1 z3_T_1
    refine ⟨_, rfl, ⟨r4_T_0, r4_T_1⟩, ?_⟩
    try simp only [Act.put, List.setIfInBounds_toArray, List.set_cons_zero, List.set_cons_succ]
    refine wpAnyH_all (rs := [3]) (by kernel_rfl) (by decide) (List.forall_mem_cons.2 ⟨?_, fun _ h => absurd h List.not_mem_nil⟩)
    refine wpOp_value (v := sn p q x y) (w' := w4) _ rfl rfl rfl (by go_simp; try rfl) ⟨⟨r4_T_0, r4_T_1⟩, ?_⟩
    try simp only [Act.put, List.setIfInBounds_toArray, List.set_cons_zero, List.set_cons_succ]
    refine wpAnyH_all (rs := [4]) (by kernel_rfl) (by decide) (List.forall_mem_cons.2 ⟨?_, fun _ h => absurd h List.not_mem_nil⟩)
    have hne : w1.heap.size ≠ w.heap.size := by omega
    refine wpOp_store rfl rfl (w' := (((w4.setCell ⟨w.heap.size, 0, none⟩ (.int .i64 p)).setCell ⟨w.heap.size, 1, none⟩ (.int .i64 q)).setCell ⟨w.heap.size, 2, none⟩ (.int .i64 x)).setCell ⟨w.heap.size, 3, none⟩ (.int .i64 y)) (by go_simp; try rfl) ⟨⟨by go_simp, by go_simp⟩, ?_⟩
    refine wpAnyH_done (by kernel_rfl) ?_ _
    try simp only [Act.put, List.setIfInBounds_toArray, List.set_cons_zero, List.set_cons_succ]
    have s4_A : w.heap.size < w4.heap.size := by omega
    have s4_T : w1.heap.size < w4.heap.size := by omega
    go_wp2
    (refine bodyPost_ret (by simp [results, Tryz.results54, go_sem, *]; try rfl) rfl ?_)
    refine ⟨p, q, x, y, rfl, ⟨ip, iq, ix, iy⟩, Cur.far (Cur.mono HC4.out (by omega)) ((show Below w.heap.size w4 _ from by (repeat' (first | (with_reducible exact Below.refl _ _) | (with_reducible assumption) | (with_reducible refine Below.alloc ?_ ?_ _) | (with_reducible refine Below.drew ?_) | (with_reducible refine below_drewN ?_ _) | (with_reducible refine Below.setCell ?_ ?_ _) | (with_reducible refine below_call ?_ ?_ (by assumption)) | go_size))).mono (by omega)), grown_far HG4.out (by (repeat' (first | (with_reducible exact Below.refl _ _) | (with_reducible assumption) | (with_reducible refine Below.alloc ?_ ?_ _) | (with_reducible refine Below.drew ?_) | (with_reducible refine below_drewN ?_ _) | (with_reducible refine Below.setCell ?_ ?_ _) | (with_reducible refine below_call ?_ ?_ (by assumption)) | go_size)))⟩
  | false =>
    go_wp2_with fail
    refine (one_any L a n cp w0 b (T + 10) 3 (by omega) hO (by omega) _ HC3.out).mono ?_
    rintro e4 w4 ⟨o3, rfl, hC4, hg4⟩
    have HC4 := Lib.hid hC4
    have hz4 := hg4.size
    try simp only [World.size_alloc, World.size_setCell, World.size_drew] at hz4
    have r4_A_0 : w4.cell? ⟨w.heap.size, 0, none⟩ = some (.int .i64 0) := (World.grownBy.cell_far hg4 ⟨w.heap.size, 0, none⟩ (by show w.heap.size < _; first | omega | (simp; omega) | go_size) (fun e => by simp only [Option.some.injEq] at e; omega)).trans (r3_A_0)
    have z4_A_0 : w4.frozen? ⟨w.heap.size, 0, none⟩ = false := (World.grownBy.frozen_far hg4 ⟨w.heap.size, 0, none⟩ (by show w.heap.size < _; first | omega | (simp; omega) | go_size) (fun e => by simp only [Option.some.injEq] at e; omega)).trans (z3_A_0)
    have r4_A_1 : w4.cell? ⟨w.heap.size, 1, none⟩ = some (.int .i64 0) := (World.grownBy.cell_far hg4 ⟨w.heap.size, 1, none⟩ (by show w.heap.size < _; first | omega | (simp; omega) | go_size) (fun e => by simp only [Option.some.injEq] at e; omega)).trans (r3_A_1)
    have z4_A_1 : w4.frozen? ⟨w.heap.size, 1, none⟩ = false := (World.grownBy.frozen_far hg4 ⟨w.heap.size, 1, none⟩ (by show w.heap.size < _; first | omega | (simp; omega) | go_size) (fun e => by simp only [Option.some.injEq] at e; omega)).trans (z3_A_1)
    have r4_A_2 : w4.cell? ⟨w.heap.size, 2, none⟩ = some (.int .i64 0) := (World.grownBy.cell_far hg4 ⟨w.heap.size, 2, none⟩ (by show w.heap.size < _; first | omega | (simp; omega) | go_size) (fun e => by simp only [Option.some.injEq] at e; omega)).trans (r3_A_2)
    have z4_A_2 : w4.frozen? ⟨w.heap.size, 2, none⟩ = false := (World.grownBy.frozen_far hg4 ⟨w.heap.size, 2, none⟩ (by show w.heap.size < _; first | omega | (simp; omega) | go_size) (fun e => by simp only [Option.some.injEq] at e; omega)).trans (z3_A_2)
    have r4_A_3 : w4.cell? ⟨w.heap.size, 3, none⟩ = some (.int .i64 0) := (World.grownBy.cell_far hg4 ⟨w.heap.size, 3, none⟩ (by show w.heap.size < _; first | omega | (simp; omega) | go_size) (fun e => by simp only [Option.some.injEq] at e; omega)).trans (r3_A_3)
    have z4_A_3 : w4.frozen? ⟨w.heap.size, 3, none⟩ = false := (World.grownBy.frozen_far hg4 ⟨w.heap.size, 3, none⟩ (by show w.heap.size < _; first | omega | (simp; omega) | go_size) (fun e => by simp only [Option.some.injEq] at e; omega)).trans (z3_A_3)
    have r4_T_0 : w4.cell? ⟨w1.heap.size, 0, none⟩ = some (.int .i64 p) := (World.grownBy.cell_far hg4 ⟨w1.heap.size, 0, none⟩ (by show w1.heap.size < _; first | omega | (simp; omega) | go_size) (fun e => by simp only [Option.some.injEq] at e; omega)).trans (r3_T_0)
    have z4_T_0 : w4.frozen? ⟨w1.heap.size, 0, none⟩ = false := (World.grownBy.frozen_far hg4 ⟨w1.heap.size, 0, none⟩ (by show w1.heap.size < _; first | omega | (simp; omega) | go_size) (fun e => by simp only [Option.some.injEq] at e; omega)).trans (z3_T_0)
    have r4_T_1 : w4.cell? ⟨w1.heap.size, 1, none⟩ = some (.int .i64 q) := (World.grownBy.cell_far hg4 ⟨w1.heap.size, 1, none⟩ (by show w1.heap.size < _; first | omega | (simp; omega) | go_size) (fun e => by simp only [Option.some.injEq] at e; omega)).trans (r3_T_1)
    have z4_T_1 : w4.frozen? ⟨w1.heap.size, 1, none⟩ = false := (World.grownBy.frozen_far hg4 ⟨w1.heap.size, 1, none⟩ (by show w1.heap.size < _; first | omega | (simp; omega) | go_size) (fun e => by simp only [Option.some.injEq] at e; omega)).trans (z3_T_1)
    have HG4 := Lib.hid (grown_trans HG3.out hg4)
    clear hC4 hg4 r3_A_0 z3_A_0 r3_A_1 z3_A_1 r3_A_2 z3_A_2 r3_A_3 z3_A_3 r3_T_0 z3_T_0 r3_T_1 z3_T_1
    cases o3 with
    | false =>
      have p0 : 0 ≤ p := n1
      go_wp2_with fail
      refine (seOf_any h p q hh2 ⟨by omega, by omega, by omega, by omega⟩ _).mono ?_
      rintro e5 w5 ⟨rfl, hb5⟩
      obtain ⟨hc5, hf5⟩ := bcell hb5
      have hz5 := hb5.size
      try simp only [World.size_alloc, World.size_setCell, World.size_drew] at hz5
      have r5_A_0 : w5.cell? ⟨w.heap.size, 0, none⟩ = some (.int .i64 0) := (hc5 _ _ (by first | omega | go_size)).trans (by first | exact r4_A_0 | exact (World.cell?_alloc_past _ _ _ (by show w.heap.size < _; omega)).trans r4_A_0 | (go_simp; done))
      have z5_A_0 : w5.frozen? ⟨w.heap.size, 0, none⟩ = false := (hf5 _ _ (by first | omega | go_size)).trans (by first | exact z4_A_0 | exact (World.frozen?_alloc_past _ _ _ (by show w.heap.size < _; omega)).trans z4_A_0 | (go_simp; done))
      have r5_A_1 : w5.cell? ⟨w.heap.size, 1, none⟩ = some (.int .i64 0) := (hc5 _ _ (by first | omega | go_size)).trans (by first | exact r4_A_1 | exact (World.cell?_alloc_past _ _ _ (by show w.heap.size < _; omega)).trans r4_A_1 | (go_simp; done))
      have z5_A_1 : w5.frozen? ⟨w.heap.size, 1, none⟩ = false := (hf5 _ _ (by first | omega | go_size)).trans (by first | exact z4_A_1 | exact (World.frozen?_alloc_past _ _ _ (by show w.heap.size < _; omega)).trans z4_A_1 | (go_simp; done))
      have r5_A_2 : w5.cell? ⟨w.heap.size, 2, none⟩ = some (.int .i64 0) := (hc5 _ _ (by first | omega | go_size)).trans (by first | exact r4_A_2 | exact (World.cell?_alloc_past _ _ _ (by show w.heap.size < _; omega)).trans r4_A_2 | (go_simp; done))
      have z5_A_2 : w5.frozen? ⟨w.heap.size, 2, none⟩ = false := (hf5 _ _ (by first | omega | go_size)).trans (by first | exact z4_A_2 | exact (World.frozen?_alloc_past _ _ _ (by show w.heap.size < _; omega)).trans z4_A_2 | (go_simp; done))
      have r5_A_3 : w5.cell? ⟨w.heap.size, 3, none⟩ = some (.int .i64 0) := (hc5 _ _ (by first | omega | go_size)).trans (by first | exact r4_A_3 | exact (World.cell?_alloc_past _ _ _ (by show w.heap.size < _; omega)).trans r4_A_3 | (go_simp; done))
      have z5_A_3 : w5.frozen? ⟨w.heap.size, 3, none⟩ = false := (hf5 _ _ (by first | omega | go_size)).trans (by first | exact z4_A_3 | exact (World.frozen?_alloc_past _ _ _ (by show w.heap.size < _; omega)).trans z4_A_3 | (go_simp; done))
      have r5_T_0 : w5.cell? ⟨w1.heap.size, 0, none⟩ = some (.int .i64 p) := (hc5 _ _ (by first | omega | go_size)).trans (by first | exact r4_T_0 | exact (World.cell?_alloc_past _ _ _ (by show w1.heap.size < _; omega)).trans r4_T_0 | (go_simp; done))
      have z5_T_0 : w5.frozen? ⟨w1.heap.size, 0, none⟩ = false := (hf5 _ _ (by first | omega | go_size)).trans (by first | exact z4_T_0 | exact (World.frozen?_alloc_past _ _ _ (by show w1.heap.size < _; omega)).trans z4_T_0 | (go_simp; done))
      have r5_T_1 : w5.cell? ⟨w1.heap.size, 1, none⟩ = some (.int .i64 q) := (hc5 _ _ (by first | omega | go_size)).trans (by first | exact r4_T_1 | exact (World.cell?_alloc_past _ _ _ (by show w1.heap.size < _; omega)).trans r4_T_1 | (go_simp; done))
      have z5_T_1 : w5.frozen? ⟨w1.heap.size, 1, none⟩ = false := (hf5 _ _ (by first | omega | go_size)).trans (by first | exact z4_T_1 | exact (World.frozen?_alloc_past _ _ _ (by show w1.heap.size < _; omega)).trans z4_T_1 | (go_simp; done))
      have HC5 := Lib.hid (Cur.below (Cur.far HC4.out ((show Below w.heap.size w4 _ from by (repeat' (first | (with_reducible exact Below.refl _ _) | (with_reducible assumption) | (with_reducible refine Below.alloc ?_ ?_ _) | (with_reducible refine Below.drew ?_) | (with_reducible refine below_drewN ?_ _) | (with_reducible refine Below.setCell ?_ ?_ _) | (with_reducible refine below_call ?_ ?_ (by assumption)) | go_size))).mono (by omega))) hb5)
      have HG5 := Lib.hid (grown_trans (grown_far HG4.out (by (repeat' (first | (with_reducible exact Below.refl _ _) | (with_reducible assumption) | (with_reducible refine Below.alloc ?_ ?_ _) | (with_reducible refine Below.drew ?_) | (with_reducible refine below_drewN ?_ _) | (with_reducible refine Below.setCell ?_ ?_ _) | (with_reducible refine below_call ?_ ?_ (by assumption)) | go_size)))) (below_grown hb5 (some b)))
      clear hc5 hf5 hb5 r4_A_0 z4_A_0 r4_A_1 z4_A_1 r4_A_2 z4_A_2 r4_A_3 z4_A_3 r4_T_0 z4_T_0 r4_T_1 z4_T_1
      have lbd := low_bd (p * h) q (by omega)
      have llt := low_lt (p * h) q (by omega)
      have lln := low_le (p * h) q ⟨by omega, by omega⟩
      obtain ⟨l1, l2, l3, l4⟩ := goodB_bd lln
      clear lbd llt lln
      generalize lowNum (p * h) q = u at *
      generalize lowDen (p * h) q = v at *
      go_wp2_with fail
      refine (pick_any L a n cp w0 b (T + 12) 5 (by omega) hO (by omega) _ (Cur.far HC5.out ((show Below w.heap.size w5 _ from by (repeat' (first | (with_reducible exact Below.refl _ _) | (with_reducible assumption) | (with_reducible refine Below.alloc ?_ ?_ _) | (with_reducible refine Below.drew ?_) | (with_reducible refine below_drewN ?_ _) | (with_reducible refine Below.setCell ?_ ?_ _) | (with_reducible refine below_call ?_ ?_ (by assumption)) | go_size))).mono (by omega)))).mono ?_
      rintro e6 w6 ⟨m, rfl, hm, hC6, hg6⟩
      have HC6 := Lib.hid hC6
      have hz6 := hg6.size
      try simp only [World.size_alloc, World.size_setCell, World.size_drew] at hz6
      have r6_A_0 : w6.cell? ⟨w.heap.size, 0, none⟩ = some (.int .i64 0) := (World.grownBy.cell_far hg6 ⟨w.heap.size, 0, none⟩ (by show w.heap.size < _; first | omega | (simp; omega) | go_size) (fun e => by simp only [Option.some.injEq] at e; omega)).trans (by first | (go_simp; done) | exact (World.cell?_alloc_past _ _ _ (by show w.heap.size < _; omega)).trans r5_A_0)
      have z6_A_0 : w6.frozen? ⟨w.heap.size, 0, none⟩ = false := (World.grownBy.frozen_far hg6 ⟨w.heap.size, 0, none⟩ (by show w.heap.size < _; first | omega | (simp; omega) | go_size) (fun e => by simp only [Option.some.injEq] at e; omega)).trans (by first | (go_simp; done) | exact (World.frozen?_alloc_past _ _ _ (by show w.heap.size < _; omega)).trans z5_A_0)
      have r6_A_1 : w6.cell? ⟨w.heap.size, 1, none⟩ = some (.int .i64 0) := (World.grownBy.cell_far hg6 ⟨w.heap.size, 1, none⟩ (by show w.heap.size < _; first | omega | (simp; omega) | go_size) (fun e => by simp only [Option.some.injEq] at e; omega)).trans (by first | (go_simp; done) | exact (World.cell?_alloc_past _ _ _ (by show w.heap.size < _; omega)).trans r5_A_1)
      have z6_A_1 : w6.frozen? ⟨w.heap.size, 1, none⟩ = false := (World.grownBy.frozen_far hg6 ⟨w.heap.size, 1, none⟩ (by show w.heap.size < _; first | omega | (simp; omega) | go_size) (fun e => by simp only [Option.some.injEq] at e; omega)).trans (by first | (go_simp; done) | exact (World.frozen?_alloc_past _ _ _ (by show w.heap.size < _; omega)).trans z5_A_1)
      have r6_A_2 : w6.cell? ⟨w.heap.size, 2, none⟩ = some (.int .i64 0) := (World.grownBy.cell_far hg6 ⟨w.heap.size, 2, none⟩ (by show w.heap.size < _; first | omega | (simp; omega) | go_size) (fun e => by simp only [Option.some.injEq] at e; omega)).trans (by first | (go_simp; done) | exact (World.cell?_alloc_past _ _ _ (by show w.heap.size < _; omega)).trans r5_A_2)
      have z6_A_2 : w6.frozen? ⟨w.heap.size, 2, none⟩ = false := (World.grownBy.frozen_far hg6 ⟨w.heap.size, 2, none⟩ (by show w.heap.size < _; first | omega | (simp; omega) | go_size) (fun e => by simp only [Option.some.injEq] at e; omega)).trans (by first | (go_simp; done) | exact (World.frozen?_alloc_past _ _ _ (by show w.heap.size < _; omega)).trans z5_A_2)
      have r6_A_3 : w6.cell? ⟨w.heap.size, 3, none⟩ = some (.int .i64 0) := (World.grownBy.cell_far hg6 ⟨w.heap.size, 3, none⟩ (by show w.heap.size < _; first | omega | (simp; omega) | go_size) (fun e => by simp only [Option.some.injEq] at e; omega)).trans (by first | (go_simp; done) | exact (World.cell?_alloc_past _ _ _ (by show w.heap.size < _; omega)).trans r5_A_3)
      have z6_A_3 : w6.frozen? ⟨w.heap.size, 3, none⟩ = false := (World.grownBy.frozen_far hg6 ⟨w.heap.size, 3, none⟩ (by show w.heap.size < _; first | omega | (simp; omega) | go_size) (fun e => by simp only [Option.some.injEq] at e; omega)).trans (by first | (go_simp; done) | exact (World.frozen?_alloc_past _ _ _ (by show w.heap.size < _; omega)).trans z5_A_3)
      have r6_T_0 : w6.cell? ⟨w1.heap.size, 0, none⟩ = some (.int .i64 p) := (World.grownBy.cell_far hg6 ⟨w1.heap.size, 0, none⟩ (by show w1.heap.size < _; first | omega | (simp; omega) | go_size) (fun e => by simp only [Option.some.injEq] at e; omega)).trans (by first | (go_simp; done) | exact (World.cell?_alloc_past _ _ _ (by show w1.heap.size < _; omega)).trans r5_T_0)
      have z6_T_0 : w6.frozen? ⟨w1.heap.size, 0, none⟩ = false := (World.grownBy.frozen_far hg6 ⟨w1.heap.size, 0, none⟩ (by show w1.heap.size < _; first | omega | (simp; omega) | go_size) (fun e => by simp only [Option.some.injEq] at e; omega)).trans (by first | (go_simp; done) | exact (World.frozen?_alloc_past _ _ _ (by show w1.heap.size < _; omega)).trans z5_T_0)
      have r6_T_1 : w6.cell? ⟨w1.heap.size, 1, none⟩ = some (.int .i64 q) := (World.grownBy.cell_far hg6 ⟨w1.heap.size, 1, none⟩ (by show w1.heap.size < _; first | omega | (simp; omega) | go_size) (fun e => by simp only [Option.some.injEq] at e; omega)).trans (by first | (go_simp; done) | exact (World.cell?_alloc_past _ _ _ (by show w1.heap.size < _; omega)).trans r5_T_1)
      have z6_T_1 : w6.frozen? ⟨w1.heap.size, 1, none⟩ = false := (World.grownBy.frozen_far hg6 ⟨w1.heap.size, 1, none⟩ (by show w1.heap.size < _; first | omega | (simp; omega) | go_size) (fun e => by simp only [Option.some.injEq] at e; omega)).trans (by first | (go_simp; done) | exact (World.frozen?_alloc_past _ _ _ (by show w1.heap.size < _; omega)).trans z5_T_1)
      have r6_S_0 : w6.cell? ⟨w5.heap.size, 0, none⟩ = some (.int .i64 p) := (World.grownBy.cell_far hg6 ⟨w5.heap.size, 0, none⟩ (by show w5.heap.size < _; first | omega | (simp; omega) | go_size) (fun e => by simp only [Option.some.injEq] at e; omega)).trans (by go_simp)
      have z6_S_0 : w6.frozen? ⟨w5.heap.size, 0, none⟩ = false := (World.grownBy.frozen_far hg6 ⟨w5.heap.size, 0, none⟩ (by show w5.heap.size < _; first | omega | (simp; omega) | go_size) (fun e => by simp only [Option.some.injEq] at e; omega)).trans (by go_simp)
      have r6_S_1 : w6.cell? ⟨w5.heap.size, 1, none⟩ = some (.int .i64 q) := (World.grownBy.cell_far hg6 ⟨w5.heap.size, 1, none⟩ (by show w5.heap.size < _; first | omega | (simp; omega) | go_size) (fun e => by simp only [Option.some.injEq] at e; omega)).trans (by go_simp)
      have z6_S_1 : w6.frozen? ⟨w5.heap.size, 1, none⟩ = false := (World.grownBy.frozen_far hg6 ⟨w5.heap.size, 1, none⟩ (by show w5.heap.size < _; first | omega | (simp; omega) | go_size) (fun e => by simp only [Option.some.injEq] at e; omega)).trans (by go_simp)
      have r6_S_2 : w6.cell? ⟨w5.heap.size, 2, none⟩ = some (.int .i64 u) := (World.grownBy.cell_far hg6 ⟨w5.heap.size, 2, none⟩ (by show w5.heap.size < _; first | omega | (simp; omega) | go_size) (fun e => by simp only [Option.some.injEq] at e; omega)).trans (by go_simp)
      have z6_S_2 : w6.frozen? ⟨w5.heap.size, 2, none⟩ = false := (World.grownBy.frozen_far hg6 ⟨w5.heap.size, 2, none⟩ (by show w5.heap.size < _; first | omega | (simp; omega) | go_size) (fun e => by simp only [Option.some.injEq] at e; omega)).trans (by go_simp)
      have r6_S_3 : w6.cell? ⟨w5.heap.size, 3, none⟩ = some (.int .i64 v) := (World.grownBy.cell_far hg6 ⟨w5.heap.size, 3, none⟩ (by show w5.heap.size < _; first | omega | (simp; omega) | go_size) (fun e => by simp only [Option.some.injEq] at e; omega)).trans (by go_simp)
      have z6_S_3 : w6.frozen? ⟨w5.heap.size, 3, none⟩ = false := (World.grownBy.frozen_far hg6 ⟨w5.heap.size, 3, none⟩ (by show w5.heap.size < _; first | omega | (simp; omega) | go_size) (fun e => by simp only [Option.some.injEq] at e; omega)).trans (by go_simp)
      have HG6 := Lib.hid (grown_trans (grown_far HG5.out (by (repeat' (first | (with_reducible exact Below.refl _ _) | (with_reducible assumption) | (with_reducible refine Below.alloc ?_ ?_ _) | (with_reducible refine Below.drew ?_) | (with_reducible refine below_drewN ?_ _) | (with_reducible refine Below.setCell ?_ ?_ _) | (with_reducible refine below_call ?_ ?_ (by assumption)) | go_size)))) hg6)
      clear hC6 hg6 r5_A_0 z5_A_0 r5_A_1 z5_A_1 r5_A_2 z5_A_2 r5_A_3 z5_A_3 r5_T_0 z5_T_0 r5_T_1 z5_T_1
      by_cases m0 : m = 0
      · subst m0
        go_wp2_with fail
        refine (seExchange_any p q u v _).mono ?_
        rintro e7 w7 ⟨rfl, hb7⟩
        obtain ⟨hc7, hf7⟩ := bcell hb7
        have hz7 := hb7.size
        try simp only [World.size_alloc, World.size_setCell, World.size_drew] at hz7
        have r7_A_0 : w7.cell? ⟨w.heap.size, 0, none⟩ = some (.int .i64 0) := (hc7 _ _ (by first | omega | go_size)).trans (by first | exact r6_A_0 | exact (World.cell?_alloc_past _ _ _ (by show w.heap.size < _; omega)).trans r6_A_0 | (go_simp; done))
        have z7_A_0 : w7.frozen? ⟨w.heap.size, 0, none⟩ = false := (hf7 _ _ (by first | omega | go_size)).trans (by first | exact z6_A_0 | exact (World.frozen?_alloc_past _ _ _ (by show w.heap.size < _; omega)).trans z6_A_0 | (go_simp; done))
        have r7_A_1 : w7.cell? ⟨w.heap.size, 1, none⟩ = some (.int .i64 0) := (hc7 _ _ (by first | omega | go_size)).trans (by first | exact r6_A_1 | exact (World.cell?_alloc_past _ _ _ (by show w.heap.size < _; omega)).trans r6_A_1 | (go_simp; done))
        have z7_A_1 : w7.frozen? ⟨w.heap.size, 1, none⟩ = false := (hf7 _ _ (by first | omega | go_size)).trans (by first | exact z6_A_1 | exact (World.frozen?_alloc_past _ _ _ (by show w.heap.size < _; omega)).trans z6_A_1 | (go_simp; done))
        have r7_A_2 : w7.cell? ⟨w.heap.size, 2, none⟩ = some (.int .i64 0) := (hc7 _ _ (by first | omega | go_size)).trans (by first | exact r6_A_2 | exact (World.cell?_alloc_past _ _ _ (by show w.heap.size < _; omega)).trans r6_A_2 | (go_simp; done))
        have z7_A_2 : w7.frozen? ⟨w.heap.size, 2, none⟩ = false := (hf7 _ _ (by first | omega | go_size)).trans (by first | exact z6_A_2 | exact (World.frozen?_alloc_past _ _ _ (by show w.heap.size < _; omega)).trans z6_A_2 | (go_simp; done))
        have r7_A_3 : w7.cell? ⟨w.heap.size, 3, none⟩ = some (.int .i64 0) := (hc7 _ _ (by first | omega | go_size)).trans (by first | exact r6_A_3 | exact (World.cell?_alloc_past _ _ _ (by show w.heap.size < _; omega)).trans r6_A_3 | (go_simp; done))
        have z7_A_3 : w7.frozen? ⟨w.heap.size, 3, none⟩ = false := (hf7 _ _ (by first | omega | go_size)).trans (by first | exact z6_A_3 | exact (World.frozen?_alloc_past _ _ _ (by show w.heap.size < _; omega)).trans z6_A_3 | (go_simp; done))
        have r7_T_0 : w7.cell? ⟨w1.heap.size, 0, none⟩ = some (.int .i64 p) := (hc7 _ _ (by first | omega | go_size)).trans (by first | exact r6_T_0 | exact (World.cell?_alloc_past _ _ _ (by show w1.heap.size < _; omega)).trans r6_T_0 | (go_simp; done))
        have z7_T_0 : w7.frozen? ⟨w1.heap.size, 0, none⟩ = false := (hf7 _ _ (by first | omega | go_size)).trans (by first | exact z6_T_0 | exact (World.frozen?_alloc_past _ _ _ (by show w1.heap.size < _; omega)).trans z6_T_0 | (go_simp; done))
        have r7_T_1 : w7.cell? ⟨w1.heap.size, 1, none⟩ = some (.int .i64 q) := (hc7 _ _ (by first | omega | go_size)).trans (by first | exact r6_T_1 | exact (World.cell?_alloc_past _ _ _ (by show w1.heap.size < _; omega)).trans r6_T_1 | (go_simp; done))
        have z7_T_1 : w7.frozen? ⟨w1.heap.size, 1, none⟩ = false := (hf7 _ _ (by first | omega | go_size)).trans (by first | exact z6_T_1 | exact (World.frozen?_alloc_past _ _ _ (by show w1.heap.size < _; omega)).trans z6_T_1 | (go_simp; done))
        have r7_S_0 : w7.cell? ⟨w5.heap.size, 0, none⟩ = some (.int .i64 p) := (hc7 _ _ (by first | omega | go_size)).trans (by first | exact r6_S_0 | exact (World.cell?_alloc_past _ _ _ (by show w5.heap.size < _; omega)).trans r6_S_0 | (go_simp; done))
        have z7_S_0 : w7.frozen? ⟨w5.heap.size, 0, none⟩ = false := (hf7 _ _ (by first | omega | go_size)).trans (by first | exact z6_S_0 | exact (World.frozen?_alloc_past _ _ _ (by show w5.heap.size < _; omega)).trans z6_S_0 | (go_simp; done))
        have r7_S_1 : w7.cell? ⟨w5.heap.size, 1, none⟩ = some (.int .i64 q) := (hc7 _ _ (by first | omega | go_size)).trans (by first | exact r6_S_1 | exact (World.cell?_alloc_past _ _ _ (by show w5.heap.size < _; omega)).trans r6_S_1 | (go_simp; done))
        have z7_S_1 : w7.frozen? ⟨w5.heap.size, 1, none⟩ = false := (hf7 _ _ (by first | omega | go_size)).trans (by first | exact z6_S_1 | exact (World.frozen?_alloc_past _ _ _ (by show w5.heap.size < _; omega)).trans z6_S_1 | (go_simp; done))
        have r7_S_2 : w7.cell? ⟨w5.heap.size, 2, none⟩ = some (.int .i64 u) := (hc7 _ _ (by first | omega | go_size)).trans (by first | exact r6_S_2 | exact (World.cell?_alloc_past _ _ _ (by show w5.heap.size < _; omega)).trans r6_S_2 | (go_simp; done))
        have z7_S_2 : w7.frozen? ⟨w5.heap.size, 2, none⟩ = false := (hf7 _ _ (by first | omega | go_size)).trans (by first | exact z6_S_2 | exact (World.frozen?_alloc_past _ _ _ (by show w5.heap.size < _; omega)).trans z6_S_2 | (go_simp; done))
        have r7_S_3 : w7.cell? ⟨w5.heap.size, 3, none⟩ = some (.int .i64 v) := (hc7 _ _ (by first | omega | go_size)).trans (by first | exact r6_S_3 | exact (World.cell?_alloc_past _ _ _ (by show w5.heap.size < _; omega)).trans r6_S_3 | (go_simp; done))
        have z7_S_3 : w7.frozen? ⟨w5.heap.size, 3, none⟩ = false := (hf7 _ _ (by first | omega | go_size)).trans (by first | exact z6_S_3 | exact (World.frozen?_alloc_past _ _ _ (by show w5.heap.size < _; omega)).trans z6_S_3 | (go_simp; done))
        have HC7 := Lib.hid (Cur.below (Cur.far HC6.out ((show Below w.heap.size w6 _ from by (repeat' (first | (with_reducible exact Below.refl _ _) | (with_reducible assumption) | (with_reducible refine Below.alloc ?_ ?_ _) | (with_reducible refine Below.drew ?_) | (with_reducible refine below_drewN ?_ _) | (with_reducible refine Below.setCell ?_ ?_ _) | (with_reducible refine below_call ?_ ?_ (by assumption)) | go_size))).mono (by omega))) hb7)
        have HG7 := Lib.hid (grown_trans (grown_far HG6.out (by (repeat' (first | (with_reducible exact Below.refl _ _) | (with_reducible assumption) | (with_reducible refine Below.alloc ?_ ?_ _) | (with_reducible refine Below.drew ?_) | (with_reducible refine below_drewN ?_ _) | (with_reducible refine Below.setCell ?_ ?_ _) | (with_reducible refine below_call ?_ ?_ (by assumption)) | go_size)))) (below_grown hb7 (some b)))
        clear hc7 hf7 hb7 r6_A_0 z6_A_0 r6_A_1 z6_A_1 r6_A_2 z6_A_2 r6_A_3 z6_A_3 r6_T_0 z6_T_0 r6_T_1 z6_T_1 r6_S_0 z6_S_0 r6_S_1 z6_S_1 r6_S_2 z6_S_2 r6_S_3 z6_S_3
        have s7_A : w.heap.size < w7.heap.size := by omega
        have s7_T : w1.heap.size < w7.heap.size := by omega
        have s7_S : w5.heap.size < w7.heap.size := by omega
        go_wp2
        (refine bodyPost_ret (by simp [results, Tryz.results54, go_sem, *]; try rfl) rfl ?_)
        refine ⟨u, v, p, q, rfl, ⟨i64s (by omega), i64s (by omega), i64s (by omega), i64s (by omega)⟩, Cur.far (Cur.mono HC7.out (by omega)) ((show Below w.heap.size w7 _ from by (repeat' (first | (with_reducible exact Below.refl _ _) | (with_reducible assumption) | (with_reducible refine Below.alloc ?_ ?_ _) | (with_reducible refine Below.drew ?_) | (with_reducible refine below_drewN ?_ _) | (with_reducible refine Below.setCell ?_ ?_ _) | (with_reducible refine below_call ?_ ?_ (by assumption)) | go_size))).mono (by omega)), grown_far HG7.out (by (repeat' (first | (with_reducible exact Below.refl _ _) | (with_reducible assumption) | (with_reducible refine Below.alloc ?_ ?_ _) | (with_reducible refine Below.drew ?_) | (with_reducible refine below_drewN ?_ _) | (with_reducible refine Below.setCell ?_ ?_ _) | (with_reducible refine below_call ?_ ?_ (by assumption)) | go_size)))⟩
      by_cases m1 : m = 1
      · subst m1
        go_wp2_with fail
        refine (seMirror_any p q u v ⟨by omega, by omega, by omega, by omega⟩ ⟨by omega, by omega, by omega, by omega⟩ _).mono ?_
        rintro e7 w7 ⟨rfl, hb7⟩
        obtain ⟨hc7, hf7⟩ := bcell hb7
        have hz7 := hb7.size
        try simp only [World.size_alloc, World.size_setCell, World.size_drew] at hz7
        have r7_A_0 : w7.cell? ⟨w.heap.size, 0, none⟩ = some (.int .i64 0) := (hc7 _ _ (by first | omega | go_size)).trans (by first | exact r6_A_0 | exact (World.cell?_alloc_past _ _ _ (by show w.heap.size < _; omega)).trans r6_A_0 | (go_simp; done))
        have z7_A_0 : w7.frozen? ⟨w.heap.size, 0, none⟩ = false := (hf7 _ _ (by first | omega | go_size)).trans (by first | exact z6_A_0 | exact (World.frozen?_alloc_past _ _ _ (by show w.heap.size < _; omega)).trans z6_A_0 | (go_simp; done))
        have r7_A_1 : w7.cell? ⟨w.heap.size, 1, none⟩ = some (.int .i64 0) := (hc7 _ _ (by first | omega | go_size)).trans (by first | exact r6_A_1 | exact (World.cell?_alloc_past _ _ _ (by show w.heap.size < _; omega)).trans r6_A_1 | (go_simp; done))
        have z7_A_1 : w7.frozen? ⟨w.heap.size, 1, none⟩ = false := (hf7 _ _ (by first | omega | go_size)).trans (by first | exact z6_A_1 | exact (World.frozen?_alloc_past _ _ _ (by show w.heap.size < _; omega)).trans z6_A_1 | (go_simp; done))
        have r7_A_2 : w7.cell? ⟨w.heap.size, 2, none⟩ = some (.int .i64 0) := (hc7 _ _ (by first | omega | go_size)).trans (by first | exact r6_A_2 | exact (World.cell?_alloc_past _ _ _ (by show w.heap.size < _; omega)).trans r6_A_2 | (go_simp; done))
        have z7_A_2 : w7.frozen? ⟨w.heap.size, 2, none⟩ = false := (hf7 _ _ (by first | omega | go_size)).trans (by first | exact z6_A_2 | exact (World.frozen?_alloc_past _ _ _ (by show w.heap.size < _; omega)).trans z6_A_2 | (go_simp; done))
        have r7_A_3 : w7.cell? ⟨w.heap.size, 3, none⟩ = some (.int .i64 0) := (hc7 _ _ (by first | omega | go_size)).trans (by first | exact r6_A_3 | exact (World.cell?_alloc_past _ _ _ (by show w.heap.size < _; omega)).trans r6_A_3 | (go_simp; done))
        have z7_A_3 : w7.frozen? ⟨w.heap.size, 3, none⟩ = false := (hf7 _ _ (by first | omega | go_size)).trans (by first | exact z6_A_3 | exact (World.frozen?_alloc_past _ _ _ (by show w.heap.size < _; omega)).trans z6_A_3 | (go_simp; done))
        have r7_T_0 : w7.cell? ⟨w1.heap.size, 0, none⟩ = some (.int .i64 p) := (hc7 _ _ (by first | omega | go_size)).trans (by first | exact r6_T_0 | exact (World.cell?_alloc_past _ _ _ (by show w1.heap.size < _; omega)).trans r6_T_0 | (go_simp; done))
        have z7_T_0 : w7.frozen? ⟨w1.heap.size, 0, none⟩ = false := (hf7 _ _ (by first | omega | go_size)).trans (by first | exact z6_T_0 | exact (World.frozen?_alloc_past _ _ _ (by show w1.heap.size < _; omega)).trans z6_T_0 | (go_simp; done))
        have r7_T_1 : w7.cell? ⟨w1.heap.size, 1, none⟩ = some (.int .i64 q) := (hc7 _ _ (by first | omega | go_size)).trans (by first | exact r6_T_1 | exact (World.cell?_alloc_past _ _ _ (by show w1.heap.size < _; omega)).trans r6_T_1 | (go_simp; done))
        have z7_T_1 : w7.frozen? ⟨w1.heap.size, 1, none⟩ = false := (hf7 _ _ (by first | omega | go_size)).trans (by first | exact z6_T_1 | exact (World.frozen?_alloc_past _ _ _ (by show w1.heap.size < _; omega)).trans z6_T_1 | (go_simp; done))
        have r7_S_0 : w7.cell? ⟨w5.heap.size, 0, none⟩ = some (.int .i64 p) := (hc7 _ _ (by first | omega | go_size)).trans (by first | exact r6_S_0 | exact (World.cell?_alloc_past _ _ _ (by show w5.heap.size < _; omega)).trans r6_S_0 | (go_simp; done))
        have z7_S_0 : w7.frozen? ⟨w5.heap.size, 0, none⟩ = false := (hf7 _ _ (by first | omega | go_size)).trans (by first | exact z6_S_0 | exact (World.frozen?_alloc_past _ _ _ (by show w5.heap.size < _; omega)).trans z6_S_0 | (go_simp; done))
        have r7_S_1 : w7.cell? ⟨w5.heap.size, 1, none⟩ = some (.int .i64 q) := (hc7 _ _ (by first | omega | go_size)).trans (by first | exact r6_S_1 | exact (World.cell?_alloc_past _ _ _ (by show w5.heap.size < _; omega)).trans r6_S_1 | (go_simp; done))
        have z7_S_1 : w7.frozen? ⟨w5.heap.size, 1, none⟩ = false := (hf7 _ _ (by first | omega | go_size)).trans (by first | exact z6_S_1 | exact (World.frozen?_alloc_past _ _ _ (by show w5.heap.size < _; omega)).trans z6_S_1 | (go_simp; done))
        have r7_S_2 : w7.cell? ⟨w5.heap.size, 2, none⟩ = some (.int .i64 u) := (hc7 _ _ (by first | omega | go_size)).trans (by first | exact r6_S_2 | exact (World.cell?_alloc_past _ _ _ (by show w5.heap.size < _; omega)).trans r6_S_2 | (go_simp; done))
        have z7_S_2 : w7.frozen? ⟨w5.heap.size, 2, none⟩ = false := (hf7 _ _ (by first | omega | go_size)).trans (by first | exact z6_S_2 | exact (World.frozen?_alloc_past _ _ _ (by show w5.heap.size < _; omega)).trans z6_S_2 | (go_simp; done))
        have r7_S_3 : w7.cell? ⟨w5.heap.size, 3, none⟩ = some (.int .i64 v) := (hc7 _ _ (by first | omega | go_size)).trans (by first | exact r6_S_3 | exact (World.cell?_alloc_past _ _ _ (by show w5.heap.size < _; omega)).trans r6_S_3 | (go_simp; done))
        have z7_S_3 : w7.frozen? ⟨w5.heap.size, 3, none⟩ = false := (hf7 _ _ (by first | omega | go_size)).trans (by first | exact z6_S_3 | exact (World.frozen?_alloc_past _ _ _ (by show w5.heap.size < _; omega)).trans z6_S_3 | (go_simp; done))
        have HC7 := Lib.hid (Cur.below (Cur.far HC6.out ((show Below w.heap.size w6 _ from by (repeat' (first | (with_reducible exact Below.refl _ _) | (with_reducible assumption) | (with_reducible refine Below.alloc ?_ ?_ _) | (with_reducible refine Below.drew ?_) | (with_reducible refine below_drewN ?_ _) | (with_reducible refine Below.setCell ?_ ?_ _) | (with_reducible refine below_call ?_ ?_ (by assumption)) | go_size))).mono (by omega))) hb7)
        have HG7 := Lib.hid (grown_trans (grown_far HG6.out (by (repeat' (first | (with_reducible exact Below.refl _ _) | (with_reducible assumption) | (with_reducible refine Below.alloc ?_ ?_ _) | (with_reducible refine Below.drew ?_) | (with_reducible refine below_drewN ?_ _) | (with_reducible refine Below.setCell ?_ ?_ _) | (with_reducible refine below_call ?_ ?_ (by assumption)) | go_size)))) (below_grown hb7 (some b)))
        clear hc7 hf7 hb7 r6_A_0 z6_A_0 r6_A_1 z6_A_1 r6_A_2 z6_A_2 r6_A_3 z6_A_3 r6_T_0 z6_T_0 r6_T_1 z6_T_1 r6_S_0 z6_S_0 r6_S_1 z6_S_1 r6_S_2 z6_S_2 r6_S_3 z6_S_3
        obtain ⟨e1, e2, e3, e4⟩ := goodB_bd (low_le (-p) q ⟨by omega, by omega⟩)
        obtain ⟨f1, f2, f3, f4⟩ := goodB_bd (low_le (-u) v ⟨by omega, by omega⟩)
        generalize lowNum (-p) q = g1 at *
        generalize lowDen (-p) q = g2 at *
        generalize lowNum (-u) v = g3 at *
        generalize lowDen (-u) v = g4 at *
        have s7_A : w.heap.size < w7.heap.size := by omega
        have s7_T : w1.heap.size < w7.heap.size := by omega
        have s7_S : w5.heap.size < w7.heap.size := by omega
        go_wp2
        (refine bodyPost_ret (by simp [results, Tryz.results54, go_sem, *]; try rfl) rfl ?_)
        refine ⟨g1, g2, g3, g4, rfl, ⟨i64s (by omega), i64s (by omega), i64s (by omega), i64s (by omega)⟩, Cur.far (Cur.mono HC7.out (by omega)) ((show Below w.heap.size w7 _ from by (repeat' (first | (with_reducible exact Below.refl _ _) | (with_reducible assumption) | (with_reducible refine Below.alloc ?_ ?_ _) | (with_reducible refine Below.drew ?_) | (with_reducible refine below_drewN ?_ _) | (with_reducible refine Below.setCell ?_ ?_ _) | (with_reducible refine below_call ?_ ?_ (by assumption)) | go_size))).mono (by omega)), grown_far HG7.out (by (repeat' (first | (with_reducible exact Below.refl _ _) | (with_reducible assumption) | (with_reducible refine Below.alloc ?_ ?_ _) | (with_reducible refine Below.drew ?_) | (with_reducible refine below_drewN ?_ _) | (with_reducible refine Below.setCell ?_ ?_ _) | (with_reducible refine below_call ?_ ?_ (by assumption)) | go_size)))⟩
      have mx0 : ((m : Int) == 0) = false := by simp; omega
      have mx1 : ((m : Int) == 1) = false := by simp; omega
      have s6_A : w.heap.size < w6.heap.size := by omega
      have s6_T : w1.heap.size < w6.heap.size := by omega
      have s6_S : w5.heap.size < w6.heap.size := by omega
      go_wp2
      (refine bodyPost_ret (by simp [results, Tryz.results54, go_sem, *]; try rfl) rfl ?_)
      refine ⟨p, q, u, v, rfl, ⟨i64s (by omega), i64s (by omega), i64s (by omega), i64s (by omega)⟩, Cur.far (Cur.mono HC6.out (by omega)) ((show Below w.heap.size w6 _ from by (repeat' (first | (with_reducible exact Below.refl _ _) | (with_reducible assumption) | (with_reducible refine Below.alloc ?_ ?_ _) | (with_reducible refine Below.drew ?_) | (with_reducible refine below_drewN ?_ _) | (with_reducible refine Below.setCell ?_ ?_ _) | (with_reducible refine below_call ?_ ?_ (by assumption)) | go_size))).mono (by omega)), grown_far HG6.out (by (repeat' (first | (with_reducible exact Below.refl _ _) | (with_reducible assumption) | (with_reducible refine Below.alloc ?_ ?_ _) | (with_reducible refine Below.drew ?_) | (with_reducible refine below_drewN ?_ _) | (with_reducible refine Below.setCell ?_ ?_ _) | (with_reducible refine below_call ?_ ?_ (by assumption)) | go_size)))⟩
    | true =>
      have hwh : IntKind.i64.wrap (h * h) = h * h := by rw [IntKind.wrap_i64]; omega
      have hwN : IntKind.i64.wrap (h * h - 1) = h * h - 1 := by rw [IntKind.wrap_i64]; omega
      obtain ⟨N, hN⟩ : ∃ N, h * h - 1 = N := ⟨_, rfl⟩
      go_wp2_with fail
      refine (pick_any L a n cp w0 b (T + 12) (h * h) (by omega) hO (by omega) _ HC4.out).mono ?_
      rintro e5 w5 ⟨j, rfl, hj, hC5, hg5⟩
      have HC5 := Lib.hid hC5
      have hz5 := hg5.size
      try simp only [World.size_alloc, World.size_setCell, World.size_drew] at hz5
      have r5_A_0 : w5.cell? ⟨w.heap.size, 0, none⟩ = some (.int .i64 0) := (World.grownBy.cell_far hg5 ⟨w.heap.size, 0, none⟩ (by show w.heap.size < _; first | omega | (simp; omega) | go_size) (fun e => by simp only [Option.some.injEq] at e; omega)).trans (r4_A_0)
      have z5_A_0 : w5.frozen? ⟨w.heap.size, 0, none⟩ = false := (World.grownBy.frozen_far hg5 ⟨w.heap.size, 0, none⟩ (by show w.heap.size < _; first | omega | (simp; omega) | go_size) (fun e => by simp only [Option.some.injEq] at e; omega)).trans (z4_A_0)
      have r5_A_1 : w5.cell? ⟨w.heap.size, 1, none⟩ = some (.int .i64 0) := (World.grownBy.cell_far hg5 ⟨w.heap.size, 1, none⟩ (by show w.heap.size < _; first | omega | (simp; omega) | go_size) (fun e => by simp only [Option.some.injEq] at e; omega)).trans (r4_A_1)
      have z5_A_1 : w5.frozen? ⟨w.heap.size, 1, none⟩ = false := (World.grownBy.frozen_far hg5 ⟨w.heap.size, 1, none⟩ (by show w.heap.size < _; first | omega | (simp; omega) | go_size) (fun e => by simp only [Option.some.injEq] at e; omega)).trans (z4_A_1)
      have r5_A_2 : w5.cell? ⟨w.heap.size, 2, none⟩ = some (.int .i64 0) := (World.grownBy.cell_far hg5 ⟨w.heap.size, 2, none⟩ (by show w.heap.size < _; first | omega | (simp; omega) | go_size) (fun e => by simp only [Option.some.injEq] at e; omega)).trans (r4_A_2)
      have z5_A_2 : w5.frozen? ⟨w.heap.size, 2, none⟩ = false := (World.grownBy.frozen_far hg5 ⟨w.heap.size, 2, none⟩ (by show w.heap.size < _; first | omega | (simp; omega) | go_size) (fun e => by simp only [Option.some.injEq] at e; omega)).trans (z4_A_2)
      have r5_A_3 : w5.cell? ⟨w.heap.size, 3, none⟩ = some (.int .i64 0) := (World.grownBy.cell_far hg5 ⟨w.heap.size, 3, none⟩ (by show w.heap.size < _; first | omega | (simp; omega) | go_size) (fun e => by simp only [Option.some.injEq] at e; omega)).trans (r4_A_3)
      have z5_A_3 : w5.frozen? ⟨w.heap.size, 3, none⟩ = false := (World.grownBy.frozen_far hg5 ⟨w.heap.size, 3, none⟩ (by show w.heap.size < _; first | omega | (simp; omega) | go_size) (fun e => by simp only [Option.some.injEq] at e; omega)).trans (z4_A_3)
      have r5_T_0 : w5.cell? ⟨w1.heap.size, 0, none⟩ = some (.int .i64 p) := (World.grownBy.cell_far hg5 ⟨w1.heap.size, 0, none⟩ (by show w1.heap.size < _; first | omega | (simp; omega) | go_size) (fun e => by simp only [Option.some.injEq] at e; omega)).trans (r4_T_0)
      have z5_T_0 : w5.frozen? ⟨w1.heap.size, 0, none⟩ = false := (World.grownBy.frozen_far hg5 ⟨w1.heap.size, 0, none⟩ (by show w1.heap.size < _; first | omega | (simp; omega) | go_size) (fun e => by simp only [Option.some.injEq] at e; omega)).trans (z4_T_0)
      have r5_T_1 : w5.cell? ⟨w1.heap.size, 1, none⟩ = some (.int .i64 q) := (World.grownBy.cell_far hg5 ⟨w1.heap.size, 1, none⟩ (by show w1.heap.size < _; first | omega | (simp; omega) | go_size) (fun e => by simp only [Option.some.injEq] at e; omega)).trans (r4_T_1)
      have z5_T_1 : w5.frozen? ⟨w1.heap.size, 1, none⟩ = false := (World.grownBy.frozen_far hg5 ⟨w1.heap.size, 1, none⟩ (by show w1.heap.size < _; first | omega | (simp; omega) | go_size) (fun e => by simp only [Option.some.injEq] at e; omega)).trans (z4_T_1)
      have HG5 := Lib.hid (grown_trans HG4.out hg5)
      clear hC5 hg5 r4_A_0 z4_A_0 r4_A_1 z4_A_1 r4_A_2 z4_A_2 r4_A_3 z4_A_3 r4_T_0 z4_T_0 r4_T_1 z4_T_1
      have j0 : (0 : Int) ≤ (j : Int) := Int.natCast_nonneg _
      have hjb : (j : Int) ≤ 576 := by omega
      rw [hN] at hwN
      have hNb : 3 ≤ N ∧ N ≤ 575 := by omega
      obtain ⟨x, y, ok, hM⟩ : ∃ x y o, mk (j : Int) N = (x, y, o) := ⟨_, _, _, rfl⟩
      have HXY := mk_bdE hNb hM
      obtain ⟨hx1, hx2, hy1, hy2⟩ := HXY
      have HM := Lib.hid hM
      clear hM hj
      go_wp2_with fail
      refine (diMake_val (j : Int) N HM.out (by omega) (by omega) _).mono ?_
      rintro e6 w6 ⟨rfl, hb6⟩
      obtain ⟨hc6, hf6⟩ := bcell hb6
      have hz6 := hb6.size
      try simp only [World.size_alloc, World.size_setCell, World.size_drew] at hz6
      have r6_A_0 : w6.cell? ⟨w.heap.size, 0, none⟩ = some (.int .i64 0) := (hc6 _ _ (by first | omega | go_size)).trans (by first | exact r5_A_0 | exact (World.cell?_alloc_past _ _ _ (by show w.heap.size < _; omega)).trans r5_A_0 | (go_simp; done))
      have z6_A_0 : w6.frozen? ⟨w.heap.size, 0, none⟩ = false := (hf6 _ _ (by first | omega | go_size)).trans (by first | exact z5_A_0 | exact (World.frozen?_alloc_past _ _ _ (by show w.heap.size < _; omega)).trans z5_A_0 | (go_simp; done))
      have r6_A_1 : w6.cell? ⟨w.heap.size, 1, none⟩ = some (.int .i64 0) := (hc6 _ _ (by first | omega | go_size)).trans (by first | exact r5_A_1 | exact (World.cell?_alloc_past _ _ _ (by show w.heap.size < _; omega)).trans r5_A_1 | (go_simp; done))
      have z6_A_1 : w6.frozen? ⟨w.heap.size, 1, none⟩ = false := (hf6 _ _ (by first | omega | go_size)).trans (by first | exact z5_A_1 | exact (World.frozen?_alloc_past _ _ _ (by show w.heap.size < _; omega)).trans z5_A_1 | (go_simp; done))
      have r6_A_2 : w6.cell? ⟨w.heap.size, 2, none⟩ = some (.int .i64 0) := (hc6 _ _ (by first | omega | go_size)).trans (by first | exact r5_A_2 | exact (World.cell?_alloc_past _ _ _ (by show w.heap.size < _; omega)).trans r5_A_2 | (go_simp; done))
      have z6_A_2 : w6.frozen? ⟨w.heap.size, 2, none⟩ = false := (hf6 _ _ (by first | omega | go_size)).trans (by first | exact z5_A_2 | exact (World.frozen?_alloc_past _ _ _ (by show w.heap.size < _; omega)).trans z5_A_2 | (go_simp; done))
      have r6_A_3 : w6.cell? ⟨w.heap.size, 3, none⟩ = some (.int .i64 0) := (hc6 _ _ (by first | omega | go_size)).trans (by first | exact r5_A_3 | exact (World.cell?_alloc_past _ _ _ (by show w.heap.size < _; omega)).trans r5_A_3 | (go_simp; done))
      have z6_A_3 : w6.frozen? ⟨w.heap.size, 3, none⟩ = false := (hf6 _ _ (by first | omega | go_size)).trans (by first | exact z5_A_3 | exact (World.frozen?_alloc_past _ _ _ (by show w.heap.size < _; omega)).trans z5_A_3 | (go_simp; done))
      have r6_T_0 : w6.cell? ⟨w1.heap.size, 0, none⟩ = some (.int .i64 p) := (hc6 _ _ (by first | omega | go_size)).trans (by first | exact r5_T_0 | exact (World.cell?_alloc_past _ _ _ (by show w1.heap.size < _; omega)).trans r5_T_0 | (go_simp; done))
      have z6_T_0 : w6.frozen? ⟨w1.heap.size, 0, none⟩ = false := (hf6 _ _ (by first | omega | go_size)).trans (by first | exact z5_T_0 | exact (World.frozen?_alloc_past _ _ _ (by show w1.heap.size < _; omega)).trans z5_T_0 | (go_simp; done))
      have r6_T_1 : w6.cell? ⟨w1.heap.size, 1, none⟩ = some (.int .i64 q) := (hc6 _ _ (by first | omega | go_size)).trans (by first | exact r5_T_1 | exact (World.cell?_alloc_past _ _ _ (by show w1.heap.size < _; omega)).trans r5_T_1 | (go_simp; done))
      have z6_T_1 : w6.frozen? ⟨w1.heap.size, 1, none⟩ = false := (hf6 _ _ (by first | omega | go_size)).trans (by first | exact z5_T_1 | exact (World.frozen?_alloc_past _ _ _ (by show w1.heap.size < _; omega)).trans z5_T_1 | (go_simp; done))
      have HC6 := Lib.hid (Cur.below (Cur.far HC5.out ((show Below w.heap.size w5 _ from by (repeat' (first | (with_reducible exact Below.refl _ _) | (with_reducible assumption) | (with_reducible refine Below.alloc ?_ ?_ _) | (with_reducible refine Below.drew ?_) | (with_reducible refine below_drewN ?_ _) | (with_reducible refine Below.setCell ?_ ?_ _) | (with_reducible refine below_call ?_ ?_ (by assumption)) | go_size))).mono (by omega))) hb6)
      have HG6 := Lib.hid (grown_trans (grown_far HG5.out (by (repeat' (first | (with_reducible exact Below.refl _ _) | (with_reducible assumption) | (with_reducible refine Below.alloc ?_ ?_ _) | (with_reducible refine Below.drew ?_) | (with_reducible refine below_drewN ?_ _) | (with_reducible refine Below.setCell ?_ ?_ _) | (with_reducible refine below_call ?_ ?_ (by assumption)) | go_size)))) (below_grown hb6 (some b)))
      clear hc6 hf6 hb6 r5_A_0 z5_A_0 r5_A_1 z5_A_1 r5_A_2 z5_A_2 r5_A_3 z5_A_3 r5_T_0 z5_T_0 r5_T_1 z5_T_1
      skip
      go_wp2_with fail
      refine (seOf_any h x y hh2 ⟨by omega, by omega, by omega, by omega⟩ _).mono ?_
      rintro e7 w7 ⟨rfl, hb7⟩
      obtain ⟨hc7, hf7⟩ := bcell hb7
      have hz7 := hb7.size
      try simp only [World.size_alloc, World.size_setCell, World.size_drew] at hz7
      have r7_A_0 : w7.cell? ⟨w.heap.size, 0, none⟩ = some (.int .i64 0) := (hc7 _ _ (by first | omega | go_size)).trans (by first | exact r6_A_0 | exact (World.cell?_alloc_past _ _ _ (by show w.heap.size < _; omega)).trans r6_A_0 | (go_simp; done))
      have z7_A_0 : w7.frozen? ⟨w.heap.size, 0, none⟩ = false := (hf7 _ _ (by first | omega | go_size)).trans (by first | exact z6_A_0 | exact (World.frozen?_alloc_past _ _ _ (by show w.heap.size < _; omega)).trans z6_A_0 | (go_simp; done))
      have r7_A_1 : w7.cell? ⟨w.heap.size, 1, none⟩ = some (.int .i64 0) := (hc7 _ _ (by first | omega | go_size)).trans (by first | exact r6_A_1 | exact (World.cell?_alloc_past _ _ _ (by show w.heap.size < _; omega)).trans r6_A_1 | (go_simp; done))
      have z7_A_1 : w7.frozen? ⟨w.heap.size, 1, none⟩ = false := (hf7 _ _ (by first | omega | go_size)).trans (by first | exact z6_A_1 | exact (World.frozen?_alloc_past _ _ _ (by show w.heap.size < _; omega)).trans z6_A_1 | (go_simp; done))
      have r7_A_2 : w7.cell? ⟨w.heap.size, 2, none⟩ = some (.int .i64 0) := (hc7 _ _ (by first | omega | go_size)).trans (by first | exact r6_A_2 | exact (World.cell?_alloc_past _ _ _ (by show w.heap.size < _; omega)).trans r6_A_2 | (go_simp; done))
      have z7_A_2 : w7.frozen? ⟨w.heap.size, 2, none⟩ = false := (hf7 _ _ (by first | omega | go_size)).trans (by first | exact z6_A_2 | exact (World.frozen?_alloc_past _ _ _ (by show w.heap.size < _; omega)).trans z6_A_2 | (go_simp; done))
      have r7_A_3 : w7.cell? ⟨w.heap.size, 3, none⟩ = some (.int .i64 0) := (hc7 _ _ (by first | omega | go_size)).trans (by first | exact r6_A_3 | exact (World.cell?_alloc_past _ _ _ (by show w.heap.size < _; omega)).trans r6_A_3 | (go_simp; done))
      have z7_A_3 : w7.frozen? ⟨w.heap.size, 3, none⟩ = false := (hf7 _ _ (by first | omega | go_size)).trans (by first | exact z6_A_3 | exact (World.frozen?_alloc_past _ _ _ (by show w.heap.size < _; omega)).trans z6_A_3 | (go_simp; done))
      have r7_T_0 : w7.cell? ⟨w1.heap.size, 0, none⟩ = some (.int .i64 x) := (hc7 _ _ (by first | omega | go_size)).trans (by first | exact r6_T_0 | exact (World.cell?_alloc_past _ _ _ (by show w1.heap.size < _; omega)).trans r6_T_0 | (go_simp; done))
      have z7_T_0 : w7.frozen? ⟨w1.heap.size, 0, none⟩ = false := (hf7 _ _ (by first | omega | go_size)).trans (by first | exact z6_T_0 | exact (World.frozen?_alloc_past _ _ _ (by show w1.heap.size < _; omega)).trans z6_T_0 | (go_simp; done))
      have r7_T_1 : w7.cell? ⟨w1.heap.size, 1, none⟩ = some (.int .i64 y) := (hc7 _ _ (by first | omega | go_size)).trans (by first | exact r6_T_1 | exact (World.cell?_alloc_past _ _ _ (by show w1.heap.size < _; omega)).trans r6_T_1 | (go_simp; done))
      have z7_T_1 : w7.frozen? ⟨w1.heap.size, 1, none⟩ = false := (hf7 _ _ (by first | omega | go_size)).trans (by first | exact z6_T_1 | exact (World.frozen?_alloc_past _ _ _ (by show w1.heap.size < _; omega)).trans z6_T_1 | (go_simp; done))
      have HC7 := Lib.hid (Cur.below (Cur.far HC6.out ((show Below w.heap.size w6 _ from by (repeat' (first | (with_reducible exact Below.refl _ _) | (with_reducible assumption) | (with_reducible refine Below.alloc ?_ ?_ _) | (with_reducible refine Below.drew ?_) | (with_reducible refine below_drewN ?_ _) | (with_reducible refine Below.setCell ?_ ?_ _) | (with_reducible refine below_call ?_ ?_ (by assumption)) | go_size))).mono (by omega))) hb7)
      have HG7 := Lib.hid (grown_trans (grown_far HG6.out (by (repeat' (first | (with_reducible exact Below.refl _ _) | (with_reducible assumption) | (with_reducible refine Below.alloc ?_ ?_ _) | (with_reducible refine Below.drew ?_) | (with_reducible refine below_drewN ?_ _) | (with_reducible refine Below.setCell ?_ ?_ _) | (with_reducible refine below_call ?_ ?_ (by assumption)) | go_size)))) (below_grown hb7 (some b)))
      clear hc7 hf7 hb7 r6_A_0 z6_A_0 r6_A_1 z6_A_1 r6_A_2 z6_A_2 r6_A_3 z6_A_3 r6_T_0 z6_T_0 r6_T_1 z6_T_1
      have lbd := low_bd (x * h) y (by omega)
      have llt := low_lt (x * h) y (by omega)
      have lln := low_le (x * h) y ⟨by omega, by omega⟩
      obtain ⟨l1, l2, l3, l4⟩ := goodB_bd lln
      clear lbd llt lln
      generalize lowNum (x * h) y = u at *
      generalize lowDen (x * h) y = v at *
      go_wp2_with fail
      refine (pick_any L a n cp w0 b (T + 14) 5 (by omega) hO (by omega) _ (Cur.far HC7.out ((show Below w.heap.size w7 _ from by (repeat' (first | (with_reducible exact Below.refl _ _) | (with_reducible assumption) | (with_reducible refine Below.alloc ?_ ?_ _) | (with_reducible refine Below.drew ?_) | (with_reducible refine below_drewN ?_ _) | (with_reducible refine Below.setCell ?_ ?_ _) | (with_reducible refine below_call ?_ ?_ (by assumption)) | go_size))).mono (by omega)))).mono ?_
      rintro e8 w8 ⟨m, rfl, hm, hC8, hg8⟩
      have HC8 := Lib.hid hC8
      have hz8 := hg8.size
      try simp only [World.size_alloc, World.size_setCell, World.size_drew] at hz8
      have r8_A_0 : w8.cell? ⟨w.heap.size, 0, none⟩ = some (.int .i64 0) := (World.grownBy.cell_far hg8 ⟨w.heap.size, 0, none⟩ (by show w.heap.size < _; first | omega | (simp; omega) | go_size) (fun e => by simp only [Option.some.injEq] at e; omega)).trans (by first | (go_simp; done) | exact (World.cell?_alloc_past _ _ _ (by show w.heap.size < _; omega)).trans r7_A_0)
      have z8_A_0 : w8.frozen? ⟨w.heap.size, 0, none⟩ = false := (World.grownBy.frozen_far hg8 ⟨w.heap.size, 0, none⟩ (by show w.heap.size < _; first | omega | (simp; omega) | go_size) (fun e => by simp only [Option.some.injEq] at e; omega)).trans (by first | (go_simp; done) | exact (World.frozen?_alloc_past _ _ _ (by show w.heap.size < _; omega)).trans z7_A_0)
      have r8_A_1 : w8.cell? ⟨w.heap.size, 1, none⟩ = some (.int .i64 0) := (World.grownBy.cell_far hg8 ⟨w.heap.size, 1, none⟩ (by show w.heap.size < _; first | omega | (simp; omega) | go_size) (fun e => by simp only [Option.some.injEq] at e; omega)).trans (by first | (go_simp; done) | exact (World.cell?_alloc_past _ _ _ (by show w.heap.size < _; omega)).trans r7_A_1)
      have z8_A_1 : w8.frozen? ⟨w.heap.size, 1, none⟩ = false := (World.grownBy.frozen_far hg8 ⟨w.heap.size, 1, none⟩ (by show w.heap.size < _; first | omega | (simp; omega) | go_size) (fun e => by simp only [Option.some.injEq] at e; omega)).trans (by first | (go_simp; done) | exact (World.frozen?_alloc_past _ _ _ (by show w.heap.size < _; omega)).trans z7_A_1)
      have r8_A_2 : w8.cell? ⟨w.heap.size, 2, none⟩ = some (.int .i64 0) := (World.grownBy.cell_far hg8 ⟨w.heap.size, 2, none⟩ (by show w.heap.size < _; first | omega | (simp; omega) | go_size) (fun e => by simp only [Option.some.injEq] at e; omega)).trans (by first | (go_simp; done) | exact (World.cell?_alloc_past _ _ _ (by show w.heap.size < _; omega)).trans r7_A_2)
      have z8_A_2 : w8.frozen? ⟨w.heap.size, 2, none⟩ = false := (World.grownBy.frozen_far hg8 ⟨w.heap.size, 2, none⟩ (by show w.heap.size < _; first | omega | (simp; omega) | go_size) (fun e => by simp only [Option.some.injEq] at e; omega)).trans (by first | (go_simp; done) | exact (World.frozen?_alloc_past _ _ _ (by show w.heap.size < _; omega)).trans z7_A_2)
      have r8_A_3 : w8.cell? ⟨w.heap.size, 3, none⟩ = some (.int .i64 0) := (World.grownBy.cell_far hg8 ⟨w.heap.size, 3, none⟩ (by show w.heap.size < _; first | omega | (simp; omega) | go_size) (fun e => by simp only [Option.some.injEq] at e; omega)).trans (by first | (go_simp; done) | exact (World.cell?_alloc_past _ _ _ (by show w.heap.size < _; omega)).trans r7_A_3)
      have z8_A_3 : w8.frozen? ⟨w.heap.size, 3, none⟩ = false := (World.grownBy.frozen_far hg8 ⟨w.heap.size, 3, none⟩ (by show w.heap.size < _; first | omega | (simp; omega) | go_size) (fun e => by simp only [Option.some.injEq] at e; omega)).trans (by first | (go_simp; done) | exact (World.frozen?_alloc_past _ _ _ (by show w.heap.size < _; omega)).trans z7_A_3)
      have r8_T_0 : w8.cell? ⟨w1.heap.size, 0, none⟩ = some (.int .i64 x) := (World.grownBy.cell_far hg8 ⟨w1.heap.size, 0, none⟩ (by show w1.heap.size < _; first | omega | (simp; omega) | go_size) (fun e => by simp only [Option.some.injEq] at e; omega)).trans (by first | (go_simp; done) | exact (World.cell?_alloc_past _ _ _ (by show w1.heap.size < _; omega)).trans r7_T_0)
      have z8_T_0 : w8.frozen? ⟨w1.heap.size, 0, none⟩ = false := (World.grownBy.frozen_far hg8 ⟨w1.heap.size, 0, none⟩ (by show w1.heap.size < _; first | omega | (simp; omega) | go_size) (fun e => by simp only [Option.some.injEq] at e; omega)).trans (by first | (go_simp; done) | exact (World.frozen?_alloc_past _ _ _ (by show w1.heap.size < _; omega)).trans z7_T_0)
      have r8_T_1 : w8.cell? ⟨w1.heap.size, 1, none⟩ = some (.int .i64 y) := (World.grownBy.cell_far hg8 ⟨w1.heap.size, 1, none⟩ (by show w1.heap.size < _; first | omega | (simp; omega) | go_size) (fun e => by simp only [Option.some.injEq] at e; omega)).trans (by first | (go_simp; done) | exact (World.cell?_alloc_past _ _ _ (by show w1.heap.size < _; omega)).trans r7_T_1)
      have z8_T_1 : w8.frozen? ⟨w1.heap.size, 1, none⟩ = false := (World.grownBy.frozen_far hg8 ⟨w1.heap.size, 1, none⟩ (by show w1.heap.size < _; first | omega | (simp; omega) | go_size) (fun e => by simp only [Option.some.injEq] at e; omega)).trans (by first | (go_simp; done) | exact (World.frozen?_alloc_past _ _ _ (by show w1.heap.size < _; omega)).trans z7_T_1)
      have r8_S_0 : w8.cell? ⟨w7.heap.size, 0, none⟩ = some (.int .i64 x) := (World.grownBy.cell_far hg8 ⟨w7.heap.size, 0, none⟩ (by show w7.heap.size < _; first | omega | (simp; omega) | go_size) (fun e => by simp only [Option.some.injEq] at e; omega)).trans (by go_simp)
      have z8_S_0 : w8.frozen? ⟨w7.heap.size, 0, none⟩ = false := (World.grownBy.frozen_far hg8 ⟨w7.heap.size, 0, none⟩ (by show w7.heap.size < _; first | omega | (simp; omega) | go_size) (fun e => by simp only [Option.some.injEq] at e; omega)).trans (by go_simp)
      have r8_S_1 : w8.cell? ⟨w7.heap.size, 1, none⟩ = some (.int .i64 y) := (World.grownBy.cell_far hg8 ⟨w7.heap.size, 1, none⟩ (by show w7.heap.size < _; first | omega | (simp; omega) | go_size) (fun e => by simp only [Option.some.injEq] at e; omega)).trans (by go_simp)
      have z8_S_1 : w8.frozen? ⟨w7.heap.size, 1, none⟩ = false := (World.grownBy.frozen_far hg8 ⟨w7.heap.size, 1, none⟩ (by show w7.heap.size < _; first | omega | (simp; omega) | go_size) (fun e => by simp only [Option.some.injEq] at e; omega)).trans (by go_simp)
      have r8_S_2 : w8.cell? ⟨w7.heap.size, 2, none⟩ = some (.int .i64 u) := (World.grownBy.cell_far hg8 ⟨w7.heap.size, 2, none⟩ (by show w7.heap.size < _; first | omega | (simp; omega) | go_size) (fun e => by simp only [Option.some.injEq] at e; omega)).trans (by go_simp)
      have z8_S_2 : w8.frozen? ⟨w7.heap.size, 2, none⟩ = false := (World.grownBy.frozen_far hg8 ⟨w7.heap.size, 2, none⟩ (by show w7.heap.size < _; first | omega | (simp; omega) | go_size) (fun e => by simp only [Option.some.injEq] at e; omega)).trans (by go_simp)
      have r8_S_3 : w8.cell? ⟨w7.heap.size, 3, none⟩ = some (.int .i64 v) := (World.grownBy.cell_far hg8 ⟨w7.heap.size, 3, none⟩ (by show w7.heap.size < _; first | omega | (simp; omega) | go_size) (fun e => by simp only [Option.some.injEq] at e; omega)).trans (by go_simp)
      have z8_S_3 : w8.frozen? ⟨w7.heap.size, 3, none⟩ = false := (World.grownBy.frozen_far hg8 ⟨w7.heap.size, 3, none⟩ (by show w7.heap.size < _; first | omega | (simp; omega) | go_size) (fun e => by simp only [Option.some.injEq] at e; omega)).trans (by go_simp)
      have HG8 := Lib.hid (grown_trans (grown_far HG7.out (by (repeat' (first | (with_reducible exact Below.refl _ _) | (with_reducible assumption) | (with_reducible refine Below.alloc ?_ ?_ _) | (with_reducible refine Below.drew ?_) | (with_reducible refine below_drewN ?_ _) | (with_reducible refine Below.setCell ?_ ?_ _) | (with_reducible refine below_call ?_ ?_ (by assumption)) | go_size)))) hg8)
      clear hC8 hg8 r7_A_0 z7_A_0 r7_A_1 z7_A_1 r7_A_2 z7_A_2 r7_A_3 z7_A_3 r7_T_0 z7_T_0 r7_T_1 z7_T_1
      by_cases m0 : m = 0
      · subst m0
        go_wp2_with fail
        refine (seExchange_any x y u v _).mono ?_
        rintro e9 w9 ⟨rfl, hb9⟩
        obtain ⟨hc9, hf9⟩ := bcell hb9
        have hz9 := hb9.size
        try simp only [World.size_alloc, World.size_setCell, World.size_drew] at hz9
        have r9_A_0 : w9.cell? ⟨w.heap.size, 0, none⟩ = some (.int .i64 0) := (hc9 _ _ (by first | omega | go_size)).trans (by first | exact r8_A_0 | exact (World.cell?_alloc_past _ _ _ (by show w.heap.size < _; omega)).trans r8_A_0 | (go_simp; done))
        have z9_A_0 : w9.frozen? ⟨w.heap.size, 0, none⟩ = false := (hf9 _ _ (by first | omega | go_size)).trans (by first | exact z8_A_0 | exact (World.frozen?_alloc_past _ _ _ (by show w.heap.size < _; omega)).trans z8_A_0 | (go_simp; done))
        have r9_A_1 : w9.cell? ⟨w.heap.size, 1, none⟩ = some (.int .i64 0) := (hc9 _ _ (by first | omega | go_size)).trans (by first | exact r8_A_1 | exact (World.cell?_alloc_past _ _ _ (by show w.heap.size < _; omega)).trans r8_A_1 | (go_simp; done))
        have z9_A_1 : w9.frozen? ⟨w.heap.size, 1, none⟩ = false := (hf9 _ _ (by first | omega | go_size)).trans (by first | exact z8_A_1 | exact (World.frozen?_alloc_past _ _ _ (by show w.heap.size < _; omega)).trans z8_A_1 | (go_simp; done))
        have r9_A_2 : w9.cell? ⟨w.heap.size, 2, none⟩ = some (.int .i64 0) := (hc9 _ _ (by first | omega | go_size)).trans (by first | exact r8_A_2 | exact (World.cell?_alloc_past _ _ _ (by show w.heap.size < _; omega)).trans r8_A_2 | (go_simp; done))
        have z9_A_2 : w9.frozen? ⟨w.heap.size, 2, none⟩ = false := (hf9 _ _ (by first | omega | go_size)).trans (by first | exact z8_A_2 | exact (World.frozen?_alloc_past _ _ _ (by show w.heap.size < _; omega)).trans z8_A_2 | (go_simp; done))
        have r9_A_3 : w9.cell? ⟨w.heap.size, 3, none⟩ = some (.int .i64 0) := (hc9 _ _ (by first | omega | go_size)).trans (by first | exact r8_A_3 | exact (World.cell?_alloc_past _ _ _ (by show w.heap.size < _; omega)).trans r8_A_3 | (go_simp; done))
        have z9_A_3 : w9.frozen? ⟨w.heap.size, 3, none⟩ = false := (hf9 _ _ (by first | omega | go_size)).trans (by first | exact z8_A_3 | exact (World.frozen?_alloc_past _ _ _ (by show w.heap.size < _; omega)).trans z8_A_3 | (go_simp; done))
        have r9_T_0 : w9.cell? ⟨w1.heap.size, 0, none⟩ = some (.int .i64 x) := (hc9 _ _ (by first | omega | go_size)).trans (by first | exact r8_T_0 | exact (World.cell?_alloc_past _ _ _ (by show w1.heap.size < _; omega)).trans r8_T_0 | (go_simp; done))
        have z9_T_0 : w9.frozen? ⟨w1.heap.size, 0, none⟩ = false := (hf9 _ _ (by first | omega | go_size)).trans (by first | exact z8_T_0 | exact (World.frozen?_alloc_past _ _ _ (by show w1.heap.size < _; omega)).trans z8_T_0 | (go_simp; done))
        have r9_T_1 : w9.cell? ⟨w1.heap.size, 1, none⟩ = some (.int .i64 y) := (hc9 _ _ (by first | omega | go_size)).trans (by first | exact r8_T_1 | exact (World.cell?_alloc_past _ _ _ (by show w1.heap.size < _; omega)).trans r8_T_1 | (go_simp; done))
        have z9_T_1 : w9.frozen? ⟨w1.heap.size, 1, none⟩ = false := (hf9 _ _ (by first | omega | go_size)).trans (by first | exact z8_T_1 | exact (World.frozen?_alloc_past _ _ _ (by show w1.heap.size < _; omega)).trans z8_T_1 | (go_simp; done))
        have r9_S_0 : w9.cell? ⟨w7.heap.size, 0, none⟩ = some (.int .i64 x) := (hc9 _ _ (by first | omega | go_size)).trans (by first | exact r8_S_0 | exact (World.cell?_alloc_past _ _ _ (by show w7.heap.size < _; omega)).trans r8_S_0 | (go_simp; done))
        have z9_S_0 : w9.frozen? ⟨w7.heap.size, 0, none⟩ = false := (hf9 _ _ (by first | omega | go_size)).trans (by first | exact z8_S_0 | exact (World.frozen?_alloc_past _ _ _ (by show w7.heap.size < _; omega)).trans z8_S_0 | (go_simp; done))
        have r9_S_1 : w9.cell? ⟨w7.heap.size, 1, none⟩ = some (.int .i64 y) := (hc9 _ _ (by first | omega | go_size)).trans (by first | exact r8_S_1 | exact (World.cell?_alloc_past _ _ _ (by show w7.heap.size < _; omega)).trans r8_S_1 | (go_simp; done))
        have z9_S_1 : w9.frozen? ⟨w7.heap.size, 1, none⟩ = false := (hf9 _ _ (by first | omega | go_size)).trans (by first | exact z8_S_1 | exact (World.frozen?_alloc_past _ _ _ (by show w7.heap.size < _; omega)).trans z8_S_1 | (go_simp; done))
        have r9_S_2 : w9.cell? ⟨w7.heap.size, 2, none⟩ = some (.int .i64 u) := (hc9 _ _ (by first | omega | go_size)).trans (by first | exact r8_S_2 | exact (World.cell?_alloc_past _ _ _ (by show w7.heap.size < _; omega)).trans r8_S_2 | (go_simp; done))
        have z9_S_2 : w9.frozen? ⟨w7.heap.size, 2, none⟩ = false := (hf9 _ _ (by first | omega | go_size)).trans (by first | exact z8_S_2 | exact (World.frozen?_alloc_past _ _ _ (by show w7.heap.size < _; omega)).trans z8_S_2 | (go_simp; done))
        have r9_S_3 : w9.cell? ⟨w7.heap.size, 3, none⟩ = some (.int .i64 v) := (hc9 _ _ (by first | omega | go_size)).trans (by first | exact r8_S_3 | exact (World.cell?_alloc_past _ _ _ (by show w7.heap.size < _; omega)).trans r8_S_3 | (go_simp; done))
        have z9_S_3 : w9.frozen? ⟨w7.heap.size, 3, none⟩ = false := (hf9 _ _ (by first | omega | go_size)).trans (by first | exact z8_S_3 | exact (World.frozen?_alloc_past _ _ _ (by show w7.heap.size < _; omega)).trans z8_S_3 | (go_simp; done))
        have HC9 := Lib.hid (Cur.below (Cur.far HC8.out ((show Below w.heap.size w8 _ from by (repeat' (first | (with_reducible exact Below.refl _ _) | (with_reducible assumption) | (with_reducible refine Below.alloc ?_ ?_ _) | (with_reducible refine Below.drew ?_) | (with_reducible refine below_drewN ?_ _) | (with_reducible refine Below.setCell ?_ ?_ _) | (with_reducible refine below_call ?_ ?_ (by assumption)) | go_size))).mono (by omega))) hb9)
        have HG9 := Lib.hid (grown_trans (grown_far HG8.out (by (repeat' (first | (with_reducible exact Below.refl _ _) | (with_reducible assumption) | (with_reducible refine Below.alloc ?_ ?_ _) | (with_reducible refine Below.drew ?_) | (with_reducible refine below_drewN ?_ _) | (with_reducible refine Below.setCell ?_ ?_ _) | (with_reducible refine below_call ?_ ?_ (by assumption)) | go_size)))) (below_grown hb9 (some b)))
        clear hc9 hf9 hb9 r8_A_0 z8_A_0 r8_A_1 z8_A_1 r8_A_2 z8_A_2 r8_A_3 z8_A_3 r8_T_0 z8_T_0 r8_T_1 z8_T_1 r8_S_0 z8_S_0 r8_S_1 z8_S_1 r8_S_2 z8_S_2 r8_S_3 z8_S_3
        have s9_A : w.heap.size < w9.heap.size := by omega
        have s9_T : w1.heap.size < w9.heap.size := by omega
        have s9_S : w7.heap.size < w9.heap.size := by omega
        go_wp2
        (refine bodyPost_ret (by simp [results, Tryz.results54, go_sem, *]; try rfl) rfl ?_)
        refine ⟨u, v, x, y, rfl, ⟨i64s (by omega), i64s (by omega), i64s (by omega), i64s (by omega)⟩, Cur.far (Cur.mono HC9.out (by omega)) ((show Below w.heap.size w9 _ from by (repeat' (first | (with_reducible exact Below.refl _ _) | (with_reducible assumption) | (with_reducible refine Below.alloc ?_ ?_ _) | (with_reducible refine Below.drew ?_) | (with_reducible refine below_drewN ?_ _) | (with_reducible refine Below.setCell ?_ ?_ _) | (with_reducible refine below_call ?_ ?_ (by assumption)) | go_size))).mono (by omega)), grown_far HG9.out (by (repeat' (first | (with_reducible exact Below.refl _ _) | (with_reducible assumption) | (with_reducible refine Below.alloc ?_ ?_ _) | (with_reducible refine Below.drew ?_) | (with_reducible refine below_drewN ?_ _) | (with_reducible refine Below.setCell ?_ ?_ _) | (with_reducible refine below_call ?_ ?_ (by assumption)) | go_size)))⟩
      by_cases m1 : m = 1
      · subst m1
        go_wp2_with fail
        refine (seMirror_any x y u v ⟨by omega, by omega, by omega, by omega⟩ ⟨by omega, by omega, by omega, by omega⟩ _).mono ?_
        rintro e9 w9 ⟨rfl, hb9⟩
        obtain ⟨hc9, hf9⟩ := bcell hb9
        have hz9 := hb9.size
        try simp only [World.size_alloc, World.size_setCell, World.size_drew] at hz9
        have r9_A_0 : w9.cell? ⟨w.heap.size, 0, none⟩ = some (.int .i64 0) := (hc9 _ _ (by first | omega | go_size)).trans (by first | exact r8_A_0 | exact (World.cell?_alloc_past _ _ _ (by show w.heap.size < _; omega)).trans r8_A_0 | (go_simp; done))
        have z9_A_0 : w9.frozen? ⟨w.heap.size, 0, none⟩ = false := (hf9 _ _ (by first | omega | go_size)).trans (by first | exact z8_A_0 | exact (World.frozen?_alloc_past _ _ _ (by show w.heap.size < _; omega)).trans z8_A_0 | (go_simp; done))
        have r9_A_1 : w9.cell? ⟨w.heap.size, 1, none⟩ = some (.int .i64 0) := (hc9 _ _ (by first | omega | go_size)).trans (by first | exact r8_A_1 | exact (World.cell?_alloc_past _ _ _ (by show w.heap.size < _; omega)).trans r8_A_1 | (go_simp; done))
        have z9_A_1 : w9.frozen? ⟨w.heap.size, 1, none⟩ = false := (hf9 _ _ (by first | omega | go_size)).trans (by first | exact z8_A_1 | exact (World.frozen?_alloc_past _ _ _ (by show w.heap.size < _; omega)).trans z8_A_1 | (go_simp; done))
        have r9_A_2 : w9.cell? ⟨w.heap.size, 2, none⟩ = some (.int .i64 0) := (hc9 _ _ (by first | omega | go_size)).trans (by first | exact r8_A_2 | exact (World.cell?_alloc_past _ _ _ (by show w.heap.size < _; omega)).trans r8_A_2 | (go_simp; done))
        have z9_A_2 : w9.frozen? ⟨w.heap.size, 2, none⟩ = false := (hf9 _ _ (by first | omega | go_size)).trans (by first | exact z8_A_2 | exact (World.frozen?_alloc_past _ _ _ (by show w.heap.size < _; omega)).trans z8_A_2 | (go_simp; done))
        have r9_A_3 : w9.cell? ⟨w.heap.size, 3, none⟩ = some (.int .i64 0) := (hc9 _ _ (by first | omega | go_size)).trans (by first | exact r8_A_3 | exact (World.cell?_alloc_past _ _ _ (by show w.heap.size < _; omega)).trans r8_A_3 | (go_simp; done))
        have z9_A_3 : w9.frozen? ⟨w.heap.size, 3, none⟩ = false := (hf9 _ _ (by first | omega | go_size)).trans (by first | exact z8_A_3 | exact (World.frozen?_alloc_past _ _ _ (by show w.heap.size < _; omega)).trans z8_A_3 | (go_simp; done))
        have r9_T_0 : w9.cell? ⟨w1.heap.size, 0, none⟩ = some (.int .i64 x) := (hc9 _ _ (by first | omega | go_size)).trans (by first | exact r8_T_0 | exact (World.cell?_alloc_past _ _ _ (by show w1.heap.size < _; omega)).trans r8_T_0 | (go_simp; done))
        have z9_T_0 : w9.frozen? ⟨w1.heap.size, 0, none⟩ = false := (hf9 _ _ (by first | omega | go_size)).trans (by first | exact z8_T_0 | exact (World.frozen?_alloc_past _ _ _ (by show w1.heap.size < _; omega)).trans z8_T_0 | (go_simp; done))
        have r9_T_1 : w9.cell? ⟨w1.heap.size, 1, none⟩ = some (.int .i64 y) := (hc9 _ _ (by first | omega | go_size)).trans (by first | exact r8_T_1 | exact (World.cell?_alloc_past _ _ _ (by show w1.heap.size < _; omega)).trans r8_T_1 | (go_simp; done))
        have z9_T_1 : w9.frozen? ⟨w1.heap.size, 1, none⟩ = false := (hf9 _ _ (by first | omega | go_size)).trans (by first | exact z8_T_1 | exact (World.frozen?_alloc_past _ _ _ (by show w1.heap.size < _; omega)).trans z8_T_1 | (go_simp; done))
        have r9_S_0 : w9.cell? ⟨w7.heap.size, 0, none⟩ = some (.int .i64 x) := (hc9 _ _ (by first | omega | go_size)).trans (by first | exact r8_S_0 | exact (World.cell?_alloc_past _ _ _ (by show w7.heap.size < _; omega)).trans r8_S_0 | (go_simp; done))
        have z9_S_0 : w9.frozen? ⟨w7.heap.size, 0, none⟩ = false := (hf9 _ _ (by first | omega | go_size)).trans (by first | exact z8_S_0 | exact (World.frozen?_alloc_past _ _ _ (by show w7.heap.size < _; omega)).trans z8_S_0 | (go_simp; done))
        have r9_S_1 : w9.cell? ⟨w7.heap.size, 1, none⟩ = some (.int .i64 y) := (hc9 _ _ (by first | omega | go_size)).trans (by first | exact r8_S_1 | exact (World.cell?_alloc_past _ _ _ (by show w7.heap.size < _; omega)).trans r8_S_1 | (go_simp; done))
        have z9_S_1 : w9.frozen? ⟨w7.heap.size, 1, none⟩ = false := (hf9 _ _ (by first | omega | go_size)).trans (by first | exact z8_S_1 | exact (World.frozen?_alloc_past _ _ _ (by show w7.heap.size < _; omega)).trans z8_S_1 | (go_simp; done))
        have r9_S_2 : w9.cell? ⟨w7.heap.size, 2, none⟩ = some (.int .i64 u) := (hc9 _ _ (by first | omega | go_size)).trans (by first | exact r8_S_2 | exact (World.cell?_alloc_past _ _ _ (by show w7.heap.size < _; omega)).trans r8_S_2 | (go_simp; done))
        have z9_S_2 : w9.frozen? ⟨w7.heap.size, 2, none⟩ = false := (hf9 _ _ (by first | omega | go_size)).trans (by first | exact z8_S_2 | exact (World.frozen?_alloc_past _ _ _ (by show w7.heap.size < _; omega)).trans z8_S_2 | (go_simp; done))
        have r9_S_3 : w9.cell? ⟨w7.heap.size, 3, none⟩ = some (.int .i64 v) := (hc9 _ _ (by first | omega | go_size)).trans (by first | exact r8_S_3 | exact (World.cell?_alloc_past _ _ _ (by show w7.heap.size < _; omega)).trans r8_S_3 | (go_simp; done))
        have z9_S_3 : w9.frozen? ⟨w7.heap.size, 3, none⟩ = false := (hf9 _ _ (by first | omega | go_size)).trans (by first | exact z8_S_3 | exact (World.frozen?_alloc_past _ _ _ (by show w7.heap.size < _; omega)).trans z8_S_3 | (go_simp; done))
        have HC9 := Lib.hid (Cur.below (Cur.far HC8.out ((show Below w.heap.size w8 _ from by (repeat' (first | (with_reducible exact Below.refl _ _) | (with_reducible assumption) | (with_reducible refine Below.alloc ?_ ?_ _) | (with_reducible refine Below.drew ?_) | (with_reducible refine below_drewN ?_ _) | (with_reducible refine Below.setCell ?_ ?_ _) | (with_reducible refine below_call ?_ ?_ (by assumption)) | go_size))).mono (by omega))) hb9)
        have HG9 := Lib.hid (grown_trans (grown_far HG8.out (by (repeat' (first | (with_reducible exact Below.refl _ _) | (with_reducible assumption) | (with_reducible refine Below.alloc ?_ ?_ _) | (with_reducible refine Below.drew ?_) | (with_reducible refine below_drewN ?_ _) | (with_reducible refine Below.setCell ?_ ?_ _) | (with_reducible refine below_call ?_ ?_ (by assumption)) | go_size)))) (below_grown hb9 (some b)))
        clear hc9 hf9 hb9 r8_A_0 z8_A_0 r8_A_1 z8_A_1 r8_A_2 z8_A_2 r8_A_3 z8_A_3 r8_T_0 z8_T_0 r8_T_1 z8_T_1 r8_S_0 z8_S_0 r8_S_1 z8_S_1 r8_S_2 z8_S_2 r8_S_3 z8_S_3
        obtain ⟨e1, e2, e3, e4⟩ := goodB_bd (low_le (-x) y ⟨by omega, by omega⟩)
        obtain ⟨f1, f2, f3, f4⟩ := goodB_bd (low_le (-u) v ⟨by omega, by omega⟩)
        generalize lowNum (-x) y = g1 at *
        generalize lowDen (-x) y = g2 at *
        generalize lowNum (-u) v = g3 at *
        generalize lowDen (-u) v = g4 at *
        have s9_A : w.heap.size < w9.heap.size := by omega
        have s9_T : w1.heap.size < w9.heap.size := by omega
        have s9_S : w7.heap.size < w9.heap.size := by omega
        go_wp2
        (refine bodyPost_ret (by simp [results, Tryz.results54, go_sem, *]; try rfl) rfl ?_)
        refine ⟨g1, g2, g3, g4, rfl, ⟨i64s (by omega), i64s (by omega), i64s (by omega), i64s (by omega)⟩, Cur.far (Cur.mono HC9.out (by omega)) ((show Below w.heap.size w9 _ from by (repeat' (first | (with_reducible exact Below.refl _ _) | (with_reducible assumption) | (with_reducible refine Below.alloc ?_ ?_ _) | (with_reducible refine Below.drew ?_) | (with_reducible refine below_drewN ?_ _) | (with_reducible refine Below.setCell ?_ ?_ _) | (with_reducible refine below_call ?_ ?_ (by assumption)) | go_size))).mono (by omega)), grown_far HG9.out (by (repeat' (first | (with_reducible exact Below.refl _ _) | (with_reducible assumption) | (with_reducible refine Below.alloc ?_ ?_ _) | (with_reducible refine Below.drew ?_) | (with_reducible refine below_drewN ?_ _) | (with_reducible refine Below.setCell ?_ ?_ _) | (with_reducible refine below_call ?_ ?_ (by assumption)) | go_size)))⟩
      have mx0 : ((m : Int) == 0) = false := by simp; omega
      have mx1 : ((m : Int) == 1) = false := by simp; omega
      have s8_A : w.heap.size < w8.heap.size := by omega
      have s8_T : w1.heap.size < w8.heap.size := by omega
      have s8_S : w7.heap.size < w8.heap.size := by omega
      go_wp2
      (refine bodyPost_ret (by simp [results, Tryz.results54, go_sem, *]; try rfl) rfl ?_)
      refine ⟨x, y, u, v, rfl, ⟨i64s (by omega), i64s (by omega), i64s (by omega), i64s (by omega)⟩, Cur.far (Cur.mono HC8.out (by omega)) ((show Below w.heap.size w8 _ from by (repeat' (first | (with_reducible exact Below.refl _ _) | (with_reducible assumption) | (with_reducible refine Below.alloc ?_ ?_ _) | (with_reducible refine Below.drew ?_) | (with_reducible refine below_drewN ?_ _) | (with_reducible refine Below.setCell ?_ ?_ _) | (with_reducible refine below_call ?_ ?_ (by assumption)) | go_size))).mono (by omega)), grown_far HG8.out (by (repeat' (first | (with_reducible exact Below.refl _ _) | (with_reducible assumption) | (with_reducible refine Below.alloc ?_ ?_ _) | (with_reducible refine Below.drew ?_) | (with_reducible refine below_drewN ?_ _) | (with_reducible refine Below.setCell ?_ ?_ _) | (with_reducible refine below_call ?_ ?_ (by assumption)) | go_size)))⟩
end Go.Proofs.YticdmochedadbaaGreat
