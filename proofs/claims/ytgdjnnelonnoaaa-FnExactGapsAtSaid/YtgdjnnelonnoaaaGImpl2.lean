/- The gaps between hands, by the program (2). -/
import Derived.Test.YtgdjnnelonnoaaaGImpl
set_option linter.unusedSimpArgs false
set_option linter.unusedVariables false
set_option maxRecDepth 100000
namespace Go.Proofs.Ytgdjnnelonnoaaa
open Go.RowKit Go.Shelf Go.Lib Go.Sort

/-- The gap behind the place number i. -/
def gapT (S : List (Int × Int)) (i : Nat) : Int × Int × Bool := lessT (S.getD ((i + 1) % S.length) (0, 0)).1 (S.getD ((i + 1) % S.length) (0, 0)).2 (S.getD i (0, 0)).1 (S.getD i (0, 0)).2
def gapOk (S : List (Int × Int)) : Bool := (List.range S.length).all fun i => (gapT S i).2.2
def gapL (S : List (Int × Int)) : List (Int × Int) := (List.range S.length).map fun i => ((gapT S i).1, (gapT S i).2.1)
def gapsR (L : List (Int × Int × Int)) (tn td : Int) : List (Int × Int) × Bool := if spOk L tn td && gapOk (spL L tn td) then (gapL (spL L tn td), true) else ([], false)
theorem gapsR_len (L : List (Int × Int × Int)) (tn td : Int) : (gapsR L tn td).1.length ≤ 1000000 := by
  unfold gapsR
  split
  · rename_i h
    simp only [Bool.and_eq_true, spOk] at h
    have := inB_bd h.1.1
    simp only [gapL, List.length_map, List.length_range, spL_len]
    omega
  · simp
theorem gapOk_no {S : List (Int × Int)} {k : Nat} (hk : k < S.length) (h : (gapT S k).2.2 = false) : gapOk S = false := by
  rw [← Bool.not_eq_true]
  intro ha
  unfold gapOk at ha
  rw [List.all_eq_true] at ha
  have := ha k (List.mem_range.2 hk)
  rw [h] at this; cases this
theorem gapOk_yes {S : List (Int × Int)} (h : ∀ j, j < S.length → (gapT S j).2.2 = true) : gapOk S = true := by
  unfold gapOk
  rw [List.all_eq_true]
  exact fun j hj => h j (List.mem_range.1 hj)
theorem gapL_eq {S dk : List (Int × Int)} (hl : dk.length = S.length) (h : ∀ j, j < S.length → dk.getD j (0, 0) = ((gapT S j).1, (gapT S j).2.1)) : dk = gapL S := by
  apply List.ext_getElem (by simpa [gapL] using hl)
  intro i h1 h2
  have hi : i < S.length := by omega
  have := h i hi
  rw [List.getD_eq_getElem?_getD, List.getElem?_eq_getElem h1] at this
  simpa [gapL] using this
theorem flat_zero (n : Nat) : flat (List.replicate n (0, 0)) = List.replicate (n * 2) (.int .i64 0) := by
  induction n with
  | zero => rfl
  | succ n ih =>
    rw [List.replicate_succ, show (n + 1) * 2 = n * 2 + 1 + 1 by omega, List.replicate_succ, List.replicate_succ]
    simp only [flat, ih]
theorem made_zeroT (n : Nat) : (madeCells (Value.agg #[.int .i64 0, .int .i64 0]).cells (n * 2)).toList = flat (List.replicate n (0, 0)) := by
  rw [flat_zero]
  apply List.ext_getElem?
  intro j
  by_cases hj : j < n * 2
  · have h3 : j % 2 = 0 ∨ j % 2 = 1 := by omega
    rw [List.getElem?_replicate, if_pos hj]
    simp only [madeCells, Value.cells, Array.getElem?_toList]
    rcases h3 with e | e <;> simp [hj, e]
  · simp [madeCells, hj]
theorem size_setCells (b : Nat) : ∀ (vs : List Value) (o : Nat) (w : World), (w.setCells b o vs).heap.size = w.heap.size
  | [], _, _ => rfl
  | v :: vs, o, w => by rw [World.setCells, size_setCells b vs]; simp
theorem wpOp_skip {P : Program} {ops : Array Oper} {Q : Exit → Act → World → Prop} {K : Act → World → Prop} {i : Nat} {o : Oper} {a : Act} {w w' : World} (hi : ops[i]? = some o) (hd : o.dst = none) (hw : Region.wanted o (yielded ops a.tmps) = true) (hr : (execOp a.eval o).run P w = .ok .skip w') (hK : K a w') : wpOp P ops Q i K a w := by
  refine wpOp_wp hi hw ?_
  unfold Oper.wp
  rw [hr]
  show K (a.put o.dst undef) w'
  rw [hd]
  exact hK
theorem less_val {r : Int × Int × Bool} (an ad bn bd : Int) (hr : lessT an ad bn bd = r) (w : World) :
    Calls Try.prog 88 #[tv an ad, tv bn bd] w fun e w' => e = .returned (rv r) ∧ RowKit.Below w.heap.size w w' := by subst hr; exact implLessTurn_any an ad bn bd w
theorem rem_next (k n : Nat) (h : 0 < n) : ((k : Int) + 1).tmod (n : Int) = (((k + 1) % n : Nat) : Int) := by
  rw [Int.tmod_eq_emod_of_nonneg (by omega)]
  simp

set_option maxHeartbeats 1600000 in
theorem implGapsAt_any (a : Option Addr) (c : Nat) (L : List (Int × Int × Int)) (tn td : Int) (w : World) (hin : HIn w a L) (hl : L.length ≤ 1048576) :
    Calls Try.prog 58 #[.slice a L.length c, tv tn td] w (TurnsOut w (gapsR L tn td).1 (gapsR L tn td).2) := by
  have HS := Lib.hid (sortedPlaces_any a c L tn td (w.alloc (Obj.cells #[Value.int .i64 tn, Value.int .i64 td] 27)) (hin.below (by (repeat' (first | (with_reducible exact Below.refl _ _) | (with_reducible assumption) | (with_reducible refine Below.alloc ?_ ?_ _) | (with_reducible refine Below.drew ?_) | (with_reducible refine below_drewN ?_ _) | (with_reducible refine Below.setCell ?_ ?_ _) | (with_reducible refine below_call ?_ ?_ (by assumption)) | go_size)))) hl)
  clear hin
  obtain ⟨i0, hi0, hz0, hz1, hz2⟩ := info_parts Try.infoTurn
  have I0 := Lib.hid hi0
  have Z0 := Lib.hid hz0
  have Z1 := Lib.hid hz1
  have Z2 := Lib.hid hz2
  clear hi0 hz0 hz1 hz2
  cases hsp : spOk L tn td
  · rw [show gapsR L tn td = ([], false) from by simp [gapsR, hsp]]
    rw [hsp] at HS
    (go_enter Try.func58, Try.ntmps58)
    go_wp2_with fail
    refine HS.out.mono ?_
    rintro e1 w1 ⟨⟨A, hA, rfl, hAS⟩, hb1⟩
    have hz1 := hb1.size
    simp only [World.size_alloc] at hz1
    have hbz : RowKit.Below w.heap.size w w1 := Below.trans (b := _) (by (repeat' (first | (with_reducible exact Below.refl _ _) | (with_reducible assumption) | (with_reducible refine Below.alloc ?_ ?_ _) | (with_reducible refine Below.drew ?_) | (with_reducible refine below_drewN ?_ _) | (with_reducible refine Below.setCell ?_ ?_ _) | (with_reducible refine below_call ?_ ?_ (by assumption)) | go_size))) (hb1.mono (by simp))
    go_wp2_with (refine wpList_store_mid rfl 79 (.tmp 6) (.tmp 14) rfl w1.heap.size 0 (flat A).toArray rfl rfl (by rw [size_flat hA]; exact (new_range w1 #[Value.int .i64 0, Value.int .i64 0, Value.int .i64 0, Value.int .i64 0, Value.int .i64 0, Value.int .i64 0, Value.int .i64 0, Value.int .i64 0, Value.int .i64 0, Value.int .i64 0, Value.int .i64 0, Value.int .i64 0, Value.int .i64 0, Value.int .i64 0, Value.int .i64 0, Value.int .i64 0, Value.int .i64 0, Value.int .i64 0, Value.int .i64 0, Value.int .i64 0, Value.int .i64 0, Value.int .i64 0, Value.int .i64 0, Value.int .i64 0] 79).2) (info_flat2 hA) (all_flat _) ?_)
    go_ret2
    exact TurnsOut.none (setCells_below (hbz.alloc (by omega) _) (by omega))
  · have hn0 : inB L.length 1 12 = true := by simp only [spOk, Bool.and_eq_true] at hsp; exact hsp.1
    have hn := inB_bd hn0
    have hnn : L.length ≤ 12 := by omega
    have hSL : (spL L tn td).length = L.length := spL_len L tn td
    have HGD := Lib.hid (spL_good hsp)
    have HRD := Lib.hid (show gapsR L tn td = if gapOk (spL L tn td) then (gapL (spL L tn td), true) else ([], false) from by simp [gapsR, hsp])
    rw [hsp] at HS
    clear hn0
    generalize spL L tn td = S at *
    (go_enter Try.func58, Try.ntmps58)
    go_wp2_with fail
    refine HS.out.mono ?_
    rintro e1 w1 ⟨⟨A, hA, rfl, hAS⟩, hb1⟩
    have HAS := Lib.hid (hAS (by simp))
    clear hAS HS
    have hz1 := hb1.size
    simp only [World.size_alloc] at hz1
    have hbz : RowKit.Below w.heap.size w w1 := Below.trans (b := _) (by (repeat' (first | (with_reducible exact Below.refl _ _) | (with_reducible assumption) | (with_reducible refine Below.alloc ?_ ?_ _) | (with_reducible refine Below.drew ?_) | (with_reducible refine below_drewN ?_ _) | (with_reducible refine Below.setCell ?_ ?_ _) | (with_reducible refine below_call ?_ ?_ (by assumption)) | go_size))) (hb1.mono (by simp))
    go_wp2_with (first
      | (refine wpList_store_mid rfl 79 (.tmp 6) (.tmp 14) rfl w1.heap.size 0 (flat A).toArray rfl rfl (by rw [size_flat hA]; exact (new_range w1 #[Value.int .i64 0, Value.int .i64 0, Value.int .i64 0, Value.int .i64 0, Value.int .i64 0, Value.int .i64 0, Value.int .i64 0, Value.int .i64 0, Value.int .i64 0, Value.int .i64 0, Value.int .i64 0, Value.int .i64 0, Value.int .i64 0, Value.int .i64 0, Value.int .i64 0, Value.int .i64 0, Value.int .i64 0, Value.int .i64 0, Value.int .i64 0, Value.int .i64 0, Value.int .i64 0, Value.int .i64 0, Value.int .i64 0, Value.int .i64 0] 79).2) (info_flat2 hA) (all_flat _) ?_)
      | (at_make; refine wpList_make_full _ rfl _ _ 45 rfl (w1.heap.size + 1) 27 i0 (.agg #[.int .i64 0, .int .i64 0]) 2 Try.underlying45 I0.out Z0.out Z1.out .i64 .i64 _ _ L.length rfl rfl rfl rfl (by rw [Z2.out]; omega) (by unfold maxLen; omega) (by rw [size_setCells]; simp) ?_; intro w3 hown0 hgrow0))
    rw [made_zeroT] at hown0
    have hRA : ((w1.alloc (Obj.cells #[Value.int .i64 0, Value.int .i64 0, Value.int .i64 0, Value.int .i64 0, Value.int .i64 0, Value.int .i64 0, Value.int .i64 0, Value.int .i64 0, Value.int .i64 0, Value.int .i64 0, Value.int .i64 0, Value.int .i64 0, Value.int .i64 0, Value.int .i64 0, Value.int .i64 0, Value.int .i64 0, Value.int .i64 0, Value.int .i64 0, Value.int .i64 0, Value.int .i64 0, Value.int .i64 0, Value.int .i64 0, Value.int .i64 0, Value.int .i64 0] 79)).setCells w1.heap.size 0 (flat A)).rangeAt w1.heap.size 0 (flat A) :=
      World.rangeAt_setCells_same (w1.alloc (Obj.cells #[Value.int .i64 0, Value.int .i64 0, Value.int .i64 0, Value.int .i64 0, Value.int .i64 0, Value.int .i64 0, Value.int .i64 0, Value.int .i64 0, Value.int .i64 0, Value.int .i64 0, Value.int .i64 0, Value.int .i64 0, Value.int .i64 0, Value.int .i64 0, Value.int .i64 0, Value.int .i64 0, Value.int .i64 0, Value.int .i64 0, Value.int .i64 0, Value.int .i64 0, Value.int .i64 0, Value.int .i64 0, Value.int .i64 0, Value.int .i64 0] 79)) w1.heap.size 0 (flat A) (by rw [flat_length, hA]; exact (new_range w1 #[Value.int .i64 0, Value.int .i64 0, Value.int .i64 0, Value.int .i64 0, Value.int .i64 0, Value.int .i64 0, Value.int .i64 0, Value.int .i64 0, Value.int .i64 0, Value.int .i64 0, Value.int .i64 0, Value.int .i64 0, Value.int .i64 0, Value.int .i64 0, Value.int .i64 0, Value.int .i64 0, Value.int .i64 0, Value.int .i64 0, Value.int .i64 0, Value.int .i64 0, Value.int .i64 0, Value.int .i64 0, Value.int .i64 0, Value.int .i64 0] 79).2)
    have hB2 : RowKit.Below w.heap.size w ((w1.alloc (Obj.cells #[Value.int .i64 0, Value.int .i64 0, Value.int .i64 0, Value.int .i64 0, Value.int .i64 0, Value.int .i64 0, Value.int .i64 0, Value.int .i64 0, Value.int .i64 0, Value.int .i64 0, Value.int .i64 0, Value.int .i64 0, Value.int .i64 0, Value.int .i64 0, Value.int .i64 0, Value.int .i64 0, Value.int .i64 0, Value.int .i64 0, Value.int .i64 0, Value.int .i64 0, Value.int .i64 0, Value.int .i64 0, Value.int .i64 0, Value.int .i64 0] 79)).setCells w1.heap.size 0 (flat A)) := setCells_below (hbz.alloc (by omega) _) (by omega)
    have hS2 : ((w1.alloc (Obj.cells #[Value.int .i64 0, Value.int .i64 0, Value.int .i64 0, Value.int .i64 0, Value.int .i64 0, Value.int .i64 0, Value.int .i64 0, Value.int .i64 0, Value.int .i64 0, Value.int .i64 0, Value.int .i64 0, Value.int .i64 0, Value.int .i64 0, Value.int .i64 0, Value.int .i64 0, Value.int .i64 0, Value.int .i64 0, Value.int .i64 0, Value.int .i64 0, Value.int .i64 0, Value.int .i64 0, Value.int .i64 0, Value.int .i64 0, Value.int .i64 0] 79)).setCells w1.heap.size 0 (flat A)).heap.size = w1.heap.size + 1 := by rw [size_setCells]; simp
    generalize (w1.alloc (Obj.cells #[Value.int .i64 0, Value.int .i64 0, Value.int .i64 0, Value.int .i64 0, Value.int .i64 0, Value.int .i64 0, Value.int .i64 0, Value.int .i64 0, Value.int .i64 0, Value.int .i64 0, Value.int .i64 0, Value.int .i64 0, Value.int .i64 0, Value.int .i64 0, Value.int .i64 0, Value.int .i64 0, Value.int .i64 0, Value.int .i64 0, Value.int .i64 0, Value.int .i64 0, Value.int .i64 0, Value.int .i64 0, Value.int .i64 0, Value.int .i64 0] 79)).setCells w1.heap.size 0 (flat A) = w2 at *
    rw [hS2] at hown0
    have hz3 := hgrow0.size
    have hb3 : RowKit.Below w2.heap.size w2 w3 := Below.grown (Below.refl _ _) hgrow0 (Nat.le_refl _) (fun j hj => by cases hj)
    have HO0 := Lib.hid hown0
    have HRA := Lib.hid hRA
    clear hown0 hgrow0 hRA hb1 hbz
    go_loopw [23] (fun i wr => ∃ (k : Nat) (dk : List (Int × Int)), k ≤ L.length ∧ i = .int .i64 k ∧ dk.length = L.length ∧ (∀ j, j < k → (gapT S j).2.2 = true ∧ dk.getD j (0, 0) = ((gapT S j).1, (gapT S j).2.1)) ∧ wr.ownsRow (w1.heap.size + 1) 27 2 (.slice (some ⟨w1.heap.size + 1, 0, none⟩) L.length L.length) L.length (flat dk) ∧ RowKit.Below w2.heap.size w2 wr) (fun i _ => L.length - (intOf i).toNat)
    case atStart => exact ⟨0, List.replicate L.length (0, 0), Nat.zero_le _, rfl, by simp, fun j hj => absurd hj (Nat.not_lt_zero _), HO0.out, hb3⟩
    case round =>
      obtain ⟨k, dk, hk, rfl, hdl, hall, hown, hbr⟩ := hrel
      have HA := Lib.hid hall
      have HO := Lib.hid hown
      have hzr := hbr.size
      have i0' : (0 : Int) ≤ (k : Int) := Int.natCast_nonneg _
      by_cases hlt : k < L.length
      · have i1 : (k : Int) < (L.length : Int) := by omega
        have i2 : (k : Int) < 12 := by omega
        obtain ⟨m, hm⟩ : ∃ m : Nat, m = (k + 1) % L.length := ⟨_, rfl⟩
        have hml : m < L.length := by rw [hm]; exact Nat.mod_lt _ (by omega)
        have hrem : ((k : Int) + 1).tmod (L.length : Int) = (m : Int) := by rw [hm]; exact rem_next k L.length (by omega)
        have m0 : (0 : Int) ≤ (m : Int) := Int.natCast_nonneg _
        have m1 : (m : Int) < 12 := by omega
        have hwm : IntKind.i64.wrap (m : Int) = m := by rw [IntKind.wrap_i64]; omega
        have hn1 : ¬ L = [] := fun e => by rw [e] at hlt; exact absurd hlt (Nat.not_lt_zero _)
        have hwk : IntKind.i64.wrap ((k : Int) + 1) = (k : Int) + 1 := by rw [IntKind.wrap_i64]; omega
        have s0 : w1.heap.size < wr.heap.size := by omega
        have s1 : w1.heap.size + 1 < wr.heap.size := (World.ownsRow.lt hown (w1.heap.size + 1) rfl).2
        have hra := range_below HRA.out hbr (by omega)
        have a0 := (range_flat hra (show k < A.length by omega)).1
        have a1 := (range_flat hra (show k < A.length by omega)).2
        have b0 := (range_flat hra (show m < A.length by omega)).1
        have b1 := (range_flat hra (show m < A.length by omega)).2
        rw [HAS.out k hlt] at a0 a1
        rw [HAS.out m hml] at b0 b1
        have z0 : wr.frozen? ⟨w1.heap.size + 1, k * 2, none⟩ = false := World.ownsRow.frozenAt hown _
        have z1 : wr.frozen? ⟨w1.heap.size + 1, k * 2 + 1, none⟩ = false := World.ownsRow.frozenAt hown _
        have d0 := (World.ownsRow.cellAt hown (k * 2) (by omega)).trans (flat_get dk k (by omega)).1
        have d1 := (World.ownsRow.cellAt hown (k * 2 + 1) (by omega)).trans (flat_get dk k (by omega)).2
        have HG0 : Hid (gapT S k = lessT (S.getD m (0, 0)).1 (S.getD m (0, 0)).2 (S.getD k (0, 0)).1 (S.getD k (0, 0)).2) := by show _ = _; unfold gapT; rw [hSL, ← hm]
        have HN : Hid ((gapT S k).2.2 = true → ∀ x, x = ((gapT S k).1, (gapT S k).2.1) → ∀ j, j < k + 1 → (gapT S j).2.2 = true ∧ (dk.set k x).getD j (0, 0) = ((gapT S j).1, (gapT S j).2.1)) := fun ho x hx j hj => by
          by_cases hjk : j = k
          · subst hjk
            refine ⟨ho, ?_⟩
            rw [List.getD_eq_getElem?_getD, List.getElem?_set_self (by omega), hx]; rfl
          · have e : (dk.set k x).getD j (0, 0) = dk.getD j (0, 0) := by
              rw [List.getD_eq_getElem?_getD, List.getElem?_set_ne (fun e => hjk e.symm), ← List.getD_eq_getElem?_getD]
            rw [e]
            exact HA.out j (by omega)
        have HF0 : Hid ((gapT S k).2.2 = false → gapOk S = false) := fun ho => gapOk_no (by omega) ho
        clear hra hall hown hm
        generalize (dk.getD k (0, 0)).1 = o1 at d0
        generalize (dk.getD k (0, 0)).2 = o2 at d1
        generalize S.getD k (0, 0) = sk at *
        generalize S.getD m (0, 0) = sm at *
        obtain ⟨kn, kd⟩ := sk
        obtain ⟨mn, md⟩ := sm
        simp only at a0 a1 b0 b1 HG0
        generalize hr : gapT S k = r at *
        have HLS := Lib.hid HG0.out.symm
        clear hr HG0
        obtain ⟨p, q, okk⟩ := r
        simp only at HN HF0
        go_wp2_with fail
        have hS0 : ∀ o, wr.drew.cell? ⟨w1.heap.size, o, none⟩ = wr.cell? ⟨w1.heap.size, o, none⟩ := fun o => rfl
        refine wp_region_held (by kernel_rfl) (S := fun W => ∀ o, W.cell? ⟨w1.heap.size, o, none⟩ = wr.cell? ⟨w1.heap.size, o, none⟩) ?_
        refine take_first (i := 0) (v := .slice (some ⟨w1.heap.size + 1, 0, none⟩) L.length L.length) 27 rfl rfl (by kernel_rfl) (by kernel_rfl) (by kernel_rfl) (fun _ _ _ h => h) (by rfl) ?_ (by assumption) ?_
        · intro W hS'
          go_simp
        simp only [Act.put, List.setIfInBounds_toArray, List.set_cons_zero, List.set_cons_succ]
        refine take_first (i := 1) (v := .int .i64 (k : Int)) 28 rfl rfl (by kernel_rfl) (by kernel_rfl) (by kernel_rfl) (fun _ _ _ h => h) (by rfl) ?_ (by assumption) ?_
        · intro W hS'
          go_simp
        simp only [Act.put, List.setIfInBounds_toArray, List.set_cons_zero, List.set_cons_succ]
        refine take_first (i := 2) (v := .int .i64 (k : Int)) 29 rfl rfl (by kernel_rfl) (by kernel_rfl) (by kernel_rfl) (fun _ _ _ h => h) (by rfl) ?_ (by assumption) ?_
        · intro W hS'
          go_simp
        simp only [Act.put, List.setIfInBounds_toArray, List.set_cons_zero, List.set_cons_succ]
        refine take_first (i := 3) (v := .int .i64 ((k : Int) + 1)) 30 rfl rfl (by kernel_rfl) (by kernel_rfl) (by kernel_rfl) (fun _ _ _ h => h) (by rfl) ?_ (by assumption) ?_
        · intro W hS'
          go_simp
        simp only [Act.put, List.setIfInBounds_toArray, List.set_cons_zero, List.set_cons_succ]
        refine take_first (i := 4) (v := .slice (some ⟨w1.heap.size + 1, 0, none⟩) L.length L.length) 31 rfl rfl (by kernel_rfl) (by kernel_rfl) (by kernel_rfl) (fun _ _ _ h => h) (by rfl) ?_ (by assumption) ?_
        · intro W hS'
          go_simp
        simp only [Act.put, List.setIfInBounds_toArray, List.set_cons_zero, List.set_cons_succ]
        refine take_first (i := 5) (v := .int .i64 (L.length : Int)) 32 rfl rfl (by kernel_rfl) (by kernel_rfl) (by kernel_rfl) (fun _ _ _ h => h) (by rfl) ?_ (by assumption) ?_
        · intro W hS'
          go_simp
        simp only [Act.put, List.setIfInBounds_toArray, List.set_cons_zero, List.set_cons_succ]
        refine take_first (i := 6) (v := .int .i64 (m : Int)) 33 rfl rfl (by kernel_rfl) (by kernel_rfl) (by kernel_rfl) (fun _ _ _ h => h) (by rfl) ?_ (by assumption) ?_
        · intro W hS'
          go_simp
        simp only [Act.put, List.setIfInBounds_toArray, List.set_cons_zero, List.set_cons_succ]
        refine take_first (i := 7) (v := .pointer (some ⟨w1.heap.size, m * 2, none⟩)) 34 rfl rfl (by kernel_rfl) (by kernel_rfl) (by kernel_rfl) (fun _ _ _ h => h) (by rfl) ?_ (by assumption) ?_
        · intro W hS'
          go_simp
        simp only [Act.put, List.setIfInBounds_toArray, List.set_cons_zero, List.set_cons_succ]
        refine take_first (i := 8) (v := .agg #[.int .i64 mn, .int .i64 md]) 35 rfl rfl (by kernel_rfl) (by kernel_rfl) (by kernel_rfl) (fun _ _ _ h => h) (by rfl) ?_ (by assumption) ?_
        · intro W hS'
          go_simp
        simp only [Act.put, List.setIfInBounds_toArray, List.set_cons_zero, List.set_cons_succ]
        refine take_first (i := 9) (v := .int .i64 (k : Int)) 36 rfl rfl (by kernel_rfl) (by kernel_rfl) (by kernel_rfl) (fun _ _ _ h => h) (by rfl) ?_ (by assumption) ?_
        · intro W hS'
          go_simp
        simp only [Act.put, List.setIfInBounds_toArray, List.set_cons_zero, List.set_cons_succ]
        refine take_first (i := 10) (v := .pointer (some ⟨w1.heap.size, k * 2, none⟩)) 37 rfl rfl (by kernel_rfl) (by kernel_rfl) (by kernel_rfl) (fun _ _ _ h => h) (by rfl) ?_ (by assumption) ?_
        · intro W hS'
          go_simp
        simp only [Act.put, List.setIfInBounds_toArray, List.set_cons_zero, List.set_cons_succ]
        refine take_first (i := 11) (v := .agg #[.int .i64 kn, .int .i64 kd]) 38 rfl rfl (by kernel_rfl) (by kernel_rfl) (by kernel_rfl) (fun _ _ _ h => h) (by rfl) ?_ (by assumption) ?_
        · intro W hS'
          go_simp
        simp only [Act.put, List.setIfInBounds_toArray, List.set_cons_zero, List.set_cons_succ]
        refine wpAnyH_all (rs := [12]) (by kernel_rfl) (by decide) (List.forall_mem_cons.2 ⟨?_, fun _ h => absurd h List.not_mem_nil⟩)
        refine wpOp_wp rfl rfl (wp_call_of (f := 88) (args := #[tv mn md, tv kn kd]) (by go_simp) ((less_val mn md kn kd HLS.out _).mono ?_))
        rintro e4 w4 ⟨rfl, hb4'⟩
        have hb4 : RowKit.Below wr.heap.size wr w4 := (show RowKit.Below wr.heap.size wr wr.drew from (Below.refl _ _).drew).trans hb4'
        have hS4 : ∀ o, w4.cell? ⟨w1.heap.size, o, none⟩ = wr.cell? ⟨w1.heap.size, o, none⟩ := fun o => (bcell hb4).1 _ _ s0
        clear hb4'
        refine ⟨_, rfl, hS4, ?_⟩

        obtain ⟨hc4, hf4⟩ := bcell hb4
        have hz4 := hb4.size
        have d0' := (hc4 _ (k * 2) s1).trans d0
        have d1' := (hc4 _ (k * 2 + 1) s1).trans d1
        have z0' := (hf4 _ (k * 2) s1).trans z0
        have z1' := (hf4 _ (k * 2 + 1) s1).trans z1
        have s2 : w1.heap.size + 1 < w4.heap.size := by omega
        have HO4 := Lib.hid (World.ownsRow.kept HO.out (row := none) ⟨hb4.os, hb4.tape, hb4.output, hb4.size, fun k hk _ => hb4.block k hk⟩ (Classical.em _))
        have hbw : RowKit.Below w2.heap.size w2 w4 := hbr.trans (hb4.mono hbr.size)
        clear a0 a1 b0 b1 d0 d1 z0 z1 hc4 hf4
        cases okk with
        | false =>
          have HF := Lib.hid (HF0.out rfl)
          refine take_first (i := 13) (v := rv (p, q, false)) 26 rfl rfl (by kernel_rfl) (by kernel_rfl) (by kernel_rfl) (fun _ _ _ h => h) (by rfl) ?_ (by assumption) ?_
          · intro W hS'
            go_simp
          simp only [Act.put, List.setIfInBounds_toArray, List.set_cons_zero, List.set_cons_succ]
          refine take_first (i := 14) (v := .agg #[.int .i64 p, .int .i64 q]) 40 rfl rfl (by kernel_rfl) (by kernel_rfl) (by kernel_rfl) (fun _ _ _ h => h) (by rfl) ?_ (by assumption) ?_
          · intro W hS'
            go_simp
          simp only [Act.put, List.setIfInBounds_toArray, List.set_cons_zero, List.set_cons_succ]
          refine take_first (i := 15) (v := .bool false) 41 rfl rfl (by kernel_rfl) (by kernel_rfl) (by kernel_rfl) (fun _ _ _ h => h) (by rfl) ?_ (by assumption) ?_
          · intro W hS'
            go_simp
          simp only [Act.put, List.setIfInBounds_toArray, List.set_cons_zero, List.set_cons_succ]
          refine take_first (i := 16) (v := .pointer (some ⟨w1.heap.size + 1, k * 2, none⟩)) 42 rfl rfl (by kernel_rfl) (by kernel_rfl) (by kernel_rfl) (fun _ _ _ h => h) (by rfl) ?_ (by assumption) ?_
          · intro W hS'
            go_simp
          simp only [Act.put, List.setIfInBounds_toArray, List.set_cons_zero, List.set_cons_succ]
          refine wpAnyH_all (rs := [17]) (by kernel_rfl) (by decide) (List.forall_mem_cons.2 ⟨?_, fun _ h => absurd h List.not_mem_nil⟩)
          refine wpOp_skip (w' := (w4.setCell ⟨w1.heap.size + 1, k * 2, none⟩ (.int .i64 p)).setCell ⟨w1.heap.size + 1, k * 2 + 1, none⟩ (.int .i64 q)) rfl rfl rfl (by go_simp) ⟨?_, ?_⟩
          · intro o
            exact (World.cell?_setCell_other _ _ _ _ (by simp)).trans ((World.cell?_setCell_other _ _ _ _ (by simp)).trans (hS4 o))
          refine wpAnyH_all (rs := [18]) (by kernel_rfl) (by decide) (List.forall_mem_cons.2 ⟨?_, fun _ h => absurd h List.not_mem_nil⟩)
          refine wpOp_value (v := .bool false) (w' := (w4.setCell ⟨w1.heap.size + 1, k * 2, none⟩ (.int .i64 p)).setCell ⟨w1.heap.size + 1, k * 2 + 1, none⟩ (.int .i64 q)) 7 rfl rfl rfl (by go_simp) ⟨?_, ?_⟩
          · intro o
            exact (World.cell?_setCell_other _ _ _ _ (by simp)).trans ((World.cell?_setCell_other _ _ _ _ (by simp)).trans (hS4 o))
          simp only [Act.put, List.setIfInBounds_toArray, List.set_cons_zero, List.set_cons_succ]
          refine wpAnyH_done (by kernel_rfl) ?_ _

          go_wp2
          go_ret2
          rw [show gapsR L tn td = ([], false) from by rw [HRD.out, HF.out]; rfl]
          have s1 := World.ownsRow.stored HO4.out (k * 2) (.int .i64 p)
          have s2' := World.ownsRow.stored s1.1 (k * 2 + 1) (.int .i64 q)
          exact TurnsOut.none (Below.grown (w := w4) (hB2.trans (hbw.mono hB2.size)) (grownBy_trans s1.2 s2'.2) (by omega) (fun j hj => some_le hj (by omega)))
        | true =>
          have HNN := Lib.hid (HN.out rfl (p, q) rfl)
          refine take_first (i := 13) (v := rv (p, q, true)) 26 rfl rfl (by kernel_rfl) (by kernel_rfl) (by kernel_rfl) (fun _ _ _ h => h) (by rfl) ?_ (by assumption) ?_
          · intro W hS'
            go_simp
          simp only [Act.put, List.setIfInBounds_toArray, List.set_cons_zero, List.set_cons_succ]
          refine take_first (i := 14) (v := .agg #[.int .i64 p, .int .i64 q]) 40 rfl rfl (by kernel_rfl) (by kernel_rfl) (by kernel_rfl) (fun _ _ _ h => h) (by rfl) ?_ (by assumption) ?_
          · intro W hS'
            go_simp
          simp only [Act.put, List.setIfInBounds_toArray, List.set_cons_zero, List.set_cons_succ]
          refine take_first (i := 15) (v := .bool true) 41 rfl rfl (by kernel_rfl) (by kernel_rfl) (by kernel_rfl) (fun _ _ _ h => h) (by rfl) ?_ (by assumption) ?_
          · intro W hS'
            go_simp
          simp only [Act.put, List.setIfInBounds_toArray, List.set_cons_zero, List.set_cons_succ]
          refine take_first (i := 16) (v := .pointer (some ⟨w1.heap.size + 1, k * 2, none⟩)) 42 rfl rfl (by kernel_rfl) (by kernel_rfl) (by kernel_rfl) (fun _ _ _ h => h) (by rfl) ?_ (by assumption) ?_
          · intro W hS'
            go_simp
          simp only [Act.put, List.setIfInBounds_toArray, List.set_cons_zero, List.set_cons_succ]
          refine wpAnyH_all (rs := [17]) (by kernel_rfl) (by decide) (List.forall_mem_cons.2 ⟨?_, fun _ h => absurd h List.not_mem_nil⟩)
          refine wpOp_skip (w' := (w4.setCell ⟨w1.heap.size + 1, k * 2, none⟩ (.int .i64 p)).setCell ⟨w1.heap.size + 1, k * 2 + 1, none⟩ (.int .i64 q)) rfl rfl rfl (by go_simp) ⟨?_, ?_⟩
          · intro o
            exact (World.cell?_setCell_other _ _ _ _ (by simp)).trans ((World.cell?_setCell_other _ _ _ _ (by simp)).trans (hS4 o))
          refine wpAnyH_all (rs := [18]) (by kernel_rfl) (by decide) (List.forall_mem_cons.2 ⟨?_, fun _ h => absurd h List.not_mem_nil⟩)
          refine wpOp_value (v := .bool true) (w' := (w4.setCell ⟨w1.heap.size + 1, k * 2, none⟩ (.int .i64 p)).setCell ⟨w1.heap.size + 1, k * 2 + 1, none⟩ (.int .i64 q)) 7 rfl rfl rfl (by go_simp) ⟨?_, ?_⟩
          · intro o
            exact (World.cell?_setCell_other _ _ _ _ (by simp)).trans ((World.cell?_setCell_other _ _ _ _ (by simp)).trans (hS4 o))
          simp only [Act.put, List.setIfInBounds_toArray, List.set_cons_zero, List.set_cons_succ]
          refine wpAnyH_done (by kernel_rfl) ?_ _

          go_wp2
          go_roundw
          case rel =>
            have s1 := World.ownsRow.stored HO4.out (k * 2) (.int .i64 p)
            have s2' := World.ownsRow.stored s1.1 (k * 2 + 1) (.int .i64 q)
            refine ⟨k + 1, dk.set k (p, q), by omega, by go_num, by simpa using hdl, HNN.out, ?_, ?_⟩
            · rw [← flat_set]
              exact s2'.1
            · exact Below.grown (w := w4) hbw (grownBy_trans s1.2 s2'.2) (by omega) (fun j hj => some_le hj (by omega))
          case measure => simp [intOf]; omega
      · obtain rfl : k = L.length := by omega
        have hok := gapOk_yes (S := S) (fun j hj => (HA.out j (by omega)).1)
        have hdk := gapL_eq (S := S) (dk := dk) (by omega) (fun j hj => (HA.out j (by omega)).2)
        have HRR := Lib.hid (show gapsR L tn td = (gapL S, true) from by rw [HRD.out, hok]; rfl)
        have HDK := Lib.hid hdk
        clear hok hdk hall hown
        go_wp2
        go_ret2
        rw [HRR.out]
        refine ⟨_, rfl, ?_, hB2.trans (hbr.mono hB2.size)⟩
        rw [← HDK.out]
        refine TRow.mono (b := w1.heap.size + 1) ?_ (by omega)
        unfold TRow
        rw [hdl]
        exact HO.out
end Go.Proofs.Ytgdjnnelonnoaaa
