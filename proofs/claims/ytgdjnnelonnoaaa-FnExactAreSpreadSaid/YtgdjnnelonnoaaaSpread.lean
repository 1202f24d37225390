/- Whether hands are evenly spread: by the program and by the model. -/
import Derived.Test.YtgdjnnelonnoaaaGFin
set_option linter.unusedSimpArgs false
set_option linter.unusedVariables false
set_option maxRecDepth 100000
namespace Go.Proofs.Ytgdjnnelonnoaaa
open Go.RowKit

attribute [local go_sem ↓] Go.wp_at_zero Go.wp_at_succ
attribute [local go_sem ↓] run_neq_turn
def spreadB (G : List (Int × Int)) : Bool := (G.all fun g => decide (g = G.getD 0 (0, 0))) && (decide (G.length = 1) || decide (0 < (G.getD 0 (0, 0)).1))
def spreadR (R : List (Int × Int) × Bool) : Bool × Bool := if R.2 then (spreadB R.1, true) else (false, false)
theorem gapT_nonneg {S : List (Int × Int)} {i : Nat} : 0 ≤ (gapT S i).1 := by
  unfold gapT lessT
  split
  · rename_i h
    simp only [Bool.and_eq_true] at h
    have h1 := den_pos (a := (S.getD ((i + 1) % S.length) (0, 0))) h.1
    have h2 := den_pos (a := (S.getD i (0, 0))) h.2
    unfold mk
    split
    · exact (low_bd _ _ (Int.mul_pos (by omega) (by omega))).1
    · decide
  · decide
theorem gapsR_info {L : List (Int × Int × Int)} {tn td : Int} (h : (gapsR L tn td).2 = true) : 1 ≤ (gapsR L tn td).1.length ∧ (gapsR L tn td).1.length ≤ 12 ∧ ∀ j, j < (gapsR L tn td).1.length → 0 ≤ ((gapsR L tn td).1.getD j (0, 0)).1 := by
  unfold gapsR at h ⊢
  split at h
  · rename_i g
    rw [if_pos g]
    simp only [Bool.and_eq_true, spOk] at g
    have hb := inB_bd g.1.1
    have hl : (gapL (spL L tn td)).length = L.length := by simp [gapL, spL_len]
    refine ⟨by simp only; omega, by simp only; omega, fun j hj => ?_⟩
    simp only at hj ⊢
    have hj' : j < (spL L tn td).length := by rw [spL_len]; omega
    have e : (gapL (spL L tn td)).getD j (0, 0) = ((gapT (spL L tn td) j).1, (gapT (spL L tn td) j).2.1) := by
      simp [gapL, List.getD_eq_getElem?_getD, hj']
    rw [e]
    exact gapT_nonneg
  · cases h
theorem all_same {G : List (Int × Int)} (h : ∀ j, j < G.length → G.getD j (0, 0) = G.getD 0 (0, 0)) : (G.all fun g => decide (g = G.getD 0 (0, 0))) = true := by
  rw [List.all_eq_true]
  intro x hx
  obtain ⟨j, hj, e⟩ := List.getElem_of_mem hx
  have := h j hj
  rw [List.getD_eq_getElem?_getD, List.getElem?_eq_getElem hj, e] at this
  exact decide_eq_true this
theorem all_not {G : List (Int × Int)} {k : Nat} (hk : k < G.length) (h : ¬ G.getD k (0, 0) = G.getD 0 (0, 0)) : spreadB G = false := by
  rw [← Bool.not_eq_true]
  intro hs
  simp only [spreadB, Bool.and_eq_true, List.all_eq_true] at hs
  exact h (of_decide_eq_true (hs.1 _ (getD_mem hk)))
theorem spread_end {G : List (Int × Int)} (h : ∀ j, j < G.length → G.getD j (0, 0) = G.getD 0 (0, 0)) : spreadB G = (decide (G.length = 1) || decide (0 < (G.getD 0 (0, 0)).1)) := by
  unfold spreadB
  rw [all_same h, Bool.true_and]

set_option maxHeartbeats 1600000 in
theorem implAreSpread_any (a : Option Addr) (c : Nat) (L : List (Int × Int × Int)) (tn td : Int) (w : World) (hin : HIn w a L) (hl : L.length ≤ 1048576) :
    Calls Try.prog 55 #[.slice a L.length c, tv tn td] w fun e w' => e = .returned (.tuple #[.bool (spreadR (gapsR L tn td)).1, .bool (spreadR (gapsR L tn td)).2]) ∧ Below w.heap.size w w' := by
  have HC := Lib.hid (implGapsAt_any a c L tn td (w.alloc (Obj.cells #[Value.int .i64 tn, Value.int .i64 td] 27)) (hin.below (by (repeat' (first | (with_reducible exact Below.refl _ _) | (with_reducible assumption) | (with_reducible refine Below.alloc ?_ ?_ _) | (with_reducible refine Below.drew ?_) | (with_reducible refine below_drewN ?_ _) | (with_reducible refine Below.setCell ?_ ?_ _) | (with_reducible refine below_call ?_ ?_ (by assumption)) | go_size)))) hl)
  have HI : Hid ((gapsR L tn td).2 = true → 1 ≤ (gapsR L tn td).1.length ∧ (gapsR L tn td).1.length ≤ 12 ∧ ∀ j, j < (gapsR L tn td).1.length → 0 ≤ ((gapsR L tn td).1.getD j (0, 0)).1) := fun h => gapsR_info h
  clear hin
  generalize gapsR L tn td = R at *
  obtain ⟨G, ok⟩ := R
  cases ok
  · rw [show spreadR (G, false) = (false, false) from rfl]
    (go_enter Try.func55, Try.ntmps55)
    go_wp2_with fail
    refine HC.out.mono ?_
    rintro e1 w1 ⟨v1, rfl, hr1, hb1⟩
    go_wp2
    go_ret2
    exact ⟨rfl, Below.trans (b := _) (by (repeat' (first | (with_reducible exact Below.refl _ _) | (with_reducible assumption) | (with_reducible refine Below.alloc ?_ ?_ _) | (with_reducible refine Below.drew ?_) | (with_reducible refine below_drewN ?_ _) | (with_reducible refine Below.setCell ?_ ?_ _) | (with_reducible refine below_call ?_ ?_ (by assumption)) | go_size))) (hb1.mono (by simp))⟩
  · rw [show spreadR (G, true) = (spreadB G, true) from rfl]
    obtain ⟨g1, g12, gn⟩ := HI.out rfl
    have GN := Lib.hid gn
    clear gn HI
    (go_enter Try.func55, Try.ntmps55)
    go_wp2_with fail
    refine HC.out.mono ?_
    rintro e1 w1 ⟨v1, rfl, hr1, hb1⟩
    have hbz : Below w.heap.size w w1 := Below.trans (b := _) (by (repeat' (first | (with_reducible exact Below.refl _ _) | (with_reducible assumption) | (with_reducible refine Below.alloc ?_ ?_ _) | (with_reducible refine Below.drew ?_) | (with_reducible refine below_drewN ?_ _) | (with_reducible refine Below.setCell ?_ ?_ _) | (with_reducible refine below_call ?_ ?_ (by assumption)) | go_size))) (hb1.mono (by simp))
    obtain ⟨a1, c1, rfl, l1, m1, x1⟩ := (show TRow w1 _ v1 G from hr1).cells
    obtain ⟨g, rfl, -, gl, z3, z4⟩ := x1 0 (by omega)
    have X1 := Lib.hid x1
    simp only [Nat.zero_mul, Nat.zero_add] at z3 z4
    clear x1 hr1 hb1 HC
    go_wp2
    go_loopw [20] (fun i wr => ∃ k : Nat, k ≤ G.length ∧ i = .int .i64 k ∧ (∀ j, j < k → G.getD j (0, 0) = G.getD 0 (0, 0)) ∧ Below w1.heap.size w1 wr) (fun i _ => G.length - (intOf i).toNat)
    case atStart => exact ⟨0, Nat.zero_le _, rfl, fun j hj => absurd hj (Nat.not_lt_zero _), Below.refl _ _⟩
    case round =>
      obtain ⟨k, hk, rfl, hall, hbr⟩ := hrel
      have HA := Lib.hid hall
      clear hall
      have hzr := hbr.size
      have i0 : (0 : Int) ≤ (k : Int) := Int.natCast_nonneg _
      have i2 : (0 : Int) < (G.length : Int) := by omega
      have i3 : 0 < G.length := by omega
      have i4 : ¬ G = [] := fun h => by rw [h] at i3; exact absurd i3 (by simp)
      have u1 : g < wr.heap.size := by omega
      have f3 := ((bcell hbr).1 g 0 gl).trans z3
      have f4 := ((bcell hbr).1 g 1 gl).trans z4
      by_cases hlt : k < G.length
      · have i1 : (k : Int) < (G.length : Int) := by omega
        obtain ⟨g', hg', -, -, e3, e4⟩ := X1.out k hlt
        obtain rfl : g = g' := by simpa using hg'
        have e5 := ((bcell hbr).1 g (k * 2) gl).trans e3
        have e6 := ((bcell hbr).1 g (k * 2 + 1) gl).trans e4
        have HNO : Hid (¬ G.getD k (0, 0) = G.getD 0 (0, 0) → false = spreadB G) := fun h => (all_not hlt h).symm
        have HYS : Hid (G.getD k (0, 0) = G.getD 0 (0, 0) → ∀ j, j < k + 1 → G.getD j (0, 0) = G.getD 0 (0, 0)) := fun h j hj => by
          by_cases hjk : j = k
          · subst hjk; exact h
          · exact HA.out j (by omega)
        have HNN := Lib.hid (GN.out k hlt)
        clear e3 e4 hg'
        generalize G.getD k (0, 0) = t at *
        generalize G.getD 0 (0, 0) = t0 at *
        obtain ⟨x, y⟩ := t
        obtain ⟨x0, y0⟩ := t0
        simp only at e5 e6 f3 f4
        by_cases he : x = x0 ∧ y = y0
        · have hq : eqT x y x0 y0 = true := by simpa [eqT] using he
          have HN := Lib.hid (HYS.out (by obtain ⟨rfl, rfl⟩ := he; rfl))
          clear he
          go_wp2_with fail
          refine wp_region_below (by kernel_rfl) (by kernel_rfl) ?_
          repeat (first | (apply wpB_take (hw := rfl); (intro wq hq; obtain ⟨hcq, hfq⟩ := bcell hq; unfold atB; go_simp; exact ⟨rfl, rfl⟩); simp only [Act.put, List.setIfInBounds_toArray, List.set_cons_zero, List.set_cons_succ]) | (apply wpB_skip (hw := rfl); simp only [Act.put, List.setIfInBounds_toArray, List.set_cons_zero, List.set_cons_succ]))
          refine fun w2 hb2 => ?_
          have hbw : Below w1.heap.size w1 w2 := hbr.trans (Below.mono (B := wr.heap.size) (Below.trans (b := _) (by (repeat' (first | (with_reducible exact Below.refl _ _) | (with_reducible assumption) | (with_reducible refine Below.alloc ?_ ?_ _) | (with_reducible refine Below.drew ?_) | (with_reducible refine below_drewN ?_ _) | (with_reducible refine Below.setCell ?_ ?_ _) | (with_reducible refine below_call ?_ ?_ (by assumption)) | go_size))) (hb2.mono (by simp))) hbr.size)
          go_wp2
          go_roundw
          case rel => exact ⟨k + 1, by omega, by go_num, HN.out, hbw⟩
          case measure => simp [intOf]; omega
        · have hq : eqT x y x0 y0 = false := by simpa [eqT] using he
          have HN := Lib.hid (HNO.out (by simpa using he))
          clear he
          go_wp2_with fail
          refine wp_region_below (by kernel_rfl) (by kernel_rfl) ?_
          repeat (first | (apply wpB_take (hw := rfl); (intro wq hq; obtain ⟨hcq, hfq⟩ := bcell hq; unfold atB; go_simp; exact ⟨rfl, rfl⟩); simp only [Act.put, List.setIfInBounds_toArray, List.set_cons_zero, List.set_cons_succ]) | (apply wpB_skip (hw := rfl); simp only [Act.put, List.setIfInBounds_toArray, List.set_cons_zero, List.set_cons_succ]))
          refine fun w2 hb2 => ?_
          have hbw : Below w1.heap.size w1 w2 := hbr.trans (Below.mono (B := wr.heap.size) (Below.trans (b := _) (by (repeat' (first | (with_reducible exact Below.refl _ _) | (with_reducible assumption) | (with_reducible refine Below.alloc ?_ ?_ _) | (with_reducible refine Below.drew ?_) | (with_reducible refine below_drewN ?_ _) | (with_reducible refine Below.setCell ?_ ?_ _) | (with_reducible refine below_call ?_ ?_ (by assumption)) | go_size))) (hb2.mono (by simp))) hbr.size)
          go_wp2
          go_ret2
          exact ⟨by (rw [← HN.out]; rfl), hbz.trans (hbw.mono hbz.size)⟩
      · obtain rfl : k = G.length := by omega
        have HE := Lib.hid (spread_end HA.out)
        generalize G.getD 0 (0, 0) = t0 at *
        obtain ⟨x0, y0⟩ := t0
        simp only at f3 f4 HE
        by_cases h1 : G.length = 1
        · have h1' : (G.length : Int) = 1 := by omega
          have HEE := Lib.hid (show true = spreadB G from by rw [HE.out]; simp [h1])
          go_wp2
          go_ret2
          exact ⟨by (rw [← HEE.out]; rfl), hbz.trans (hbr.mono hbz.size)⟩
        · have h1' : ¬ (G.length : Int) = 1 := by omega
          have h1b : ((G.length : Int) == 1) = false := by simpa using h1'
          have HEE := Lib.hid (show decide (0 < x0) = spreadB G from by rw [HE.out]; simp [h1])
          go_wp2
          go_ret2
          exact ⟨by (rw [← HEE.out]; rfl), hbz.trans (hbr.mono hbz.size)⟩

set_option maxHeartbeats 1600000 in
theorem specAreSpread_any (a : Option Addr) (c : Nat) (L : List (Int × Int × Int)) (tn td : Int) (w : World) (hin : HIn w a L) (hi : AllI L) (ktd : (-9223372036854775808 ≤ td ∧ td ≤ 9223372036854775807)) (hl : L.length ≤ 1048576) :
    Calls Try.prog 53 #[.slice a L.length c, tv tn td] w fun e w' => e = .returned (.tuple #[.bool (spreadR (gapsR L tn td)).1, .bool (spreadR (gapsR L tn td)).2]) ∧ Below w.heap.size w w' := by
  have HC := Lib.hid (meGaps_any a c L tn td (w.alloc (Obj.cells #[Value.int .i64 tn, Value.int .i64 td] 27)) (hin.below (by (repeat' (first | (with_reducible exact Below.refl _ _) | (with_reducible assumption) | (with_reducible refine Below.alloc ?_ ?_ _) | (with_reducible refine Below.drew ?_) | (with_reducible refine below_drewN ?_ _) | (with_reducible refine Below.setCell ?_ ?_ _) | (with_reducible refine below_call ?_ ?_ (by assumption)) | go_size)))) hi ktd hl)
  have HI : Hid ((gapsR L tn td).2 = true → 1 ≤ (gapsR L tn td).1.length ∧ (gapsR L tn td).1.length ≤ 12 ∧ ∀ j, j < (gapsR L tn td).1.length → 0 ≤ ((gapsR L tn td).1.getD j (0, 0)).1) := fun h => gapsR_info h
  clear hin
  generalize gapsR L tn td = R at *
  obtain ⟨G, ok⟩ := R
  cases ok
  · rw [show spreadR (G, false) = (false, false) from rfl]
    (go_enter Try.func53, Try.ntmps53)
    go_wp2_with fail
    refine HC.out.mono ?_
    rintro e1 w1 ⟨v1, rfl, hr1, hb1⟩
    go_wp2
    go_ret2
    exact ⟨rfl, Below.trans (b := _) (by (repeat' (first | (with_reducible exact Below.refl _ _) | (with_reducible assumption) | (with_reducible refine Below.alloc ?_ ?_ _) | (with_reducible refine Below.drew ?_) | (with_reducible refine below_drewN ?_ _) | (with_reducible refine Below.setCell ?_ ?_ _) | (with_reducible refine below_call ?_ ?_ (by assumption)) | go_size))) (hb1.mono (by simp))⟩
  · rw [show spreadR (G, true) = (spreadB G, true) from rfl]
    obtain ⟨g1, g12, gn⟩ := HI.out rfl
    have GN := Lib.hid gn
    clear gn HI
    (go_enter Try.func53, Try.ntmps53)
    go_wp2_with fail
    refine HC.out.mono ?_
    rintro e1 w1 ⟨v1, rfl, hr1, hb1⟩
    have hbz : Below w.heap.size w w1 := Below.trans (b := _) (by (repeat' (first | (with_reducible exact Below.refl _ _) | (with_reducible assumption) | (with_reducible refine Below.alloc ?_ ?_ _) | (with_reducible refine Below.drew ?_) | (with_reducible refine below_drewN ?_ _) | (with_reducible refine Below.setCell ?_ ?_ _) | (with_reducible refine below_call ?_ ?_ (by assumption)) | go_size))) (hb1.mono (by simp))
    obtain ⟨a1, c1, rfl, l1, m1, x1⟩ := (show TRow w1 _ v1 G from hr1).cells
    obtain ⟨g, rfl, -, gl, z3, z4⟩ := x1 0 (by omega)
    have X1 := Lib.hid x1
    simp only [Nat.zero_mul, Nat.zero_add] at z3 z4
    clear x1 hr1 hb1 HC
    go_wp2
    go_loopw [20] (fun i wr => ∃ k : Nat, k ≤ G.length ∧ i = .int .i64 k ∧ (∀ j, j < k → G.getD j (0, 0) = G.getD 0 (0, 0) ∧ (1 < G.length → ¬ (G.getD 0 (0, 0)).1 = 0)) ∧ Below w1.heap.size w1 wr) (fun i _ => G.length - (intOf i).toNat)
    case atStart => exact ⟨0, Nat.zero_le _, rfl, fun j hj => absurd hj (Nat.not_lt_zero _), Below.refl _ _⟩
    case round =>
      obtain ⟨k, hk, rfl, hall, hbr⟩ := hrel
      have HA := Lib.hid hall
      clear hall
      have hzr := hbr.size
      have i0 : (0 : Int) ≤ (k : Int) := Int.natCast_nonneg _
      have i2 : (0 : Int) < (G.length : Int) := by omega
      have i3 : 0 < G.length := by omega
      have i4 : ¬ G = [] := fun h => by rw [h] at i3; exact absurd i3 (by simp)
      have u1 : g < wr.heap.size := by omega
      have f3 := ((bcell hbr).1 g 0 gl).trans z3
      have f4 := ((bcell hbr).1 g 1 gl).trans z4
      by_cases hlt : k < G.length
      · have i1 : (k : Int) < (G.length : Int) := by omega
        obtain ⟨g', hg', -, -, e3, e4⟩ := X1.out k hlt
        obtain rfl : g = g' := by simpa using hg'
        have e5 := ((bcell hbr).1 g (k * 2) gl).trans e3
        have e6 := ((bcell hbr).1 g (k * 2 + 1) gl).trans e4
        have HNO : Hid (¬ G.getD k (0, 0) = G.getD 0 (0, 0) → false = spreadB G) := fun h => (all_not hlt h).symm
        have HYS : Hid (G.getD k (0, 0) = G.getD 0 (0, 0) ∧ (1 < G.length → ¬ (G.getD 0 (0, 0)).1 = 0) → ∀ j, j < k + 1 → G.getD j (0, 0) = G.getD 0 (0, 0) ∧ (1 < G.length → ¬ (G.getD 0 (0, 0)).1 = 0)) := fun h j hj => by
          by_cases hjk : j = k
          · subst hjk; exact h
          · exact HA.out j (by omega)
        have HNN := Lib.hid (GN.out k hlt)
        have HZ : Hid (1 < G.length → (G.getD 0 (0, 0)).1 = 0 → false = spreadB G) := fun h h0 => by
          rw [show spreadB G = false from by
            unfold spreadB
            rw [h0]
            simp
            intro _
            omega]
        clear e3 e4 hg'
        generalize G.getD k (0, 0) = t at *
        generalize G.getD 0 (0, 0) = t0 at *
        obtain ⟨x, y⟩ := t
        obtain ⟨x0, y0⟩ := t0
        simp only at e5 e6 f3 f4
        by_cases he : x = x0 ∧ y = y0
        · have hq : eqT x y x0 y0 = true := by simpa [eqT] using he
          obtain ⟨rfl, rfl⟩ := he
          by_cases h1 : 1 < G.length
          · have h1' : (1 : Int) < (G.length : Int) := by omega
            by_cases hx : x = 0
            · have HN := Lib.hid (HZ.out h1 hx)
              have hxb : (x == 0) = true := by simpa using hx
              subst hx
              go_wp2_with fail
              refine wp_region_below (by kernel_rfl) (by kernel_rfl) ?_
              repeat (first | (apply wpB_take (hw := rfl); (intro wq hq; obtain ⟨hcq, hfq⟩ := bcell hq; unfold atB; go_simp; exact ⟨rfl, rfl⟩); simp only [Act.put, List.setIfInBounds_toArray, List.set_cons_zero, List.set_cons_succ]) | (apply wpB_skip (hw := rfl); simp only [Act.put, List.setIfInBounds_toArray, List.set_cons_zero, List.set_cons_succ]))
              refine fun w2 hb2 => ?_
              have hbw : Below w1.heap.size w1 w2 := hbr.trans (Below.mono (B := wr.heap.size) (Below.trans (b := _) (by (repeat' (first | (with_reducible exact Below.refl _ _) | (with_reducible assumption) | (with_reducible refine Below.alloc ?_ ?_ _) | (with_reducible refine Below.drew ?_) | (with_reducible refine below_drewN ?_ _) | (with_reducible refine Below.setCell ?_ ?_ _) | (with_reducible refine below_call ?_ ?_ (by assumption)) | go_size))) (hb2.mono (by simp))) hbr.size)
              go_wp2
              go_ret2
              exact ⟨by (rw [← HN.out]; rfl), hbz.trans (hbw.mono hbz.size)⟩
            · have HN := Lib.hid (HYS.out ⟨rfl, fun _ => hx⟩)
              have hxb : (x == 0) = false := by simpa using hx
              go_wp2_with fail
              refine wp_region_below (by kernel_rfl) (by kernel_rfl) ?_
              repeat (first | (apply wpB_take (hw := rfl); (intro wq hq; obtain ⟨hcq, hfq⟩ := bcell hq; unfold atB; go_simp; exact ⟨rfl, rfl⟩); simp only [Act.put, List.setIfInBounds_toArray, List.set_cons_zero, List.set_cons_succ]) | (apply wpB_skip (hw := rfl); simp only [Act.put, List.setIfInBounds_toArray, List.set_cons_zero, List.set_cons_succ]))
              refine fun w2 hb2 => ?_
              have hbw : Below w1.heap.size w1 w2 := hbr.trans (Below.mono (B := wr.heap.size) (Below.trans (b := _) (by (repeat' (first | (with_reducible exact Below.refl _ _) | (with_reducible assumption) | (with_reducible refine Below.alloc ?_ ?_ _) | (with_reducible refine Below.drew ?_) | (with_reducible refine below_drewN ?_ _) | (with_reducible refine Below.setCell ?_ ?_ _) | (with_reducible refine below_call ?_ ?_ (by assumption)) | go_size))) (hb2.mono (by simp))) hbr.size)
              go_wp2
              go_roundw
              case rel => exact ⟨k + 1, by omega, by go_num, HN.out, hbw⟩
              case measure => simp [intOf]; omega
          · have h1' : ¬ (1 : Int) < (G.length : Int) := by omega
            have h1d : decide ((1 : Int) < (G.length : Int)) = false := decide_eq_false h1'
            have HN := Lib.hid (HYS.out ⟨rfl, fun h => absurd h h1⟩)
            go_wp2_with fail
            refine wp_region_below (by kernel_rfl) (by kernel_rfl) ?_
            repeat (first | (apply wpB_take (hw := rfl); (intro wq hq; obtain ⟨hcq, hfq⟩ := bcell hq; unfold atB; go_simp; exact ⟨rfl, rfl⟩); simp only [Act.put, List.setIfInBounds_toArray, List.set_cons_zero, List.set_cons_succ]) | (apply wpB_skip (hw := rfl); simp only [Act.put, List.setIfInBounds_toArray, List.set_cons_zero, List.set_cons_succ]))
            refine fun w2 hb2 => ?_
            have hbw : Below w1.heap.size w1 w2 := hbr.trans (Below.mono (B := wr.heap.size) (Below.trans (b := _) (by (repeat' (first | (with_reducible exact Below.refl _ _) | (with_reducible assumption) | (with_reducible refine Below.alloc ?_ ?_ _) | (with_reducible refine Below.drew ?_) | (with_reducible refine below_drewN ?_ _) | (with_reducible refine Below.setCell ?_ ?_ _) | (with_reducible refine below_call ?_ ?_ (by assumption)) | go_size))) (hb2.mono (by simp))) hbr.size)
            go_wp2
            go_roundw
            case rel => exact ⟨k + 1, by omega, by go_num, HN.out, hbw⟩
            case measure => simp [intOf]; omega
        · have hq : eqT x y x0 y0 = false := by simpa [eqT] using he
          have HN := Lib.hid (HNO.out (by simpa using he))
          clear he
          go_wp2_with fail
          refine wp_region_below (by kernel_rfl) (by kernel_rfl) ?_
          repeat (first | (apply wpB_take (hw := rfl); (intro wq hq; obtain ⟨hcq, hfq⟩ := bcell hq; unfold atB; go_simp; exact ⟨rfl, rfl⟩); simp only [Act.put, List.setIfInBounds_toArray, List.set_cons_zero, List.set_cons_succ]) | (apply wpB_skip (hw := rfl); simp only [Act.put, List.setIfInBounds_toArray, List.set_cons_zero, List.set_cons_succ]))
          refine fun w2 hb2 => ?_
          have hbw : Below w1.heap.size w1 w2 := hbr.trans (Below.mono (B := wr.heap.size) (Below.trans (b := _) (by (repeat' (first | (with_reducible exact Below.refl _ _) | (with_reducible assumption) | (with_reducible refine Below.alloc ?_ ?_ _) | (with_reducible refine Below.drew ?_) | (with_reducible refine below_drewN ?_ _) | (with_reducible refine Below.setCell ?_ ?_ _) | (with_reducible refine below_call ?_ ?_ (by assumption)) | go_size))) (hb2.mono (by simp))) hbr.size)
          go_wp2
          go_ret2
          exact ⟨by (rw [← HN.out]; rfl), hbz.trans (hbw.mono hbz.size)⟩
      · obtain rfl : k = G.length := by omega
        have HEE := Lib.hid (show true = spreadB G from by
          rw [spread_end (fun j hj => (HA.out j hj).1)]
          have h0 := GN.out 0 (by omega)
          have h2 := (HA.out 0 (by omega)).2
          by_cases h1 : G.length = 1
          · simp [h1]
          · have := h2 (by omega)
            have hp : 0 < (G.getD 0 (0, 0)).1 := by omega
            rw [decide_eq_true hp]; simp)
        go_wp2
        go_ret2
        exact ⟨by (rw [← HEE.out]; rfl), hbz.trans (hbr.mono hbz.size)⟩

end Go.Proofs.Ytgdjnnelonnoaaa
