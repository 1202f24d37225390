/- By how much a dial is turned: by the program and by the model. -/
import Derived.Test.YticdmochedadbaaGreatSeen5
import Derived.Test.YticdmochedadbaaGreatSUniq
set_option linter.unusedSimpArgs false
set_option linter.unusedVariables false
set_option maxRecDepth 100000
namespace Go.Proofs.YticdmochedadbaaGreat
open Go.RowKit
attribute [local go_sem ↓] Go.wp_at_zero Go.wp_at_succ

theorem flat_zero (n : Nat) : flat (List.replicate n (0, 0)) = List.replicate (n * 2) (.int .i64 0) := by
  induction n with
  | zero => rfl
  | succ n ih =>
    rw [List.replicate_succ, show (n + 1) * 2 = n * 2 + 1 + 1 by omega, List.replicate_succ, List.replicate_succ]
    simp only [flat, ih]
theorem made_zeroT (n : Nat) : (madeCells (Value.agg #[.int .i64 0, .int .i64 0]).cells (n * 2)).toList = flat (List.replicate n (0, 0)) := by
  rw [flat_zero]
  apply List.ext_getElem?
  intro j
  by_cases hj : j < n * 2
  · have h3 : j % 2 = 0 ∨ j % 2 = 1 := by omega
    rw [List.getElem?_replicate, if_pos hj]
    simp only [madeCells, Value.cells, Array.getElem?_toList]
    rcases h3 with e | e <;> simp [hj, e]
  · simp [madeCells, hj]
theorem good_low_of (m D : Int) (hD : 1 ≤ D) (h : lowDen m D ≤ 1000000) : goodB (lowNum m D) (lowDen m D) = true := by
  have b := low_bd m D hD
  have l := low_lt m D hD
  have c := gc_low m D hD
  exact (goodB_iff _ _).2 ⟨b.2.1, h, b.1, by omega, c⟩
theorem parts_all {h n d : Int} (hh : 1 ≤ h) (hd : 1 ≤ d) (hb : partsOk h n d = true) : AllGood (partsL h n d) := by
  intro t ht
  simp only [partsL, hb, if_true, List.mem_map, List.mem_range] at ht
  obtain ⟨j, hj, rfl⟩ := ht
  simp only [partsOk, List.all_eq_true, List.mem_range, decide_eq_true_eq] at hb
  exact good_low_of _ _ (Int.mul_pos (by omega) (by omega)) (hb j hj)
theorem map_take_snoc (f : Int × Int → Int × Int) {L : List (Int × Int)} {k : Nat} (hk : k < L.length) : (L.take (k + 1)).map f = (L.take k).map f ++ [f (L.getD k (0, 0))] := by
  rw [take_snoc hk, List.map_append]; rfl

/-- By how much a is ahead of t. -/
def tdl (a b : Int) (t : Int × Int) : Int × Int := (lowNum (a * t.2 - t.1 * b) (b * t.2), lowDen (a * t.2 - t.1 * b) (b * t.2))
def tdOk (a b : Int) (L : List (Int × Int)) : Bool := L.all fun t => decide ((tdl a b t).2 ≤ 1000000)
theorem tdOk_yes {a b : Int} {L : List (Int × Int)} (h : ∀ j, j < L.length → (tdl a b (L.getD j (0, 0))).2 ≤ 1000000) : tdOk a b L = true := by
  unfold tdOk
  rw [List.all_eq_true]
  intro x hx
  obtain ⟨j, hj, e⟩ := List.getElem_of_mem hx
  have := h j hj
  rw [List.getD_eq_getElem?_getD, List.getElem?_eq_getElem hj, e] at this
  exact decide_eq_true this
theorem tdOk_no {a b : Int} {L : List (Int × Int)} {k : Nat} (hk : k < L.length) (h : ¬ (tdl a b (L.getD k (0, 0))).2 ≤ 1000000) : tdOk a b L = false := by
  rw [← Bool.not_eq_true]
  intro ha
  unfold tdOk at ha
  rw [List.all_eq_true] at ha
  exact h (of_decide_eq_true (ha _ (getD_mem hk)))
def tdR (R : List (Int × Int) × Bool) (a b : Int) : List (Int × Int) × Bool := if R.2 && tdOk a b R.1 then (R.1.map (tdl a b), true) else ([], false)
theorem tdR_len {R : List (Int × Int) × Bool} (a b : Int) (h : R.1.length ≤ 1000000) : (tdR R a b).1.length ≤ 1000000 := by
  unfold tdR
  split
  · simpa using h
  · simp
theorem less_yes {a b : Int} {t : Int × Int} (ha : goodB a b = true) (ht : goodB t.1 t.2 = true) (h : (tdl a b t).2 ≤ 1000000) : lessT a b t.1 t.2 = ((tdl a b t).1, (tdl a b t).2, true) := by
  simp only [lessT, ha, ht, Bool.and_self, if_true]
  exact mk_of h
theorem less_no {a b : Int} {t : Int × Int} (ha : goodB a b = true) (ht : goodB t.1 t.2 = true) (h : ¬ (tdl a b t).2 ≤ 1000000) : lessT a b t.1 t.2 = (0, 0, false) := by
  simp only [lessT, ha, ht, Bool.and_self, if_true]
  exact mk_not h
theorem implLess_val {r : Int × Int × Bool} (an ad bn bd : Int) (hr : lessT an ad bn bd = r) (w : World) :
    Calls Tryz.prog 37 #[tv an ad, tv bn bd] w fun e w' => e = .returned (rv r) ∧ Below w.heap.size w w' := by subst hr; exact implLessTurn_any an ad bn bd w
theorem diLess_val {r : Int × Int × Bool} (an ad bn bd : Int) (ga : goodB an ad = true) (gb : goodB bn bd = true) (hr : lessT an ad bn bd = r) (w : World) :
    Calls Tryz.prog 38 #[tv an ad, tv bn bd, .int .i64 (-1)] w fun e w' => e = .returned (rv r) ∧ Below w.heap.size w w' := by
  subst hr
  rw [show lessT an ad bn bd = mk (an * bd - bn * ad) (ad * bd) from by simp [lessT, ga, gb]]
  exact diAdd_less an ad bn bd (goodB_bd ga) (goodB_bd gb) w
theorem turR_all {h a b c d : Int} (hk : (turR h a b c d).2 = true) : AllGood (turR h a b c d).1 ∧ goodB a b = true := by
  unfold turR at hk ⊢
  split at hk
  · rename_i g
    rw [if_pos g]
    simp only at hk ⊢
    have hb := seAskB_bd g
    have gs : seenB a b c d = true := by simp only [seAskB, Bool.and_eq_true] at g; exact g.2
    have ap := ap_bd gs
    simp only [seenB, Bool.and_eq_true] at gs
    exact ⟨parts_all (by omega) ap.2.2.2.2.1.1 hk, gs.1⟩
  · cases hk

set_option maxHeartbeats 1600000 in
theorem implTurnsOfDial_any (h a b c d : Int) (w : World) :
    Calls Tryz.prog 8 #[.int .i64 h, sn a b c d] w (TurnsOut w (tdR (turR h a b c d) a b).1 (tdR (turR h a b c d) a b).2) := by
  have HLEN := Lib.hid (turR_len h a b c d)
  have HC : Hid (∀ w : World, Calls Tryz.prog 6 #[.int .i64 h, sn a b c d] w (TurnsOut w (turR h a b c d).1 (turR h a b c d).2)) := fun w => implTimesTurned_any h a b c d w
  have HG : Hid ((turR h a b c d).2 = true → AllGood (turR h a b c d).1 ∧ goodB a b = true) := fun h => turR_all h
  generalize turR h a b c d = R at *
  obtain ⟨L, ok⟩ := R
  cases ok
  · rw [show tdR (L, false) a b = ([], false) from rfl]
    (go_enter Tryz.func8, Tryz.ntmps8)
    go_wp2_with fail
    refine (HC.out _).mono ?_
    (rintro e1 w1 ⟨v1, rfl, hr1, hb1⟩; have HR1 := Lib.hid hr1; clear hr1; obtain ⟨hc1, hf1⟩ := bcell hb1; have hz1 := hb1.size; (try simp only [World.size_alloc, World.size_setCell, World.size_drew] at hz1); have q1 : w.heap.size ≤ w1.heap.size := (by omega); (try have q1_0 : w.heap.size < w1.heap.size := (by omega)); (try have q1_1 : w.heap.size + 1 < w1.heap.size := (by omega)); (try have q1_2 : w.heap.size + 2 < w1.heap.size := (by omega)); (try have q1_3 : w.heap.size + 3 < w1.heap.size := (by omega)))
    go_wp2
    go_ret2
    exact TurnsOut.none (by (repeat' (first | (with_reducible exact Below.refl _ _) | (with_reducible assumption) | (with_reducible refine Below.alloc ?_ ?_ _) | (with_reducible refine Below.drew ?_) | (with_reducible refine below_drewN ?_ _) | (with_reducible refine Below.setCell ?_ ?_ _) | (with_reducible refine below_call ?_ ?_ (by assumption)) | go_size)))
  obtain ⟨al, ga⟩ := HG.out rfl
  have hlen : L.length ≤ 1000000 := HLEN.out
  have GA := Lib.hid ga
  have AL := Lib.hid al
  clear ga al HG
  obtain ⟨i0, hi0, hz0, hz1, hz2⟩ := info_parts Tryz.infoTurn
  have I0 := Lib.hid hi0
  have Z0 := Lib.hid hz0
  have Z1 := Lib.hid hz1
  have Z2 := Lib.hid hz2
  clear hi0 hz0 hz1 hz2
  (go_enter Tryz.func8, Tryz.ntmps8)
  go_wp2_with fail
  refine (HC.out _).mono ?_
  (rintro e1 w1 ⟨v1, rfl, hr1, hb1⟩; have HR1 := Lib.hid hr1; clear hr1; obtain ⟨hc1, hf1⟩ := bcell hb1; have hz1 := hb1.size; (try simp only [World.size_alloc, World.size_setCell, World.size_drew] at hz1); have q1 : w.heap.size ≤ w1.heap.size := (by omega); (try have q1_0 : w.heap.size < w1.heap.size := (by omega)); (try have q1_1 : w.heap.size + 1 < w1.heap.size := (by omega)); (try have q1_2 : w.heap.size + 2 < w1.heap.size := (by omega)); (try have q1_3 : w.heap.size + 3 < w1.heap.size := (by omega)))
  obtain ⟨a1, c1, rfl, l1, m1, x1⟩ := HR1.out.cells
  have X1 := Lib.hid x1
  clear x1
  have hbx : ∀ o, w1.cell? ⟨w.heap.size, o, none⟩ = #[Value.int .i64 a, .int .i64 b, .int .i64 c, .int .i64 d][o]? := fun o => by
    rw [hc1 _ _ (by go_size)]; go_simp
  have HX := Lib.hid hbx
  clear hbx
  go_wp2_with (at_make; refine wpList_make_full _ rfl _ _ 30 rfl w1.heap.size 25 i0 (.agg #[.int .i64 0, .int .i64 0]) 2 Tryz.underlying30 I0.out Z0.out Z1.out .i64 .i64 _ _ L.length rfl rfl rfl rfl (by rw [Z2.out]; omega) (by unfold maxLen; omega) (by go_size) ?_; intro w0 hown0 hgrow0)
  rw [made_zeroT] at hown0
  have hb0 : Below w1.heap.size w1 w0 := Below.grown (Below.refl _ _) hgrow0 (by go_size) (fun k hk => by cases hk)
  have HO0 := Lib.hid hown0
  clear hown0 hgrow0
  go_loopw [24] (fun i wr => ∃ (k : Nat) (dk : List (Int × Int)), k ≤ L.length ∧ i = .int .i64 k ∧ dk.length = L.length ∧ (∀ j, j < k → (tdl a b (L.getD j (0, 0))).2 ≤ 1000000 ∧ dk.getD j (0, 0) = tdl a b (L.getD j (0, 0))) ∧ wr.ownsRow w1.heap.size 25 2 (.slice (some ⟨w1.heap.size, 0, none⟩) L.length L.length) L.length (flat dk) ∧ Below w1.heap.size w1 wr) (fun i _ => L.length - (intOf i).toNat)
  case atStart => exact ⟨0, List.replicate L.length (0, 0), Nat.zero_le _, rfl, by simp, fun j hj => absurd hj (Nat.not_lt_zero _), HO0.out, hb0⟩
  case round =>
    obtain ⟨k, dk, hk, rfl, hdl, hall, hown, hbr⟩ := hrel
    have HO := Lib.hid hown
    have HA := Lib.hid hall
    obtain ⟨hcr, hfr⟩ := bcell hbr
    have hzr := hbr.size
    have i0' : (0 : Int) ≤ (k : Int) := Int.natCast_nonneg _
    by_cases hlt : k < L.length
    · obtain ⟨g1, rfl, e1, e2, e3, e4⟩ := X1.out k hlt
      have i1 : (k : Int) < (L.length : Int) := by omega
      have f0 := (hcr w.heap.size 0 (by omega)).trans (HX.out 0)
      have f1 := (hcr w.heap.size 1 (by omega)).trans (HX.out 1)
      simp only [List.getElem?_toArray, List.getElem?_cons_zero, List.getElem?_cons_succ] at f0 f1
      have e5 := (hcr g1 (k * 2) (by omega)).trans e3
      have e6 := (hcr g1 (k * 2 + 1) (by omega)).trans e4
      have s0 : w.heap.size < wr.heap.size := by omega
      have s1 : w1.heap.size < wr.heap.size := (World.ownsRow.lt hown w1.heap.size rfl).2
      have z0 : wr.frozen? ⟨w1.heap.size, k * 2, none⟩ = false := World.ownsRow.frozenAt hown _
      have z1 : wr.frozen? ⟨w1.heap.size, k * 2 + 1, none⟩ = false := World.ownsRow.frozenAt hown _
      have d0 := (World.ownsRow.cellAt hown (k * 2) (by omega)).trans (flat_get dk k (by omega)).1
      have d1 := (World.ownsRow.cellAt hown (k * 2 + 1) (by omega)).trans (flat_get dk k (by omega)).2
      clear e3 e4 hcr hfr
      have GT := getD_good AL.out hlt
      have HN : Hid ((tdl a b (L.getD k (0, 0))).2 ≤ 1000000 → ∀ j, j < k + 1 → (tdl a b (L.getD j (0, 0))).2 ≤ 1000000 ∧ (dk.set k (tdl a b (L.getD k (0, 0)))).getD j (0, 0) = tdl a b (L.getD j (0, 0))) := fun ho j hj => by
        by_cases hjk : j = k
        · subst hjk
          refine ⟨ho, ?_⟩
          rw [List.getD_eq_getElem?_getD, List.getElem?_set_self (by omega)]; rfl
        · have e : (dk.set k (tdl a b (L.getD k (0, 0)))).getD j (0, 0) = dk.getD j (0, 0) := by
            rw [List.getD_eq_getElem?_getD, List.getElem?_set_ne (fun e => hjk e.symm), ← List.getD_eq_getElem?_getD]
          rw [e]
          exact HA.out j (by omega)
      clear hown hall
      generalize (dk.getD k (0, 0)).1 = o1 at d0
      generalize (dk.getD k (0, 0)).2 = o2 at d1
      by_cases hok : (tdl a b (L.getD k (0, 0))).2 ≤ 1000000
      · have HK := Lib.hid (less_yes GA.out GT hok)
        have HNN := Lib.hid (HN.out hok)
        clear hok HN GT
        generalize tdl a b (L.getD k (0, 0)) = z at *
        generalize L.getD k (0, 0) = t at *
        obtain ⟨p, q⟩ := z
        obtain ⟨x, y⟩ := t
        simp only at e5 e6 HK
        go_wp2_with fail
        refine (implLess_val a b x y HK.out _).mono ?_
        rintro e2' w2 ⟨rfl, hb2⟩
        obtain ⟨hc2, hf2⟩ := bcell hb2
        have hz2 := hb2.size
        simp only [World.size_alloc, World.size_setCell] at hz2
        have hbw : Below wr.heap.size wr w2 := Below.trans (b := _) (by (repeat' (first | (with_reducible exact Below.refl _ _) | (with_reducible assumption) | (with_reducible refine Below.alloc ?_ ?_ _) | (with_reducible refine Below.drew ?_) | (with_reducible refine below_drewN ?_ _) | (with_reducible refine Below.setCell ?_ ?_ _) | (with_reducible refine below_call ?_ ?_ (by assumption)) | go_size))) (hb2.mono (by simp only [World.size_alloc, World.size_setCell]; omega))
        obtain ⟨hcw, hfw⟩ := bcell hbw
        have d2 := (hcw _ _ s1).trans d0
        have d3 := (hcw _ _ s1).trans d1
        have z2 := (hfw w1.heap.size (k * 2) s1).trans z0
        have z3 := (hfw w1.heap.size (k * 2 + 1) s1).trans z1
        have HO2 := Lib.hid (World.ownsRow.kept HO.out (row := none) ⟨hbw.os, hbw.tape, hbw.output, hbw.size, fun k hk _ => hbw.block k hk⟩ (.inr (by simp [Value.ownBlock])))
        have HB2 : Hid (Below w1.heap.size w1 w2) := hbr.trans (hbw.mono (by omega))
        clear e5 e6 f0 f1 hc2 hf2 hcw hfw d0 d1 z0 z1
        go_wp2
        go_roundw
        case rel =>
          have st1 := World.ownsRow.stored HO2.out (k * 2) (.int .i64 p)
          have st2 := World.ownsRow.stored st1.1 (k * 2 + 1) (.int .i64 q)
          refine ⟨k + 1, dk.set k (p, q), by omega, by go_num, by simpa using hdl, HNN.out, ?_, ?_⟩
          · rw [← flat_set]; exact st2.1
          · exact Below.grown HB2.out (grownBy_trans st1.2 st2.2) (by omega) (fun j hj => by simp [Value.ownBlock] at hj; omega)
        case measure => simp [intOf]; omega
      · have HK := Lib.hid (less_no GA.out GT hok)
        have HB := Lib.hid (tdOk_no (a := a) (b := b) hlt hok)
        clear hok HN GT
        generalize L.getD k (0, 0) = t at *
        obtain ⟨x, y⟩ := t
        simp only at e5 e6 HK
        go_wp2_with fail
        refine (implLess_val a b x y HK.out _).mono ?_
        rintro e2' w2 ⟨rfl, hb2⟩
        obtain ⟨hc2, hf2⟩ := bcell hb2
        have hz2 := hb2.size
        simp only [World.size_alloc, World.size_setCell] at hz2
        have hbw : Below wr.heap.size wr w2 := Below.trans (b := _) (by (repeat' (first | (with_reducible exact Below.refl _ _) | (with_reducible assumption) | (with_reducible refine Below.alloc ?_ ?_ _) | (with_reducible refine Below.drew ?_) | (with_reducible refine below_drewN ?_ _) | (with_reducible refine Below.setCell ?_ ?_ _) | (with_reducible refine below_call ?_ ?_ (by assumption)) | go_size))) (hb2.mono (by simp only [World.size_alloc, World.size_setCell]; omega))
        obtain ⟨hcw, hfw⟩ := bcell hbw
        have d2 := (hcw _ _ s1).trans d0
        have d3 := (hcw _ _ s1).trans d1
        have z2 := (hfw w1.heap.size (k * 2) s1).trans z0
        have z3 := (hfw w1.heap.size (k * 2 + 1) s1).trans z1
        have hbz : Below w.heap.size w w2 := Below.trans (b := w1) (by (repeat' (first | (with_reducible exact Below.refl _ _) | (with_reducible assumption) | (with_reducible refine Below.alloc ?_ ?_ _) | (with_reducible refine Below.drew ?_) | (with_reducible refine below_drewN ?_ _) | (with_reducible refine Below.setCell ?_ ?_ _) | (with_reducible refine below_call ?_ ?_ (by assumption)) | go_size))) ((hbr.trans (hbw.mono hbr.size)).mono (by omega))
        have s2 : w1.heap.size < w2.heap.size := by omega
        have s3 : w.heap.size ≤ w1.heap.size := by omega
        clear e5 e6 f0 f1 hc2 hf2 hcw hfw d0 d1 z0 z1
        go_wp2
        go_ret2
        rw [show tdR (L, true) a b = ([], false) from by simp [tdR, HB.out]]
        exact TurnsOut.none (by (repeat' (first | (with_reducible exact Below.refl _ _) | (with_reducible assumption) | (with_reducible refine Below.alloc ?_ ?_ _) | (with_reducible refine Below.drew ?_) | (with_reducible refine below_drewN ?_ _) | (with_reducible refine Below.setCell ?_ ?_ _) | (with_reducible refine below_call ?_ ?_ (by assumption)) | go_size)))
    · obtain rfl : k = L.length := by omega
      have HY := Lib.hid (tdOk_yes (fun j hj => (HA.out j hj).1))
      have HD : Hid (dk = L.map (tdl a b)) := by
        show dk = L.map (tdl a b)
        refine List.ext_getElem (by simp [hdl]) fun j h1 h2 => ?_
        have h3 := (HA.out j (by omega)).2
        rw [List.getD_eq_getElem?_getD, List.getElem?_eq_getElem h1, List.getD_eq_getElem?_getD, List.getElem?_eq_getElem (by omega)] at h3
        rw [List.getElem_map]
        exact h3
      clear hall
      go_wp2
      go_ret2
      rw [show tdR (L, true) a b = (L.map (tdl a b), true) from by simp [tdR, HY.out]]
      refine ⟨_, rfl, TRow.mono ?_ (show w.heap.size ≤ w1.heap.size by omega), ?_⟩
      · unfold TRow
        have h := HO.out
        rw [HD.out] at h
        simpa using h
      · exact Below.trans (b := w1) (by (repeat' (first | (with_reducible exact Below.refl _ _) | (with_reducible assumption) | (with_reducible refine Below.alloc ?_ ?_ _) | (with_reducible refine Below.drew ?_) | (with_reducible refine below_drewN ?_ _) | (with_reducible refine Below.setCell ?_ ?_ _) | (with_reducible refine below_call ?_ ?_ (by assumption)) | go_size))) (hbr.mono (by omega))

set_option maxHeartbeats 1600000 in
theorem specTurnsOfDial_any (h a b c d : Int) (kb : (-9223372036854775808 ≤ b ∧ b ≤ 9223372036854775807)) (kd : (-9223372036854775808 ≤ d ∧ d ≤ 9223372036854775807)) (w : World) :
    Calls Tryz.prog 9 #[.int .i64 h, sn a b c d] w (TurnsOut w (tdR (turR h a b c d) a b).1 (tdR (turR h a b c d) a b).2) := by
  have HLEN := Lib.hid (turR_len h a b c d)
  have HC : Hid (∀ w : World, Calls Tryz.prog 7 #[.int .i64 h, sn a b c d] w (TurnsOut w (turR h a b c d).1 (turR h a b c d).2)) := fun w => specTimesTurned_any h a b c d kb kd w
  have HG : Hid ((turR h a b c d).2 = true → AllGood (turR h a b c d).1 ∧ goodB a b = true) := fun h => turR_all h
  generalize turR h a b c d = R at *
  obtain ⟨L, ok⟩ := R
  cases ok
  · rw [show tdR (L, false) a b = ([], false) from rfl]
    (go_enter Tryz.func9, Tryz.ntmps9)
    go_wp2_with fail
    refine (HC.out _).mono ?_
    (rintro e1 w1 ⟨v1, rfl, hr1, hb1⟩; have HR1 := Lib.hid hr1; clear hr1; obtain ⟨hc1, hf1⟩ := bcell hb1; have hz1 := hb1.size; (try simp only [World.size_alloc, World.size_setCell, World.size_drew] at hz1); have q1 : w.heap.size ≤ w1.heap.size := (by omega); (try have q1_0 : w.heap.size < w1.heap.size := (by omega)); (try have q1_1 : w.heap.size + 1 < w1.heap.size := (by omega)); (try have q1_2 : w.heap.size + 2 < w1.heap.size := (by omega)); (try have q1_3 : w.heap.size + 3 < w1.heap.size := (by omega)))
    go_wp2
    go_ret2
    exact TurnsOut.none (by (repeat' (first | (with_reducible exact Below.refl _ _) | (with_reducible assumption) | (with_reducible refine Below.alloc ?_ ?_ _) | (with_reducible refine Below.drew ?_) | (with_reducible refine below_drewN ?_ _) | (with_reducible refine Below.setCell ?_ ?_ _) | (with_reducible refine below_call ?_ ?_ (by assumption)) | go_size)))
  obtain ⟨al, ga⟩ := HG.out rfl
  have hlen : L.length ≤ 1000000 := HLEN.out
  have GA := Lib.hid ga
  have AL := Lib.hid al
  clear ga al HG
  obtain ⟨i0, hi0, hz0, hz1, hz2⟩ := info_parts Tryz.infoTurn
  have I0 := Lib.hid hi0
  have Z0 := Lib.hid hz0
  have Z1 := Lib.hid hz1
  have Z2 := Lib.hid hz2
  clear hi0 hz0 hz1 hz2
  (go_enter Tryz.func9, Tryz.ntmps9)
  go_wp2_with fail
  refine (HC.out _).mono ?_
  (rintro e1 w1 ⟨v1, rfl, hr1, hb1⟩; have HR1 := Lib.hid hr1; clear hr1; obtain ⟨hc1, hf1⟩ := bcell hb1; have hz1 := hb1.size; (try simp only [World.size_alloc, World.size_setCell, World.size_drew] at hz1); have q1 : w.heap.size ≤ w1.heap.size := (by omega); (try have q1_0 : w.heap.size < w1.heap.size := (by omega)); (try have q1_1 : w.heap.size + 1 < w1.heap.size := (by omega)); (try have q1_2 : w.heap.size + 2 < w1.heap.size := (by omega)); (try have q1_3 : w.heap.size + 3 < w1.heap.size := (by omega)))
  obtain ⟨a1, c1, rfl, l1, m1, x1⟩ := HR1.out.cells
  have X1 := Lib.hid x1
  clear x1
  have hbx : ∀ o, w1.cell? ⟨w.heap.size, o, none⟩ = #[Value.int .i64 a, .int .i64 b, .int .i64 c, .int .i64 d][o]? := fun o => by
    rw [hc1 _ _ (by go_size)]; go_simp
  have HX := Lib.hid hbx
  clear hbx
  go_wp2
  go_loopw [8, 23] (fun u i wr => ∃ k : Nat, k ≤ L.length ∧ i = .int .i64 k ∧ wr.ownsRow w1.heap.size 25 2 u k (flat ((L.take k).map (tdl a b))) ∧ (∀ j, j < k → (tdl a b (L.getD j (0, 0))).2 ≤ 1000000) ∧ Below w1.heap.size w1 wr) (fun _ i _ => L.length - (intOf i).toNat)
  case atStart => exact ⟨0, Nat.zero_le _, rfl, World.ownsRow_nil _ _ _ _, fun j hj => absurd hj (Nat.not_lt_zero _), Below.refl _ _⟩
  case round =>
    obtain ⟨k, hk, rfl, hown, hall, hbr⟩ := hrel
    have HO := Lib.hid hown
    have HA := Lib.hid hall
    clear hown hall
    obtain ⟨hcr, hfr⟩ := bcell hbr
    have hzr := hbr.size
    have i0' : (0 : Int) ≤ (k : Int) := Int.natCast_nonneg _
    by_cases hlt : k < L.length
    · obtain ⟨g1, rfl, e1, e2, e3, e4⟩ := X1.out k hlt
      have i1 : (k : Int) < (L.length : Int) := by omega
      have f0 := (hcr w.heap.size 0 (by omega)).trans (HX.out 0)
      have f1 := (hcr w.heap.size 1 (by omega)).trans (HX.out 1)
      simp only [List.getElem?_toArray, List.getElem?_cons_zero, List.getElem?_cons_succ] at f0 f1
      have e5 := (hcr g1 (k * 2) (by omega)).trans e3
      have e6 := (hcr g1 (k * 2 + 1) (by omega)).trans e4
      have s0 : w.heap.size < wr.heap.size := by omega
      have s1 : g1 < wr.heap.size := by omega
      clear e3 e4 hcr hfr
      have GT := getD_good AL.out hlt
      have HSN := Lib.hid (map_take_snoc (tdl a b) hlt)
      by_cases hok : (tdl a b (L.getD k (0, 0))).2 ≤ 1000000
      · have HK := Lib.hid (less_yes GA.out GT hok)
        have HALL := Lib.hid (show ∀ j, j < k + 1 → (tdl a b (L.getD j (0, 0))).2 ≤ 1000000 from fun j hj => by
          by_cases hjk : j = k
          · subst hjk; exact hok
          · exact HA.out j (by omega))
        have GTT := Lib.hid GT
        clear hok GT
        generalize tdl a b (L.getD k (0, 0)) = z at *
        generalize L.getD k (0, 0) = t at *
        obtain ⟨p, q⟩ := z
        obtain ⟨x, y⟩ := t
        simp only at e5 e6 HK GTT
        go_wp2_with fail
        refine (diLess_val a b x y GA.out GTT.out HK.out _).mono ?_
        rintro e2' w2 ⟨rfl, hb2⟩
        obtain ⟨hc2, hf2⟩ := bcell hb2
        have hz2 := hb2.size
        simp only [World.size_alloc, World.size_setCell] at hz2
        have hbw : Below wr.heap.size wr w2 := Below.trans (b := _) (by (repeat' (first | (with_reducible exact Below.refl _ _) | (with_reducible assumption) | (with_reducible refine Below.alloc ?_ ?_ _) | (with_reducible refine Below.drew ?_) | (with_reducible refine below_drewN ?_ _) | (with_reducible refine Below.setCell ?_ ?_ _) | (with_reducible refine below_call ?_ ?_ (by assumption)) | go_size))) (hb2.mono (by simp only [World.size_alloc, World.size_setCell]; omega))
        clear e5 e6 f0 f1
        have HO2 := Lib.hid (World.ownsRow.kept HO.out (row := none) ⟨hbw.os, hbw.tape, hbw.output, hbw.size, fun k hk _ => hbw.block k hk⟩ (by generalize (u8 : Value).ownBlock = z; cases z <;> simp))
        have HLT : ∀ j, u8.ownBlock = some j → w1.heap.size ≤ j := fun j hj => (World.ownsRow.lt HO.out j hj).1
        go_wp2_with (at_builtin; refine wpList_append_lies _ rfl _ _ _ rfl w1.heap.size 25 i0 _ 2 16 Tryz.underlying30 I0.out Z0.out Z1.out Z2.out rfl (by omega) u8 k _ rfl ((HO2.out.alloc _).alloc _) ⟨w2.heap.size + 1, 0, none⟩ 1 1 [.int .i64 p, .int .i64 q] rfl rfl (World.news_of_block (cs := #[.int .i64 p, .int .i64 q]) (t := 25) (fr := (0, 0)) (by simpa using heap_alloc_new (w2.alloc _) _)) (by simp [Value.oneCell']) (by omega) (by unfold maxLen; omega) (by omega) (by simp; omega) (w2.heap.size + 2) (by simp) ?_; intro g cap w3 hown3 hgrow hat hlt3)
        have hbel4 : Below w1.heap.size w1 w3 := Below.grown (hbr.trans (Below.mono (B := wr.heap.size) (hbw.trans (Below.mono (B := w2.heap.size) (by (repeat' (first | (with_reducible exact Below.refl _ _) | (with_reducible assumption) | (with_reducible refine Below.alloc ?_ ?_ _) | (with_reducible refine Below.drew ?_) | (with_reducible refine below_drewN ?_ _) | (with_reducible refine Below.setCell ?_ ?_ _) | (with_reducible refine below_call ?_ ?_ (by assumption)) | go_size))) (by omega))) (by omega))) hgrow (by simp; omega) HLT
        go_roundw
        case rel =>
          refine ⟨k + 1, by omega, by go_num, ?_, HALL.out, hbel4⟩
          rw [HSN.out, flat_append]
          exact hown3
        case measure => simp [intOf]; omega
      · have HK := Lib.hid (less_no GA.out GT hok)
        have HB := Lib.hid (tdOk_no (a := a) (b := b) hlt hok)
        have GTT := Lib.hid GT
        clear hok GT HSN
        generalize L.getD k (0, 0) = t at *
        obtain ⟨x, y⟩ := t
        simp only at e5 e6 HK GTT
        go_wp2_with fail
        refine (diLess_val a b x y GA.out GTT.out HK.out _).mono ?_
        rintro e2' w2 ⟨rfl, hb2⟩
        obtain ⟨hc2, hf2⟩ := bcell hb2
        have hz2 := hb2.size
        simp only [World.size_alloc, World.size_setCell] at hz2
        have hbw : Below wr.heap.size wr w2 := Below.trans (b := _) (by (repeat' (first | (with_reducible exact Below.refl _ _) | (with_reducible assumption) | (with_reducible refine Below.alloc ?_ ?_ _) | (with_reducible refine Below.drew ?_) | (with_reducible refine below_drewN ?_ _) | (with_reducible refine Below.setCell ?_ ?_ _) | (with_reducible refine below_call ?_ ?_ (by assumption)) | go_size))) (hb2.mono (by simp only [World.size_alloc, World.size_setCell]; omega))
        have hbz : Below w.heap.size w w2 := Below.trans (b := w1) (by (repeat' (first | (with_reducible exact Below.refl _ _) | (with_reducible assumption) | (with_reducible refine Below.alloc ?_ ?_ _) | (with_reducible refine Below.drew ?_) | (with_reducible refine below_drewN ?_ _) | (with_reducible refine Below.setCell ?_ ?_ _) | (with_reducible refine below_call ?_ ?_ (by assumption)) | go_size))) ((hbr.trans (hbw.mono hbr.size)).mono (by omega))
        clear e5 e6 f0 f1
        go_wp2
        go_ret2
        rw [show tdR (L, true) a b = ([], false) from by simp [tdR, HB.out]]
        exact TurnsOut.none (by (repeat' (first | (with_reducible exact Below.refl _ _) | (with_reducible assumption) | (with_reducible refine Below.alloc ?_ ?_ _) | (with_reducible refine Below.drew ?_) | (with_reducible refine below_drewN ?_ _) | (with_reducible refine Below.setCell ?_ ?_ _) | (with_reducible refine below_call ?_ ?_ (by assumption)) | go_size)))
    · obtain rfl : k = L.length := by omega
      have HY := Lib.hid (tdOk_yes (fun j hj => HA.out j hj))
      go_wp2
      go_ret2
      rw [show tdR (L, true) a b = (L.map (tdl a b), true) from by simp [tdR, HY.out]]
      refine ⟨_, rfl, TRow.mono ?_ (show w.heap.size ≤ w1.heap.size by omega), ?_⟩
      · unfold TRow
        have h := HO.out
        rw [List.take_of_length_le (Nat.le_refl _)] at h
        simpa using h
      · exact Below.trans (b := w1) (by (repeat' (first | (with_reducible exact Below.refl _ _) | (with_reducible assumption) | (with_reducible refine Below.alloc ?_ ?_ _) | (with_reducible refine Below.drew ?_) | (with_reducible refine below_drewN ?_ _) | (with_reducible refine Below.setCell ?_ ?_ _) | (with_reducible refine below_call ?_ ?_ (by assumption)) | go_size))) (hbr.mono (by omega))
end Go.Proofs.YticdmochedadbaaGreat
