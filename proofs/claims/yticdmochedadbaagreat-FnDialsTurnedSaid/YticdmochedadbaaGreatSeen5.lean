/- All times with an angle, by the program and by the model. -/
import Derived.Test.YticdmochedadbaaGreatSeen4
set_option linter.unusedSimpArgs false
set_option linter.unusedVariables false
set_option maxRecDepth 100000
namespace Go.Proofs.YticdmochedadbaaGreat
open Go.RowKit
attribute [local go_sem ↓] Go.wp_at_zero Go.wp_at_succ

set_option maxHeartbeats 1600000 in
theorem allParts_wide (h n d : Int) (c1 : 1 ≤ h) (c2 : h ≤ 1000) (a1 : 1 ≤ d) (a2 : d ≤ 1000000000000) (a3 : 0 ≤ n) (a4 : n ≤ 1000000000000) (w : World) :
    Calls Tryz.prog 32 #[tv n d, .int .i64 h] w (TurnsOut w (partsL h n d) (partsOk h n d)) := by
  obtain ⟨i0, hi0, hz0, hz1, hz2⟩ := info_parts Tryz.infoTurn
  have I0 := Lib.hid hi0
  have Z0 := Lib.hid hz0
  have Z1 := Lib.hid hz1
  have Z2 := Lib.hid hz2
  clear hi0 hz0 hz1 hz2
  obtain ⟨p1, p2⟩ := mulb (show 0 ≤ h by omega) c2 (show 0 ≤ d by omega) a2
  have p3 : 1 ≤ h * d := Int.mul_pos (by omega) (by omega)
  (go_enter Tryz.func32, Tryz.ntmps32)
  go_wp2_with (at_make; refine wpList_make_own _ rfl _ _ 30 rfl (w.heap.size + 1) 25 i0 (.agg #[.int .i64 0, .int .i64 0]) 2 Tryz.underlying30 I0.out Z0.out Z1.out .i64 .i64 _ h.toNat rfl rfl (by omega) (by rw [Z2.out]; omega) (by unfold maxLen; omega) (by go_size) ?_; intro w0 hown0 hgrow0)
  have hb0 : Below w.heap.size w w0 := Below.grown (by (repeat' (first | (with_reducible exact Below.refl _ _) | (with_reducible assumption) | (with_reducible refine Below.alloc ?_ ?_ _) | (with_reducible refine Below.drew ?_) | (with_reducible refine below_drewN ?_ _) | (with_reducible refine Below.setCell ?_ ?_ _) | (with_reducible refine below_call ?_ ?_ (by assumption)) | go_size))) hgrow0 (by go_size) (fun k hk => by cases hk)
  have hz0 := hgrow0.size
  try simp only [World.size_alloc, World.size_setCell, World.size_drew] at hz0
  have hcell : Hid (∀ o, w0.cell? ⟨w.heap.size, o, none⟩ = #[Value.int .i64 n, Value.int .i64 d][o]?) := fun o => by
    rw [World.grownBy.cell_far hgrow0 ⟨w.heap.size, o, none⟩ (by go_size) (fun e => by cases e)]
    exact (cells_of_block (heap_alloc_new w _)).1 o
  have HO0 : Hid (w0.ownsRow (w.heap.size + 1) 25 2 (.slice (some ⟨w.heap.size + 1, 0, none⟩) 0 h.toNat) 0 (flat ((List.range 0).map (twl h n d)))) := by
    have hx := hown0
    rw [World.size_alloc] at hx
    exact hx
  clear hown0 hgrow0
  go_loopw [6, 13] (fun o i wr => ∃ k : Nat, (k : Int) ≤ h ∧ i = .int .i64 k ∧ wr.ownsRow (w.heap.size + 1) 25 2 o k (flat ((List.range k).map (twl h n d))) ∧ (∀ j, j < k → (twl h n d j).2 ≤ 1000000) ∧ Below (w.heap.size + 1) w0 wr) (fun _ i _ => h.toNat - (intOf i).toNat)
  case atStart => exact ⟨0, by omega, rfl, HO0.out, fun j hj => absurd hj (Nat.not_lt_zero _), Below.refl _ _⟩
  case round =>
    obtain ⟨k, hk, rfl, hown, hall, hbel⟩ := hrel
    have HO := Lib.hid hown
    have HA := Lib.hid hall
    clear hown hall
    have hzr := hbel.size
    have q5 : w.heap.size < wr.heap.size := by omega
    have e0 : wr.cell? ⟨w.heap.size, 0, none⟩ = some (.int .i64 n) := (hbel.cell (p := ⟨w.heap.size, 0, none⟩) (by show w.heap.size < w.heap.size + 1; omega)).trans (hcell.out 0)
    have e1 : wr.cell? ⟨w.heap.size, 1, none⟩ = some (.int .i64 d) := (hbel.cell (p := ⟨w.heap.size, 1, none⟩) (by show w.heap.size < w.heap.size + 1; omega)).trans (hcell.out 1)
    have i0' : (0 : Int) ≤ (k : Int) := Int.natCast_nonneg _
    have hbw : Below w.heap.size w wr := hb0.trans (hbel.mono (by omega))
    by_cases hlt : (k : Int) < h
    · obtain ⟨p4, p5⟩ := mulb (show 0 ≤ (k : Int) by omega) (show (k : Int) ≤ 1000 by omega) (show 0 ≤ d by omega) a2
      by_cases hok : (twl h n d k).2 ≤ 1000000
      · have HK := Lib.hid (twl_impl hok)
        have HALL := Lib.hid (show ∀ j, j < k + 1 → (twl h n d j).2 ≤ 1000000 from fun j hj => by
          by_cases hjk : j = k
          · subst hjk; exact hok
          · exact HA.out j (by omega))
        have HSN := Lib.hid (map_snoc (twl h n d) k)
        clear hok
        generalize twl h n d k = t at *
        obtain ⟨x, y⟩ := t
        go_wp2_with fail
        refine (lowest_any (k * d + n) (h * d) p3 (by omega) _).mono ?_
        rintro e3 w3 ⟨rfl, hb3⟩
        have hz3 := hb3.size
        go_wp2_with fail
        refine (limitedTurn_val (k * d + n) (h * d) HK.out _).mono ?_
        rintro e2 w2 ⟨rfl, hb2'⟩
        have hb2 : Below wr.heap.size wr w2 := hb3.trans (hb2'.mono hb3.size)
        obtain ⟨hc2, hf2⟩ := bcell hb2
        have hz2 := hb2.size
        have HO2 := Lib.hid (World.ownsRow.kept HO.out (row := none) ⟨hb2.os, hb2.tape, hb2.output, hb2.size, fun k hk _ => hb2.block k hk⟩ (by generalize (u6 : Value).ownBlock = z; cases z <;> simp))
        have HLT : ∀ k, u6.ownBlock = some k → w.heap.size + 1 ≤ k := fun k hk => (World.ownsRow.lt HO.out k hk).1
        go_wp2_with (at_builtin; refine wpList_append_lies _ rfl _ _ _ rfl (w.heap.size + 1) 25 i0 _ 2 16 Tryz.underlying30 I0.out Z0.out Z1.out Z2.out rfl (by omega) u6 k _ rfl ((HO2.out.alloc _).alloc _) ⟨w2.heap.size + 1, 0, none⟩ 1 1 [.int .i64 x, .int .i64 y] rfl rfl (World.news_of_block (cs := #[.int .i64 x, .int .i64 y]) (t := 25) (fr := (0, 0)) (by simpa using heap_alloc_new (w2.alloc _) _)) (by simp [Value.oneCell']) (by omega) (by unfold maxLen; omega) (by omega) (by simp; omega) (w2.heap.size + 2) (by simp) ?_; intro g cap w4 hown3 hgrow hat hlt3)
        go_roundw
        case rel =>
          refine ⟨k + 1, by omega, by go_num, ?_, ?_, ?_⟩
          · rw [← HSN.out]; exact hown3
          · exact HALL.out
          · exact Below.grown (hbel.trans (show Below (w.heap.size + 1) wr _ from Below.mono (B := wr.heap.size) (by (repeat' (first | (with_reducible exact Below.refl _ _) | (with_reducible assumption) | (with_reducible refine Below.alloc ?_ ?_ _) | (with_reducible refine Below.drew ?_) | (with_reducible refine below_drewN ?_ _) | (with_reducible refine Below.setCell ?_ ?_ _) | (with_reducible refine below_call ?_ ?_ (by assumption)) | go_size))) (by omega))) hgrow (by simp; omega) HLT
        case measure => simp [intOf]; omega
      · have HK := Lib.hid (twl_impl_no hok)
        have HB := Lib.hid (parts_bad (h := h) (n := n) (d := d) (k := k) (by omega) hok)
        clear hok
        go_wp2_with fail
        refine (lowest_any (k * d + n) (h * d) p3 (by omega) _).mono ?_
        rintro e3 w3 ⟨rfl, hb3⟩
        have hz3 := hb3.size
        go_wp2_with fail
        refine (limitedTurn_val (k * d + n) (h * d) HK.out _).mono ?_
        rintro e2 w2 ⟨rfl, hb2'⟩
        have hb2 : Below wr.heap.size wr w2 := hb3.trans (hb2'.mono hb3.size)
        obtain ⟨hc2, hf2⟩ := bcell hb2
        have hz2 := hb2.size
        go_wp2
        go_ret2
        rw [parts_no HB.out, HB.out]
        have hbz : Below w.heap.size w w2 := hbw.trans (hb2.mono hbw.size)
        exact TurnsOut.none (by (repeat' (first | (with_reducible exact Below.refl _ _) | (with_reducible assumption) | (with_reducible refine Below.alloc ?_ ?_ _) | (with_reducible refine Below.drew ?_) | (with_reducible refine below_drewN ?_ _) | (with_reducible refine Below.setCell ?_ ?_ _) | (with_reducible refine below_call ?_ ?_ (by assumption)) | go_size)))
    · go_wp2
      go_ret2
      have hkh : k = h.toNat := by omega
      subst hkh
      obtain ⟨y1, y2⟩ := parts_yes HA.out
      rw [y2, y1]
      refine ⟨_, rfl, TRow.mono ?_ (show w.heap.size ≤ w.heap.size + 1 by omega), ?_⟩
      · unfold TRow
        simpa using HO.out
      · (repeat' (first | (with_reducible exact Below.refl _ _) | (with_reducible assumption) | (with_reducible refine Below.alloc ?_ ?_ _) | (with_reducible refine Below.drew ?_) | (with_reducible refine below_drewN ?_ _) | (with_reducible refine Below.setCell ?_ ?_ _) | (with_reducible refine below_call ?_ ?_ (by assumption)) | go_size))
theorem w64s {n : Int} (h : -9223372036854775808 ≤ n ∧ n ≤ 9223372036854775807) : IntKind.i64.wrap n = n := by rw [IntKind.wrap_i64]; omega
theorem t64s {n g : Int} (h0 : 0 ≤ n) (hg : 1 ≤ g) (h1 : g ≤ 9223372036854775807) : IntKind.i64.wrap (n.tmod g) = n % g := by
  rw [Int.tmod_eq_emod_of_nonneg h0]
  have := Int.emod_nonneg n (show g ≠ 0 by omega)
  have := Int.emod_lt_of_pos n (show 0 < g by omega)
  exact w64s ⟨by omega, by omega⟩
set_option maxHeartbeats 1600000 in
theorem seAngle_any (h n d : Int) (c : 2 ≤ h ∧ h ≤ 24) (a1 : 1 ≤ d) (a2 : d ≤ 1000000000000) (a3 : 0 ≤ n) (a4 : n ≤ 1000000000000) (w : World) :
    Calls Tryz.prog 36 #[.int .i64 h, .int .i64 n, .int .i64 d] w (TurnsOut w (partsL (h - 1) n d) (partsOk (h - 1) n d)) := by
  obtain ⟨c1, c2⟩ := c
  obtain ⟨i0, hi0, hz0, hz1, hz2⟩ := info_parts Tryz.infoTurn
  have I0 := Lib.hid hi0
  have Z0 := Lib.hid hz0
  have Z1 := Lib.hid hz1
  have Z2 := Lib.hid hz2
  clear hi0 hz0 hz1 hz2
  obtain ⟨p1, p2⟩ := mulb (show 0 ≤ d by omega) a2 (show 0 ≤ h - 1 by omega) (show h - 1 ≤ 23 by omega)
  have p3 : 1 ≤ d * (h - 1) := Int.mul_pos (by omega) (by omega)
  (go_enter Tryz.func36, Tryz.ntmps36)
  go_wp2
  go_loopw [8, 9] (fun o i wr => ∃ k : Nat, (k : Int) ≤ h - 1 ∧ i = .int .i64 k ∧ wr.ownsRow w.heap.size 25 2 o k (flat ((List.range k).map (twl (h - 1) n d))) ∧ (∀ j, j < k → (twl (h - 1) n d j).2 ≤ 1000000) ∧ Below w.heap.size w wr) (fun _ i _ => (h - 1).toNat - (intOf i).toNat)
  case atStart => exact ⟨0, by omega, rfl, World.ownsRow_nil _ _ _ _, fun j hj => absurd hj (Nat.not_lt_zero _), Below.refl _ _⟩
  case round =>
    obtain ⟨k, hk, rfl, hown, hall, hbel⟩ := hrel
    have HO := Lib.hid hown
    have HA := Lib.hid hall
    clear hown hall
    have hzr := hbel.size
    have i0' : (0 : Int) ≤ (k : Int) := Int.natCast_nonneg _
    by_cases hlt : (k : Int) < h - 1
    · obtain ⟨p4, p5⟩ := mulb (show 0 ≤ (k : Int) by omega) (show (k : Int) ≤ 23 by omega) (show 0 ≤ d by omega) a2
      by_cases hok : (twl (h - 1) n d k).2 ≤ 1000000
      · have HK := Lib.hid (show mk (n + k * d) (d * (h - 1)) = ((twl (h - 1) n d k).1, (twl (h - 1) n d k).2, true) from mk_of hok)
        have HALL := Lib.hid (show ∀ j, j < k + 1 → (twl (h - 1) n d j).2 ≤ 1000000 from fun j hj => by
          by_cases hjk : j = k
          · subst hjk; exact hok
          · exact HA.out j (by omega))
        have HSN := Lib.hid (map_snoc (twl (h - 1) n d) k)
        clear hok
        generalize twl (h - 1) n d k = t at *
        obtain ⟨x, y⟩ := t
        go_wp2_with fail
        refine (diMake_val (n + k * d) (d * (h - 1)) HK.out p3 (by omega) _).mono ?_
        rintro e2 w2 ⟨rfl, hb2⟩
        obtain ⟨hc2, hf2⟩ := bcell hb2
        have hz2 := hb2.size
        try simp only [World.size_alloc, World.size_setCell, World.size_drew] at hz2
        have HO2 := Lib.hid (World.ownsRow.kept HO.out (row := none) ⟨hb2.os, hb2.tape, hb2.output, hb2.size, fun k hk _ => hb2.block k hk⟩ (by generalize (u8 : Value).ownBlock = z; cases z <;> simp))
        have HLT : ∀ j, (u8 : Value).ownBlock = some j → w.heap.size ≤ j := fun j hj => (World.ownsRow.lt HO.out j hj).1
        go_wp2_with (at_builtin; refine wpList_append_lies _ rfl _ _ _ rfl w.heap.size 25 i0 _ 2 16 Tryz.underlying30 I0.out Z0.out Z1.out Z2.out rfl (by omega) (u8) (k) _ rfl ((HO2.out.alloc _).alloc _) ⟨w2.heap.size + 1, 0, none⟩ 1 1 [.int .i64 x, .int .i64 y] rfl rfl (World.news_of_block (cs := #[.int .i64 x, .int .i64 y]) (t := 25) (fr := (0, 0)) (by simpa using heap_alloc_new (w2.alloc _) _)) (by simp [Value.oneCell']) (by omega) (by unfold maxLen; omega) (by omega) (by simp; omega) (w2.heap.size + 2) (by simp) ?_; intro g cap w3 hown3 hgrow hat hlt3)
        go_roundw
        case rel =>
          refine ⟨k + 1, by omega, by go_num, ?_, HALL.out, ?_⟩
          · rw [← HSN.out]; exact hown3
          · exact Below.grown (by (repeat' (first | (with_reducible exact Below.refl _ _) | (with_reducible assumption) | (with_reducible refine Below.alloc ?_ ?_ _) | (with_reducible refine Below.drew ?_) | (with_reducible refine below_drewN ?_ _) | (with_reducible refine Below.setCell ?_ ?_ _) | (with_reducible refine below_call ?_ ?_ (by assumption)) | go_size))) hgrow (by simp; omega) HLT
        case measure => simp [intOf]; omega
      · have HK := Lib.hid (show mk (n + k * d) (d * (h - 1)) = (0, 0, false) from mk_not hok)
        have HB := Lib.hid (parts_bad (h := h - 1) (n := n) (d := d) (k := k) (by omega) hok)
        clear hok
        go_wp2_with fail
        refine (diMake_val (n + k * d) (d * (h - 1)) HK.out p3 (by omega) _).mono ?_
        rintro e2 w2 ⟨rfl, hb2⟩
        obtain ⟨hc2, hf2⟩ := bcell hb2
        have hz2 := hb2.size
        go_wp2
        go_ret2
        rw [parts_no HB.out, HB.out]
        exact TurnsOut.none (by (repeat' (first | (with_reducible exact Below.refl _ _) | (with_reducible assumption) | (with_reducible refine Below.alloc ?_ ?_ _) | (with_reducible refine Below.drew ?_) | (with_reducible refine below_drewN ?_ _) | (with_reducible refine Below.setCell ?_ ?_ _) | (with_reducible refine below_call ?_ ?_ (by assumption)) | go_size)))
    · go_wp2
      go_ret2
      have hkh : k = (h - 1).toNat := by omega
      subst hkh
      obtain ⟨y1, y2⟩ := parts_yes HA.out
      rw [y2, y1]
      refine ⟨_, rfl, ?_, ?_⟩
      · unfold TRow
        simpa using HO.out
      · (repeat' (first | (with_reducible exact Below.refl _ _) | (with_reducible assumption) | (with_reducible refine Below.alloc ?_ ?_ _) | (with_reducible refine Below.drew ?_) | (with_reducible refine below_drewN ?_ _) | (with_reducible refine Below.setCell ?_ ?_ _) | (with_reducible refine below_call ?_ ?_ (by assumption)) | go_size))

/-! ### Times with an angle -/
def angR (h n d : Int) : List (Int × Int) × Bool := if askB h n d then (partsL (h - 1) n d, partsOk (h - 1) n d) else ([], false)
theorem angR_len (h n d : Int) : (angR h n d).1.length ≤ 1000000 := by
  unfold angR
  split
  · rename_i g
    have := askB_bd g
    exact partsL_len _ _ _ (by omega)
  · simp
set_option maxHeartbeats 800000 in
theorem implTimesWithAngle_any (h n d : Int) (w : World) :
    Calls Tryz.prog 17 #[.int .i64 h, tv n d] w (TurnsOut w (angR h n d).1 (angR h n d).2) := by
  cases ga : inB h 2 24
  · rw [show angR h n d = ([], false) from by simp [angR, askB, ga]]
    (go_enter Tryz.func17, Tryz.ntmps17)
    go_wp2_with fail
    refine (isDial_is h ga _).mono ?_
    (rintro e1 w1 ⟨rfl, rfl⟩)
    go_wp2
    go_ret2
    exact TurnsOut.none (by (repeat' (first | (with_reducible exact Below.refl _ _) | (with_reducible assumption) | (with_reducible refine Below.alloc ?_ ?_ _) | (with_reducible refine Below.drew ?_) | (with_reducible refine below_drewN ?_ _) | (with_reducible refine Below.setCell ?_ ?_ _) | (with_reducible refine below_call ?_ ?_ (by assumption)) | go_size)))
  cases gb : goodB n d
  · rw [show angR h n d = ([], false) from by simp [angR, askB, gb]]
    (go_enter Tryz.func17, Tryz.ntmps17)
    go_wp2_with fail
    refine (isDial_is h ga _).mono ?_
    (rintro e1 w1 ⟨rfl, rfl⟩)
    go_wp2_with fail
    refine (isTurn_is n d gb _).mono ?_
    (rintro e1 w1 ⟨rfl, hb1⟩; obtain ⟨hc1, hf1⟩ := bcell hb1; have hz1 := hb1.size; (try simp only [World.size_alloc, World.size_setCell, World.size_drew] at hz1); have q1 : w.heap.size ≤ w1.heap.size := (by omega); (try have q1_0 : w.heap.size < w1.heap.size := (by omega)); (try have q1_1 : w.heap.size + 1 < w1.heap.size := (by omega)); (try have q1_2 : w.heap.size + 2 < w1.heap.size := (by omega)); (try have q1_3 : w.heap.size + 3 < w1.heap.size := (by omega)))
    go_wp2
    go_ret2
    exact TurnsOut.none (by (repeat' (first | (with_reducible exact Below.refl _ _) | (with_reducible assumption) | (with_reducible refine Below.alloc ?_ ?_ _) | (with_reducible refine Below.drew ?_) | (with_reducible refine below_drewN ?_ _) | (with_reducible refine Below.setCell ?_ ?_ _) | (with_reducible refine below_call ?_ ?_ (by assumption)) | go_size)))
  · rw [show angR h n d = (partsL (h - 1) n d, partsOk (h - 1) n d) from by simp [angR, askB, ga, gb]]
    obtain ⟨c1, c2⟩ := inB_bd ga
    obtain ⟨a1, a2, a3, a4⟩ := goodB_bd gb
    have AP := Lib.hid (fun W : World => allParts_wide (h - 1) n d (by omega) (by omega) a1 (by omega) a3 (by omega) W)
    (go_enter Tryz.func17, Tryz.ntmps17)
    go_wp2_with fail
    refine (isDial_is h ga _).mono ?_
    (rintro e1 w1 ⟨rfl, rfl⟩)
    go_wp2_with fail
    refine (isTurn_is n d gb _).mono ?_
    (rintro e1 w1 ⟨rfl, hb1⟩; obtain ⟨hc1, hf1⟩ := bcell hb1; have hz1 := hb1.size; (try simp only [World.size_alloc, World.size_setCell, World.size_drew] at hz1); have q1 : w.heap.size ≤ w1.heap.size := (by omega); (try have q1_0 : w.heap.size < w1.heap.size := (by omega)); (try have q1_1 : w.heap.size + 1 < w1.heap.size := (by omega)); (try have q1_2 : w.heap.size + 2 < w1.heap.size := (by omega)); (try have q1_3 : w.heap.size + 3 < w1.heap.size := (by omega)))
    have hbz : Below w.heap.size w w1 := by (repeat' (first | (with_reducible exact Below.refl _ _) | (with_reducible assumption) | (with_reducible refine Below.alloc ?_ ?_ _) | (with_reducible refine Below.drew ?_) | (with_reducible refine below_drewN ?_ _) | (with_reducible refine Below.setCell ?_ ?_ _) | (with_reducible refine below_call ?_ ?_ (by assumption)) | go_size))
    go_wp2_with fail
    refine (AP.out _).mono ?_
    rintro e2 w2 ⟨v, rfl, hr, hb2⟩
    have HR := Lib.hid (hr.mono hbz.size)
    have hbw := hbz.trans (hb2.mono hbz.size)
    clear hr
    go_wp2
    go_ret2
    exact ⟨_, rfl, HR.out, hbw⟩
set_option maxHeartbeats 800000 in
theorem specTimesWithAngle_any (h n d : Int) (kd : -9223372036854775808 ≤ d ∧ d ≤ 9223372036854775807) (w : World) :
    Calls Tryz.prog 18 #[.int .i64 h, tv n d] w (TurnsOut w (angR h n d).1 (angR h n d).2) := by
  cases ga : askB h n d
  · rw [show angR h n d = ([], false) from by simp [angR, ga]]
    (go_enter Tryz.func18, Tryz.ntmps18)
    go_wp2_with fail
    refine (diAsked_is h n d ga kd _).mono ?_
    (rintro e1 w1 ⟨rfl, hb1⟩; obtain ⟨hc1, hf1⟩ := bcell hb1; have hz1 := hb1.size; (try simp only [World.size_alloc, World.size_setCell, World.size_drew] at hz1); have q1 : w.heap.size ≤ w1.heap.size := (by omega); (try have q1_0 : w.heap.size < w1.heap.size := (by omega)); (try have q1_1 : w.heap.size + 1 < w1.heap.size := (by omega)); (try have q1_2 : w.heap.size + 2 < w1.heap.size := (by omega)); (try have q1_3 : w.heap.size + 3 < w1.heap.size := (by omega)))
    go_wp2
    go_ret2
    exact TurnsOut.none (by (repeat' (first | (with_reducible exact Below.refl _ _) | (with_reducible assumption) | (with_reducible refine Below.alloc ?_ ?_ _) | (with_reducible refine Below.drew ?_) | (with_reducible refine below_drewN ?_ _) | (with_reducible refine Below.setCell ?_ ?_ _) | (with_reducible refine below_call ?_ ?_ (by assumption)) | go_size)))
  · rw [show angR h n d = (partsL (h - 1) n d, partsOk (h - 1) n d) from by simp [angR, ga]]
    obtain ⟨⟨c1, c2⟩, a1, a2, a3, a4⟩ := askB_bd ga
    have AP := Lib.hid (fun W : World => seAngle_any h n d ⟨c1, c2⟩ a1 (by omega) a3 (by omega) W)
    (go_enter Tryz.func18, Tryz.ntmps18)
    go_wp2_with fail
    refine (diAsked_is h n d ga kd _).mono ?_
    (rintro e1 w1 ⟨rfl, hb1⟩; obtain ⟨hc1, hf1⟩ := bcell hb1; have hz1 := hb1.size; (try simp only [World.size_alloc, World.size_setCell, World.size_drew] at hz1); have q1 : w.heap.size ≤ w1.heap.size := (by omega); (try have q1_0 : w.heap.size < w1.heap.size := (by omega)); (try have q1_1 : w.heap.size + 1 < w1.heap.size := (by omega)); (try have q1_2 : w.heap.size + 2 < w1.heap.size := (by omega)); (try have q1_3 : w.heap.size + 3 < w1.heap.size := (by omega)))
    have hbz : Below w.heap.size w w1 := by (repeat' (first | (with_reducible exact Below.refl _ _) | (with_reducible assumption) | (with_reducible refine Below.alloc ?_ ?_ _) | (with_reducible refine Below.drew ?_) | (with_reducible refine below_drewN ?_ _) | (with_reducible refine Below.setCell ?_ ?_ _) | (with_reducible refine below_call ?_ ?_ (by assumption)) | go_size))
    go_wp2_with fail
    refine (AP.out _).mono ?_
    rintro e2 w2 ⟨v, rfl, hr, hb2⟩
    have HR := Lib.hid (hr.mono hbz.size)
    have hbw := hbz.trans (hb2.mono hbz.size)
    clear hr
    go_wp2
    go_ret2
    exact ⟨_, rfl, HR.out, hbw⟩

/-! ### By how much the long hand is ahead; turned dials -/
def apN (a b c d : Int) : Int := lowNum (c * b - a * d) (d * b)
def apD (a b c d : Int) : Int := lowDen (c * b - a * d) (d * b)
theorem ap_bd {a b c d : Int} (g : seenB a b c d = true) : (0 ≤ c * b ∧ c * b ≤ 999999000000) ∧ (0 ≤ a * d ∧ a * d ≤ 999999000000) ∧ (1 ≤ d * b ∧ d * b ≤ 1000000000000) ∧ (0 ≤ apN a b c d ∧ apN a b c d ≤ 1000000000000) ∧ (1 ≤ apD a b c d ∧ apD a b c d ≤ 1000000000000) ∧ a * d < d * b := by
  obtain ⟨⟨b1, b2, b3, b4⟩, d1, d2, d3, d4⟩ := seenB_bd g
  simp only [seenB, Bool.and_eq_true] at g
  have hl : a ≤ b - 1 := ((goodB_iff _ _).1 g.1).2.2.2.1
  have p1 := mulb d3 d4 (show 0 ≤ b by omega) b2
  have p2 := mulb b3 b4 (show 0 ≤ d by omega) d2
  have p3 := mulb (show 0 ≤ d by omega) d2 (show 0 ≤ b by omega) b2
  have p4 : 1 ≤ d * b := Int.mul_pos (by omega) (by omega)
  have l1 := low_bd (c * b - a * d) (d * b) p4
  have l2 := low_lt (c * b - a * d) (d * b) p4
  have l3 : a * d < b * d := Int.mul_lt_mul_of_pos_right (by omega) (by omega)
  rw [Int.mul_comm b d] at l3
  unfold apN apD
  omega
set_option maxHeartbeats 1600000 in
theorem seApart_any (a b c d : Int) (g : seenB a b c d = true) (w : World) :
    Calls Tryz.prog 35 #[sn a b c d] w fun e w' => e = .returned (.tuple #[.int .i64 (apN a b c d), .int .i64 (apD a b c d)]) ∧ Below w.heap.size w w' := by
  obtain ⟨⟨p1, p2⟩, ⟨p3, p4⟩, ⟨p5, p6⟩, -, -, p7⟩ := ap_bd g
  have hz : ¬ d * b = 0 := by omega
  have hr : IntKind.i64.wrap ((c * b - a * d + d * b).tmod (d * b)) = (c * b - a * d) % (d * b) := by
    rw [t64s (by omega) (by omega) (by omega), Int.add_emod_right]
  have hm0 : 0 ≤ (c * b - a * d) % (d * b) := Int.emod_nonneg _ (by omega)
  have hm1 : (c * b - a * d) % (d * b) < d * b := Int.emod_lt_of_pos _ (by omega)
  have hg := gcd_pos_of ((c * b - a * d) % (d * b)) (d * b) (by omega)
  have HM : Hid ((.tuple #[.int .i64 ((c * b - a * d) % (d * b) / gc ((c * b - a * d) % (d * b)) (d * b)), .int .i64 (d * b / gc ((c * b - a * d) % (d * b)) (d * b))] : Value) = .tuple #[.int .i64 (apN a b c d), .int .i64 (apD a b c d)]) := by
    show (_ : Value) = _
    rfl
  (go_enter Tryz.func35, Tryz.ntmps35)
  go_wp2_with fail
  refine wp_region_below (by kernel_rfl) (by kernel_rfl) ?_
  repeat (apply wpB_take (hw := rfl); (intro wq hq; obtain ⟨hcq, hfq⟩ := bcell hq; unfold atB; go_simp; exact ⟨rfl, rfl⟩); simp only [Act.put, List.setIfInBounds_toArray, List.set_cons_zero, List.set_cons_succ])
  refine fun w1 hb1 => ?_
  (obtain ⟨hc1, hf1⟩ := bcell hb1; have hz1 := hb1.size; (try simp only [World.size_alloc, World.size_setCell, World.size_drew] at hz1); have q1 : w.heap.size ≤ w1.heap.size := (by omega); (try have q1_0 : w.heap.size < w1.heap.size := (by omega)); (try have q1_1 : w.heap.size + 1 < w1.heap.size := (by omega)); (try have q1_2 : w.heap.size + 2 < w1.heap.size := (by omega)); (try have q1_3 : w.heap.size + 3 < w1.heap.size := (by omega)); try simp only [Act.put, List.setIfInBounds_toArray, List.set_cons_zero, List.set_cons_succ])
  go_wp2_with fail
  refine (diCommon_any _ _ hm0 (by omega) _).mono ?_
  (rintro e2 w2 ⟨rfl, hb2⟩; obtain ⟨hc2, hf2⟩ := bcell hb2; have hz2 := hb2.size; (try simp only [World.size_alloc, World.size_setCell, World.size_drew] at hz2); have q2 : w.heap.size ≤ w2.heap.size := (by omega); (try have q2_0 : w.heap.size < w2.heap.size := (by omega)); (try have q2_1 : w.heap.size + 1 < w2.heap.size := (by omega)); (try have q2_2 : w.heap.size + 2 < w2.heap.size := (by omega)); (try have q2_3 : w.heap.size + 3 < w2.heap.size := (by omega)); (try have q2_1_0 : w1.heap.size < w2.heap.size := (by omega)); (try have q2_1_1 : w1.heap.size + 1 < w2.heap.size := (by omega)))
  go_wp2
  go_region
  all_goals (go_wp2; (refine bodyPost_ret (by simp [results, Tryz.results35, go_sem, *]; try rfl) rfl ?_))
  all_goals exact ⟨congrArg Ending.returned HM.out, by (repeat' (first | (with_reducible exact Below.refl _ _) | (with_reducible assumption) | (with_reducible refine Below.alloc ?_ ?_ _) | (with_reducible refine Below.drew ?_) | (with_reducible refine below_drewN ?_ _) | (with_reducible refine Below.setCell ?_ ?_ _) | (with_reducible refine below_call ?_ ?_ (by assumption)) | go_size))⟩
theorem difference_ap (a b c d : Int) (g : seenB a b c d = true) (w : World) :
    Calls Tryz.prog 33 #[tv c d, tv a b] w fun e w' => e = .returned (tv (apN a b c d) (apD a b c d)) ∧ Below w.heap.size w w' := by
  obtain ⟨⟨b1, b2, b3, b4⟩, d1, d2, d3, d4⟩ := seenB_bd g
  exact difference_any c d a b ⟨by omega, by omega⟩ ⟨by omega, by omega⟩ ⟨by omega, by omega⟩ ⟨by omega, by omega⟩ w
def turR (h a b c d : Int) : List (Int × Int) × Bool := if seAskB h a b c d then (partsL (h - 1) (apN a b c d) (apD a b c d), partsOk (h - 1) (apN a b c d) (apD a b c d)) else ([], false)
theorem turR_len (h a b c d : Int) : (turR h a b c d).1.length ≤ 1000000 := by
  unfold turR
  split
  · rename_i g
    have := seAskB_bd g
    exact partsL_len _ _ _ (by omega)
  · simp
set_option maxHeartbeats 800000 in
theorem implTimesTurned_any (h a b c d : Int) (w : World) :
    Calls Tryz.prog 6 #[.int .i64 h, sn a b c d] w (TurnsOut w (turR h a b c d).1 (turR h a b c d).2) := by
  cases ga : inB h 2 24
  · rw [show turR h a b c d = ([], false) from by simp [turR, seAskB, ga]]
    (go_enter Tryz.func6, Tryz.ntmps6)
    go_wp2_with fail
    refine (isDial_is h ga _).mono ?_
    (rintro e1 w1 ⟨rfl, rfl⟩)
    go_wp2
    go_ret2
    exact TurnsOut.none (by (repeat' (first | (with_reducible exact Below.refl _ _) | (with_reducible assumption) | (with_reducible refine Below.alloc ?_ ?_ _) | (with_reducible refine Below.drew ?_) | (with_reducible refine below_drewN ?_ _) | (with_reducible refine Below.setCell ?_ ?_ _) | (with_reducible refine below_call ?_ ?_ (by assumption)) | go_size)))
  cases gb : seenB a b c d
  · rw [show turR h a b c d = ([], false) from by simp [turR, seAskB, gb]]
    (go_enter Tryz.func6, Tryz.ntmps6)
    go_wp2_with fail
    refine (isDial_is h ga _).mono ?_
    (rintro e1 w1 ⟨rfl, rfl⟩)
    go_wp2_with fail
    refine (isSeen_is _ _ _ _ gb _).mono ?_
    (rintro e1 w1 ⟨rfl, hb1⟩; obtain ⟨hc1, hf1⟩ := bcell hb1; have hz1 := hb1.size; (try simp only [World.size_alloc, World.size_setCell, World.size_drew] at hz1); have q1 : w.heap.size ≤ w1.heap.size := (by omega); (try have q1_0 : w.heap.size < w1.heap.size := (by omega)); (try have q1_1 : w.heap.size + 1 < w1.heap.size := (by omega)); (try have q1_2 : w.heap.size + 2 < w1.heap.size := (by omega)); (try have q1_3 : w.heap.size + 3 < w1.heap.size := (by omega)))
    go_wp2
    go_ret2
    exact TurnsOut.none (by (repeat' (first | (with_reducible exact Below.refl _ _) | (with_reducible assumption) | (with_reducible refine Below.alloc ?_ ?_ _) | (with_reducible refine Below.drew ?_) | (with_reducible refine below_drewN ?_ _) | (with_reducible refine Below.setCell ?_ ?_ _) | (with_reducible refine below_call ?_ ?_ (by assumption)) | go_size)))
  · rw [show turR h a b c d = (partsL (h - 1) (apN a b c d) (apD a b c d), partsOk (h - 1) (apN a b c d) (apD a b c d)) from by simp [turR, seAskB, ga, gb]]
    obtain ⟨c1, c2⟩ := inB_bd ga
    obtain ⟨-, -, -, ⟨a3, a4⟩, ⟨a1, a2⟩, -⟩ := ap_bd gb
    have AP := Lib.hid (fun W : World => allParts_wide (h - 1) (apN a b c d) (apD a b c d) (by omega) (by omega) a1 (by omega) a3 (by omega) W)
    have DF := Lib.hid (fun W : World => difference_ap a b c d gb W)
    generalize apN a b c d = n at *
    generalize apD a b c d = m at *
    (go_enter Tryz.func6, Tryz.ntmps6)
    go_wp2_with fail
    refine (isDial_is h ga _).mono ?_
    (rintro e1 w1 ⟨rfl, rfl⟩)
    go_wp2_with fail
    refine (isSeen_is _ _ _ _ gb _).mono ?_
    (rintro e1 w1 ⟨rfl, hb1⟩; obtain ⟨hc1, hf1⟩ := bcell hb1; have hz1 := hb1.size; (try simp only [World.size_alloc, World.size_setCell, World.size_drew] at hz1); have q1 : w.heap.size ≤ w1.heap.size := (by omega); (try have q1_0 : w.heap.size < w1.heap.size := (by omega)); (try have q1_1 : w.heap.size + 1 < w1.heap.size := (by omega)); (try have q1_2 : w.heap.size + 2 < w1.heap.size := (by omega)); (try have q1_3 : w.heap.size + 3 < w1.heap.size := (by omega)))
    go_wp2_with fail
    refine (DF.out _).mono ?_
    (rintro e2 w2 ⟨rfl, hb2⟩; obtain ⟨hc2, hf2⟩ := bcell hb2; have hz2 := hb2.size; (try simp only [World.size_alloc, World.size_setCell, World.size_drew] at hz2); have q2 : w.heap.size ≤ w2.heap.size := (by omega); (try have q2_0 : w.heap.size < w2.heap.size := (by omega)); (try have q2_1 : w.heap.size + 1 < w2.heap.size := (by omega)); (try have q2_2 : w.heap.size + 2 < w2.heap.size := (by omega)); (try have q2_3 : w.heap.size + 3 < w2.heap.size := (by omega)); (try have q2_1_0 : w1.heap.size < w2.heap.size := (by omega)); (try have q2_1_1 : w1.heap.size + 1 < w2.heap.size := (by omega)))
    have hbz : Below w.heap.size w w2 := by (repeat' (first | (with_reducible exact Below.refl _ _) | (with_reducible assumption) | (with_reducible refine Below.alloc ?_ ?_ _) | (with_reducible refine Below.drew ?_) | (with_reducible refine below_drewN ?_ _) | (with_reducible refine Below.setCell ?_ ?_ _) | (with_reducible refine below_call ?_ ?_ (by assumption)) | go_size))
    go_wp2_with fail
    refine (AP.out _).mono ?_
    rintro e3 w3 ⟨v, rfl, hr, hb3⟩
    have HR := Lib.hid (hr.mono hbz.size)
    have hbw := hbz.trans (hb3.mono hbz.size)
    clear hr
    go_wp2
    go_ret2
    exact ⟨_, rfl, HR.out, hbw⟩
set_option maxHeartbeats 800000 in
theorem specTimesTurned_any (h a b c d : Int) (kb : -9223372036854775808 ≤ b ∧ b ≤ 9223372036854775807) (kd : -9223372036854775808 ≤ d ∧ d ≤ 9223372036854775807) (w : World) :
    Calls Tryz.prog 7 #[.int .i64 h, sn a b c d] w (TurnsOut w (turR h a b c d).1 (turR h a b c d).2) := by
  cases ga : seAskB h a b c d
  · rw [show turR h a b c d = ([], false) from by simp [turR, ga]]
    (go_enter Tryz.func7, Tryz.ntmps7)
    go_wp2_with fail
    refine (seAsked_is _ _ _ _ _ ga kb kd _).mono ?_
    (rintro e1 w1 ⟨rfl, hb1⟩; obtain ⟨hc1, hf1⟩ := bcell hb1; have hz1 := hb1.size; (try simp only [World.size_alloc, World.size_setCell, World.size_drew] at hz1); have q1 : w.heap.size ≤ w1.heap.size := (by omega); (try have q1_0 : w.heap.size < w1.heap.size := (by omega)); (try have q1_1 : w.heap.size + 1 < w1.heap.size := (by omega)); (try have q1_2 : w.heap.size + 2 < w1.heap.size := (by omega)); (try have q1_3 : w.heap.size + 3 < w1.heap.size := (by omega)))
    go_wp2
    go_ret2
    exact TurnsOut.none (by (repeat' (first | (with_reducible exact Below.refl _ _) | (with_reducible assumption) | (with_reducible refine Below.alloc ?_ ?_ _) | (with_reducible refine Below.drew ?_) | (with_reducible refine below_drewN ?_ _) | (with_reducible refine Below.setCell ?_ ?_ _) | (with_reducible refine below_call ?_ ?_ (by assumption)) | go_size)))
  · rw [show turR h a b c d = (partsL (h - 1) (apN a b c d) (apD a b c d), partsOk (h - 1) (apN a b c d) (apD a b c d)) from by simp [turR, ga]]
    obtain ⟨c0, -⟩ := seAskB_bd ga
    have gb : seenB a b c d = true := by simp only [seAskB, Bool.and_eq_true] at ga; exact ga.2
    obtain ⟨-, -, -, ⟨a3, a4⟩, ⟨a1, a2⟩, -⟩ := ap_bd gb
    have AP := Lib.hid (fun W : World => seAngle_any h (apN a b c d) (apD a b c d) c0 a1 (by omega) a3 (by omega) W)
    have DF := Lib.hid (fun W : World => seApart_any a b c d gb W)
    clear gb
    generalize apN a b c d = n at *
    generalize apD a b c d = m at *
    (go_enter Tryz.func7, Tryz.ntmps7)
    go_wp2_with fail
    refine (seAsked_is _ _ _ _ _ ga kb kd _).mono ?_
    (rintro e1 w1 ⟨rfl, hb1⟩; obtain ⟨hc1, hf1⟩ := bcell hb1; have hz1 := hb1.size; (try simp only [World.size_alloc, World.size_setCell, World.size_drew] at hz1); have q1 : w.heap.size ≤ w1.heap.size := (by omega); (try have q1_0 : w.heap.size < w1.heap.size := (by omega)); (try have q1_1 : w.heap.size + 1 < w1.heap.size := (by omega)); (try have q1_2 : w.heap.size + 2 < w1.heap.size := (by omega)); (try have q1_3 : w.heap.size + 3 < w1.heap.size := (by omega)))
    go_wp2_with fail
    refine (DF.out _).mono ?_
    (rintro e2 w2 ⟨rfl, hb2⟩; obtain ⟨hc2, hf2⟩ := bcell hb2; have hz2 := hb2.size; (try simp only [World.size_alloc, World.size_setCell, World.size_drew] at hz2); have q2 : w.heap.size ≤ w2.heap.size := (by omega); (try have q2_0 : w.heap.size < w2.heap.size := (by omega)); (try have q2_1 : w.heap.size + 1 < w2.heap.size := (by omega)); (try have q2_2 : w.heap.size + 2 < w2.heap.size := (by omega)); (try have q2_3 : w.heap.size + 3 < w2.heap.size := (by omega)); (try have q2_1_0 : w1.heap.size < w2.heap.size := (by omega)); (try have q2_1_1 : w1.heap.size + 1 < w2.heap.size := (by omega)))
    have hbz : Below w.heap.size w w2 := by (repeat' (first | (with_reducible exact Below.refl _ _) | (with_reducible assumption) | (with_reducible refine Below.alloc ?_ ?_ _) | (with_reducible refine Below.drew ?_) | (with_reducible refine below_drewN ?_ _) | (with_reducible refine Below.setCell ?_ ?_ _) | (with_reducible refine below_call ?_ ?_ (by assumption)) | go_size))
    go_wp2_with fail
    refine (AP.out _).mono ?_
    rintro e3 w3 ⟨v, rfl, hr, hb3⟩
    have HR := Lib.hid (hr.mono hbz.size)
    have hbw := hbz.trans (hb3.mono hbz.size)
    clear hr
    go_wp2
    go_ret2
    exact ⟨_, rfl, HR.out, hbw⟩
end Go.Proofs.YticdmochedadbaaGreat
