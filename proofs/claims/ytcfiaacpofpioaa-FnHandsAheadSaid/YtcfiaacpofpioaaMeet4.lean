/- All times at which a hand stands at a place, by the model. -/
import Derived.Test.YtcfiaacpofpioaaMeet3
set_option linter.unusedSimpArgs false
set_option linter.unusedVariables false
set_option maxRecDepth 100000
namespace Go.Proofs.Ytcfiaacpofpioaa
open Go.RowKit

theorem diAdd_way {r : Int × Int × Bool} (rn rd pn pd : Int) (hr : mk (pn * rd - rn * pd) (pd * rd) = r) (h1 : 1 ≤ rd ∧ rd ≤ 1000000) (h2 : 0 ≤ rn ∧ rn ≤ 999999) (h3 : 1 ≤ pd ∧ pd ≤ 1000) (h4 : 0 ≤ pn ∧ pn ≤ 999) (w : World) :
    Calls Try.prog 73 #[tv pn pd, tv rn rd, .int .i64 (-1)] w fun e w' => e = .returned (rv r) ∧ Below w.heap.size w w' := by
  subst hr
  exact diAdd_less pn pd rn rd ⟨by omega, by omega, by omega, by omega⟩ ⟨by omega, by omega, by omega, by omega⟩ w
theorem diMirror_way {p q p' q' : Int} (m D : Int) (hD : 1 ≤ D) (hp : lowNum m D = p) (hq : lowDen m D = q) (hp' : lowNum (-m) D = p') (hq' : lowDen (-m) D = q') (b : 1 ≤ q ∧ q ≤ 1000000 ∧ 0 ≤ p ∧ p ≤ 999999) (w : World) :
    Calls Try.prog 74 #[tv p q] w fun e w' => e = .returned (tv p' q') ∧ Below w.heap.size w w' := by
  have h := diMirror_any p q b w
  obtain ⟨e1, e2⟩ := mirror_eq m D hD
  rw [hp, hq, hp'] at e1
  rw [hp, hq, hq'] at e2
  rw [e1, e2] at h
  exact h

set_option maxHeartbeats 1600000 in
theorem meTimes_pos (rn rd rs pn pd : Int) (h1 : 1 ≤ rd ∧ rd ≤ 1000000) (h2 : 0 ≤ rn ∧ rn ≤ 999999) (hs : -800 ≤ rs ∧ rs ≤ 800) (h3 : 1 ≤ pd ∧ pd ≤ 1000) (h4 : 0 ≤ pn ∧ pn ≤ 999) (h0 : 0 < rs) (w : World) :
    Calls Try.prog 45 #[hv rn rd rs, tv pn pd] w (TurnsOut w (timesR rn rd rs pn pd).1 (timesR rn rd rs pn pd).2) := by
  have hw := way_bd (rn := rn) (pn := pn) h1 h3
  have hgc := gc_low (pn * rd - rn * pd) (pd * rd) hw.1
  rw [timesR_pos h0]
  obtain ⟨-, -, ⟨b1, b2'⟩, b3, b4⟩ := hw
  by_cases hf : (lowDen (pn * rd - rn * pd) (pd * rd)) ≤ 1000000
  · have HM := Lib.hid (mk_of hf)
    clear hgc b2'
    generalize (lowNum (pn * rd - rn * pd) (pd * rd)) = N at *
    generalize (lowDen (pn * rd - rn * pd) (pd * rd)) = D at *
    have b2 : D ≤ 1000000 := hf
    obtain ⟨p1, p2⟩ := mulb (show 0 ≤ D by omega) b2 (show 0 ≤ rs by omega) hs.2
    have p7 : 1 ≤ D * rs := Int.mul_pos (by omega) (by omega)
    obtain ⟨i0, hi0, hz0, hz1, hz2⟩ := info_parts Try.infoTurn
    have I0 := Lib.hid hi0
    have Z0 := Lib.hid hz0
    have Z1 := Lib.hid hz1
    have Z2 := Lib.hid hz2
    clear hi0 hz0 hz1 hz2

    (go_enter Try.func45, Try.ntmps45)
    go_wp2_with fail
    refine (diAdd_way rn rd pn pd HM.out h1 h2 h3 h4 _).mono ?_
    (rintro e1 w1 ⟨rfl, hb1⟩; obtain ⟨hc1, hf1⟩ := bcell hb1; have hz1 := hb1.size; (try simp only [World.size_alloc, World.size_setCell, World.size_drew] at hz1); have q1 : w.heap.size ≤ w1.heap.size := (by omega); (try have q1_0 : w.heap.size < w1.heap.size := (by omega)); (try have q1_1 : w.heap.size + 1 < w1.heap.size := (by omega)); (try have q1_2 : w.heap.size + 2 < w1.heap.size := (by omega)); (try have q1_3 : w.heap.size + 3 < w1.heap.size := (by omega)))
    go_wp2
    go_loopw [9, 10] (fun o i wr => ∃ k : Nat, (k : Int) ≤ rs ∧ i = .int .i64 k ∧ wr.ownsRow (w1.heap.size + 1) 25 2 o k (flat ((List.range k).map (twl rs N D))) ∧ (∀ j, j < k → (twl rs N D j).2 ≤ 1000000) ∧ wr.cell? ⟨w1.heap.size, 0, none⟩ = some (.int .i64 N) ∧ wr.cell? ⟨w1.heap.size, 1, none⟩ = some (.int .i64 D) ∧ w1.heap.size + 1 ≤ wr.heap.size ∧ Below w.heap.size w wr) (fun _ i _ => (rs).toNat - (intOf i).toNat)
    case atStart => exact ⟨0, by omega, rfl, World.ownsRow_nil _ _ _ _, fun j hj => absurd hj (Nat.not_lt_zero _), by go_simp, by go_simp, by go_size, by (repeat' (first | (with_reducible exact Below.refl _ _) | (with_reducible assumption) | (with_reducible refine Below.alloc ?_ ?_ _) | (with_reducible refine Below.drew ?_) | (with_reducible refine below_drewN ?_ _) | (with_reducible refine Below.setCell ?_ ?_ _) | (with_reducible refine below_call ?_ ?_ (by assumption)) | go_size))⟩
    case round =>
      obtain ⟨k, hk, rfl, hown, hall, e0, e1, hzr, hbw⟩ := hrel
      have HO := Lib.hid hown
      have HA := Lib.hid hall
      clear hown hall
      have hzw := hbw.size
      have q5 : w1.heap.size < wr.heap.size := by omega
      have i0' : (0 : Int) ≤ (k : Int) := Int.natCast_nonneg _
      by_cases hlt : (k : Int) < rs
      · obtain ⟨p4, p5⟩ := mulb (show 0 ≤ (k : Int) by omega) (show (k : Int) ≤ 800 by omega) (show 0 ≤ D by omega) b2
        by_cases hok : (twl rs N D k).2 ≤ 1000000
        · have HK := Lib.hid (show mk (N + k * D) (D * rs) = ((twl rs N D k).1, (twl rs N D k).2, true) from mk_of hok)
          have HALL := Lib.hid (show ∀ j, j < k + 1 → (twl rs N D j).2 ≤ 1000000 from fun j hj => by
            by_cases hjk : j = k
            · subst hjk; exact hok
            · exact HA.out j (by omega))
          have HSN := Lib.hid (map_snoc (twl rs N D) k)
          clear hok
          generalize twl rs N D k = t at *
          obtain ⟨x, y⟩ := t
          go_wp2_with fail
          refine (diMake_val (N + k * D) (D * rs) HK.out p7 (by omega) _).mono ?_
          rintro e2 w2 ⟨rfl, hb2⟩
          obtain ⟨hc2, hf2⟩ := bcell hb2
          have hz2 := hb2.size
          have HO2 := Lib.hid (World.ownsRow.kept HO.out (row := none) ⟨hb2.os, hb2.tape, hb2.output, hb2.size, fun k hk _ => hb2.block k hk⟩ (by generalize (u9 : Value).ownBlock = z; cases z <;> simp))
          have HLT : ∀ k, u9.ownBlock = some k → w1.heap.size + 1 ≤ k := fun k hk => (World.ownsRow.lt HO.out k hk).1
          go_wp2_with (at_builtin; refine wpList_append_lies _ rfl _ _ _ rfl (w1.heap.size + 1) 25 i0 _ 2 16 Try.underlying30 I0.out Z0.out Z1.out Z2.out rfl (by omega) u9 k _ rfl ((HO2.out.alloc _).alloc _) ⟨w2.heap.size + 1, 0, none⟩ 1 1 [.int .i64 x, .int .i64 y] rfl rfl (World.news_of_block (cs := #[.int .i64 x, .int .i64 y]) (t := 25) (fr := (0, 0)) (by simpa using heap_alloc_new (w2.alloc _) _)) (by simp [Value.oneCell']) (by omega) (by unfold maxLen; omega) (by omega) (by simp; omega) (w2.heap.size + 2) (by simp) ?_; intro g cap w3 hown3 hgrow hat hlt3)
          have hbel4 : Below (w1.heap.size + 1) wr w3 := Below.grown (Below.mono (B := wr.heap.size) (by (repeat' (first | (with_reducible exact Below.refl _ _) | (with_reducible assumption) | (with_reducible refine Below.alloc ?_ ?_ _) | (with_reducible refine Below.drew ?_) | (with_reducible refine below_drewN ?_ _) | (with_reducible refine Below.setCell ?_ ?_ _) | (with_reducible refine below_call ?_ ?_ (by assumption)) | go_size))) (by omega)) hgrow (by simp; omega) HLT
          have hz4 := hbel4.size
          go_roundw
          case rel =>
            refine ⟨k + 1, by omega, by go_num, ?_, ?_, ?_, ?_, ?_, ?_⟩
            · rw [← HSN.out]; exact hown3
            · exact HALL.out
            · exact (hbel4.cell (p := ⟨w1.heap.size, 0, none⟩) (by show w1.heap.size < w1.heap.size + 1; omega)).trans e0
            · exact (hbel4.cell (p := ⟨w1.heap.size, 1, none⟩) (by show w1.heap.size < w1.heap.size + 1; omega)).trans e1
            · omega
            · exact hbw.trans (hbel4.mono (by omega))
          case measure => simp [intOf]; omega
        · have HK := Lib.hid (show mk (N + k * D) (D * rs) = (0, 0, false) from mk_not hok)
          have HB := Lib.hid (parts_bad (h := rs) (n := N) (d := D) (k := k) (by omega) hok)
          clear hok
          go_wp2_with fail
          refine (diMake_val (N + k * D) (D * rs) HK.out p7 (by omega) _).mono ?_
          rintro e2 w2 ⟨rfl, hb2⟩
          obtain ⟨hc2, hf2⟩ := bcell hb2
          have hz2 := hb2.size
          go_wp2
          go_ret2
          rw [parts_no HB.out, HB.out]
          have hbz : Below w.heap.size w w2 := hbw.trans (hb2.mono hbw.size)
          exact TurnsOut.none (by (repeat' (first | (with_reducible exact Below.refl _ _) | (with_reducible assumption) | (with_reducible refine Below.alloc ?_ ?_ _) | (with_reducible refine Below.drew ?_) | (with_reducible refine below_drewN ?_ _) | (with_reducible refine Below.setCell ?_ ?_ _) | (with_reducible refine below_call ?_ ?_ (by assumption)) | go_size)))
      · go_wp2
        go_ret2
        have hkh : k = (rs).toNat := by omega
        subst hkh
        obtain ⟨y1, y2⟩ := parts_yes HA.out
        rw [y2, y1]
        refine ⟨_, rfl, TRow.mono ?_ (show w.heap.size ≤ w1.heap.size + 1 by omega), ?_⟩
        · unfold TRow
          simpa using HO.out
        · (repeat' (first | (with_reducible exact Below.refl _ _) | (with_reducible assumption) | (with_reducible refine Below.alloc ?_ ?_ _) | (with_reducible refine Below.drew ?_) | (with_reducible refine below_drewN ?_ _) | (with_reducible refine Below.setCell ?_ ?_ _) | (with_reducible refine below_call ?_ ?_ (by assumption)) | go_size))

  · have HM := Lib.hid (mk_not hf)
    have HB := Lib.hid (parts_big (h := rs) (by omega) b1 b3 b4 hgc hf)
    rw [parts_no HB.out, HB.out]
    clear hf hgc
    generalize (lowNum (pn * rd - rn * pd) (pd * rd)) = N at *
    generalize (lowDen (pn * rd - rn * pd) (pd * rd)) = D at *
    (go_enter Try.func45, Try.ntmps45)
    go_wp2_with fail
    refine (diAdd_way rn rd pn pd HM.out h1 h2 h3 h4 _).mono ?_
    (rintro e1 w1 ⟨rfl, hb1⟩; obtain ⟨hc1, hf1⟩ := bcell hb1; have hz1 := hb1.size; (try simp only [World.size_alloc, World.size_setCell, World.size_drew] at hz1); have q1 : w.heap.size ≤ w1.heap.size := (by omega); (try have q1_0 : w.heap.size < w1.heap.size := (by omega)); (try have q1_1 : w.heap.size + 1 < w1.heap.size := (by omega)); (try have q1_2 : w.heap.size + 2 < w1.heap.size := (by omega)); (try have q1_3 : w.heap.size + 3 < w1.heap.size := (by omega)))
    unfold fail3
    go_wp2
    go_ret2
    exact TurnsOut.none (by (repeat' (first | (with_reducible exact Below.refl _ _) | (with_reducible assumption) | (with_reducible refine Below.alloc ?_ ?_ _) | (with_reducible refine Below.drew ?_) | (with_reducible refine below_drewN ?_ _) | (with_reducible refine Below.setCell ?_ ?_ _) | (with_reducible refine below_call ?_ ?_ (by assumption)) | go_size)))

set_option maxHeartbeats 1600000 in
theorem meTimes_neg (rn rd rs pn pd : Int) (h1 : 1 ≤ rd ∧ rd ≤ 1000000) (h2 : 0 ≤ rn ∧ rn ≤ 999999) (hs : -800 ≤ rs ∧ rs ≤ 800) (h3 : 1 ≤ pd ∧ pd ≤ 1000) (h4 : 0 ≤ pn ∧ pn ≤ 999) (h0 : rs < 0) (w : World) :
    Calls Try.prog 45 #[hv rn rd rs, tv pn pd] w (TurnsOut w (timesR rn rd rs pn pd).1 (timesR rn rd rs pn pd).2) := by
  have hw := way_bd (rn := rn) (pn := pn) h1 h3
  have hgc := gc_low (rn * pd - pn * rd) (rd * pd) (by rw [Int.mul_comm]; exact hw.1)
  rw [timesR_neg h0]
  have hneg : -(pn * rd - rn * pd) = rn * pd - pn * rd := by omega
  have hcom : pd * rd = rd * pd := Int.mul_comm ..
  have hmir : (lowDen (rn * pd - pn * rd) (rd * pd)) = (lowDen (pn * rd - rn * pd) (pd * rd)) ∧ 0 ≤ (lowNum (rn * pd - pn * rd) (rd * pd)) ∧ (lowNum (rn * pd - pn * rd) (rd * pd)) ≤ (lowDen (rn * pd - pn * rd) (rd * pd)) - 1 := by
    have e := mirror_eq (pn * rd - rn * pd) (pd * rd) hw.1
    have l := mirror_low (lowNum (pn * rd - rn * pd) (pd * rd)) (lowDen (pn * rd - rn * pd) (pd * rd)) hw.2.2.1.1 (gc_low _ _ hw.1)
    have e2 := e.2
    rw [l.2, hneg, hcom] at e2
    have b := low_bd (rn * pd - pn * rd) (rd * pd) (by rw [← hcom]; exact hw.1)
    have c := low_lt (rn * pd - pn * rd) (rd * pd) (by rw [← hcom]; exact hw.1)
    refine ⟨?_, b.1, c⟩
    rw [← e2, hcom]
  obtain ⟨hD, -, ⟨b1, b2'⟩, b3, b4⟩ := hw
  obtain ⟨m1, m2, m3⟩ := hmir
  by_cases hf : (lowDen (pn * rd - rn * pd) (pd * rd)) ≤ 1000000
  · have HM := Lib.hid (mk_of hf)
    have HW : Hid (∀ w : World, Calls Try.prog 74 #[tv (lowNum (pn * rd - rn * pd) (pd * rd)) (lowDen (pn * rd - rn * pd) (pd * rd))] w fun e w' => e = .returned (tv (lowNum (rn * pd - pn * rd) (rd * pd)) (lowDen (rn * pd - pn * rd) (rd * pd))) ∧ Below w.heap.size w w') := fun w =>
      diMirror_way (pn * rd - rn * pd) (pd * rd) hD rfl rfl (by rw [hneg, hcom]) (by rw [hneg, hcom]) ⟨b1, hf, b3, by omega⟩ w
    clear hgc b2'
    generalize (lowNum (pn * rd - rn * pd) (pd * rd)) = N1 at *
    generalize (lowDen (pn * rd - rn * pd) (pd * rd)) = D1 at *
    generalize (lowNum (rn * pd - pn * rd) (rd * pd)) = N at *
    generalize (lowDen (rn * pd - pn * rd) (rd * pd)) = D at *
    subst m1
    have b2 : D ≤ 1000000 := hf
    obtain ⟨p1, p2⟩ := mulb (show 0 ≤ D by omega) b2 (show 0 ≤ -rs by omega) (show -rs ≤ 800 by omega)
    have p7 : 1 ≤ D * -rs := Int.mul_pos (by omega) (by omega)
    clear hneg hcom hD
    obtain ⟨i0, hi0, hz0, hz1, hz2⟩ := info_parts Try.infoTurn
    have I0 := Lib.hid hi0
    have Z0 := Lib.hid hz0
    have Z1 := Lib.hid hz1
    have Z2 := Lib.hid hz2
    clear hi0 hz0 hz1 hz2

    (go_enter Try.func45, Try.ntmps45)
    go_wp2_with fail
    refine (diAdd_way rn rd pn pd HM.out h1 h2 h3 h4 _).mono ?_
    (rintro e1 w1 ⟨rfl, hb1⟩; obtain ⟨hc1, hf1⟩ := bcell hb1; have hz1 := hb1.size; (try simp only [World.size_alloc, World.size_setCell, World.size_drew] at hz1); have q1 : w.heap.size ≤ w1.heap.size := (by omega); (try have q1_0 : w.heap.size < w1.heap.size := (by omega)); (try have q1_1 : w.heap.size + 1 < w1.heap.size := (by omega)); (try have q1_2 : w.heap.size + 2 < w1.heap.size := (by omega)); (try have q1_3 : w.heap.size + 3 < w1.heap.size := (by omega)))
    go_wp2_with fail
    refine (HW.out _).mono ?_
    (rintro e2 w2 ⟨rfl, hb2⟩; obtain ⟨hc2, hf2⟩ := bcell hb2; have hz2 := hb2.size; (try simp only [World.size_alloc, World.size_setCell, World.size_drew] at hz2); have q2 : w.heap.size ≤ w2.heap.size := (by omega); (try have q2_0 : w.heap.size < w2.heap.size := (by omega)); (try have q2_1 : w.heap.size + 1 < w2.heap.size := (by omega)); (try have q2_2 : w.heap.size + 2 < w2.heap.size := (by omega)); (try have q2_3 : w.heap.size + 3 < w2.heap.size := (by omega)); (try have q2_1_0 : w1.heap.size < w2.heap.size := (by omega)); (try have q2_1_1 : w1.heap.size + 1 < w2.heap.size := (by omega)))
    go_wp2
    go_loopw [9, 10] (fun o i wr => ∃ k : Nat, (k : Int) ≤ (-rs) ∧ i = .int .i64 k ∧ wr.ownsRow (w1.heap.size + 1) 25 2 o k (flat ((List.range k).map (twl (-rs) N D))) ∧ (∀ j, j < k → (twl (-rs) N D j).2 ≤ 1000000) ∧ wr.cell? ⟨w1.heap.size, 0, none⟩ = some (.int .i64 N) ∧ wr.cell? ⟨w1.heap.size, 1, none⟩ = some (.int .i64 D) ∧ w1.heap.size + 1 ≤ wr.heap.size ∧ Below w.heap.size w wr) (fun _ i _ => ((-rs)).toNat - (intOf i).toNat)
    case atStart => exact ⟨0, by omega, rfl, World.ownsRow_nil _ _ _ _, fun j hj => absurd hj (Nat.not_lt_zero _), by go_simp, by go_simp, by go_size, by (repeat' (first | (with_reducible exact Below.refl _ _) | (with_reducible assumption) | (with_reducible refine Below.alloc ?_ ?_ _) | (with_reducible refine Below.drew ?_) | (with_reducible refine below_drewN ?_ _) | (with_reducible refine Below.setCell ?_ ?_ _) | (with_reducible refine below_call ?_ ?_ (by assumption)) | go_size))⟩
    case round =>
      obtain ⟨k, hk, rfl, hown, hall, e0, e1, hzr, hbw⟩ := hrel
      have HO := Lib.hid hown
      have HA := Lib.hid hall
      clear hown hall
      have hzw := hbw.size
      have q5 : w1.heap.size < wr.heap.size := by omega
      have i0' : (0 : Int) ≤ (k : Int) := Int.natCast_nonneg _
      by_cases hlt : (k : Int) < (-rs)
      · obtain ⟨p4, p5⟩ := mulb (show 0 ≤ (k : Int) by omega) (show (k : Int) ≤ 800 by omega) (show 0 ≤ D by omega) b2
        by_cases hok : (twl (-rs) N D k).2 ≤ 1000000
        · have HK := Lib.hid (show mk (N + k * D) (D * (-rs)) = ((twl (-rs) N D k).1, (twl (-rs) N D k).2, true) from mk_of hok)
          have HALL := Lib.hid (show ∀ j, j < k + 1 → (twl (-rs) N D j).2 ≤ 1000000 from fun j hj => by
            by_cases hjk : j = k
            · subst hjk; exact hok
            · exact HA.out j (by omega))
          have HSN := Lib.hid (map_snoc (twl (-rs) N D) k)
          clear hok
          generalize twl (-rs) N D k = t at *
          obtain ⟨x, y⟩ := t
          go_wp2_with fail
          refine (diMake_val (N + k * D) (D * (-rs)) HK.out p7 (by omega) _).mono ?_
          rintro e2 w2 ⟨rfl, hb2⟩
          obtain ⟨hc2, hf2⟩ := bcell hb2
          have hz2 := hb2.size
          have HO2 := Lib.hid (World.ownsRow.kept HO.out (row := none) ⟨hb2.os, hb2.tape, hb2.output, hb2.size, fun k hk _ => hb2.block k hk⟩ (by generalize (u9 : Value).ownBlock = z; cases z <;> simp))
          have HLT : ∀ k, u9.ownBlock = some k → w1.heap.size + 1 ≤ k := fun k hk => (World.ownsRow.lt HO.out k hk).1
          go_wp2_with (at_builtin; refine wpList_append_lies _ rfl _ _ _ rfl (w1.heap.size + 1) 25 i0 _ 2 16 Try.underlying30 I0.out Z0.out Z1.out Z2.out rfl (by omega) u9 k _ rfl ((HO2.out.alloc _).alloc _) ⟨w2.heap.size + 1, 0, none⟩ 1 1 [.int .i64 x, .int .i64 y] rfl rfl (World.news_of_block (cs := #[.int .i64 x, .int .i64 y]) (t := 25) (fr := (0, 0)) (by simpa using heap_alloc_new (w2.alloc _) _)) (by simp [Value.oneCell']) (by omega) (by unfold maxLen; omega) (by omega) (by simp; omega) (w2.heap.size + 2) (by simp) ?_; intro g cap w3 hown3 hgrow hat hlt3)
          have hbel4 : Below (w1.heap.size + 1) wr w3 := Below.grown (Below.mono (B := wr.heap.size) (by (repeat' (first | (with_reducible exact Below.refl _ _) | (with_reducible assumption) | (with_reducible refine Below.alloc ?_ ?_ _) | (with_reducible refine Below.drew ?_) | (with_reducible refine below_drewN ?_ _) | (with_reducible refine Below.setCell ?_ ?_ _) | (with_reducible refine below_call ?_ ?_ (by assumption)) | go_size))) (by omega)) hgrow (by simp; omega) HLT
          have hz4 := hbel4.size
          go_roundw
          case rel =>
            refine ⟨k + 1, by omega, by go_num, ?_, ?_, ?_, ?_, ?_, ?_⟩
            · rw [← HSN.out]; exact hown3
            · exact HALL.out
            · exact (hbel4.cell (p := ⟨w1.heap.size, 0, none⟩) (by show w1.heap.size < w1.heap.size + 1; omega)).trans e0
            · exact (hbel4.cell (p := ⟨w1.heap.size, 1, none⟩) (by show w1.heap.size < w1.heap.size + 1; omega)).trans e1
            · omega
            · exact hbw.trans (hbel4.mono (by omega))
          case measure => simp [intOf]; omega
        · have HK := Lib.hid (show mk (N + k * D) (D * (-rs)) = (0, 0, false) from mk_not hok)
          have HB := Lib.hid (parts_bad (h := (-rs)) (n := N) (d := D) (k := k) (by omega) hok)
          clear hok
          go_wp2_with fail
          refine (diMake_val (N + k * D) (D * (-rs)) HK.out p7 (by omega) _).mono ?_
          rintro e2 w2 ⟨rfl, hb2⟩
          obtain ⟨hc2, hf2⟩ := bcell hb2
          have hz2 := hb2.size
          go_wp2
          go_ret2
          rw [parts_no HB.out, HB.out]
          have hbz : Below w.heap.size w w2 := hbw.trans (hb2.mono hbw.size)
          exact TurnsOut.none (by (repeat' (first | (with_reducible exact Below.refl _ _) | (with_reducible assumption) | (with_reducible refine Below.alloc ?_ ?_ _) | (with_reducible refine Below.drew ?_) | (with_reducible refine below_drewN ?_ _) | (with_reducible refine Below.setCell ?_ ?_ _) | (with_reducible refine below_call ?_ ?_ (by assumption)) | go_size)))
      · go_wp2
        go_ret2
        have hkh : k = ((-rs)).toNat := by omega
        subst hkh
        obtain ⟨y1, y2⟩ := parts_yes HA.out
        rw [y2, y1]
        refine ⟨_, rfl, TRow.mono ?_ (show w.heap.size ≤ w1.heap.size + 1 by omega), ?_⟩
        · unfold TRow
          simpa using HO.out
        · (repeat' (first | (with_reducible exact Below.refl _ _) | (with_reducible assumption) | (with_reducible refine Below.alloc ?_ ?_ _) | (with_reducible refine Below.drew ?_) | (with_reducible refine below_drewN ?_ _) | (with_reducible refine Below.setCell ?_ ?_ _) | (with_reducible refine below_call ?_ ?_ (by assumption)) | go_size))

  · have HM := Lib.hid (mk_not hf)
    have HB := Lib.hid (parts_big (h := -rs) (by omega) (by omega) m2 m3 hgc (show ¬ (lowDen (rn * pd - pn * rd) (rd * pd)) ≤ 1000000 by omega))
    rw [parts_no HB.out, HB.out]
    clear hf hgc m1 m2 m3 b1 b2' b3 b4 hneg hcom hD
    (go_enter Try.func45, Try.ntmps45)
    go_wp2_with fail
    refine (diAdd_way rn rd pn pd HM.out h1 h2 h3 h4 _).mono ?_
    (rintro e1 w1 ⟨rfl, hb1⟩; obtain ⟨hc1, hf1⟩ := bcell hb1; have hz1 := hb1.size; (try simp only [World.size_alloc, World.size_setCell, World.size_drew] at hz1); have q1 : w.heap.size ≤ w1.heap.size := (by omega); (try have q1_0 : w.heap.size < w1.heap.size := (by omega)); (try have q1_1 : w.heap.size + 1 < w1.heap.size := (by omega)); (try have q1_2 : w.heap.size + 2 < w1.heap.size := (by omega)); (try have q1_3 : w.heap.size + 3 < w1.heap.size := (by omega)))
    unfold fail3
    go_wp2
    go_ret2
    exact TurnsOut.none (by (repeat' (first | (with_reducible exact Below.refl _ _) | (with_reducible assumption) | (with_reducible refine Below.alloc ?_ ?_ _) | (with_reducible refine Below.drew ?_) | (with_reducible refine below_drewN ?_ _) | (with_reducible refine Below.setCell ?_ ?_ _) | (with_reducible refine below_call ?_ ?_ (by assumption)) | go_size)))

theorem meTimes_any (rn rd rs pn pd : Int) (h1 : 1 ≤ rd ∧ rd ≤ 1000000) (h2 : 0 ≤ rn ∧ rn ≤ 999999) (hs : -800 ≤ rs ∧ rs ≤ 800) (h3 : 1 ≤ pd ∧ pd ≤ 1000) (h4 : 0 ≤ pn ∧ pn ≤ 999) (h0 : rs ≠ 0) (w : World) :
    Calls Try.prog 45 #[hv rn rd rs, tv pn pd] w (TurnsOut w (timesR rn rd rs pn pd).1 (timesR rn rd rs pn pd).2) := by
  rcases Int.lt_trichotomy rs 0 with h | h | h
  · exact meTimes_neg rn rd rs pn pd h1 h2 hs h3 h4 h w
  · exact absurd h h0
  · exact meTimes_pos rn rd rs pn pd h1 h2 hs h3 h4 h w
end Go.Proofs.Ytcfiaacpofpioaa
