/- All places at which hands meet: by the program and by the model. -/
import Derived.Test.YtcfiaacpofpioaaUniq
set_option linter.unusedSimpArgs false
set_option linter.unusedVariables false
set_option maxRecDepth 100000
namespace Go.Proofs.Ytcfiaacpofpioaa
open Go.RowKit

theorem good_low_of (m D : Int) (hD : 1 ≤ D) (h : lowDen m D ≤ 1000000) : goodB (lowNum m D) (lowDen m D) = true := by
  have b := low_bd m D hD
  have l := low_lt m D hD
  have c := gc_low m D hD
  exact (goodB_iff _ _).2 ⟨b.2.1, h, b.1, by omega, c⟩
theorem parts_all {h n d : Int} (hh : 1 ≤ h) (hd : 1 ≤ d) (hb : partsOk h n d = true) : AllGood (partsL h n d) := by
  intro t ht
  simp only [partsL, hb, if_true, List.mem_map, List.mem_range] at ht
  obtain ⟨j, hj, rfl⟩ := ht
  simp only [partsOk, List.all_eq_true, List.mem_range, decide_eq_true_eq] at hb
  exact good_low_of _ _ (Int.mul_pos (by omega) (by omega)) (hb j hj)
theorem timesR_all {rn rd rs pn pd : Int} (h1 : 1 ≤ rd ∧ rd ≤ 1000000) (h3 : 1 ≤ pd ∧ pd ≤ 1000) (h : (timesR rn rd rs pn pd).2 = true) : AllGood (timesR rn rd rs pn pd).1 := by
  have w1 := way_bd (rn := rn) (pn := pn) h1 h3
  rcases Int.lt_trichotomy rs 0 with h0 | h0 | h0
  · rw [timesR_neg h0] at h ⊢
    have hd : 1 ≤ lowDen (rn * pd - pn * rd) (rd * pd) := (low_bd _ _ (by rw [Int.mul_comm]; exact w1.1)).2.1
    exact parts_all (by omega) hd h
  · rw [timesR_zero h0] at h; cases h
  · rw [timesR_pos h0] at h ⊢
    exact parts_all (by omega) w1.2.2.1.1 h
theorem aheadR_all {an ad av bn bd bv yn yd : Int} (h : (aheadR an ad av bn bd bv yn yd).2 = true) : AllGood (aheadR an ad av bn bd bv yn yd).1 := by
  unfold aheadR at h ⊢
  split at h
  · rename_i g
    rw [if_pos g]
    simp only [Bool.and_eq_true] at g
    obtain ⟨ga, gb⟩ := twoB_split g.1
    obtain ⟨y1, y2, -, -⟩ := startB_bd g.2
    exact timesR_all (rel_bd ga gb).1 ⟨y1, y2⟩ h
  · cases h
/-- Where a hand stands. -/
def plc (n d s : Int) (t : Int × Int) : Int × Int := (lowNum (n * t.2 + s * t.1 * d) (d * t.2), lowDen (n * t.2 + s * t.1 * d) (d * t.2))
def plcOk (n d s : Int) (L : List (Int × Int)) : Bool := L.all fun t => decide ((plc n d s t).2 ≤ 1000000)
theorem plc_good {n d s : Int} {t : Int × Int} (hd : 1 ≤ d) (ht : 1 ≤ t.2) (h : (plc n d s t).2 ≤ 1000000) : goodB (plc n d s t).1 (plc n d s t).2 = true :=
  good_low_of _ _ (Int.mul_pos (by omega) (by omega)) h
theorem plc_all {n d s : Int} {L : List (Int × Int)} (hd : 1 ≤ d) (hL : AllGood L) (h : ∀ j, j < L.length → (plc n d s (L.getD j (0, 0))).2 ≤ 1000000) : AllGood (L.map (plc n d s)) := by
  intro t ht
  obtain ⟨x, hx, rfl⟩ := List.mem_map.1 ht
  obtain ⟨j, hj, e⟩ := List.getElem_of_mem hx
  have := h j hj
  rw [List.getD_eq_getElem?_getD, List.getElem?_eq_getElem hj, e] at this
  exact plc_good hd (den_pos (hL x hx)) this
theorem plcOk_yes {n d s : Int} {L : List (Int × Int)} (h : ∀ j, j < L.length → (plc n d s (L.getD j (0, 0))).2 ≤ 1000000) : plcOk n d s L = true := by
  unfold plcOk
  rw [List.all_eq_true]
  intro x hx
  obtain ⟨j, hj, e⟩ := List.getElem_of_mem hx
  have := h j hj
  rw [List.getD_eq_getElem?_getD, List.getElem?_eq_getElem hj, e] at this
  exact decide_eq_true this
theorem plcOk_no {n d s : Int} {L : List (Int × Int)} {k : Nat} (hk : k < L.length) (h : ¬ (plc n d s (L.getD k (0, 0))).2 ≤ 1000000) : plcOk n d s L = false := by
  rw [← Bool.not_eq_true]
  intro ha
  unfold plcOk at ha
  rw [List.all_eq_true] at ha
  exact h (of_decide_eq_true (ha _ (getD_mem hk)))
def placesR (R : List (Int × Int) × Bool) (n d s : Int) : List (Int × Int) × Bool := if R.2 && plcOk n d s R.1 then (insAll (R.1.map (plc n d s)), true) else ([], false)
theorem placesR_len {R : List (Int × Int) × Bool} (n d s : Int) (h : R.1.length ≤ 1000000) : (placesR R n d s).1.length ≤ 1000000 := by
  unfold placesR
  split
  · exact Nat.le_trans (insAll_len _) (by simpa using h)
  · simp
theorem handAt_yes {n d s : Int} {t : Int × Int} (hh : handB n d s = true) (ht : goodB t.1 t.2 = true) (h : (plc n d s t).2 ≤ 1000000) : handAtT n d s t.1 t.2 = ((plc n d s t).1, (plc n d s t).2, true) := by
  simp only [handAtT, hh, ht, Bool.and_self, if_true]
  exact mk_of h
theorem handAt_no {n d s : Int} {t : Int × Int} (hh : handB n d s = true) (ht : goodB t.1 t.2 = true) (h : ¬ (plc n d s t).2 ≤ 1000000) : handAtT n d s t.1 t.2 = (0, 0, false) := by
  simp only [handAtT, hh, ht, Bool.and_self, if_true]
  exact mk_not h
theorem implHandAt_val {r : Int × Int × Bool} (n d s tn td : Int) (hr : handAtT n d s tn td = r) (w : World) :
    Calls Try.prog 22 #[hv n d s, tv tn td] w fun e w' => e = .returned (rv r) ∧ Below w.heap.size w w' := by subst hr; exact implHandAt_any n d s tn td w
theorem meAt_val {r : Int × Int × Bool} (n d s tn td : Int) (hh : handB n d s = true) (ht : goodB tn td = true) (hr : handAtT n d s tn td = r) (w : World) :
    Calls Try.prog 51 #[hv n d s, tv tn td] w fun e w' => e = .returned (rv r) ∧ Below w.heap.size w w' := by
  subst hr
  simp only [handAtT, hh, ht, Bool.and_self, if_true]
  obtain ⟨⟨a1, a2, a3, a4⟩, a5, a6⟩ := handB_bd hh
  obtain ⟨b1, b2, b3, b4⟩ := goodB_bd ht
  exact meAt_any n d s tn td ⟨by omega, by omega⟩ ⟨by omega, by omega⟩ ⟨by omega, by omega⟩ ⟨by omega, by omega⟩ ⟨by omega, by omega⟩ w
theorem some_le {g j B : Nat} (h : some g = some j) (hB : B ≤ g) : B ≤ j := by injection h with h; omega
theorem map_take_snoc (f : Int × Int → Int × Int) {L : List (Int × Int)} {k : Nat} (hk : k < L.length) : (L.take (k + 1)).map f = (L.take k).map f ++ [f (L.getD k (0, 0))] := by
  rw [take_snoc hk, List.map_append]; rfl

set_option maxHeartbeats 1600000 in
theorem implMeetPlaces_any (an ad av bn bd bv : Int) (w : World) :
    Calls Try.prog 15 #[hv an ad av, hv bn bd bv] w (TurnsOut w (placesR (aheadR an ad av bn bd bv 0 1) an ad av).1 (placesR (aheadR an ad av bn bd bv 0 1) an ad av).2) := by
  have HLEN := Lib.hid (aheadR_len an ad av bn bd bv 0 1)
  have HC : Hid (∀ w : World, Calls Try.prog 9 #[hv an ad av, hv bn bd bv] w (TurnsOut w (aheadR an ad av bn bd bv 0 1).1 (aheadR an ad av bn bd bv 0 1).2)) := fun w => implMeetTimes_any an ad av bn bd bv w
  have HG : Hid ((aheadR an ad av bn bd bv 0 1).2 = true → 0 < (aheadR an ad av bn bd bv 0 1).1.length ∧ GoodL (aheadR an ad av bn bd bv 0 1).1) := fun h => aheadR_good h
  have HH : Hid ((aheadR an ad av bn bd bv 0 1).2 = true → handB an ad av = true ∧ handB bn bd bv = true) := fun h => handB_of_ahead h
  have HL : Hid ((aheadR an ad av bn bd bv 0 1).2 = true → AllGood (aheadR an ad av bn bd bv 0 1).1) := fun h => aheadR_all h
  generalize (aheadR an ad av bn bd bv 0 1) = R at *
  obtain ⟨L, ok⟩ := R
  cases ok
  · rw [show placesR (L, false) an ad av = ([], false) from rfl]
    (go_enter Try.func15, Try.ntmps15)
    go_wp2_with fail
    refine (HC.out _).mono ?_
    (rintro e1 w1 ⟨v1, rfl, hr1, hb1⟩; have HR1 := Lib.hid hr1; clear hr1; obtain ⟨hc1, hf1⟩ := bcell hb1; have hz1 := hb1.size; (try simp only [World.size_alloc, World.size_setCell, World.size_drew] at hz1); have q1 : w.heap.size ≤ w1.heap.size := (by omega); (try have q1_0 : w.heap.size < w1.heap.size := (by omega)); (try have q1_1 : w.heap.size + 1 < w1.heap.size := (by omega)); (try have q1_2 : w.heap.size + 2 < w1.heap.size := (by omega)); (try have q1_3 : w.heap.size + 3 < w1.heap.size := (by omega)))
    go_wp2
    go_ret2
    exact TurnsOut.none (by (repeat' (first | (with_reducible exact Below.refl _ _) | (with_reducible assumption) | (with_reducible refine Below.alloc ?_ ?_ _) | (with_reducible refine Below.drew ?_) | (with_reducible refine below_drewN ?_ _) | (with_reducible refine Below.setCell ?_ ?_ _) | (with_reducible refine below_call ?_ ?_ (by assumption)) | go_size)))
  obtain ⟨l0, gl⟩ := HG.out rfl
  obtain ⟨ga, -⟩ := HH.out rfl
  have hlen : L.length ≤ 1000000 := HLEN.out
  have GL := Lib.hid gl
  have GA := Lib.hid ga
  have AL := Lib.hid (HL.out rfl)
  clear gl ga HG HH HL
  obtain ⟨i0, hi0, hz0, hz1, hz2⟩ := info_parts Try.infoTurn
  have I0 := Lib.hid hi0
  have Z0 := Lib.hid hz0
  have Z1 := Lib.hid hz1
  have Z2 := Lib.hid hz2
  clear hi0 hz0 hz1 hz2
  (go_enter Try.func15, Try.ntmps15)
  go_wp2_with fail
  refine (HC.out _).mono ?_
  (rintro e1 w1 ⟨v1, rfl, hr1, hb1⟩; have HR1 := Lib.hid hr1; clear hr1; obtain ⟨hc1, hf1⟩ := bcell hb1; have hz1 := hb1.size; (try simp only [World.size_alloc, World.size_setCell, World.size_drew] at hz1); have q1 : w.heap.size ≤ w1.heap.size := (by omega); (try have q1_0 : w.heap.size < w1.heap.size := (by omega)); (try have q1_1 : w.heap.size + 1 < w1.heap.size := (by omega)); (try have q1_2 : w.heap.size + 2 < w1.heap.size := (by omega)); (try have q1_3 : w.heap.size + 3 < w1.heap.size := (by omega)))
  obtain ⟨a1, c1, rfl, l1, m1, x1⟩ := HR1.out.cells
  have X1 := Lib.hid x1
  clear x1
  have hbx : ∀ o, w1.cell? ⟨w.heap.size, o, none⟩ = #[Value.int .i64 an, .int .i64 ad, .int .i64 av][o]? := fun o => by
    rw [hc1 _ _ (by go_size)]; go_simp
  have HX := Lib.hid hbx
  clear hbx
  go_wp2_with (at_make; refine wpList_make_own _ rfl _ _ 30 rfl w1.heap.size 25 i0 (.agg #[.int .i64 0, .int .i64 0]) 2 Try.underlying30 I0.out Z0.out Z1.out .i64 .i64 _ L.length rfl rfl (by omega) (by rw [Z2.out]; omega) (by unfold maxLen; omega) (by go_size) ?_; intro w0 hown0 hgrow0)
  have hb0 : Below w1.heap.size w1 w0 := Below.grown (Below.refl _ _) hgrow0 (by go_size) (fun k hk => by cases hk)
  have HO0 := Lib.hid hown0
  clear hown0 hgrow0
  go_loopw [8, 26] (fun u i wr => ∃ k : Nat, k ≤ L.length ∧ i = .int .i64 k ∧ wr.ownsRow w1.heap.size 25 2 u k (flat ((L.take k).map (plc an ad av))) ∧ (∀ j, j < k → (plc an ad av (L.getD j (0, 0))).2 ≤ 1000000) ∧ Below w1.heap.size w1 wr) (fun _ i _ => L.length - (intOf i).toNat)
  case atStart => exact ⟨0, Nat.zero_le _, rfl, HO0.out, fun j hj => absurd hj (Nat.not_lt_zero _), hb0⟩
  case round =>
    obtain ⟨k, hk, rfl, hown, hall, hbr⟩ := hrel
    have HO := Lib.hid hown
    have HA := Lib.hid hall
    clear hown hall
    obtain ⟨hcr, hfr⟩ := bcell hbr
    have hzr := hbr.size
    have i0' : (0 : Int) ≤ (k : Int) := Int.natCast_nonneg _
    by_cases hlt : k < L.length
    · obtain ⟨g1, rfl, e1, e2, e3, e4⟩ := X1.out k hlt
      have i1 : (k : Int) < (L.length : Int) := by omega
      have f0 := (hcr w.heap.size 0 (by omega)).trans (HX.out 0)
      have f1 := (hcr w.heap.size 1 (by omega)).trans (HX.out 1)
      have f2 := (hcr w.heap.size 2 (by omega)).trans (HX.out 2)
      simp only [List.getElem?_toArray, List.getElem?_cons_zero, List.getElem?_cons_succ] at f0 f1 f2
      have e5 := (hcr g1 (k * 2) (by omega)).trans e3
      have e6 := (hcr g1 (k * 2 + 1) (by omega)).trans e4
      have s0 : w.heap.size < wr.heap.size := by omega
      clear e3 e4 hcr hfr
      have GT := getD_good AL.out hlt
      have HSN := Lib.hid (map_take_snoc (plc an ad av) hlt)
      have HP := Lib.hid (show (plc an ad av (L.getD k (0, 0))).2 ≤ 1000000 → goodB (plc an ad av (L.getD k (0, 0))).1 (plc an ad av (L.getD k (0, 0))).2 = true from fun h => plc_good (handB_bd GA.out).1.1 (den_pos GT) h)
      by_cases hok : (plc an ad av (L.getD k (0, 0))).2 ≤ 1000000
      · have HK := Lib.hid (handAt_yes GA.out GT hok)
        have HALL := Lib.hid (show ∀ j, j < k + 1 → (plc an ad av (L.getD j (0, 0))).2 ≤ 1000000 from fun j hj => by
          by_cases hjk : j = k
          · subst hjk; exact hok
          · exact HA.out j (by omega))
        have HQ := Lib.hid (HP.out hok)
        have GTT := Lib.hid GT
        clear hok HP GT
        generalize plc an ad av (L.getD k (0, 0)) = z at *
        generalize L.getD k (0, 0) = t at *
        obtain ⟨p, q⟩ := z
        obtain ⟨x, y⟩ := t
        simp only at e5 e6 HK HQ GTT
        go_wp2_with fail
        refine (implHandAt_val an ad av x y HK.out _).mono ?_
        rintro e2' w2 ⟨rfl, hb2⟩
        obtain ⟨hc2, hf2⟩ := bcell hb2
        have hz2 := hb2.size
        simp only [World.size_alloc, World.size_setCell] at hz2
        have hbw : Below wr.heap.size wr w2 := Below.trans (b := _) (by (repeat' (first | (with_reducible exact Below.refl _ _) | (with_reducible assumption) | (with_reducible refine Below.alloc ?_ ?_ _) | (with_reducible refine Below.drew ?_) | (with_reducible refine below_drewN ?_ _) | (with_reducible refine Below.setCell ?_ ?_ _) | (with_reducible refine below_call ?_ ?_ (by assumption)) | go_size))) (hb2.mono (by simp only [World.size_alloc, World.size_setCell]; omega))
        clear e5 e6 f0 f1 f2
        have HO2 := Lib.hid (World.ownsRow.kept HO.out (row := none) ⟨hbw.os, hbw.tape, hbw.output, hbw.size, fun k hk _ => hbw.block k hk⟩ (by generalize (u8 : Value).ownBlock = z; cases z <;> simp))
        have HLT : ∀ k, u8.ownBlock = some k → w1.heap.size ≤ k := fun k hk => (World.ownsRow.lt HO.out k hk).1
        go_wp2_with (at_builtin; refine wpList_append_lies _ rfl _ _ _ rfl w1.heap.size 25 i0 _ 2 16 Try.underlying30 I0.out Z0.out Z1.out Z2.out rfl (by omega) u8 k _ rfl ((HO2.out.alloc _).alloc _) ⟨w2.heap.size + 1, 0, none⟩ 1 1 [.int .i64 p, .int .i64 q] rfl rfl (World.news_of_block (cs := #[.int .i64 p, .int .i64 q]) (t := 25) (fr := (0, 0)) (by simpa using heap_alloc_new (w2.alloc _) _)) (by simp [Value.oneCell']) (by omega) (by unfold maxLen; omega) (by omega) (by simp; omega) (w2.heap.size + 2) (by simp) ?_; intro g cap w3 hown3 hgrow hat hlt3)
        have hbel4 : Below w1.heap.size w1 w3 := Below.grown (hbr.trans (Below.mono (B := wr.heap.size) (hbw.trans (Below.mono (B := w2.heap.size) (by (repeat' (first | (with_reducible exact Below.refl _ _) | (with_reducible assumption) | (with_reducible refine Below.alloc ?_ ?_ _) | (with_reducible refine Below.drew ?_) | (with_reducible refine below_drewN ?_ _) | (with_reducible refine Below.setCell ?_ ?_ _) | (with_reducible refine below_call ?_ ?_ (by assumption)) | go_size))) (by omega))) (by omega))) hgrow (by simp; omega) HLT
        go_roundw
        case rel =>
          refine ⟨k + 1, by omega, by go_num, ?_, HALL.out, hbel4⟩
          rw [HSN.out, flat_append]
          exact hown3
        case measure => simp [intOf]; omega
      · have HK := Lib.hid (handAt_no GA.out GT hok)
        have HB := Lib.hid (plcOk_no (n := an) (d := ad) (s := av) hlt hok)
        have GTT := Lib.hid GT
        clear hok HP GT HSN
        generalize L.getD k (0, 0) = t at *
        obtain ⟨x, y⟩ := t
        simp only at e5 e6 HK GTT
        go_wp2_with fail
        refine (implHandAt_val an ad av x y HK.out _).mono ?_
        rintro e2' w2 ⟨rfl, hb2⟩
        obtain ⟨hc2, hf2⟩ := bcell hb2
        have hz2 := hb2.size
        simp only [World.size_alloc, World.size_setCell] at hz2
        have hbw : Below wr.heap.size wr w2 := Below.trans (b := _) (by (repeat' (first | (with_reducible exact Below.refl _ _) | (with_reducible assumption) | (with_reducible refine Below.alloc ?_ ?_ _) | (with_reducible refine Below.drew ?_) | (with_reducible refine below_drewN ?_ _) | (with_reducible refine Below.setCell ?_ ?_ _) | (with_reducible refine below_call ?_ ?_ (by assumption)) | go_size))) (hb2.mono (by simp only [World.size_alloc, World.size_setCell]; omega))
        have hbz : Below w.heap.size w w2 := Below.trans (b := w1) (by (repeat' (first | (with_reducible exact Below.refl _ _) | (with_reducible assumption) | (with_reducible refine Below.alloc ?_ ?_ _) | (with_reducible refine Below.drew ?_) | (with_reducible refine below_drewN ?_ _) | (with_reducible refine Below.setCell ?_ ?_ _) | (with_reducible refine below_call ?_ ?_ (by assumption)) | go_size))) ((hbr.trans (hbw.mono hbr.size)).mono (by omega))
        clear e5 e6 f0 f1 f2
        go_wp2
        go_ret2
        rw [show placesR (L, true) an ad av = ([], false) from by simp [placesR, HB.out]]
        exact TurnsOut.none (by (repeat' (first | (with_reducible exact Below.refl _ _) | (with_reducible assumption) | (with_reducible refine Below.alloc ?_ ?_ _) | (with_reducible refine Below.drew ?_) | (with_reducible refine below_drewN ?_ _) | (with_reducible refine Below.setCell ?_ ?_ _) | (with_reducible refine below_call ?_ ?_ (by assumption)) | go_size)))
    · obtain rfl : k = L.length := by omega
      have HO' := HO.out
      rw [List.take_of_length_le (Nat.le_refl _)] at HO'
      have HAP := Lib.hid (plc_all (handB_bd GA.out).1.1 AL.out HA.out)
      have HYES := Lib.hid (show placesR (L, true) an ad av = (insAll (L.map (plc an ad av)), true) from by simp [placesR, plcOk_yes HA.out])
      have hPL : (L.map (plc an ad av)).length = L.length := by simp
      obtain ⟨g, cap, rfl, hg1, hg2⟩ := World.ownsRow.form HO' l0
      generalize L.map (plc an ad av) = P at *
      have HRP : TRow wr w1.heap.size (.slice (some ⟨g, 0, none⟩) P.length cap) P := by
        unfold TRow
        rw [hPL]; exact HO'
      have hS := sortFunc_row P g cap w1.heap.size wr HRP hg2 HAP.out (by omega)
      rw [hPL] at hS
      have HS := Lib.hid hS
      have hCT := fun W (h : TRow W w1.heap.size (.slice (some ⟨g, 0, none⟩) (sortT P).length cap) (sortT P)) => compact_any (sortT P) g cap w1.heap.size W h (by rw [sortT_len]; omega)
      rw [sortT_len, hPL, compT_sortT HAP.out] at hCT
      have HCT := Lib.hid hCT
      clear hS hCT HRP HO' HO HAP
      go_wp2_with fail
      refine HS.out.mono ?_
      rintro e3 w3 ⟨rfl, hr3, hg3⟩
      have HR3 := Lib.hid hr3
      have hB3 : Below w1.heap.size w1 w3 := Below.grown (w := wr) hbr hg3 (by omega) (fun j hj => some_le hj hg1)
      have hz3 := hg3.size
      clear hr3 hg3
      go_wp2_with fail
      refine (HCT.out w3 HR3.out).mono ?_
      rintro e4 w4 ⟨v4, rfl, hr4, hg4⟩
      have HR4 := Lib.hid hr4
      have hB4 : Below w1.heap.size w1 w4 := Below.grown (w := w3) hB3 hg4 (by omega) (fun j hj => some_le hj hg1)
      clear hr4 hg4
      go_wp2
      go_ret2
      have hbz : Below w.heap.size w w4 := Below.trans (b := w1) (by (repeat' (first | (with_reducible exact Below.refl _ _) | (with_reducible assumption) | (with_reducible refine Below.alloc ?_ ?_ _) | (with_reducible refine Below.drew ?_) | (with_reducible refine below_drewN ?_ _) | (with_reducible refine Below.setCell ?_ ?_ _) | (with_reducible refine below_call ?_ ?_ (by assumption)) | go_size))) (hB4.mono (by omega))
      rw [HYES.out]
      exact ⟨_, rfl, TRow.mono HR4.out (by omega), hbz⟩

set_option maxHeartbeats 1600000 in
theorem specMeetPlaces_any (an ad av bn bd bv : Int) (kad : (-9223372036854775808 ≤ ad ∧ ad ≤ 9223372036854775807)) (kbd : (-9223372036854775808 ≤ bd ∧ bd ≤ 9223372036854775807)) (w : World) :
    Calls Try.prog 16 #[hv an ad av, hv bn bd bv] w (TurnsOut w (placesR (aheadR an ad av bn bd bv 0 1) an ad av).1 (placesR (aheadR an ad av bn bd bv 0 1) an ad av).2) := by
  have HLEN := Lib.hid (aheadR_len an ad av bn bd bv 0 1)
  have HC : Hid (∀ w : World, Calls Try.prog 10 #[hv an ad av, hv bn bd bv] w (TurnsOut w (aheadR an ad av bn bd bv 0 1).1 (aheadR an ad av bn bd bv 0 1).2)) := fun w => specMeetTimes_any an ad av bn bd bv kad kbd w
  have HG : Hid ((aheadR an ad av bn bd bv 0 1).2 = true → 0 < (aheadR an ad av bn bd bv 0 1).1.length ∧ GoodL (aheadR an ad av bn bd bv 0 1).1) := fun h => aheadR_good h
  have HH : Hid ((aheadR an ad av bn bd bv 0 1).2 = true → handB an ad av = true ∧ handB bn bd bv = true) := fun h => handB_of_ahead h
  have HL : Hid ((aheadR an ad av bn bd bv 0 1).2 = true → AllGood (aheadR an ad av bn bd bv 0 1).1) := fun h => aheadR_all h
  generalize (aheadR an ad av bn bd bv 0 1) = R at *
  obtain ⟨L, ok⟩ := R
  cases ok
  · rw [show placesR (L, false) an ad av = ([], false) from rfl]
    (go_enter Try.func16, Try.ntmps16)
    go_wp2_with fail
    refine (HC.out _).mono ?_
    (rintro e1 w1 ⟨v1, rfl, hr1, hb1⟩; have HR1 := Lib.hid hr1; clear hr1; obtain ⟨hc1, hf1⟩ := bcell hb1; have hz1 := hb1.size; (try simp only [World.size_alloc, World.size_setCell, World.size_drew] at hz1); have q1 : w.heap.size ≤ w1.heap.size := (by omega); (try have q1_0 : w.heap.size < w1.heap.size := (by omega)); (try have q1_1 : w.heap.size + 1 < w1.heap.size := (by omega)); (try have q1_2 : w.heap.size + 2 < w1.heap.size := (by omega)); (try have q1_3 : w.heap.size + 3 < w1.heap.size := (by omega)))
    go_wp2
    go_ret2
    exact TurnsOut.none (by (repeat' (first | (with_reducible exact Below.refl _ _) | (with_reducible assumption) | (with_reducible refine Below.alloc ?_ ?_ _) | (with_reducible refine Below.drew ?_) | (with_reducible refine below_drewN ?_ _) | (with_reducible refine Below.setCell ?_ ?_ _) | (with_reducible refine below_call ?_ ?_ (by assumption)) | go_size)))
  obtain ⟨l0, gl⟩ := HG.out rfl
  obtain ⟨ga, -⟩ := HH.out rfl
  have hlen : L.length ≤ 1000000 := HLEN.out
  have GL := Lib.hid gl
  have GA := Lib.hid ga
  have AL := Lib.hid (HL.out rfl)
  clear gl ga HG HH HL
  obtain ⟨i0, hi0, hz0, hz1, hz2⟩ := info_parts Try.infoTurn
  have I0 := Lib.hid hi0
  have Z0 := Lib.hid hz0
  have Z1 := Lib.hid hz1
  have Z2 := Lib.hid hz2
  clear hi0 hz0 hz1 hz2
  (go_enter Try.func16, Try.ntmps16)
  go_wp2_with fail
  refine (HC.out _).mono ?_
  (rintro e1 w1 ⟨v1, rfl, hr1, hb1⟩; have HR1 := Lib.hid hr1; clear hr1; obtain ⟨hc1, hf1⟩ := bcell hb1; have hz1 := hb1.size; (try simp only [World.size_alloc, World.size_setCell, World.size_drew] at hz1); have q1 : w.heap.size ≤ w1.heap.size := (by omega); (try have q1_0 : w.heap.size < w1.heap.size := (by omega)); (try have q1_1 : w.heap.size + 1 < w1.heap.size := (by omega)); (try have q1_2 : w.heap.size + 2 < w1.heap.size := (by omega)); (try have q1_3 : w.heap.size + 3 < w1.heap.size := (by omega)))
  obtain ⟨a1, c1, rfl, l1, m1, x1⟩ := HR1.out.cells
  have X1 := Lib.hid x1
  clear x1
  have hbx : ∀ o, w1.cell? ⟨w.heap.size, o, none⟩ = #[Value.int .i64 an, .int .i64 ad, .int .i64 av][o]? := fun o => by
    rw [hc1 _ _ (by go_size)]; go_simp
  have HX := Lib.hid hbx
  clear hbx
  go_wp2
  go_loopw [8, 23] (fun u i wr => ∃ k : Nat, k ≤ L.length ∧ i = .int .i64 k ∧ TRow wr w1.heap.size u (insAll ((L.take k).map (plc an ad av))) ∧ (∀ j, j < k → (plc an ad av (L.getD j (0, 0))).2 ≤ 1000000) ∧ Below w1.heap.size w1 wr) (fun _ i _ => L.length - (intOf i).toNat)
  case atStart => exact ⟨0, Nat.zero_le _, rfl, World.ownsRow_nil _ _ _ _, fun j hj => absurd hj (Nat.not_lt_zero _), Below.refl _ _⟩
  case round =>
    obtain ⟨k, hk, rfl, hown, hall, hbr⟩ := hrel
    have HO := Lib.hid hown
    have HA := Lib.hid hall
    clear hown hall
    obtain ⟨hcr, hfr⟩ := bcell hbr
    have hzr := hbr.size
    have i0' : (0 : Int) ≤ (k : Int) := Int.natCast_nonneg _
    by_cases hlt : k < L.length
    · obtain ⟨g1, rfl, e1, e2, e3, e4⟩ := X1.out k hlt
      have i1 : (k : Int) < (L.length : Int) := by omega
      have f0 := (hcr w.heap.size 0 (by omega)).trans (HX.out 0)
      have f1 := (hcr w.heap.size 1 (by omega)).trans (HX.out 1)
      have f2 := (hcr w.heap.size 2 (by omega)).trans (HX.out 2)
      simp only [List.getElem?_toArray, List.getElem?_cons_zero, List.getElem?_cons_succ] at f0 f1 f2
      have e5 := (hcr g1 (k * 2) (by omega)).trans e3
      have e6 := (hcr g1 (k * 2 + 1) (by omega)).trans e4
      have s0 : w.heap.size < wr.heap.size := by omega
      clear e3 e4 hcr hfr
      have GT := getD_good AL.out hlt
      have HSN := Lib.hid (map_take_snoc (plc an ad av) hlt)
      have HP := Lib.hid (show (plc an ad av (L.getD k (0, 0))).2 ≤ 1000000 → goodB (plc an ad av (L.getD k (0, 0))).1 (plc an ad av (L.getD k (0, 0))).2 = true from fun h => plc_good (handB_bd GA.out).1.1 (den_pos GT) h)
      by_cases hok : (plc an ad av (L.getD k (0, 0))).2 ≤ 1000000
      · have HK := Lib.hid (handAt_yes GA.out GT hok)
        have HALL := Lib.hid (show ∀ j, j < k + 1 → (plc an ad av (L.getD j (0, 0))).2 ≤ 1000000 from fun j hj => by
          by_cases hjk : j = k
          · subst hjk; exact hok
          · exact HA.out j (by omega))
        have HQ := Lib.hid (HP.out hok)
        have GTT := Lib.hid GT
        clear hok HP GT
        generalize plc an ad av (L.getD k (0, 0)) = z at *
        generalize L.getD k (0, 0) = t at *
        obtain ⟨p, q⟩ := z
        obtain ⟨x, y⟩ := t
        simp only at e5 e6 HK HQ GTT
        go_wp2_with fail
        refine (meAt_val an ad av x y GA.out GTT.out HK.out _).mono ?_
        rintro e2' w2 ⟨rfl, hb2⟩
        obtain ⟨hc2, hf2⟩ := bcell hb2
        have hz2 := hb2.size
        simp only [World.size_alloc, World.size_setCell] at hz2
        have hbw : Below wr.heap.size wr w2 := Below.trans (b := _) (by (repeat' (first | (with_reducible exact Below.refl _ _) | (with_reducible assumption) | (with_reducible refine Below.alloc ?_ ?_ _) | (with_reducible refine Below.drew ?_) | (with_reducible refine below_drewN ?_ _) | (with_reducible refine Below.setCell ?_ ?_ _) | (with_reducible refine below_call ?_ ?_ (by assumption)) | go_size))) (hb2.mono (by simp only [World.size_alloc, World.size_setCell]; omega))
        clear e5 e6 f0 f1 f2
        have HO2 := Lib.hid (TRow.below HO.out hbw)
        have hAG : AllGood ((L.take k).map (plc an ad av)) := fun z hz => by
          obtain ⟨z', hz', rfl⟩ := List.mem_map.1 hz
          obtain ⟨j, h1, h2, rfl⟩ := mem_take_getD.1 hz'
          exact plc_good (handB_bd GA.out).1.1 (den_pos (getD_good AL.out h2)) (HA.out j h1)
        have hIL : (insAll ((L.take k).map (plc an ad av))).length ≤ 1000000 := Nat.le_trans (insAll_len _) (by simp; omega)
        have HIG : Hid (GoodL (insAll ((L.take k).map (plc an ad av)))) := fun j hj => by
          have := (goodB_iff _ _).1 ((insAll_good hAG).1 _ (getD_mem hj))
          omega
        have HSI := Lib.hid (show insAll ((L.take (k + 1)).map (plc an ad av)) = insU (p, q) (insAll ((L.take k).map (plc an ad av))) from by rw [HSN.out, insAll_snoc])
        have hpq := (goodB_iff _ _).1 HQ.out
        have hms := fun W (h : TRow W w1.heap.size u8 (insAll ((L.take k).map (plc an ad av)))) (hb : w1.heap.size ≤ W.heap.size) => meSorted_any _ u8 w1.heap.size p q W h HIG.out ⟨hpq.1, hpq.2.1, hpq.2.2.1, by omega⟩ (by omega) hb
        have HMS := Lib.hid hms
        clear hms hAG hIL hpq
        generalize insAll ((L.take k).map (plc an ad av)) = I at *
        go_wp2_with fail
        refine (HMS.out _ (TRow.below HO2.out (by (repeat' (first | (with_reducible exact Below.refl _ _) | (with_reducible assumption) | (with_reducible refine Below.alloc ?_ ?_ _) | (with_reducible refine Below.drew ?_) | (with_reducible refine below_drewN ?_ _) | (with_reducible refine Below.setCell ?_ ?_ _) | (with_reducible refine below_call ?_ ?_ (by assumption)) | go_size)))) (by go_size)).mono ?_
        rintro e3 w3 ⟨v3, rfl, hr3, hb3⟩
        have HR3 := Lib.hid hr3
        have hz3 := hb3.size
        simp only [World.size_alloc, World.size_setCell] at hz3
        have hbel4 : Below w1.heap.size w1 w3 := hbr.trans (Below.mono (B := wr.heap.size) (hbw.trans (Below.mono (B := w2.heap.size) (Below.trans (b := _) (by (repeat' (first | (with_reducible exact Below.refl _ _) | (with_reducible assumption) | (with_reducible refine Below.alloc ?_ ?_ _) | (with_reducible refine Below.drew ?_) | (with_reducible refine below_drewN ?_ _) | (with_reducible refine Below.setCell ?_ ?_ _) | (with_reducible refine below_call ?_ ?_ (by assumption)) | go_size))) (hb3.mono (by simp only [World.size_alloc, World.size_setCell]; omega))) (by omega))) (by omega))
        clear hr3
        go_wp2
        go_roundw
        case rel =>
          refine ⟨k + 1, by omega, by go_num, ?_, HALL.out, hbel4⟩
          rw [HSI.out]
          exact HR3.out
        case measure => simp [intOf]; omega
      · have HK := Lib.hid (handAt_no GA.out GT hok)
        have HB := Lib.hid (plcOk_no (n := an) (d := ad) (s := av) hlt hok)
        have GTT := Lib.hid GT
        clear hok HP GT HSN
        generalize L.getD k (0, 0) = t at *
        obtain ⟨x, y⟩ := t
        simp only at e5 e6 HK GTT
        go_wp2_with fail
        refine (meAt_val an ad av x y GA.out GTT.out HK.out _).mono ?_
        rintro e2' w2 ⟨rfl, hb2⟩
        obtain ⟨hc2, hf2⟩ := bcell hb2
        have hz2 := hb2.size
        simp only [World.size_alloc, World.size_setCell] at hz2
        have hbw : Below wr.heap.size wr w2 := Below.trans (b := _) (by (repeat' (first | (with_reducible exact Below.refl _ _) | (with_reducible assumption) | (with_reducible refine Below.alloc ?_ ?_ _) | (with_reducible refine Below.drew ?_) | (with_reducible refine below_drewN ?_ _) | (with_reducible refine Below.setCell ?_ ?_ _) | (with_reducible refine below_call ?_ ?_ (by assumption)) | go_size))) (hb2.mono (by simp only [World.size_alloc, World.size_setCell]; omega))
        have hbz : Below w.heap.size w w2 := Below.trans (b := w1) (by (repeat' (first | (with_reducible exact Below.refl _ _) | (with_reducible assumption) | (with_reducible refine Below.alloc ?_ ?_ _) | (with_reducible refine Below.drew ?_) | (with_reducible refine below_drewN ?_ _) | (with_reducible refine Below.setCell ?_ ?_ _) | (with_reducible refine below_call ?_ ?_ (by assumption)) | go_size))) ((hbr.trans (hbw.mono hbr.size)).mono (by omega))
        clear e5 e6 f0 f1 f2
        go_wp2
        go_ret2
        rw [show placesR (L, true) an ad av = ([], false) from by simp [placesR, HB.out]]
        exact TurnsOut.none (by (repeat' (first | (with_reducible exact Below.refl _ _) | (with_reducible assumption) | (with_reducible refine Below.alloc ?_ ?_ _) | (with_reducible refine Below.drew ?_) | (with_reducible refine below_drewN ?_ _) | (with_reducible refine Below.setCell ?_ ?_ _) | (with_reducible refine below_call ?_ ?_ (by assumption)) | go_size)))
    · obtain rfl : k = L.length := by omega
      have HYES := Lib.hid (show placesR (L, true) an ad av = (insAll (L.map (plc an ad av)), true) from by simp [placesR, plcOk_yes HA.out])
      have HO' := HO.out
      rw [List.take_of_length_le (Nat.le_refl _)] at HO'
      have HO2 := Lib.hid HO'
      clear HO' HO
      go_wp2
      go_ret2
      have hbz : Below w.heap.size w wr := Below.trans (b := w1) (by (repeat' (first | (with_reducible exact Below.refl _ _) | (with_reducible assumption) | (with_reducible refine Below.alloc ?_ ?_ _) | (with_reducible refine Below.drew ?_) | (with_reducible refine below_drewN ?_ _) | (with_reducible refine Below.setCell ?_ ?_ _) | (with_reducible refine below_call ?_ ?_ (by assumption)) | go_size))) (hbr.mono (by omega))
      rw [HYES.out]
      exact ⟨_, rfl, TRow.mono HO2.out (by omega), hbz⟩

end Go.Proofs.Ytcfiaacpofpioaa
