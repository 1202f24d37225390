/- Three hands that meet: by the program and by the model. -/
import Derived.Test.YtcfiaacpofpioaaDel
set_option linter.unusedSimpArgs false
set_option linter.unusedVariables false
set_option maxRecDepth 100000
namespace Go.Proofs.Ytcfiaacpofpioaa
open Go.RowKit

def threeR (R : List (Int × Int) × Bool) (an ad av cn cd cv : Int) : List (Int × Int) × Bool := if R.2 && handB cn cd cv then (R.1.filter (sameB an ad av cn cd cv), true) else ([], false)
theorem threeR_len {R : List (Int × Int) × Bool} (an ad av cn cd cv : Int) (h : R.1.length ≤ 1000000) : (threeR R an ad av cn cd cv).1.length ≤ 1000000 := by
  unfold threeR
  split
  · exact Nat.le_trans (List.length_filter_le ..) h
  · simp
theorem goodL_mem {L : List (Int × Int)} (h : GoodL L) {x y : Int} (hm : (x, y) ∈ L) : 1 ≤ y ∧ y ≤ 1000000 ∧ 0 ≤ x ∧ x ≤ 999999 := by
  obtain ⟨j, hj, e⟩ := List.getElem_of_mem hm
  have := h j hj
  rw [List.getD_eq_getElem?_getD, List.getElem?_eq_getElem hj, e] at this
  exact this
theorem handB_of_ahead {an ad av bn bd bv yn yd : Int} (h : (aheadR an ad av bn bd bv yn yd).2 = true) : handB an ad av = true ∧ handB bn bd bv = true := by
  unfold aheadR at h
  split at h
  · rename_i g
    simp only [Bool.and_eq_true] at g
    exact twoB_split g.1
  · cases h
theorem same_mk {an ad av cn cd cv tn td : Int} (ga : handB an ad av = true) (gc : handB cn cd cv = true) (t1 : 1 ≤ td) :
    sameB an ad av cn cd cv (tn, td) = ((mk (relN an ad cn cd * td + (av - cv) * tn * relD an ad cn cd) (relD an ad cn cd * td)).2.2 && decide ((mk (relN an ad cn cd * td + (av - cv) * tn * relD an ad cn cd) (relD an ad cn cd * td)).1 = 0)) := by
  obtain ⟨⟨x1, x2, x3, x4⟩, x5, x6⟩ := handB_bd ga
  obtain ⟨⟨y1, y2, y3, y4⟩, y5, y6⟩ := handB_bd gc
  have key := same_place an ad av cn cd cv tn td x1 y1 t1
  have hr := (rel_bd ga gc).1.1
  have hD : 1 ≤ relD an ad cn cd * td := Int.mul_pos (by omega) (by omega)
  rw [Bool.eq_iff_iff]
  have e1 : sameB an ad av cn cd cv (tn, td) = true ↔ (lowNum (an * td + av * tn * ad) (ad * td) = lowNum (cn * td + cv * tn * cd) (cd * td) ∧ lowDen (an * td + av * tn * ad) (ad * td) = lowDen (cn * td + cv * tn * cd) (cd * td)) := by simp [sameB, eqT]
  rw [e1, key]
  generalize relN an ad cn cd * td + (av - cv) * tn * relD an ad cn cd = Z at *
  generalize relD an ad cn cd * td = D at *
  rw [← low_zero Z D hD]
  unfold mk
  split
  · simp
  · rename_i hb
    simp only [fail3, Bool.false_and, Bool.false_eq_true, iff_false]
    intro hz
    exact hb (by rw [lowDen_one Z D hD ((low_zero Z D hD).1 hz)]; decide)

set_option maxHeartbeats 1600000 in
theorem implThreeMeet_any (an ad av bn bd bv cn cd cv : Int) (w : World) :
    Calls Try.prog 37 #[hv an ad av, hv bn bd bv, hv cn cd cv] w (TurnsOut w (threeR (aheadR an ad av bn bd bv 0 1) an ad av cn cd cv).1 (threeR (aheadR an ad av bn bd bv 0 1) an ad av cn cd cv).2) := by
  have HLEN := Lib.hid (aheadR_len an ad av bn bd bv 0 1)
  have HC : Hid (∀ w : World, Calls Try.prog 9 #[hv an ad av, hv bn bd bv] w (TurnsOut w (aheadR an ad av bn bd bv 0 1).1 (aheadR an ad av bn bd bv 0 1).2)) := fun w => implMeetTimes_any an ad av bn bd bv w
  have HG : Hid ((aheadR an ad av bn bd bv 0 1).2 = true → 0 < (aheadR an ad av bn bd bv 0 1).1.length ∧ GoodL (aheadR an ad av bn bd bv 0 1).1) := fun h => aheadR_good h
  have HH : Hid ((aheadR an ad av bn bd bv 0 1).2 = true → handB an ad av = true ∧ handB bn bd bv = true) := fun h => handB_of_ahead h
  generalize (aheadR an ad av bn bd bv 0 1) = R at *
  obtain ⟨L, ok⟩ := R
  cases ok
  · rw [show threeR (L, false) an ad av cn cd cv = ([], false) from rfl]
    (go_enter Try.func37, Try.ntmps37)
    go_wp2_with fail
    refine (HC.out _).mono ?_
    (rintro e1 w1 ⟨v1, rfl, hr1, hb1⟩; have HR1 := Lib.hid hr1; clear hr1; obtain ⟨hc1, hf1⟩ := bcell hb1; have hz1 := hb1.size; (try simp only [World.size_alloc, World.size_setCell, World.size_drew] at hz1); have q1 : w.heap.size ≤ w1.heap.size := (by omega); (try have q1_0 : w.heap.size < w1.heap.size := (by omega)); (try have q1_1 : w.heap.size + 1 < w1.heap.size := (by omega)); (try have q1_2 : w.heap.size + 2 < w1.heap.size := (by omega)); (try have q1_3 : w.heap.size + 3 < w1.heap.size := (by omega)))
    go_wp2
    go_ret2
    exact TurnsOut.none (by (repeat' (first | (with_reducible exact Below.refl _ _) | (with_reducible assumption) | (with_reducible refine Below.alloc ?_ ?_ _) | (with_reducible refine Below.drew ?_) | (with_reducible refine below_drewN ?_ _) | (with_reducible refine Below.setCell ?_ ?_ _) | (with_reducible refine below_call ?_ ?_ (by assumption)) | go_size)))
  cases gc : handB cn cd cv
  · rw [show threeR (L, true) an ad av cn cd cv = ([], false) from by simp [threeR, gc]]
    (go_enter Try.func37, Try.ntmps37)
    go_wp2_with fail
    refine (HC.out _).mono ?_
    (rintro e1 w1 ⟨v1, rfl, hr1, hb1⟩; have HR1 := Lib.hid hr1; clear hr1; obtain ⟨hc1, hf1⟩ := bcell hb1; have hz1 := hb1.size; (try simp only [World.size_alloc, World.size_setCell, World.size_drew] at hz1); have q1 : w.heap.size ≤ w1.heap.size := (by omega); (try have q1_0 : w.heap.size < w1.heap.size := (by omega)); (try have q1_1 : w.heap.size + 1 < w1.heap.size := (by omega)); (try have q1_2 : w.heap.size + 2 < w1.heap.size := (by omega)); (try have q1_3 : w.heap.size + 3 < w1.heap.size := (by omega)))
    go_wp2_with fail
    refine (isHand_is _ _ _ gc _).mono ?_
    (rintro e2 w2 ⟨rfl, hb2⟩; obtain ⟨hc2, hf2⟩ := bcell hb2; have hz2 := hb2.size; (try simp only [World.size_alloc, World.size_setCell, World.size_drew] at hz2); have q2 : w.heap.size ≤ w2.heap.size := (by omega); (try have q2_0 : w.heap.size < w2.heap.size := (by omega)); (try have q2_1 : w.heap.size + 1 < w2.heap.size := (by omega)); (try have q2_2 : w.heap.size + 2 < w2.heap.size := (by omega)); (try have q2_3 : w.heap.size + 3 < w2.heap.size := (by omega)); (try have q2_1_0 : w1.heap.size < w2.heap.size := (by omega)); (try have q2_1_1 : w1.heap.size + 1 < w2.heap.size := (by omega)))
    go_wp2
    go_ret2
    exact TurnsOut.none (by (repeat' (first | (with_reducible exact Below.refl _ _) | (with_reducible assumption) | (with_reducible refine Below.alloc ?_ ?_ _) | (with_reducible refine Below.drew ?_) | (with_reducible refine below_drewN ?_ _) | (with_reducible refine Below.setCell ?_ ?_ _) | (with_reducible refine below_call ?_ ?_ (by assumption)) | go_size)))
  rw [show threeR (L, true) an ad av cn cd cv = (L.filter (sameB an ad av cn cd cv), true) from by simp [threeR, gc]]
  obtain ⟨-, gl⟩ := HG.out rfl
  obtain ⟨ga, -⟩ := HH.out rfl
  have hlen : L.length ≤ 1000000 := HLEN.out
  have GL := Lib.hid gl
  have GA := Lib.hid ga
  have GC := Lib.hid gc
  clear gl ga HG HH
  (go_enter Try.func37, Try.ntmps37)
  go_wp2_with fail
  refine (HC.out _).mono ?_
  (rintro e1 w1 ⟨v1, rfl, hr1, hb1⟩; have HR1 := Lib.hid hr1; clear hr1; obtain ⟨hc1, hf1⟩ := bcell hb1; have hz1 := hb1.size; (try simp only [World.size_alloc, World.size_setCell, World.size_drew] at hz1); have q1 : w.heap.size ≤ w1.heap.size := (by omega); (try have q1_0 : w.heap.size < w1.heap.size := (by omega)); (try have q1_1 : w.heap.size + 1 < w1.heap.size := (by omega)); (try have q1_2 : w.heap.size + 2 < w1.heap.size := (by omega)); (try have q1_3 : w.heap.size + 3 < w1.heap.size := (by omega)))
  go_wp2_with fail
  refine (isHand_is _ _ _ gc _).mono ?_
  (rintro e2 w2 ⟨rfl, hb2⟩; obtain ⟨hc2, hf2⟩ := bcell hb2; have hz2 := hb2.size; (try simp only [World.size_alloc, World.size_setCell, World.size_drew] at hz2); have q2 : w.heap.size ≤ w2.heap.size := (by omega); (try have q2_0 : w.heap.size < w2.heap.size := (by omega)); (try have q2_1 : w.heap.size + 1 < w2.heap.size := (by omega)); (try have q2_2 : w.heap.size + 2 < w2.heap.size := (by omega)); (try have q2_3 : w.heap.size + 3 < w2.heap.size := (by omega)); (try have q2_1_0 : w1.heap.size < w2.heap.size := (by omega)); (try have q2_1_1 : w1.heap.size + 1 < w2.heap.size := (by omega)))
  have R2 := Lib.hid (TRow.below HR1.out hb2)
  have B1 : HBox w2 w.heap.size an ad av := by refine ⟨?_, ?_, ?_⟩ <;> go_simp
  have B2 : HBox w2 (w.heap.size + 2) cn cd cv := by refine ⟨?_, ?_, ?_⟩ <;> go_simp
  have HP : Hid (Gives (w.heap.size + 3) w2 (.pointer (some ⟨w.heap.size, 0, none⟩)) (.pointer (some ⟨w.heap.size + 2, 0, none⟩)) (fun t => !sameB an ad av cn cd cv t) L) := fun W x y hA hm => by
    obtain ⟨g1, g2, g3, g4⟩ := goodL_mem GL.out hm
    have hs := hA.1
    exact apart_any an ad av cn cd cv x y _ _ W GA.out GC.out ⟨g1, g2⟩ ⟨g3, g4⟩ (HBox.agree B1 hA (by omega)) (HBox.agree B2 hA (by omega)) (by omega) (by omega)
  clear B1 B2
  have HD := deleteFunc_any L v1 _ _ (w.heap.size + 3) _ w2 (TRow.mono R2.out (by go_size)) (by omega) hlen HP
  rw [show (fun t => !!sameB an ad av cn cd cv t) = sameB an ad av cn cd cv from by funext t; simp] at HD
  generalize L.filter (sameB an ad av cn cd cv) = L' at *
  have HD2 := Lib.hid HD
  clear HD
  have HLOW := Lib.hid (TRow.low HR1.out)
  go_wp2_with fail
  refine HD2.out.mono ?_
  rintro e3 w3 ⟨v3, rfl, hr3, hg3⟩
  have hB3 : Below w.heap.size w w3 := Below.grown (w := w2) (by (repeat' (first | (with_reducible exact Below.refl _ _) | (with_reducible assumption) | (with_reducible refine Below.alloc ?_ ?_ _) | (with_reducible refine Below.drew ?_) | (with_reducible refine below_drewN ?_ _) | (with_reducible refine Below.setCell ?_ ?_ _) | (with_reducible refine below_call ?_ ?_ (by assumption)) | go_size))) hg3 (by omega) (fun j hj => by have h := HLOW.out j hj; simp only [World.size_alloc] at h; omega)
  have HR3 := Lib.hid hr3
  have hz3 := hg3.size
  clear hr3 hg3
  go_wp2
  go_ret2
  exact ⟨_, rfl, TRow.mono HR3.out (by omega), hB3⟩

set_option maxHeartbeats 1600000 in
theorem specThreeMeet_any (an ad av bn bd bv cn cd cv : Int) (kad : (-9223372036854775808 ≤ ad ∧ ad ≤ 9223372036854775807)) (kbd : (-9223372036854775808 ≤ bd ∧ bd ≤ 9223372036854775807)) (kcd : (-9223372036854775808 ≤ cd ∧ cd ≤ 9223372036854775807)) (w : World) :
    Calls Try.prog 38 #[hv an ad av, hv bn bd bv, hv cn cd cv] w (TurnsOut w (threeR (aheadR an ad av bn bd bv 0 1) an ad av cn cd cv).1 (threeR (aheadR an ad av bn bd bv 0 1) an ad av cn cd cv).2) := by
  have HLEN := Lib.hid (aheadR_len an ad av bn bd bv 0 1)
  have HC : Hid (∀ w : World, Calls Try.prog 10 #[hv an ad av, hv bn bd bv] w (TurnsOut w (aheadR an ad av bn bd bv 0 1).1 (aheadR an ad av bn bd bv 0 1).2)) := fun w => specMeetTimes_any an ad av bn bd bv kad kbd w
  have HG : Hid ((aheadR an ad av bn bd bv 0 1).2 = true → 0 < (aheadR an ad av bn bd bv 0 1).1.length ∧ GoodL (aheadR an ad av bn bd bv 0 1).1) := fun h => aheadR_good h
  have HH : Hid ((aheadR an ad av bn bd bv 0 1).2 = true → handB an ad av = true ∧ handB bn bd bv = true) := fun h => handB_of_ahead h
  generalize (aheadR an ad av bn bd bv 0 1) = R at *
  obtain ⟨L, ok⟩ := R
  cases ok
  · rw [show threeR (L, false) an ad av cn cd cv = ([], false) from rfl]
    (go_enter Try.func38, Try.ntmps38)
    go_wp2_with fail
    refine (HC.out _).mono ?_
    (rintro e1 w1 ⟨v1, rfl, hr1, hb1⟩; have HR1 := Lib.hid hr1; clear hr1; obtain ⟨hc1, hf1⟩ := bcell hb1; have hz1 := hb1.size; (try simp only [World.size_alloc, World.size_setCell, World.size_drew] at hz1); have q1 : w.heap.size ≤ w1.heap.size := (by omega); (try have q1_0 : w.heap.size < w1.heap.size := (by omega)); (try have q1_1 : w.heap.size + 1 < w1.heap.size := (by omega)); (try have q1_2 : w.heap.size + 2 < w1.heap.size := (by omega)); (try have q1_3 : w.heap.size + 3 < w1.heap.size := (by omega)))
    go_wp2
    go_ret2
    exact TurnsOut.none (by (repeat' (first | (with_reducible exact Below.refl _ _) | (with_reducible assumption) | (with_reducible refine Below.alloc ?_ ?_ _) | (with_reducible refine Below.drew ?_) | (with_reducible refine below_drewN ?_ _) | (with_reducible refine Below.setCell ?_ ?_ _) | (with_reducible refine below_call ?_ ?_ (by assumption)) | go_size)))
  cases gc : handB cn cd cv
  · rw [show threeR (L, true) an ad av cn cd cv = ([], false) from by simp [threeR, gc]]
    (go_enter Try.func38, Try.ntmps38)
    go_wp2_with fail
    refine (HC.out _).mono ?_
    (rintro e1 w1 ⟨v1, rfl, hr1, hb1⟩; have HR1 := Lib.hid hr1; clear hr1; obtain ⟨hc1, hf1⟩ := bcell hb1; have hz1 := hb1.size; (try simp only [World.size_alloc, World.size_setCell, World.size_drew] at hz1); have q1 : w.heap.size ≤ w1.heap.size := (by omega); (try have q1_0 : w.heap.size < w1.heap.size := (by omega)); (try have q1_1 : w.heap.size + 1 < w1.heap.size := (by omega)); (try have q1_2 : w.heap.size + 2 < w1.heap.size := (by omega)); (try have q1_3 : w.heap.size + 3 < w1.heap.size := (by omega)))
    go_wp2_with fail
    refine (meGood_is _ _ _ gc kcd _).mono ?_
    (rintro e2 w2 ⟨rfl, hb2⟩; obtain ⟨hc2, hf2⟩ := bcell hb2; have hz2 := hb2.size; (try simp only [World.size_alloc, World.size_setCell, World.size_drew] at hz2); have q2 : w.heap.size ≤ w2.heap.size := (by omega); (try have q2_0 : w.heap.size < w2.heap.size := (by omega)); (try have q2_1 : w.heap.size + 1 < w2.heap.size := (by omega)); (try have q2_2 : w.heap.size + 2 < w2.heap.size := (by omega)); (try have q2_3 : w.heap.size + 3 < w2.heap.size := (by omega)); (try have q2_1_0 : w1.heap.size < w2.heap.size := (by omega)); (try have q2_1_1 : w1.heap.size + 1 < w2.heap.size := (by omega)))
    go_wp2
    go_ret2
    exact TurnsOut.none (by (repeat' (first | (with_reducible exact Below.refl _ _) | (with_reducible assumption) | (with_reducible refine Below.alloc ?_ ?_ _) | (with_reducible refine Below.drew ?_) | (with_reducible refine below_drewN ?_ _) | (with_reducible refine Below.setCell ?_ ?_ _) | (with_reducible refine below_call ?_ ?_ (by assumption)) | go_size)))
  rw [show threeR (L, true) an ad av cn cd cv = (L.filter (sameB an ad av cn cd cv), true) from by simp [threeR, gc]]
  obtain ⟨-, gl⟩ := HG.out rfl
  obtain ⟨ga, -⟩ := HH.out rfl
  have hlen : L.length ≤ 1000000 := HLEN.out
  have GL := Lib.hid gl
  have GA := Lib.hid ga
  have GC := Lib.hid gc
  clear gl ga HG HH
  (go_enter Try.func38, Try.ntmps38)
  go_wp2_with fail
  refine (HC.out _).mono ?_
  (rintro e1 w1 ⟨v1, rfl, hr1, hb1⟩; have HR1 := Lib.hid hr1; clear hr1; obtain ⟨hc1, hf1⟩ := bcell hb1; have hz1 := hb1.size; (try simp only [World.size_alloc, World.size_setCell, World.size_drew] at hz1); have q1 : w.heap.size ≤ w1.heap.size := (by omega); (try have q1_0 : w.heap.size < w1.heap.size := (by omega)); (try have q1_1 : w.heap.size + 1 < w1.heap.size := (by omega)); (try have q1_2 : w.heap.size + 2 < w1.heap.size := (by omega)); (try have q1_3 : w.heap.size + 3 < w1.heap.size := (by omega)))
  go_wp2_with fail
  refine (meGood_is _ _ _ gc kcd _).mono ?_
  (rintro e2 w2 ⟨rfl, hb2⟩; obtain ⟨hc2, hf2⟩ := bcell hb2; have hz2 := hb2.size; (try simp only [World.size_alloc, World.size_setCell, World.size_drew] at hz2); have q2 : w.heap.size ≤ w2.heap.size := (by omega); (try have q2_0 : w.heap.size < w2.heap.size := (by omega)); (try have q2_1 : w.heap.size + 1 < w2.heap.size := (by omega)); (try have q2_2 : w.heap.size + 2 < w2.heap.size := (by omega)); (try have q2_3 : w.heap.size + 3 < w2.heap.size := (by omega)); (try have q2_1_0 : w1.heap.size < w2.heap.size := (by omega)); (try have q2_1_1 : w1.heap.size + 1 < w2.heap.size := (by omega)))
  obtain ⟨i0, hi0, hz0, hz1, hz2⟩ := info_parts Try.infoTurn
  have I0 := Lib.hid hi0
  have Z0 := Lib.hid hz0
  have Z1 := Lib.hid hz1
  have Z2 := Lib.hid hz2
  clear hi0 hz0 hz1 hz2
  obtain ⟨a1, c1, rfl, l1, m1, x1⟩ := HR1.out.cells
  have X1 := Lib.hid x1
  clear x1
  have hbx : ∀ o, w2.cell? ⟨w.heap.size, o, none⟩ = #[Value.int .i64 an, .int .i64 ad, .int .i64 av][o]? := fun o => by
    rw [hc2 _ _ (by omega), hc1 _ _ (by go_size)]; go_simp
  have hby : ∀ o, w2.cell? ⟨w.heap.size + 1 + 1, o, none⟩ = #[Value.int .i64 cn, .int .i64 cd, .int .i64 cv][o]? := fun o => by
    rw [hc2 _ _ (by omega), hc1 _ _ (by go_size)]; go_simp
  have HX := Lib.hid hbx
  have HY := Lib.hid hby
  clear hbx hby
  obtain ⟨r1, r2, r3⟩ := rel_bd GA.out GC.out
  have r4 := rel_lt GA.out GC.out
  go_wp2
  go_loopw [10, 30] (fun u i wr => ∃ k : Nat, k ≤ L.length ∧ i = .int .i64 k ∧ wr.ownsRow w2.heap.size 25 2 u ((L.take k).filter (sameB an ad av cn cd cv)).length (flat ((L.take k).filter (sameB an ad av cn cd cv))) ∧ Below w2.heap.size w2 wr) (fun _ i _ => L.length - (intOf i).toNat)
  case atStart => exact ⟨0, Nat.zero_le _, rfl, World.ownsRow_nil _ _ _ _, Below.refl _ _⟩
  case round =>
    obtain ⟨k, hk, rfl, hown, hbr⟩ := hrel
    have HO := Lib.hid hown
    clear hown
    obtain ⟨hcr, hfr⟩ := bcell hbr
    have hzr := hbr.size
    have i0' : (0 : Int) ≤ (k : Int) := Int.natCast_nonneg _
    by_cases hlt : k < L.length
    · obtain ⟨g1, rfl, e1, e2, e3, e4⟩ := X1.out k hlt
      have gb := GL.out k hlt
      have i1 : (k : Int) < (L.length : Int) := by omega
      have f1 : ∀ o, wr.cell? ⟨w.heap.size, o, none⟩ = #[Value.int .i64 an, .int .i64 ad, .int .i64 av][o]? := fun o => (hcr _ _ (by omega)).trans (HX.out o)
      have f2 : ∀ o, wr.cell? ⟨w.heap.size + 1 + 1, o, none⟩ = #[Value.int .i64 cn, .int .i64 cd, .int .i64 cv][o]? := fun o => (hcr _ _ (by omega)).trans (HY.out o)
      have s0 : w.heap.size < wr.heap.size := by omega
      have s1 : w.heap.size + 1 < wr.heap.size := by omega
      have s2 : w.heap.size + 1 + 1 < wr.heap.size := by omega
      have f10 := f1 0
      have f11 := f1 1
      have f12 := f1 2
      have f20 := f2 0
      have f21 := f2 1
      have f22 := f2 2
      simp only [List.getElem?_toArray, List.getElem?_cons_zero, List.getElem?_cons_succ] at f10 f11 f12 f20 f21 f22
      clear f1 f2
      have HT := Lib.hid (take_snoc hlt)
      have HLL : Hid (((L.take k).filter (sameB an ad av cn cd cv)).length ≤ 1000000) := Nat.le_trans (List.length_filter_le ..) (by simp; omega)
      generalize L.getD k (0, 0) = t at *
      obtain ⟨x, y⟩ := t
      simp only at gb e3 e4
      have e5 := (hcr g1 (k * 2) (by omega)).trans ((hc2 _ _ (by omega)).trans e3)
      have e6 := (hcr g1 (k * 2 + 1) (by omega)).trans ((hc2 _ _ (by omega)).trans e4)
      clear e3 e4
      have HS := Lib.hid (same_mk (tn := x) GA.out GC.out gb.1)
      have hm := fun W => meAt_any (relN an ad cn cd) (relD an ad cn cd) (av - cv) x y ⟨by omega, by omega⟩ ⟨by omega, by omega⟩ ⟨by omega, by omega⟩ ⟨by omega, by omega⟩ ⟨by omega, by omega⟩ W
      have HM := Lib.hid hm
      clear hm
      generalize mk (relN an ad cn cd * y + (av - cv) * x * relD an ad cn cd) (relD an ad cn cd * y) = r at *
      obtain ⟨p1, p2, okk⟩ := r
      simp only at HS
      go_wp2_with fail
      refine wp_region_late 8 (t := 13) #[.int .i64 0, .int .i64 0] #[.int .i64 p1, .int .i64 p2] 25 (by kernel_rfl) (by kernel_rfl) rfl rfl rfl rfl rfl rfl (fun a w => ?run) ?_
      case run => go_simp
      simp only [List.take_succ_cons, List.take_zero, List.drop_succ_cons, List.drop_zero]
      (apply wpB_take (hw := rfl); (intro wq hq; obtain ⟨hcq, hfq⟩ := bcell hq; unfold atB; go_simp; exact ⟨rfl, rfl⟩); simp only [Act.put, List.setIfInBounds_toArray, List.set_cons_zero, List.set_cons_succ])
      (apply wpB_take (hw := rfl); (intro wq hq; obtain ⟨hcq, hfq⟩ := bcell hq; unfold atB; go_simp; exact ⟨rfl, rfl⟩); simp only [Act.put, List.setIfInBounds_toArray, List.set_cons_zero, List.set_cons_succ])
      (apply wpB_take (hw := rfl); (intro wq hq; unfold atB; go_simp; exact ⟨rfl, meRelative_any an ad av cn cd cv GA.out GC.out _⟩); simp only [Act.put, List.setIfInBounds_toArray, List.set_cons_zero, List.set_cons_succ])
      (apply wpB_take (hw := rfl); (intro wq hq; obtain ⟨hcq, hfq⟩ := bcell hq; unfold atB; go_simp; exact ⟨rfl, rfl⟩); simp only [Act.put, List.setIfInBounds_toArray, List.set_cons_zero, List.set_cons_succ])
      (apply wpB_take (hw := rfl); (intro wq hq; unfold atB; go_simp; exact ⟨rfl, HM.out _⟩); simp only [Act.put, List.setIfInBounds_toArray, List.set_cons_zero, List.set_cons_succ])
      (apply wpB_take (hw := rfl); (intro wq hq; obtain ⟨hcq, hfq⟩ := bcell hq; unfold atB; go_simp; exact ⟨rfl, rfl⟩); simp only [Act.put, List.setIfInBounds_toArray, List.set_cons_zero, List.set_cons_succ])
      (apply wpB_take (hw := rfl); (intro wq hq; obtain ⟨hcq, hfq⟩ := bcell hq; unfold atB; go_simp; exact ⟨rfl, rfl⟩); simp only [Act.put, List.setIfInBounds_toArray, List.set_cons_zero, List.set_cons_succ])
      (apply wpB_take (hw := rfl); (intro wq hq; obtain ⟨hcq, hfq⟩ := bcell hq; unfold atB; go_simp; exact ⟨rfl, rfl⟩); simp only [Act.put, List.setIfInBounds_toArray, List.set_cons_zero, List.set_cons_succ])
      refine ⟨fun p => fillOK2 fun b w hp hcq hfq => ?_, fun b3 w3 hb3 hq3 hp3 hv3 hn3 => ?_⟩
      · subst hp
        go_simp
      (obtain ⟨hc3, hf3⟩ := bcell hb3; have hz3 := hb3.size; (try simp only [World.size_alloc, World.size_setCell, World.size_drew] at hz3); (try simp only [World.size_alloc, World.size_setCell, World.size_drew] at hq3); have q3 : w.heap.size ≤ w3.heap.size := (by omega); (try have q3_0 : w.heap.size < w3.heap.size := (by omega)); (try have q3_1 : w.heap.size + 1 < w3.heap.size := (by omega)); (try have q3_2 : w.heap.size + 2 < w3.heap.size := (by omega)); (try have q3_3 : w.heap.size + 3 < w3.heap.size := (by omega)); (try have p3_1 : b1 < w3.heap.size := (by omega)); (try have p3_2 : b2 < w3.heap.size := (by omega)); try simp only [Act.put, List.setIfInBounds_toArray, List.set_cons_zero, List.set_cons_succ])
      have hbw : Below wr.heap.size wr w3 := Below.trans (b := _) (by (repeat' (first | (with_reducible exact Below.refl _ _) | (with_reducible assumption) | (with_reducible refine Below.alloc ?_ ?_ _) | (with_reducible refine Below.drew ?_) | (with_reducible refine below_drewN ?_ _) | (with_reducible refine Below.setCell ?_ ?_ _) | (with_reducible refine below_call ?_ ?_ (by assumption)) | go_size))) (hb3.mono (by simp only [World.size_alloc, World.size_setCell]; omega))
      have HB3 := Lib.hid hbw
      have hzw := hbw.size
      have HO3 := Lib.hid (World.ownsRow.kept HO.out (row := none) ⟨hbw.os, hbw.tape, hbw.output, hbw.size, fun k hk _ => hbw.block k hk⟩ (by generalize (u10 : Value).ownBlock = z; cases z <;> simp))
      have HLT : Hid (∀ k, u10.ownBlock = some k → w2.heap.size ≤ k) := fun k hk => (World.ownsRow.lt HO.out k hk).1
      have d0 := hv3 0
      have d1 := hv3 1
      simp only [List.getElem?_toArray, List.getElem?_cons_zero, List.getElem?_cons_succ] at d0 d1
      have v0 : w3.cell? ⟨wr.heap.size, 0, none⟩ = some (.int .i64 x) := (hc3 _ _ (by simp only [World.size_alloc, World.size_setCell]; omega)).trans (by go_simp)
      have v1 : w3.cell? ⟨wr.heap.size, 1, none⟩ = some (.int .i64 y) := (hc3 _ _ (by simp only [World.size_alloc, World.size_setCell]; omega)).trans (by go_simp)
      clear hbw
      have HF0 : Hid (sameB an ad av cn cd cv (x, y) = false → (L.take (k + 1)).filter (sameB an ad av cn cd cv) = (L.take k).filter (sameB an ad av cn cd cv)) := fun h => by
        rw [HT.out, List.filter_append, filter_one, h]; simp
      have HF1 : Hid (sameB an ad av cn cd cv (x, y) = true → (L.take (k + 1)).filter (sameB an ad av cn cd cv) = (L.take k).filter (sameB an ad av cn cd cv) ++ [(x, y)]) := fun h => by
        rw [HT.out, List.filter_append, filter_one, h]; simp
      by_cases hs : sameB an ad av cn cd cv (x, y) = true
      · rw [HS.out, Bool.and_eq_true, decide_eq_true_eq] at hs
        obtain ⟨rfl, rfl⟩ := hs
        have HFF := Lib.hid (HF1.out (by rw [HS.out]; rfl))
        generalize (L.take k).filter (sameB an ad av cn cd cv) = K at *
        have hkl : K.length ≤ 1000000 := HLL.out
        go_wp2_with (at_builtin; refine wpList_append_lies _ rfl _ _ _ rfl w2.heap.size 25 i0 _ 2 16 Try.underlying30 I0.out Z0.out Z1.out Z2.out rfl (by omega) u10 K.length _ rfl (HO3.out.alloc _) ⟨w3.heap.size, 0, none⟩ 1 1 [.int .i64 x, .int .i64 y] rfl rfl (World.news_of_block (cs := #[.int .i64 x, .int .i64 y]) (t := 25) (fr := (0, 0)) (by simpa using heap_alloc_new w3 _)) (by simp [Value.oneCell']) (by omega) (by unfold maxLen; omega) (by omega) (by simp; omega) (w3.heap.size + 1) (by simp) ?_; intro g cap w4 hown4 hgrow hat hlt4)
        have hbel4 : Below w2.heap.size w2 w4 := Below.grown (w := w3.alloc _) (hbr.trans (Below.mono (B := wr.heap.size) (HB3.out.trans (Below.mono (B := w3.heap.size) (by (repeat' (first | (with_reducible exact Below.refl _ _) | (with_reducible assumption) | (with_reducible refine Below.alloc ?_ ?_ _) | (with_reducible refine Below.drew ?_) | (with_reducible refine below_drewN ?_ _) | (with_reducible refine Below.setCell ?_ ?_ _) | (with_reducible refine below_call ?_ ?_ (by assumption)) | go_size))) (by omega))) (by omega))) hgrow (by simp only [World.size_alloc]; omega) HLT.out
        go_roundw
        case rel =>
          refine ⟨k + 1, by omega, by go_num, ?_, hbel4⟩
          rw [HFF.out, List.length_append, flat_append]
          exact hown4
        case measure => simp [intOf]; omega
      · have HFF := Lib.hid (HF0.out (by simpa using hs))
        rw [HS.out, Bool.and_eq_true, decide_eq_true_eq] at hs
        have hrel : Hid (w3.ownsRow w2.heap.size 25 2 u10 ((L.take (k + 1)).filter (sameB an ad av cn cd cv)).length (flat ((L.take (k + 1)).filter (sameB an ad av cn cd cv)))) := by
          rw [HFF.out]; exact HO3.out
        cases okk with
        | false =>
          clear hs
          go_wp2
          go_roundw
          case rel => exact ⟨k + 1, by omega, by go_num, hrel.out, hbr.trans (HB3.out.mono (by omega))⟩
          case measure => simp [intOf]; omega
        | true =>
          have hp : ¬ p1 = 0 := fun h => hs ⟨rfl, h⟩
          have hp2 : (p1 == 0) = false := by simpa using hp
          clear hs hp
          go_wp2
          go_roundw
          case rel => exact ⟨k + 1, by omega, by go_num, hrel.out, hbr.trans (HB3.out.mono (by omega))⟩
          case measure => simp [intOf]; omega
    · obtain rfl : k = L.length := by omega
      have HO' := HO.out
      rw [List.take_of_length_le (Nat.le_refl _)] at HO'
      have HO2 := Lib.hid HO'
      clear HO'
      go_wp2
      go_ret2
      have hbz : Below w.heap.size w wr := Below.trans (b := w2) (by (repeat' (first | (with_reducible exact Below.refl _ _) | (with_reducible assumption) | (with_reducible refine Below.alloc ?_ ?_ _) | (with_reducible refine Below.drew ?_) | (with_reducible refine below_drewN ?_ _) | (with_reducible refine Below.setCell ?_ ?_ _) | (with_reducible refine below_call ?_ ?_ (by assumption)) | go_size))) (hbr.mono (by omega))
      exact ⟨_, rfl, TRow.mono (show TRow wr _ _ _ from HO2.out) (by omega), hbz⟩

end Go.Proofs.Ytcfiaacpofpioaa
