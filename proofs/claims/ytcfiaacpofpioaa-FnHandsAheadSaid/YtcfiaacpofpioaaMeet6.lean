/- The first meeting, and the next one behind a time: by the program and by the model. -/
import Derived.Test.YtcfiaacpofpioaaMeet5
import Derived.WalkMore
set_option linter.unusedSimpArgs false
set_option linter.unusedVariables false
set_option maxRecDepth 100000
namespace Go.Proofs.Ytcfiaacpofpioaa
open Go.RowKit

/-- A list of meetings is not empty; each of them is a turn. -/
theorem parts_len {h n d : Int} (hb : partsOk h n d = true) : (partsL h n d).length = h.toNat := by simp [partsL, hb]
theorem parts_get {h n d : Int} (hb : partsOk h n d = true) (j : Nat) (hj : j < h.toNat) : (partsL h n d).getD j (0, 0) = twl h n d j := by
  simp [partsL, hb, List.getD_eq_getElem?_getD, hj]
theorem twl_bd {h n d : Int} (hh : 1 ≤ h) (hd : 1 ≤ d) (j : Nat) (hok : (twl h n d j).2 ≤ 1000000) : 1 ≤ (twl h n d j).2 ∧ (twl h n d j).2 ≤ 1000000 ∧ 0 ≤ (twl h n d j).1 ∧ (twl h n d j).1 ≤ 999999 := by
  have p := Int.mul_pos (show 0 < d by omega) (show 0 < h by omega)
  have b := low_bd (n + j * d) (d * h) (by omega)
  have l := low_lt (n + j * d) (d * h) (by omega)
  unfold twl at *
  simp only at *
  omega
/-- What is known of the members of a list of turns. -/
def GoodL (L : List (Int × Int)) : Prop := ∀ j, j < L.length → 1 ≤ (L.getD j (0, 0)).2 ∧ (L.getD j (0, 0)).2 ≤ 1000000 ∧ 0 ≤ (L.getD j (0, 0)).1 ∧ (L.getD j (0, 0)).1 ≤ 999999
theorem parts_good {h n d : Int} (hh : 1 ≤ h) (hd : 1 ≤ d) (hb : partsOk h n d = true) : GoodL (partsL h n d) := by
  intro j hj
  rw [parts_len hb] at hj
  rw [parts_get hb j hj]
  refine twl_bd hh hd j ?_
  simp only [partsOk, List.all_eq_true, List.mem_range, decide_eq_true_eq] at hb
  exact hb j hj
theorem timesR_good {rn rd rs pn pd : Int} (h1 : 1 ≤ rd ∧ rd ≤ 1000000) (h3 : 1 ≤ pd ∧ pd ≤ 1000) (h : (timesR rn rd rs pn pd).2 = true) : 0 < (timesR rn rd rs pn pd).1.length ∧ GoodL (timesR rn rd rs pn pd).1 := by
  have w1 := way_bd (rn := rn) (pn := pn) h1 h3
  rcases Int.lt_trichotomy rs 0 with h0 | h0 | h0
  · rw [timesR_neg h0] at h ⊢
    have hd : 1 ≤ lowDen (rn * pd - pn * rd) (rd * pd) := (low_bd _ _ (by rw [Int.mul_comm]; exact w1.1)).2.1
    refine ⟨?_, parts_good (by omega) hd h⟩
    rw [parts_len h]; omega
  · rw [timesR_zero h0] at h; cases h
  · rw [timesR_pos h0] at h ⊢
    refine ⟨?_, parts_good (by omega) w1.2.2.1.1 h⟩
    rw [parts_len h]; omega
theorem aheadR_good {an ad av bn bd bv yn yd : Int} (h : (aheadR an ad av bn bd bv yn yd).2 = true) : 0 < (aheadR an ad av bn bd bv yn yd).1.length ∧ GoodL (aheadR an ad av bn bd bv yn yd).1 := by
  unfold aheadR at h ⊢
  split at h
  · rename_i g
    rw [if_pos g]
    simp only [Bool.and_eq_true] at g
    obtain ⟨ga, gb⟩ := twoB_split g.1
    obtain ⟨y1, y2, -, -⟩ := startB_bd g.2
    exact timesR_good (rel_bd ga gb).1 ⟨y1, y2⟩ h
  · cases h
def firstR (R : List (Int × Int) × Bool) : Int × Int × Bool := if R.2 then ((R.1.getD 0 (0, 0)).1, (R.1.getD 0 (0, 0)).2, true) else fail3
theorem firstR_yes {R : List (Int × Int) × Bool} (h : R.2 = true) : firstR R = ((R.1.getD 0 (0, 0)).1, (R.1.getD 0 (0, 0)).2, true) := if_pos h
theorem firstR_no {R : List (Int × Int) × Bool} (h : R.2 = false) : firstR R = fail3 := by simp [firstR, h]

set_option maxHeartbeats 800000 in
theorem implFirstMeet_any (an ad av bn bd bv : Int) (w : World) :
    Calls Try.prog 13 #[hv an ad av, hv bn bd bv] w fun e w' => e = .returned (rv (firstR (aheadR an ad av bn bd bv 0 1))) ∧ Below w.heap.size w w' := by
  have HLEN := Lib.hid (aheadR_len an ad av bn bd bv 0 1)
  have HC : Hid (∀ w : World, Calls Try.prog 9 #[hv an ad av, hv bn bd bv] w (TurnsOut w (aheadR an ad av bn bd bv 0 1).1 (aheadR an ad av bn bd bv 0 1).2)) := fun w => implMeetTimes_any an ad av bn bd bv w
  have HG : Hid ((aheadR an ad av bn bd bv 0 1).2 = true → 0 < (aheadR an ad av bn bd bv 0 1).1.length ∧ GoodL (aheadR an ad av bn bd bv 0 1).1) := fun h => aheadR_good h
  generalize (aheadR an ad av bn bd bv 0 1) = R at *
  obtain ⟨L, ok⟩ := R
  cases ok
  · have HM := Lib.hid (show fail3 = firstR (L, false) from rfl)
    (go_enter Try.func13, Try.ntmps13)
    go_wp2_with fail
    refine (HC.out _).mono ?_
    (rintro e1 w1 ⟨v1, rfl, hr1, hb1⟩; have HR1 := Lib.hid hr1; clear hr1; obtain ⟨hc1, hf1⟩ := bcell hb1; have hz1 := hb1.size; (try simp only [World.size_alloc, World.size_setCell, World.size_drew] at hz1); have q1 : w.heap.size ≤ w1.heap.size := (by omega); (try have q1_0 : w.heap.size < w1.heap.size := (by omega)); (try have q1_1 : w.heap.size + 1 < w1.heap.size := (by omega)); (try have q1_2 : w.heap.size + 2 < w1.heap.size := (by omega)); (try have q1_3 : w.heap.size + 3 < w1.heap.size := (by omega)))
    go_wp2
    (refine bodyPost_ret (by simp [results, Try.results13, go_sem, *]; try rfl) rfl ?_)
    exact ⟨ret_rv HM.out, by (repeat' (first | (with_reducible exact Below.refl _ _) | (with_reducible assumption) | (with_reducible refine Below.alloc ?_ ?_ _) | (with_reducible refine Below.drew ?_) | (with_reducible refine below_drewN ?_ _) | (with_reducible refine Below.setCell ?_ ?_ _) | (with_reducible refine below_call ?_ ?_ (by assumption)) | go_size))⟩
  · have HM := Lib.hid (show ((L.getD 0 (0, 0)).1, (L.getD 0 (0, 0)).2, true) = firstR (L, true) from rfl)
    obtain ⟨l0, -⟩ := HG.out rfl
    have hlen : L.length ≤ 1000000 := HLEN.out
    (go_enter Try.func13, Try.ntmps13)
    go_wp2_with fail
    refine (HC.out _).mono ?_
    (rintro e1 w1 ⟨v1, rfl, hr1, hb1⟩; have HR1 := Lib.hid hr1; clear hr1; obtain ⟨hc1, hf1⟩ := bcell hb1; have hz1 := hb1.size; (try simp only [World.size_alloc, World.size_setCell, World.size_drew] at hz1); have q1 : w.heap.size ≤ w1.heap.size := (by omega); (try have q1_0 : w.heap.size < w1.heap.size := (by omega)); (try have q1_1 : w.heap.size + 1 < w1.heap.size := (by omega)); (try have q1_2 : w.heap.size + 2 < w1.heap.size := (by omega)); (try have q1_3 : w.heap.size + 3 < w1.heap.size := (by omega)))
    obtain ⟨a1, c1, rfl, l1, m1, x1⟩ := HR1.out.cells
    obtain ⟨g1, rfl, e1, e2, e3, e4⟩ := x1 0 l0
    simp only [Nat.zero_mul, Nat.zero_add] at e3 e4
    clear x1 HR1
    generalize L.getD 0 (0, 0) = t at *
    obtain ⟨x, y⟩ := t
    have i1 : (0 : Int) < (L.length : Int) := by omega
    go_wp2
    (refine bodyPost_ret (by simp [results, Try.results13, go_sem, *]; try rfl) rfl ?_)
    exact ⟨ret_rv HM.out, by (repeat' (first | (with_reducible exact Below.refl _ _) | (with_reducible assumption) | (with_reducible refine Below.alloc ?_ ?_ _) | (with_reducible refine Below.drew ?_) | (with_reducible refine below_drewN ?_ _) | (with_reducible refine Below.setCell ?_ ?_ _) | (with_reducible refine below_call ?_ ?_ (by assumption)) | go_size))⟩

set_option maxHeartbeats 800000 in
theorem specFirstMeet_any (an ad av bn bd bv : Int) (kad : (-9223372036854775808 ≤ ad ∧ ad ≤ 9223372036854775807)) (kbd : (-9223372036854775808 ≤ bd ∧ bd ≤ 9223372036854775807)) (w : World) :
    Calls Try.prog 14 #[hv an ad av, hv bn bd bv] w fun e w' => e = .returned (rv (firstR (aheadR an ad av bn bd bv 0 1))) ∧ Below w.heap.size w w' := by
  have HLEN := Lib.hid (aheadR_len an ad av bn bd bv 0 1)
  have HC : Hid (∀ w : World, Calls Try.prog 10 #[hv an ad av, hv bn bd bv] w (TurnsOut w (aheadR an ad av bn bd bv 0 1).1 (aheadR an ad av bn bd bv 0 1).2)) := fun w => specMeetTimes_any an ad av bn bd bv kad kbd w
  have HG : Hid ((aheadR an ad av bn bd bv 0 1).2 = true → 0 < (aheadR an ad av bn bd bv 0 1).1.length ∧ GoodL (aheadR an ad av bn bd bv 0 1).1) := fun h => aheadR_good h
  generalize (aheadR an ad av bn bd bv 0 1) = R at *
  obtain ⟨L, ok⟩ := R
  cases ok
  · have HM := Lib.hid (show fail3 = firstR (L, false) from rfl)
    (go_enter Try.func14, Try.ntmps14)
    go_wp2_with fail
    refine (HC.out _).mono ?_
    (rintro e1 w1 ⟨v1, rfl, hr1, hb1⟩; have HR1 := Lib.hid hr1; clear hr1; obtain ⟨hc1, hf1⟩ := bcell hb1; have hz1 := hb1.size; (try simp only [World.size_alloc, World.size_setCell, World.size_drew] at hz1); have q1 : w.heap.size ≤ w1.heap.size := (by omega); (try have q1_0 : w.heap.size < w1.heap.size := (by omega)); (try have q1_1 : w.heap.size + 1 < w1.heap.size := (by omega)); (try have q1_2 : w.heap.size + 2 < w1.heap.size := (by omega)); (try have q1_3 : w.heap.size + 3 < w1.heap.size := (by omega)))
    go_wp2
    (refine bodyPost_ret (by simp [results, Try.results14, go_sem, *]; try rfl) rfl ?_)
    exact ⟨ret_rv HM.out, by (repeat' (first | (with_reducible exact Below.refl _ _) | (with_reducible assumption) | (with_reducible refine Below.alloc ?_ ?_ _) | (with_reducible refine Below.drew ?_) | (with_reducible refine below_drewN ?_ _) | (with_reducible refine Below.setCell ?_ ?_ _) | (with_reducible refine below_call ?_ ?_ (by assumption)) | go_size))⟩
  · have HM := Lib.hid (show ((L.getD 0 (0, 0)).1, (L.getD 0 (0, 0)).2, true) = firstR (L, true) from rfl)
    obtain ⟨l0, -⟩ := HG.out rfl
    have hlen : L.length ≤ 1000000 := HLEN.out
    (go_enter Try.func14, Try.ntmps14)
    go_wp2_with fail
    refine (HC.out _).mono ?_
    (rintro e1 w1 ⟨v1, rfl, hr1, hb1⟩; have HR1 := Lib.hid hr1; clear hr1; obtain ⟨hc1, hf1⟩ := bcell hb1; have hz1 := hb1.size; (try simp only [World.size_alloc, World.size_setCell, World.size_drew] at hz1); have q1 : w.heap.size ≤ w1.heap.size := (by omega); (try have q1_0 : w.heap.size < w1.heap.size := (by omega)); (try have q1_1 : w.heap.size + 1 < w1.heap.size := (by omega)); (try have q1_2 : w.heap.size + 2 < w1.heap.size := (by omega)); (try have q1_3 : w.heap.size + 3 < w1.heap.size := (by omega)))
    obtain ⟨a1, c1, rfl, l1, m1, x1⟩ := HR1.out.cells
    obtain ⟨g1, rfl, e1, e2, e3, e4⟩ := x1 0 l0
    simp only [Nat.zero_mul, Nat.zero_add] at e3 e4
    clear x1 HR1
    generalize L.getD 0 (0, 0) = t at *
    obtain ⟨x, y⟩ := t
    have i1 : (0 : Int) < (L.length : Int) := by omega
    go_wp2
    (refine bodyPost_ret (by simp [results, Try.results14, go_sem, *]; try rfl) rfl ?_)
    exact ⟨ret_rv HM.out, by (repeat' (first | (with_reducible exact Below.refl _ _) | (with_reducible assumption) | (with_reducible refine Below.alloc ?_ ?_ _) | (with_reducible refine Below.drew ?_) | (with_reducible refine below_drewN ?_ _) | (with_reducible refine Below.setCell ?_ ?_ _) | (with_reducible refine below_call ?_ ?_ (by assumption)) | go_size))⟩

/-- Whether a turn is behind another one. -/
def isBehind (tn td : Int) (x : Int × Int) : Bool := decide (0 < x.1 * td - tn * x.2)
def nextOf (L : List (Int × Int)) (tn td : Int) : Int × Int := (L.find? (isBehind tn td)).getD (L.getD 0 (0, 0))
def nextR (R : List (Int × Int) × Bool) (tn td : Int) : Int × Int × Bool := if R.2 && goodB tn td then ((nextOf R.1 tn td).1, (nextOf R.1 tn td).2, true) else fail3
theorem next_hit {L : List (Int × Int)} {tn td : Int} {k : Nat} (hk : k < L.length) (ha : ∀ j, j < k → isBehind tn td (L.getD j (0, 0)) = false) (hb : isBehind tn td (L.getD k (0, 0)) = true) : nextOf L tn td = L.getD k (0, 0) := by
  unfold nextOf
  have : L.find? (isBehind tn td) = some (L.getD k (0, 0)) := by
    rw [List.find?_eq_some_iff_getElem]
    refine ⟨hb, k, hk, by simp [List.getD_eq_getElem?_getD, hk], fun j hj => ?_⟩
    have := ha j hj
    simpa [List.getD_eq_getElem?_getD, show j < L.length by omega] using this
  rw [this]; rfl
theorem next_none {L : List (Int × Int)} {tn td : Int} (ha : ∀ j, j < L.length → isBehind tn td (L.getD j (0, 0)) = false) : nextOf L tn td = L.getD 0 (0, 0) := by
  unfold nextOf
  have : L.find? (isBehind tn td) = none := by
    rw [List.find?_eq_none]
    intro x hx
    obtain ⟨j, hj, rfl⟩ := List.getElem_of_mem hx
    have := ha j hj
    simpa [List.getD_eq_getElem?_getD, hj] using this
  rw [this]; rfl
theorem sg_pos {n : Int} (h : 0 < n) : 0 < sg n := by unfold sg; rw [if_pos h]; decide
theorem sg_npos {n : Int} (h : ¬ 0 < n) : ¬ 0 < sg n := by unfold sg; rw [if_neg h]; split <;> omega

set_option maxHeartbeats 1600000 in
theorem implNextMeet_any (an ad av bn bd bv tn td : Int) (w : World) :
    Calls Try.prog 24 #[hv an ad av, hv bn bd bv, tv tn td] w fun e w' => e = .returned (rv (nextR (aheadR an ad av bn bd bv 0 1) tn td)) ∧ Below w.heap.size w w' := by
  have HLEN := Lib.hid (aheadR_len an ad av bn bd bv 0 1)
  have HC : Hid (∀ w : World, Calls Try.prog 9 #[hv an ad av, hv bn bd bv] w (TurnsOut w (aheadR an ad av bn bd bv 0 1).1 (aheadR an ad av bn bd bv 0 1).2)) := fun w => implMeetTimes_any an ad av bn bd bv w
  have HG : Hid ((aheadR an ad av bn bd bv 0 1).2 = true → 0 < (aheadR an ad av bn bd bv 0 1).1.length ∧ GoodL (aheadR an ad av bn bd bv 0 1).1) := fun h => aheadR_good h
  generalize (aheadR an ad av bn bd bv 0 1) = R at *
  obtain ⟨L, ok⟩ := R
  cases ok
  · have HM := Lib.hid (show fail3 = nextR (L, false) tn td from rfl)
    (go_enter Try.func24, Try.ntmps24)
    go_wp2
    go_step3
    go_wp2_with fail
    refine (HC.out _).mono ?_
    (rintro e1 w1 ⟨v1, rfl, hr1, hb1⟩; have HR1 := Lib.hid hr1; clear hr1; obtain ⟨hc1, hf1⟩ := bcell hb1; have hz1 := hb1.size; (try simp only [World.size_alloc, World.size_setCell, World.size_drew] at hz1); have q1 : w.heap.size ≤ w1.heap.size := (by omega); (try have q1_0 : w.heap.size < w1.heap.size := (by omega)); (try have q1_1 : w.heap.size + 1 < w1.heap.size := (by omega)); (try have q1_2 : w.heap.size + 2 < w1.heap.size := (by omega)); (try have q1_3 : w.heap.size + 3 < w1.heap.size := (by omega)))
    go_wp2
    try rw [Exit.noGoto_ret]
    (refine bodyPost_ret (by simp [results, Try.results24, go_sem, *]; try rfl) rfl ?_)
    exact ⟨ret_rv HM.out, by (repeat' (first | (with_reducible exact Below.refl _ _) | (with_reducible assumption) | (with_reducible refine Below.alloc ?_ ?_ _) | (with_reducible refine Below.drew ?_) | (with_reducible refine below_drewN ?_ _) | (with_reducible refine Below.setCell ?_ ?_ _) | (with_reducible refine below_call ?_ ?_ (by assumption)) | go_size))⟩
  cases gt : goodB tn td
  · have HM := Lib.hid (show fail3 = nextR (L, true) tn td from by simp [nextR, gt])
    (go_enter Try.func24, Try.ntmps24)
    go_wp2
    go_step3
    go_wp2_with fail
    refine (HC.out _).mono ?_
    (rintro e1 w1 ⟨v1, rfl, hr1, hb1⟩; have HR1 := Lib.hid hr1; clear hr1; obtain ⟨hc1, hf1⟩ := bcell hb1; have hz1 := hb1.size; (try simp only [World.size_alloc, World.size_setCell, World.size_drew] at hz1); have q1 : w.heap.size ≤ w1.heap.size := (by omega); (try have q1_0 : w.heap.size < w1.heap.size := (by omega)); (try have q1_1 : w.heap.size + 1 < w1.heap.size := (by omega)); (try have q1_2 : w.heap.size + 2 < w1.heap.size := (by omega)); (try have q1_3 : w.heap.size + 3 < w1.heap.size := (by omega)))
    go_wp2_with fail
    refine (isTurn_is _ _ gt _).mono ?_
    (rintro e2 w2 ⟨rfl, hb2⟩; obtain ⟨hc2, hf2⟩ := bcell hb2; have hz2 := hb2.size; (try simp only [World.size_alloc, World.size_setCell, World.size_drew] at hz2); have q2 : w.heap.size ≤ w2.heap.size := (by omega); (try have q2_0 : w.heap.size < w2.heap.size := (by omega)); (try have q2_1 : w.heap.size + 1 < w2.heap.size := (by omega)); (try have q2_2 : w.heap.size + 2 < w2.heap.size := (by omega)); (try have q2_3 : w.heap.size + 3 < w2.heap.size := (by omega)); (try have q2_1_0 : w1.heap.size < w2.heap.size := (by omega)); (try have q2_1_1 : w1.heap.size + 1 < w2.heap.size := (by omega)))
    go_wp2
    try rw [Exit.noGoto_ret]
    (refine bodyPost_ret (by simp [results, Try.results24, go_sem, *]; try rfl) rfl ?_)
    exact ⟨ret_rv HM.out, by (repeat' (first | (with_reducible exact Below.refl _ _) | (with_reducible assumption) | (with_reducible refine Below.alloc ?_ ?_ _) | (with_reducible refine Below.drew ?_) | (with_reducible refine below_drewN ?_ _) | (with_reducible refine Below.setCell ?_ ?_ _) | (with_reducible refine below_call ?_ ?_ (by assumption)) | go_size))⟩
  · have HN : Hid (((nextOf L tn td).1, (nextOf L tn td).2, true) = nextR (L, true) tn td) := by show _ = _; simp [nextR, gt]
    obtain ⟨l0, gl⟩ := HG.out rfl
    have GL := Lib.hid gl
    clear gl
    have tb := goodB_bd gt
    have hlen : L.length ≤ 1000000 := HLEN.out
    (go_enter Try.func24, Try.ntmps24)
    go_wp2
    go_step3
    go_wp2_with fail
    refine (HC.out _).mono ?_
    (rintro e1 w1 ⟨v1, rfl, hr1, hb1⟩; have HR1 := Lib.hid hr1; clear hr1; obtain ⟨hc1, hf1⟩ := bcell hb1; have hz1 := hb1.size; (try simp only [World.size_alloc, World.size_setCell, World.size_drew] at hz1); have q1 : w.heap.size ≤ w1.heap.size := (by omega); (try have q1_0 : w.heap.size < w1.heap.size := (by omega)); (try have q1_1 : w.heap.size + 1 < w1.heap.size := (by omega)); (try have q1_2 : w.heap.size + 2 < w1.heap.size := (by omega)); (try have q1_3 : w.heap.size + 3 < w1.heap.size := (by omega)))
    obtain ⟨a1, c1, rfl, l1, m1, x1⟩ := HR1.out.cells
    have X1 := Lib.hid x1
    obtain ⟨g1, rfl, f1, f2, f3, f4⟩ := x1 0 l0
    simp only [Nat.zero_mul, Nat.zero_add] at f3 f4
    clear x1 HR1
    go_wp2_with fail
    refine (isTurn_is _ _ gt _).mono ?_
    (rintro e2 w2 ⟨rfl, hb2⟩; obtain ⟨hc2, hf2⟩ := bcell hb2; have hz2 := hb2.size; (try simp only [World.size_alloc, World.size_setCell, World.size_drew] at hz2); have q2 : w.heap.size ≤ w2.heap.size := (by omega); (try have q2_0 : w.heap.size < w2.heap.size := (by omega)); (try have q2_1 : w.heap.size + 1 < w2.heap.size := (by omega)); (try have q2_2 : w.heap.size + 2 < w2.heap.size := (by omega)); (try have q2_3 : w.heap.size + 3 < w2.heap.size := (by omega)); (try have q2_1_0 : w1.heap.size < w2.heap.size := (by omega)); (try have q2_1_1 : w1.heap.size + 1 < w2.heap.size := (by omega)))
    have i1 : (0 : Int) < (L.length : Int) := by omega
    have HN0 : Hid ((∀ j, j < L.length → isBehind tn td (L.getD j (0, 0)) = false) → ((L.getD 0 (0, 0)).1, (L.getD 0 (0, 0)).2, true) = nextR (L, true) tn td) := fun h => by rw [← HN.out, next_none h]
    have u1 : g1 < w2.heap.size := by omega
    generalize hx0 : (L.getD 0 (0, 0)).1 = x0 at *
    generalize hy0 : (L.getD 0 (0, 0)).2 = y0 at *
    clear hx0 hy0
    go_wp2
    go_step3
    go_wp2
    go_loopw [32] (fun i wr => ∃ k : Nat, k ≤ L.length ∧ i = .int .i64 k ∧ (∀ j, j < k → isBehind tn td (L.getD j (0, 0)) = false) ∧ Below w2.heap.size w2 wr ∧ wr.cell? ⟨w2.heap.size, 0, none⟩ = some (.int .i64 x0) ∧ wr.cell? ⟨w2.heap.size, 1, none⟩ = some (.int .i64 y0) ∧ wr.frozen? ⟨w2.heap.size, 0, none⟩ = false ∧ wr.frozen? ⟨w2.heap.size, 1, none⟩ = false ∧ w2.heap.size + 1 ≤ wr.heap.size) (fun i _ => L.length - (intOf i).toNat)
    case atStart => exact ⟨0, Nat.zero_le _, rfl, fun j hj => absurd hj (Nat.not_lt_zero _), by (repeat' (first | (with_reducible exact Below.refl _ _) | (with_reducible assumption) | (with_reducible refine Below.alloc ?_ ?_ _) | (with_reducible refine Below.drew ?_) | (with_reducible refine below_drewN ?_ _) | (with_reducible refine Below.setCell ?_ ?_ _) | (with_reducible refine below_call ?_ ?_ (by assumption)) | go_size)), by go_simp, by go_simp, by go_simp, by go_simp, by go_size⟩
    case round =>
      obtain ⟨k, hk, rfl, hall, hbr, k0, k1, z0, z1, hzz⟩ := hrel
      have HA := Lib.hid hall
      clear hall
      obtain ⟨hcr, hfr⟩ := bcell hbr
      have hzr' := hbr.size
      have i0' : (0 : Int) ≤ (k : Int) := Int.natCast_nonneg _
      have qr : w.heap.size ≤ wr.heap.size := by omega
      have qr0 : w.heap.size < wr.heap.size := by omega
      have qr1 : w.heap.size + 1 < wr.heap.size := by omega
      have qr2 : w.heap.size + 2 < wr.heap.size := by omega
      have qr3 : w.heap.size + 3 < wr.heap.size := by omega
      have qn : w2.heap.size < wr.heap.size := by omega
      by_cases hlt : k < L.length
      · obtain ⟨g2, hg2, e1, e2, e3, e4⟩ := X1.out k hlt
        obtain rfl : g1 = g2 := by simpa using hg2
        have gb := GL.out k hlt
        have i2 : (k : Int) < (L.length : Int) := by omega
        have HH0 : Hid (isBehind tn td (L.getD k (0, 0)) = true → ((L.getD k (0, 0)).1, (L.getD k (0, 0)).2, true) = nextR (L, true) tn td) := fun h => by rw [← HN.out, next_hit hlt HA.out h]
        have HALL : Hid (isBehind tn td (L.getD k (0, 0)) = false → ∀ j, j < k + 1 → isBehind tn td (L.getD j (0, 0)) = false) := fun h j hj => by
          by_cases hjk : j = k
          · subst hjk; exact h
          · exact HA.out j (by omega)
        clear hg2
        generalize L.getD k (0, 0) = t at *
        obtain ⟨x, y⟩ := t
        simp only at gb e3 e4
        by_cases hp : 0 < x * td - tn * y
        · have HH := Lib.hid (HH0.out (decide_eq_true hp))
          have hs := sg_pos hp
          clear hp
          go_wp2_with fail
          refine (turnOrder_any x y tn td gb tb _).mono ?_
          rintro e3' w3 ⟨rfl, hb3⟩
          obtain ⟨hc3, hf3⟩ := bcell hb3
          have hz3 := hb3.size
          simp only [World.size_alloc, World.size_setCell, World.size_drew] at hz3
          have q3 : w.heap.size ≤ w3.heap.size := by omega
          have q30 : w.heap.size < w3.heap.size := by omega
          have q31 : w.heap.size + 1 < w3.heap.size := by omega
          have q32 : w.heap.size + 2 < w3.heap.size := by omega
          have q33 : w.heap.size + 3 < w3.heap.size := by omega
          have k0' : w3.cell? ⟨w2.heap.size, 0, none⟩ = some (.int .i64 x0) := (hc3 _ _ (by go_size)).trans (by go_simp)
          have k1' : w3.cell? ⟨w2.heap.size, 1, none⟩ = some (.int .i64 y0) := (hc3 _ _ (by go_size)).trans (by go_simp)
          have z0' : w3.frozen? ⟨w2.heap.size, 0, none⟩ = false := (hf3 _ _ (by go_size)).trans (by go_simp)
          have z1' : w3.frozen? ⟨w2.heap.size, 1, none⟩ = false := (hf3 _ _ (by go_size)).trans (by go_simp)
          go_wp2
          try rw [Exit.noGoto_ret]
          (refine bodyPost_ret (by simp [results, Try.results24, go_sem, *]; try rfl) rfl ?_)
          have hbz : Below w.heap.size w wr := Below.trans (b := w2) (by (repeat' (first | (with_reducible exact Below.refl _ _) | (with_reducible assumption) | (with_reducible refine Below.alloc ?_ ?_ _) | (with_reducible refine Below.drew ?_) | (with_reducible refine below_drewN ?_ _) | (with_reducible refine Below.setCell ?_ ?_ _) | (with_reducible refine below_call ?_ ?_ (by assumption)) | go_size))) (hbr.mono (by omega))
          exact ⟨ret_rv HH.out, by (repeat' (first | (with_reducible exact Below.refl _ _) | (with_reducible assumption) | (with_reducible refine Below.alloc ?_ ?_ _) | (with_reducible refine Below.drew ?_) | (with_reducible refine below_drewN ?_ _) | (with_reducible refine Below.setCell ?_ ?_ _) | (with_reducible refine below_call ?_ ?_ (by assumption)) | go_size))⟩
        · have HALL2 := Lib.hid (HALL.out (decide_eq_false hp))
          have hs := sg_npos hp
          clear hp
          go_wp2_with fail
          refine (turnOrder_any x y tn td gb tb _).mono ?_
          rintro e3' w3 ⟨rfl, hb3⟩
          obtain ⟨hc3, hf3⟩ := bcell hb3
          have hz3 := hb3.size
          simp only [World.size_alloc, World.size_setCell, World.size_drew] at hz3
          go_wp2
          go_roundw
          case rel => exact ⟨k + 1, by omega, by go_num, HALL2.out, by have hbz : Below w2.heap.size w2 w3 := hbr.trans (Below.mono (B := wr.heap.size) (by (repeat' (first | (with_reducible exact Below.refl _ _) | (with_reducible assumption) | (with_reducible refine Below.alloc ?_ ?_ _) | (with_reducible refine Below.drew ?_) | (with_reducible refine below_drewN ?_ _) | (with_reducible refine Below.setCell ?_ ?_ _) | (with_reducible refine below_call ?_ ?_ (by assumption)) | go_size))) hzr'); exact hbz, (hc3 _ _ (by go_size)).trans (by go_simp), (hc3 _ _ (by go_size)).trans (by go_simp), (hf3 _ _ (by go_size)).trans (by go_simp), (hf3 _ _ (by go_size)).trans (by go_simp), by omega⟩
          case measure => simp [intOf]; omega
      · obtain rfl : k = L.length := by omega
        have HH := Lib.hid (HN0.out HA.out)
        go_wp2
        try rw [Exit.noGoto_ret]
        (refine bodyPost_ret (by simp [results, Try.results24, go_sem, *]; try rfl) rfl ?_)
        have hbz : Below w.heap.size w wr := Below.trans (b := w2) (by (repeat' (first | (with_reducible exact Below.refl _ _) | (with_reducible assumption) | (with_reducible refine Below.alloc ?_ ?_ _) | (with_reducible refine Below.drew ?_) | (with_reducible refine below_drewN ?_ _) | (with_reducible refine Below.setCell ?_ ?_ _) | (with_reducible refine below_call ?_ ?_ (by assumption)) | go_size))) (hbr.mono (by omega))
        exact ⟨ret_rv HH.out, by (repeat' (first | (with_reducible exact Below.refl _ _) | (with_reducible assumption) | (with_reducible refine Below.alloc ?_ ?_ _) | (with_reducible refine Below.drew ?_) | (with_reducible refine below_drewN ?_ _) | (with_reducible refine Below.setCell ?_ ?_ _) | (with_reducible refine below_call ?_ ?_ (by assumption)) | go_size))⟩

set_option maxHeartbeats 1600000 in
theorem specNextMeet_any (an ad av bn bd bv tn td : Int) (kad : (-9223372036854775808 ≤ ad ∧ ad ≤ 9223372036854775807)) (kbd : (-9223372036854775808 ≤ bd ∧ bd ≤ 9223372036854775807)) (ktd : (-9223372036854775808 ≤ td ∧ td ≤ 9223372036854775807)) (w : World) :
    Calls Try.prog 26 #[hv an ad av, hv bn bd bv, tv tn td] w fun e w' => e = .returned (rv (nextR (aheadR an ad av bn bd bv 0 1) tn td)) ∧ Below w.heap.size w w' := by
  have HLEN := Lib.hid (aheadR_len an ad av bn bd bv 0 1)
  have HC : Hid (∀ w : World, Calls Try.prog 10 #[hv an ad av, hv bn bd bv] w (TurnsOut w (aheadR an ad av bn bd bv 0 1).1 (aheadR an ad av bn bd bv 0 1).2)) := fun w => specMeetTimes_any an ad av bn bd bv kad kbd w
  have HG : Hid ((aheadR an ad av bn bd bv 0 1).2 = true → 0 < (aheadR an ad av bn bd bv 0 1).1.length ∧ GoodL (aheadR an ad av bn bd bv 0 1).1) := fun h => aheadR_good h
  generalize (aheadR an ad av bn bd bv 0 1) = R at *
  obtain ⟨L, ok⟩ := R
  cases ok
  · have HM := Lib.hid (show fail3 = nextR (L, false) tn td from rfl)
    (go_enter Try.func26, Try.ntmps26)
    go_wp2_with fail
    refine (HC.out _).mono ?_
    (rintro e1 w1 ⟨v1, rfl, hr1, hb1⟩; have HR1 := Lib.hid hr1; clear hr1; obtain ⟨hc1, hf1⟩ := bcell hb1; have hz1 := hb1.size; (try simp only [World.size_alloc, World.size_setCell, World.size_drew] at hz1); have q1 : w.heap.size ≤ w1.heap.size := (by omega); (try have q1_0 : w.heap.size < w1.heap.size := (by omega)); (try have q1_1 : w.heap.size + 1 < w1.heap.size := (by omega)); (try have q1_2 : w.heap.size + 2 < w1.heap.size := (by omega)); (try have q1_3 : w.heap.size + 3 < w1.heap.size := (by omega)))
    go_wp2
    try rw [Exit.noGoto_ret]
    (refine bodyPost_ret (by simp [results, Try.results26, go_sem, *]; try rfl) rfl ?_)
    exact ⟨ret_rv HM.out, by (repeat' (first | (with_reducible exact Below.refl _ _) | (with_reducible assumption) | (with_reducible refine Below.alloc ?_ ?_ _) | (with_reducible refine Below.drew ?_) | (with_reducible refine below_drewN ?_ _) | (with_reducible refine Below.setCell ?_ ?_ _) | (with_reducible refine below_call ?_ ?_ (by assumption)) | go_size))⟩
  cases gt : goodB tn td
  · have HM := Lib.hid (show fail3 = nextR (L, true) tn td from by simp [nextR, gt])
    (go_enter Try.func26, Try.ntmps26)
    go_wp2_with fail
    refine (HC.out _).mono ?_
    (rintro e1 w1 ⟨v1, rfl, hr1, hb1⟩; have HR1 := Lib.hid hr1; clear hr1; obtain ⟨hc1, hf1⟩ := bcell hb1; have hz1 := hb1.size; (try simp only [World.size_alloc, World.size_setCell, World.size_drew] at hz1); have q1 : w.heap.size ≤ w1.heap.size := (by omega); (try have q1_0 : w.heap.size < w1.heap.size := (by omega)); (try have q1_1 : w.heap.size + 1 < w1.heap.size := (by omega)); (try have q1_2 : w.heap.size + 2 < w1.heap.size := (by omega)); (try have q1_3 : w.heap.size + 3 < w1.heap.size := (by omega)))
    go_wp2_with fail
    refine (diGood_is _ _ gt ktd _).mono ?_
    (rintro e2 w2 ⟨rfl, hb2⟩; obtain ⟨hc2, hf2⟩ := bcell hb2; have hz2 := hb2.size; (try simp only [World.size_alloc, World.size_setCell, World.size_drew] at hz2); have q2 : w.heap.size ≤ w2.heap.size := (by omega); (try have q2_0 : w.heap.size < w2.heap.size := (by omega)); (try have q2_1 : w.heap.size + 1 < w2.heap.size := (by omega)); (try have q2_2 : w.heap.size + 2 < w2.heap.size := (by omega)); (try have q2_3 : w.heap.size + 3 < w2.heap.size := (by omega)); (try have q2_1_0 : w1.heap.size < w2.heap.size := (by omega)); (try have q2_1_1 : w1.heap.size + 1 < w2.heap.size := (by omega)))
    go_wp2
    try rw [Exit.noGoto_ret]
    (refine bodyPost_ret (by simp [results, Try.results26, go_sem, *]; try rfl) rfl ?_)
    exact ⟨ret_rv HM.out, by (repeat' (first | (with_reducible exact Below.refl _ _) | (with_reducible assumption) | (with_reducible refine Below.alloc ?_ ?_ _) | (with_reducible refine Below.drew ?_) | (with_reducible refine below_drewN ?_ _) | (with_reducible refine Below.setCell ?_ ?_ _) | (with_reducible refine below_call ?_ ?_ (by assumption)) | go_size))⟩
  · have HN : Hid (((nextOf L tn td).1, (nextOf L tn td).2, true) = nextR (L, true) tn td) := by show _ = _; simp [nextR, gt]
    obtain ⟨l0, gl⟩ := HG.out rfl
    have GL := Lib.hid gl
    clear gl
    have tb := goodB_bd gt
    have hlen : L.length ≤ 1000000 := HLEN.out
    (go_enter Try.func26, Try.ntmps26)
    go_wp2_with fail
    refine (HC.out _).mono ?_
    (rintro e1 w1 ⟨v1, rfl, hr1, hb1⟩; have HR1 := Lib.hid hr1; clear hr1; obtain ⟨hc1, hf1⟩ := bcell hb1; have hz1 := hb1.size; (try simp only [World.size_alloc, World.size_setCell, World.size_drew] at hz1); have q1 : w.heap.size ≤ w1.heap.size := (by omega); (try have q1_0 : w.heap.size < w1.heap.size := (by omega)); (try have q1_1 : w.heap.size + 1 < w1.heap.size := (by omega)); (try have q1_2 : w.heap.size + 2 < w1.heap.size := (by omega)); (try have q1_3 : w.heap.size + 3 < w1.heap.size := (by omega)))
    obtain ⟨a1, c1, rfl, l1, m1, x1⟩ := HR1.out.cells
    have X1 := Lib.hid x1
    obtain ⟨g1, rfl, f1, f2, f3, f4⟩ := x1 0 l0
    simp only [Nat.zero_mul, Nat.zero_add] at f3 f4
    clear x1 HR1
    go_wp2_with fail
    refine (diGood_is _ _ gt ktd _).mono ?_
    (rintro e2 w2 ⟨rfl, hb2⟩; obtain ⟨hc2, hf2⟩ := bcell hb2; have hz2 := hb2.size; (try simp only [World.size_alloc, World.size_setCell, World.size_drew] at hz2); have q2 : w.heap.size ≤ w2.heap.size := (by omega); (try have q2_0 : w.heap.size < w2.heap.size := (by omega)); (try have q2_1 : w.heap.size + 1 < w2.heap.size := (by omega)); (try have q2_2 : w.heap.size + 2 < w2.heap.size := (by omega)); (try have q2_3 : w.heap.size + 3 < w2.heap.size := (by omega)); (try have q2_1_0 : w1.heap.size < w2.heap.size := (by omega)); (try have q2_1_1 : w1.heap.size + 1 < w2.heap.size := (by omega)))
    have i1 : (0 : Int) < (L.length : Int) := by omega
    have HN0 : Hid ((∀ j, j < L.length → isBehind tn td (L.getD j (0, 0)) = false) → ((L.getD 0 (0, 0)).1, (L.getD 0 (0, 0)).2, true) = nextR (L, true) tn td) := fun h => by rw [← HN.out, next_none h]
    have u1 : g1 < w2.heap.size := by omega
    generalize hx0 : (L.getD 0 (0, 0)).1 = x0 at *
    generalize hy0 : (L.getD 0 (0, 0)).2 = y0 at *
    clear hx0 hy0
    go_wp2
    go_loopw [28] (fun i wr => ∃ k : Nat, k ≤ L.length ∧ i = .int .i64 k ∧ (∀ j, j < k → isBehind tn td (L.getD j (0, 0)) = false) ∧ Below w2.heap.size w2 wr) (fun i _ => L.length - (intOf i).toNat)
    case atStart => exact ⟨0, Nat.zero_le _, rfl, fun j hj => absurd hj (Nat.not_lt_zero _), by (repeat' (first | (with_reducible exact Below.refl _ _) | (with_reducible assumption) | (with_reducible refine Below.alloc ?_ ?_ _) | (with_reducible refine Below.drew ?_) | (with_reducible refine below_drewN ?_ _) | (with_reducible refine Below.setCell ?_ ?_ _) | (with_reducible refine below_call ?_ ?_ (by assumption)) | go_size))⟩
    case round =>
      obtain ⟨k, hk, rfl, hall, hbr⟩ := hrel
      have HA := Lib.hid hall
      clear hall
      obtain ⟨hcr, hfr⟩ := bcell hbr
      have hzr' := hbr.size
      have i0' : (0 : Int) ≤ (k : Int) := Int.natCast_nonneg _
      have qr : w.heap.size ≤ wr.heap.size := by omega
      have qr0 : w.heap.size < wr.heap.size := by omega
      have qr1 : w.heap.size + 1 < wr.heap.size := by omega
      have qr2 : w.heap.size + 2 < wr.heap.size := by omega
      have qr3 : w.heap.size + 3 < wr.heap.size := by omega
      by_cases hlt : k < L.length
      · obtain ⟨g2, hg2, e1, e2, e3, e4⟩ := X1.out k hlt
        obtain rfl : g1 = g2 := by simpa using hg2
        have gb := GL.out k hlt
        have i2 : (k : Int) < (L.length : Int) := by omega
        have HH0 : Hid (isBehind tn td (L.getD k (0, 0)) = true → ((L.getD k (0, 0)).1, (L.getD k (0, 0)).2, true) = nextR (L, true) tn td) := fun h => by rw [← HN.out, next_hit hlt HA.out h]
        have HALL : Hid (isBehind tn td (L.getD k (0, 0)) = false → ∀ j, j < k + 1 → isBehind tn td (L.getD j (0, 0)) = false) := fun h j hj => by
          by_cases hjk : j = k
          · subst hjk; exact h
          · exact HA.out j (by omega)
        clear hg2
        generalize L.getD k (0, 0) = t at *
        obtain ⟨x, y⟩ := t
        simp only at gb e3 e4
        by_cases hp : 0 < x * td - tn * y
        · have HH := Lib.hid (HH0.out (decide_eq_true hp))
          have hs := sg_pos hp
          clear hp
          go_wp2_with fail
          refine (diCompare_any x y tn td gb tb _).mono ?_
          rintro e3' w3 ⟨rfl, hb3⟩
          obtain ⟨hc3, hf3⟩ := bcell hb3
          have hz3 := hb3.size
          simp only [World.size_alloc, World.size_setCell, World.size_drew] at hz3
          have q3 : w.heap.size ≤ w3.heap.size := by omega
          have q30 : w.heap.size < w3.heap.size := by omega
          have q31 : w.heap.size + 1 < w3.heap.size := by omega
          have q32 : w.heap.size + 2 < w3.heap.size := by omega
          have q33 : w.heap.size + 3 < w3.heap.size := by omega
          go_wp2
          try rw [Exit.noGoto_ret]
          (refine bodyPost_ret (by simp [results, Try.results26, go_sem, *]; try rfl) rfl ?_)
          have hbz : Below w.heap.size w wr := Below.trans (b := w2) (by (repeat' (first | (with_reducible exact Below.refl _ _) | (with_reducible assumption) | (with_reducible refine Below.alloc ?_ ?_ _) | (with_reducible refine Below.drew ?_) | (with_reducible refine below_drewN ?_ _) | (with_reducible refine Below.setCell ?_ ?_ _) | (with_reducible refine below_call ?_ ?_ (by assumption)) | go_size))) (hbr.mono (by omega))
          exact ⟨ret_rv HH.out, by (repeat' (first | (with_reducible exact Below.refl _ _) | (with_reducible assumption) | (with_reducible refine Below.alloc ?_ ?_ _) | (with_reducible refine Below.drew ?_) | (with_reducible refine below_drewN ?_ _) | (with_reducible refine Below.setCell ?_ ?_ _) | (with_reducible refine below_call ?_ ?_ (by assumption)) | go_size))⟩
        · have HALL2 := Lib.hid (HALL.out (decide_eq_false hp))
          have hs := sg_npos hp
          clear hp
          go_wp2_with fail
          refine (diCompare_any x y tn td gb tb _).mono ?_
          rintro e3' w3 ⟨rfl, hb3⟩
          obtain ⟨hc3, hf3⟩ := bcell hb3
          have hz3 := hb3.size
          simp only [World.size_alloc, World.size_setCell, World.size_drew] at hz3
          go_wp2
          go_roundw
          case rel => exact ⟨k + 1, by omega, by go_num, HALL2.out, by have hbz : Below w2.heap.size w2 w3 := hbr.trans (Below.mono (B := wr.heap.size) (by (repeat' (first | (with_reducible exact Below.refl _ _) | (with_reducible assumption) | (with_reducible refine Below.alloc ?_ ?_ _) | (with_reducible refine Below.drew ?_) | (with_reducible refine below_drewN ?_ _) | (with_reducible refine Below.setCell ?_ ?_ _) | (with_reducible refine below_call ?_ ?_ (by assumption)) | go_size))) hzr'); exact hbz⟩
          case measure => simp [intOf]; omega
      · obtain rfl : k = L.length := by omega
        have HH := Lib.hid (HN0.out HA.out)
        go_wp2
        try rw [Exit.noGoto_ret]
        (refine bodyPost_ret (by simp [results, Try.results26, go_sem, *]; try rfl) rfl ?_)
        have hbz : Below w.heap.size w wr := Below.trans (b := w2) (by (repeat' (first | (with_reducible exact Below.refl _ _) | (with_reducible assumption) | (with_reducible refine Below.alloc ?_ ?_ _) | (with_reducible refine Below.drew ?_) | (with_reducible refine below_drewN ?_ _) | (with_reducible refine Below.setCell ?_ ?_ _) | (with_reducible refine below_call ?_ ?_ (by assumption)) | go_size))) (hbr.mono (by omega))
        exact ⟨ret_rv HH.out, by (repeat' (first | (with_reducible exact Below.refl _ _) | (with_reducible assumption) | (with_reducible refine Below.alloc ?_ ?_ _) | (with_reducible refine Below.drew ?_) | (with_reducible refine below_drewN ?_ _) | (with_reducible refine Below.setCell ?_ ?_ _) | (with_reducible refine below_call ?_ ?_ (by assumption)) | go_size))⟩

end Go.Proofs.Ytcfiaacpofpioaa
