/- What the functions on trains hand back: by the program and by the model. -/
import Derived.Test.YtaifcemdabcfjaaGe3
set_option linter.unusedSimpArgs false
set_option linter.unusedVariables false
set_option maxRecDepth 100000
namespace Go.Proofs.Ytaifcemdabcfjaa
open Go.RowKit

/-- Two numbers and whether they are there. -/
abbrev tq (r : Int × Int × Bool) : Value := .tuple #[.int .i64 r.1, .int .i64 r.2.1, .bool r.2.2]
def fail3 : Int × Int × Bool := (0, 0, false)
theorem ret_tq {a b : Int × Int × Bool} (h : a = b) : Ending.returned (tq a) = .returned (tq b) := by rw [h]
def ratioR (L : List (Int × Int)) : Int × Int × Bool := if trainB L then (spN (numT L) (denT L), spD (numT L) (denT L), true) else fail3
def dirT (L : List (Int × Int)) : Int := if L.length % 2 = 0 then 1 else -1
def dirR (L : List (Int × Int)) : Int × Bool := if trainB L then (dirT L, true) else (0, false)
def cmpR (L M : List (Int × Int)) : Int × Bool := if trainB L && trainB M then (sg (spN (numT L) (denT L) * spD (numT M) (denT M) - spN (numT M) (denT M) * spD (numT L) (denT L)), true) else (0, false)
/-- The greatest number by which the turns and the denominator can be divided. -/
def toG (L : List (Int × Int)) (t : Int) : Int := gc (if 0 ≤ t then t else -t) (spD (numT L) (denT L))
def tolR (L : List (Int × Int)) (t : Int) : Int × Int × Bool := if trainB L && inB t (-1000) 1000 then (dirT L * (t / toG L t) * spN (numT L) (denT L), spD (numT L) (denT L) / toG L t, true) else fail3
theorem rt_bd {L : List (Int × Int)} (h : trainB L = true) : (1 ≤ spN (numT L) (denT L) ∧ spN (numT L) (denT L) ≤ 207360000) ∧ (1 ≤ spD (numT L) (denT L) ∧ spD (numT L) (denT L) ≤ 207360000) := by
  obtain ⟨⟨a1, a2⟩, ⟨b1, b2⟩, -⟩ := train_bd h
  obtain ⟨⟨c1, c2⟩, d1, d2⟩ := sp_pos _ _ a1 b1
  exact ⟨⟨c1, by omega⟩, d1, by omega⟩

set_option maxHeartbeats 800000 in
theorem implRatioOf_any (a : Option Addr) (c : Nat) (L : List (Int × Int)) (w : World) (hin : PIn w a L) (hm : L.length ≤ maxLen) :
    Calls Try.prog 28 #[.slice a L.length c] w fun e w' => e = .returned (tq (ratioR L)) ∧ Below w.heap.size w w' := by
  have X1 := Lib.hid hin
  clear hin
  cases ht : trainB L
  · have HM := Lib.hid (show fail3 = ratioR L from by simp [ratioR, ht])
    (go_enter Try.func28, Try.ntmps28)
    go_wp2_with fail
    refine (implIsTrain_is a c L ht _ X1.out hm).mono ?_
    (rintro e1 w1 ⟨rfl, hb1⟩; obtain ⟨hc1, hf1⟩ := bcell hb1; have hz1 := hb1.size; (try simp only [World.size_alloc, World.size_setCell, World.size_drew] at hz1); have q1 : w.heap.size ≤ w1.heap.size := (by omega); (try have q1_0 : w.heap.size < w1.heap.size := (by omega)); (try have q1_1 : w.heap.size + 1 < w1.heap.size := (by omega)); (try have q1_2 : w.heap.size + 2 < w1.heap.size := (by omega)); (try have q1_3 : w.heap.size + 3 < w1.heap.size := (by omega)))
    go_wp2
    (refine bodyPost_ret (by simp [results, Try.results28, go_sem, *]; try rfl) rfl ?_)
    exact ⟨ret_tq HM.out, by (repeat' (first | (with_reducible exact Below.refl _ _) | (with_reducible assumption) | (with_reducible refine Below.alloc ?_ ?_ _) | (with_reducible refine Below.drew ?_) | (with_reducible refine below_drewN ?_ _) | (with_reducible refine Below.setCell ?_ ?_ _) | (with_reducible refine below_call ?_ ?_ (by assumption)) | go_size))⟩
  · have HM := Lib.hid (show (spN (numT L) (denT L), spD (numT L) (denT L), true) = ratioR L from by simp [ratioR, ht])
    (go_enter Try.func28, Try.ntmps28)
    go_wp2_with fail
    refine (implIsTrain_is a c L ht _ X1.out hm).mono ?_
    (rintro e1 w1 ⟨rfl, hb1⟩; obtain ⟨hc1, hf1⟩ := bcell hb1; have hz1 := hb1.size; (try simp only [World.size_alloc, World.size_setCell, World.size_drew] at hz1); have q1 : w.heap.size ≤ w1.heap.size := (by omega); (try have q1_0 : w.heap.size < w1.heap.size := (by omega)); (try have q1_1 : w.heap.size + 1 < w1.heap.size := (by omega)); (try have q1_2 : w.heap.size + 2 < w1.heap.size := (by omega)); (try have q1_3 : w.heap.size + 3 < w1.heap.size := (by omega)))
    go_wp2_with fail
    refine (ratioOf_any a c L ht _ (X1.out.below hb1)).mono ?_
    (rintro e2 w2 ⟨rfl, hb2⟩; obtain ⟨hc2, hf2⟩ := bcell hb2; have hz2 := hb2.size; (try simp only [World.size_alloc, World.size_setCell, World.size_drew] at hz2); have q2 : w.heap.size ≤ w2.heap.size := (by omega); (try have q2_0 : w.heap.size < w2.heap.size := (by omega)); (try have q2_1 : w.heap.size + 1 < w2.heap.size := (by omega)); (try have q2_2 : w.heap.size + 2 < w2.heap.size := (by omega)); (try have q2_3 : w.heap.size + 3 < w2.heap.size := (by omega)); (try have q2_1_0 : w1.heap.size < w2.heap.size := (by omega)); (try have q2_1_1 : w1.heap.size + 1 < w2.heap.size := (by omega)))
    go_wp2
    go_quiet (fail)
    go_wp2
    (refine bodyPost_ret (by simp [results, Try.results28, go_sem, *]; try rfl) rfl ?_)
    exact ⟨ret_tq HM.out, by (repeat' (first | (with_reducible exact Below.refl _ _) | (with_reducible assumption) | (with_reducible refine Below.alloc ?_ ?_ _) | (with_reducible refine Below.drew ?_) | (with_reducible refine below_drewN ?_ _) | (with_reducible refine Below.setCell ?_ ?_ _) | (with_reducible refine below_call ?_ ?_ (by assumption)) | go_size))⟩
set_option maxHeartbeats 800000 in
theorem specRatioOf_any (a : Option Addr) (c : Nat) (L : List (Int × Int)) (w : World) (hin : PIn w a L) (hm : L.length ≤ maxLen) :
    Calls Try.prog 27 #[.slice a L.length c] w fun e w' => e = .returned (tq (ratioR L)) ∧ Below w.heap.size w w' := by
  have X1 := Lib.hid hin
  clear hin
  cases ht : trainB L
  · have HM := Lib.hid (show fail3 = ratioR L from by simp [ratioR, ht])
    (go_enter Try.func27, Try.ntmps27)
    go_wp2_with fail
    refine (geTrain_is a c L ht _ X1.out hm).mono ?_
    (rintro e1 w1 ⟨rfl, hb1⟩; obtain ⟨hc1, hf1⟩ := bcell hb1; have hz1 := hb1.size; (try simp only [World.size_alloc, World.size_setCell, World.size_drew] at hz1); have q1 : w.heap.size ≤ w1.heap.size := (by omega); (try have q1_0 : w.heap.size < w1.heap.size := (by omega)); (try have q1_1 : w.heap.size + 1 < w1.heap.size := (by omega)); (try have q1_2 : w.heap.size + 2 < w1.heap.size := (by omega)); (try have q1_3 : w.heap.size + 3 < w1.heap.size := (by omega)))
    go_wp2
    (refine bodyPost_ret (by simp [results, Try.results27, go_sem, *]; try rfl) rfl ?_)
    exact ⟨ret_tq HM.out, by (repeat' (first | (with_reducible exact Below.refl _ _) | (with_reducible assumption) | (with_reducible refine Below.alloc ?_ ?_ _) | (with_reducible refine Below.drew ?_) | (with_reducible refine below_drewN ?_ _) | (with_reducible refine Below.setCell ?_ ?_ _) | (with_reducible refine below_call ?_ ?_ (by assumption)) | go_size))⟩
  · have HM := Lib.hid (show (spN (numT L) (denT L), spD (numT L) (denT L), true) = ratioR L from by simp [ratioR, ht])
    (go_enter Try.func27, Try.ntmps27)
    go_wp2_with fail
    refine (geTrain_is a c L ht _ X1.out hm).mono ?_
    (rintro e1 w1 ⟨rfl, hb1⟩; obtain ⟨hc1, hf1⟩ := bcell hb1; have hz1 := hb1.size; (try simp only [World.size_alloc, World.size_setCell, World.size_drew] at hz1); have q1 : w.heap.size ≤ w1.heap.size := (by omega); (try have q1_0 : w.heap.size < w1.heap.size := (by omega)); (try have q1_1 : w.heap.size + 1 < w1.heap.size := (by omega)); (try have q1_2 : w.heap.size + 2 < w1.heap.size := (by omega)); (try have q1_3 : w.heap.size + 3 < w1.heap.size := (by omega)))
    go_wp2_with fail
    refine (geRatio_any a c L ht _ (X1.out.below hb1)).mono ?_
    (rintro e2 w2 ⟨rfl, hb2⟩; obtain ⟨hc2, hf2⟩ := bcell hb2; have hz2 := hb2.size; (try simp only [World.size_alloc, World.size_setCell, World.size_drew] at hz2); have q2 : w.heap.size ≤ w2.heap.size := (by omega); (try have q2_0 : w.heap.size < w2.heap.size := (by omega)); (try have q2_1 : w.heap.size + 1 < w2.heap.size := (by omega)); (try have q2_2 : w.heap.size + 2 < w2.heap.size := (by omega)); (try have q2_3 : w.heap.size + 3 < w2.heap.size := (by omega)); (try have q2_1_0 : w1.heap.size < w2.heap.size := (by omega)); (try have q2_1_1 : w1.heap.size + 1 < w2.heap.size := (by omega)))
    go_wp2
    (refine bodyPost_ret (by simp [results, Try.results27, go_sem, *]; try rfl) rfl ?_)
    exact ⟨ret_tq HM.out, by (repeat' (first | (with_reducible exact Below.refl _ _) | (with_reducible assumption) | (with_reducible refine Below.alloc ?_ ?_ _) | (with_reducible refine Below.drew ?_) | (with_reducible refine below_drewN ?_ _) | (with_reducible refine Below.setCell ?_ ?_ _) | (with_reducible refine below_call ?_ ?_ (by assumption)) | go_size))⟩
theorem dir_mod (n : Nat) (h : n ≤ 4) : ((n : Int).tmod 2 = 0 ∧ n % 2 = 0) ∨ ((n : Int).tmod 2 = 1 ∧ n % 2 = 1) := by
  match n, h with
  | 0, _ => decide
  | 1, _ => decide
  | 2, _ => decide
  | 3, _ => decide
  | 4, _ => decide
set_option maxHeartbeats 400000 in
theorem directionOf_any (a : Option Addr) (c : Nat) (L : List (Int × Int)) (hl : L.length ≤ 4) (w : World) :
    Calls Try.prog 72 #[.slice a L.length c] w fun e w' => e = .returned (.int .i64 (dirT L)) ∧ w = w' := by
  rcases dir_mod L.length hl with ⟨e, e'⟩ | ⟨e, e'⟩
  · have HM := Lib.hid (show (1 : Int) = dirT L from by simp [dirT, e'])
    (go_enter Try.func72, Try.ntmps72)
    go_wp2
    go_ret
    exact ⟨ret_int HM.out, rfl⟩
  · have HM := Lib.hid (show (-1 : Int) = dirT L from by simp [dirT, e'])
    (go_enter Try.func72, Try.ntmps72)
    go_wp2
    go_ret
    exact ⟨ret_int HM.out, rfl⟩
set_option maxHeartbeats 400000 in
theorem geDirection_any (a : Option Addr) (c : Nat) (L : List (Int × Int)) (hl : L.length ≤ 4) (w : World) :
    Calls Try.prog 67 #[.slice a L.length c] w fun e w' => e = .returned (.int .i64 (dirT L)) ∧ w = w' := by
  rcases dir_mod L.length hl with ⟨e, e'⟩ | ⟨e, e'⟩
  · have HM := Lib.hid (show (1 : Int) = dirT L from by simp [dirT, e'])
    (go_enter Try.func67, Try.ntmps67)
    go_wp2
    go_ret
    exact ⟨ret_int (by rw [← HM.out]), rfl⟩
  · have HM := Lib.hid (show (-1 : Int) = dirT L from by simp [dirT, e'])
    (go_enter Try.func67, Try.ntmps67)
    go_wp2
    go_ret
    exact ⟨ret_int (by rw [← HM.out]), rfl⟩
set_option maxHeartbeats 400000 in
theorem implDirectionOf_any (a : Option Addr) (c : Nat) (L : List (Int × Int)) (w : World) (hin : PIn w a L) (hm : L.length ≤ maxLen) :
    Calls Try.prog 32 #[.slice a L.length c] w fun e w' => e = .returned (iv (dirR L)) ∧ Below w.heap.size w w' := by
  have X1 := Lib.hid hin
  clear hin
  cases ht : trainB L
  · have HM := Lib.hid (show (0, false) = dirR L from by simp [dirR, ht])
    (go_enter Try.func32, Try.ntmps32)
    go_wp2_with fail
    refine (implIsTrain_is a c L ht _ X1.out hm).mono ?_
    (rintro e1 w1 ⟨rfl, hb1⟩; obtain ⟨hc1, hf1⟩ := bcell hb1; have hz1 := hb1.size; (try simp only [World.size_alloc, World.size_setCell, World.size_drew] at hz1); have q1 : w.heap.size ≤ w1.heap.size := (by omega); (try have q1_0 : w.heap.size < w1.heap.size := (by omega)); (try have q1_1 : w.heap.size + 1 < w1.heap.size := (by omega)); (try have q1_2 : w.heap.size + 2 < w1.heap.size := (by omega)); (try have q1_3 : w.heap.size + 3 < w1.heap.size := (by omega)))
    go_wp2
    go_ret2
    exact ⟨ret_iv HM.out, by (repeat' (first | (with_reducible exact Below.refl _ _) | (with_reducible assumption) | (with_reducible refine Below.alloc ?_ ?_ _) | (with_reducible refine Below.drew ?_) | (with_reducible refine below_drewN ?_ _) | (with_reducible refine Below.setCell ?_ ?_ _) | (with_reducible refine below_call ?_ ?_ (by assumption)) | go_size))⟩
  · have HM := Lib.hid (show (dirT L, true) = dirR L from by simp [dirR, ht])
    have h4 := (trainB_bd ht).1
    (go_enter Try.func32, Try.ntmps32)
    go_wp2_with fail
    refine (implIsTrain_is a c L ht _ X1.out hm).mono ?_
    (rintro e1 w1 ⟨rfl, hb1⟩; obtain ⟨hc1, hf1⟩ := bcell hb1; have hz1 := hb1.size; (try simp only [World.size_alloc, World.size_setCell, World.size_drew] at hz1); have q1 : w.heap.size ≤ w1.heap.size := (by omega); (try have q1_0 : w.heap.size < w1.heap.size := (by omega)); (try have q1_1 : w.heap.size + 1 < w1.heap.size := (by omega)); (try have q1_2 : w.heap.size + 2 < w1.heap.size := (by omega)); (try have q1_3 : w.heap.size + 3 < w1.heap.size := (by omega)))
    go_wp2_with fail
    refine (directionOf_any a c L h4 _).mono ?_
    rintro e2 w2 ⟨rfl, rfl⟩
    go_wp2
    go_ret2
    exact ⟨ret_iv HM.out, by (repeat' (first | (with_reducible exact Below.refl _ _) | (with_reducible assumption) | (with_reducible refine Below.alloc ?_ ?_ _) | (with_reducible refine Below.drew ?_) | (with_reducible refine below_drewN ?_ _) | (with_reducible refine Below.setCell ?_ ?_ _) | (with_reducible refine below_call ?_ ?_ (by assumption)) | go_size))⟩
set_option maxHeartbeats 400000 in
theorem specDirectionOf_any (a : Option Addr) (c : Nat) (L : List (Int × Int)) (w : World) (hin : PIn w a L) (hm : L.length ≤ maxLen) :
    Calls Try.prog 31 #[.slice a L.length c] w fun e w' => e = .returned (iv (dirR L)) ∧ Below w.heap.size w w' := by
  have X1 := Lib.hid hin
  clear hin
  cases ht : trainB L
  · have HM := Lib.hid (show (0, false) = dirR L from by simp [dirR, ht])
    (go_enter Try.func31, Try.ntmps31)
    go_wp2_with fail
    refine (geTrain_is a c L ht _ X1.out hm).mono ?_
    (rintro e1 w1 ⟨rfl, hb1⟩; obtain ⟨hc1, hf1⟩ := bcell hb1; have hz1 := hb1.size; (try simp only [World.size_alloc, World.size_setCell, World.size_drew] at hz1); have q1 : w.heap.size ≤ w1.heap.size := (by omega); (try have q1_0 : w.heap.size < w1.heap.size := (by omega)); (try have q1_1 : w.heap.size + 1 < w1.heap.size := (by omega)); (try have q1_2 : w.heap.size + 2 < w1.heap.size := (by omega)); (try have q1_3 : w.heap.size + 3 < w1.heap.size := (by omega)))
    go_wp2
    go_ret2
    exact ⟨ret_iv HM.out, by (repeat' (first | (with_reducible exact Below.refl _ _) | (with_reducible assumption) | (with_reducible refine Below.alloc ?_ ?_ _) | (with_reducible refine Below.drew ?_) | (with_reducible refine below_drewN ?_ _) | (with_reducible refine Below.setCell ?_ ?_ _) | (with_reducible refine below_call ?_ ?_ (by assumption)) | go_size))⟩
  · have HM := Lib.hid (show (dirT L, true) = dirR L from by simp [dirR, ht])
    have h4 := (trainB_bd ht).1
    (go_enter Try.func31, Try.ntmps31)
    go_wp2_with fail
    refine (geTrain_is a c L ht _ X1.out hm).mono ?_
    (rintro e1 w1 ⟨rfl, hb1⟩; obtain ⟨hc1, hf1⟩ := bcell hb1; have hz1 := hb1.size; (try simp only [World.size_alloc, World.size_setCell, World.size_drew] at hz1); have q1 : w.heap.size ≤ w1.heap.size := (by omega); (try have q1_0 : w.heap.size < w1.heap.size := (by omega)); (try have q1_1 : w.heap.size + 1 < w1.heap.size := (by omega)); (try have q1_2 : w.heap.size + 2 < w1.heap.size := (by omega)); (try have q1_3 : w.heap.size + 3 < w1.heap.size := (by omega)))
    go_wp2_with fail
    refine (geDirection_any a c L h4 _).mono ?_
    rintro e2 w2 ⟨rfl, rfl⟩
    go_wp2
    go_ret2
    exact ⟨ret_iv HM.out, by (repeat' (first | (with_reducible exact Below.refl _ _) | (with_reducible assumption) | (with_reducible refine Below.alloc ?_ ?_ _) | (with_reducible refine Below.drew ?_) | (with_reducible refine below_drewN ?_ _) | (with_reducible refine Below.setCell ?_ ?_ _) | (with_reducible refine below_call ?_ ?_ (by assumption)) | go_size))⟩
set_option maxHeartbeats 400000 in
theorem spanOrder_any (an ad bn bd : Int) (ga : (1 ≤ an ∧ an ≤ 1000000000) ∧ 1 ≤ ad ∧ ad ≤ 1000000000) (gb : (1 ≤ bn ∧ bn ≤ 1000000000) ∧ 1 ≤ bd ∧ bd ≤ 1000000000) (w : World) :
    Calls Try.prog 88 #[tv an ad, tv bn bd] w fun e w' => e = .returned (.int .i64 (sg (an * bd - bn * ad))) ∧ Below w.heap.size w w' := by
  obtain ⟨⟨a3, a4⟩, a1, a2⟩ := ga
  obtain ⟨⟨b3, b4⟩, b1, b2⟩ := gb
  obtain ⟨p1, p2⟩ := mulb (show 0 ≤ an by omega) a4 (show 0 ≤ bd by omega) b2
  obtain ⟨p3, p4⟩ := mulb (show 0 ≤ bn by omega) b4 (show 0 ≤ ad by omega) a2
  (go_enter Try.func88, Try.ntmps88)
  go_wp2_with fail
  refine (cmpCompare_any (an * bd) (bn * ad) _).mono ?_
  (rintro e1 w1 ⟨rfl, rfl⟩)
  go_wp2
  go_ret
  exact ⟨rfl, by (repeat' (first | (with_reducible exact Below.refl _ _) | (with_reducible assumption) | (with_reducible refine Below.alloc ?_ ?_ _) | (with_reducible refine Below.drew ?_) | (with_reducible refine below_drewN ?_ _) | (with_reducible refine Below.setCell ?_ ?_ _) | (with_reducible refine below_call ?_ ?_ (by assumption)) | go_size))⟩
set_option maxHeartbeats 800000 in
theorem implCompareRatios_any (a : Option Addr) (c : Nat) (L : List (Int × Int)) (a2 : Option Addr) (c2 : Nat) (M : List (Int × Int)) (w : World) (hin : PIn w a L) (hm : L.length ≤ maxLen) (hin2 : PIn w a2 M) (hm2 : M.length ≤ maxLen) :
    Calls Try.prog 60 #[.slice a L.length c, .slice a2 M.length c2] w fun e w' => e = .returned (iv (cmpR L M)) ∧ Below w.heap.size w w' := by
  have X1 := Lib.hid hin
  have X2 := Lib.hid hin2
  clear hin hin2
  cases ht : trainB L
  · have HM := Lib.hid (show (0, false) = cmpR L M from by simp [cmpR, ht])
    (go_enter Try.func60, Try.ntmps60)
    go_wp2_with fail
    refine (implIsTrain_is a c L ht _ X1.out hm).mono ?_
    (rintro e1 w1 ⟨rfl, hb1⟩; obtain ⟨hc1, hf1⟩ := bcell hb1; have hz1 := hb1.size; (try simp only [World.size_alloc, World.size_setCell, World.size_drew] at hz1); have q1 : w.heap.size ≤ w1.heap.size := (by omega); (try have q1_0 : w.heap.size < w1.heap.size := (by omega)); (try have q1_1 : w.heap.size + 1 < w1.heap.size := (by omega)); (try have q1_2 : w.heap.size + 2 < w1.heap.size := (by omega)); (try have q1_3 : w.heap.size + 3 < w1.heap.size := (by omega)))
    go_wp2
    go_ret2
    exact ⟨ret_iv HM.out, by (repeat' (first | (with_reducible exact Below.refl _ _) | (with_reducible assumption) | (with_reducible refine Below.alloc ?_ ?_ _) | (with_reducible refine Below.drew ?_) | (with_reducible refine below_drewN ?_ _) | (with_reducible refine Below.setCell ?_ ?_ _) | (with_reducible refine below_call ?_ ?_ (by assumption)) | go_size))⟩
  · cases hs : trainB M
    · have HM := Lib.hid (show (0, false) = cmpR L M from by simp [cmpR, ht, hs])
      (go_enter Try.func60, Try.ntmps60)
      go_wp2_with fail
      refine (implIsTrain_is a c L ht _ X1.out hm).mono ?_
      (rintro e1 w1 ⟨rfl, hb1⟩; obtain ⟨hc1, hf1⟩ := bcell hb1; have hz1 := hb1.size; (try simp only [World.size_alloc, World.size_setCell, World.size_drew] at hz1); have q1 : w.heap.size ≤ w1.heap.size := (by omega); (try have q1_0 : w.heap.size < w1.heap.size := (by omega)); (try have q1_1 : w.heap.size + 1 < w1.heap.size := (by omega)); (try have q1_2 : w.heap.size + 2 < w1.heap.size := (by omega)); (try have q1_3 : w.heap.size + 3 < w1.heap.size := (by omega)))
      go_wp2_with fail
      refine (implIsTrain_is a2 c2 M hs _ (X2.out.below hb1) hm2).mono ?_
      (rintro e2 w2 ⟨rfl, hb2⟩; obtain ⟨hc2, hf2⟩ := bcell hb2; have hz2 := hb2.size; (try simp only [World.size_alloc, World.size_setCell, World.size_drew] at hz2); have q2 : w.heap.size ≤ w2.heap.size := (by omega); (try have q2_0 : w.heap.size < w2.heap.size := (by omega)); (try have q2_1 : w.heap.size + 1 < w2.heap.size := (by omega)); (try have q2_2 : w.heap.size + 2 < w2.heap.size := (by omega)); (try have q2_3 : w.heap.size + 3 < w2.heap.size := (by omega)); (try have q2_1_0 : w1.heap.size < w2.heap.size := (by omega)); (try have q2_1_1 : w1.heap.size + 1 < w2.heap.size := (by omega)))
      go_wp2
      go_ret2
      exact ⟨ret_iv HM.out, by (repeat' (first | (with_reducible exact Below.refl _ _) | (with_reducible assumption) | (with_reducible refine Below.alloc ?_ ?_ _) | (with_reducible refine Below.drew ?_) | (with_reducible refine below_drewN ?_ _) | (with_reducible refine Below.setCell ?_ ?_ _) | (with_reducible refine below_call ?_ ?_ (by assumption)) | go_size))⟩
    · have HM := Lib.hid (show (_, true) = cmpR L M from by simp only [cmpR, ht, hs, Bool.and_self, if_true]; rfl)
      have B1 := rt_bd ht
      have B2 := rt_bd hs
      (go_enter Try.func60, Try.ntmps60)
      go_wp2_with fail
      refine (implIsTrain_is a c L ht _ X1.out hm).mono ?_
      (rintro e1 w1 ⟨rfl, hb1⟩; obtain ⟨hc1, hf1⟩ := bcell hb1; have hz1 := hb1.size; (try simp only [World.size_alloc, World.size_setCell, World.size_drew] at hz1); have q1 : w.heap.size ≤ w1.heap.size := (by omega); (try have q1_0 : w.heap.size < w1.heap.size := (by omega)); (try have q1_1 : w.heap.size + 1 < w1.heap.size := (by omega)); (try have q1_2 : w.heap.size + 2 < w1.heap.size := (by omega)); (try have q1_3 : w.heap.size + 3 < w1.heap.size := (by omega)))
      go_wp2_with fail
      refine (implIsTrain_is a2 c2 M hs _ (X2.out.below hb1) hm2).mono ?_
      (rintro e2 w2 ⟨rfl, hb2⟩; obtain ⟨hc2, hf2⟩ := bcell hb2; have hz2 := hb2.size; (try simp only [World.size_alloc, World.size_setCell, World.size_drew] at hz2); have q2 : w.heap.size ≤ w2.heap.size := (by omega); (try have q2_0 : w.heap.size < w2.heap.size := (by omega)); (try have q2_1 : w.heap.size + 1 < w2.heap.size := (by omega)); (try have q2_2 : w.heap.size + 2 < w2.heap.size := (by omega)); (try have q2_3 : w.heap.size + 3 < w2.heap.size := (by omega)); (try have q2_1_0 : w1.heap.size < w2.heap.size := (by omega)); (try have q2_1_1 : w1.heap.size + 1 < w2.heap.size := (by omega)))
      go_wp2_with fail
      refine (ratioOf_any a c L ht _ ((X1.out.below hb1).below hb2)).mono ?_
      (rintro e3 w3 ⟨rfl, hb3⟩; obtain ⟨hc3, hf3⟩ := bcell hb3; have hz3 := hb3.size; (try simp only [World.size_alloc, World.size_setCell, World.size_drew] at hz3); have q3 : w.heap.size ≤ w3.heap.size := (by omega); (try have q3_0 : w.heap.size < w3.heap.size := (by omega)); (try have q3_1 : w.heap.size + 1 < w3.heap.size := (by omega)); (try have q3_2 : w.heap.size + 2 < w3.heap.size := (by omega)); (try have q3_3 : w.heap.size + 3 < w3.heap.size := (by omega)); (try have q3_1_0 : w1.heap.size < w3.heap.size := (by omega)); (try have q3_1_1 : w1.heap.size + 1 < w3.heap.size := (by omega)); (try have q3_2_0 : w2.heap.size < w3.heap.size := (by omega)); (try have q3_2_1 : w2.heap.size + 1 < w3.heap.size := (by omega)))
      go_wp2_with fail
      refine (ratioOf_any a2 c2 M hs _ (((X2.out.below hb1).below hb2).below hb3)).mono ?_
      (rintro e4 w4 ⟨rfl, hb4⟩; obtain ⟨hc4, hf4⟩ := bcell hb4; have hz4 := hb4.size; (try simp only [World.size_alloc, World.size_setCell, World.size_drew] at hz4); have q4 : w.heap.size ≤ w4.heap.size := (by omega); (try have q4_0 : w.heap.size < w4.heap.size := (by omega)); (try have q4_1 : w.heap.size + 1 < w4.heap.size := (by omega)); (try have q4_2 : w.heap.size + 2 < w4.heap.size := (by omega)); (try have q4_3 : w.heap.size + 3 < w4.heap.size := (by omega)); (try have q4_1_0 : w1.heap.size < w4.heap.size := (by omega)); (try have q4_1_1 : w1.heap.size + 1 < w4.heap.size := (by omega)); (try have q4_2_0 : w2.heap.size < w4.heap.size := (by omega)); (try have q4_2_1 : w2.heap.size + 1 < w4.heap.size := (by omega)); (try have q4_3_0 : w3.heap.size < w4.heap.size := (by omega)); (try have q4_3_1 : w3.heap.size + 1 < w4.heap.size := (by omega)))
      go_wp2_with fail
      refine (spanOrder_any _ _ _ _ ⟨⟨by omega, by omega⟩, by omega, by omega⟩ ⟨⟨by omega, by omega⟩, by omega, by omega⟩ _).mono ?_
      (rintro e5 w5 ⟨rfl, hb5⟩; obtain ⟨hc5, hf5⟩ := bcell hb5; have hz5 := hb5.size; (try simp only [World.size_alloc, World.size_setCell, World.size_drew] at hz5); have q5 : w.heap.size ≤ w5.heap.size := (by omega); (try have q5_0 : w.heap.size < w5.heap.size := (by omega)); (try have q5_1 : w.heap.size + 1 < w5.heap.size := (by omega)); (try have q5_2 : w.heap.size + 2 < w5.heap.size := (by omega)); (try have q5_3 : w.heap.size + 3 < w5.heap.size := (by omega)); (try have q5_1_0 : w1.heap.size < w5.heap.size := (by omega)); (try have q5_1_1 : w1.heap.size + 1 < w5.heap.size := (by omega)); (try have q5_2_0 : w2.heap.size < w5.heap.size := (by omega)); (try have q5_2_1 : w2.heap.size + 1 < w5.heap.size := (by omega)); (try have q5_3_0 : w3.heap.size < w5.heap.size := (by omega)); (try have q5_3_1 : w3.heap.size + 1 < w5.heap.size := (by omega)); (try have q5_4_0 : w4.heap.size < w5.heap.size := (by omega)); (try have q5_4_1 : w4.heap.size + 1 < w5.heap.size := (by omega)))
      go_wp2
      go_ret2
      exact ⟨ret_iv HM.out, by (repeat' (first | (with_reducible exact Below.refl _ _) | (with_reducible assumption) | (with_reducible refine Below.alloc ?_ ?_ _) | (with_reducible refine Below.drew ?_) | (with_reducible refine below_drewN ?_ _) | (with_reducible refine Below.setCell ?_ ?_ _) | (with_reducible refine below_call ?_ ?_ (by assumption)) | go_size))⟩
set_option maxHeartbeats 800000 in
theorem specCompareRatios_any (a : Option Addr) (c : Nat) (L : List (Int × Int)) (a2 : Option Addr) (c2 : Nat) (M : List (Int × Int)) (w : World) (hin : PIn w a L) (hm : L.length ≤ maxLen) (hin2 : PIn w a2 M) (hm2 : M.length ≤ maxLen) :
    Calls Try.prog 59 #[.slice a L.length c, .slice a2 M.length c2] w fun e w' => e = .returned (iv (cmpR L M)) ∧ Below w.heap.size w w' := by
  have X1 := Lib.hid hin
  have X2 := Lib.hid hin2
  clear hin hin2
  cases ht : trainB L
  · have HM := Lib.hid (show (0, false) = cmpR L M from by simp [cmpR, ht])
    (go_enter Try.func59, Try.ntmps59)
    go_wp2_with fail
    refine (geTrain_is a c L ht _ X1.out hm).mono ?_
    (rintro e1 w1 ⟨rfl, hb1⟩; obtain ⟨hc1, hf1⟩ := bcell hb1; have hz1 := hb1.size; (try simp only [World.size_alloc, World.size_setCell, World.size_drew] at hz1); have q1 : w.heap.size ≤ w1.heap.size := (by omega); (try have q1_0 : w.heap.size < w1.heap.size := (by omega)); (try have q1_1 : w.heap.size + 1 < w1.heap.size := (by omega)); (try have q1_2 : w.heap.size + 2 < w1.heap.size := (by omega)); (try have q1_3 : w.heap.size + 3 < w1.heap.size := (by omega)))
    go_wp2
    go_ret2
    exact ⟨ret_iv HM.out, by (repeat' (first | (with_reducible exact Below.refl _ _) | (with_reducible assumption) | (with_reducible refine Below.alloc ?_ ?_ _) | (with_reducible refine Below.drew ?_) | (with_reducible refine below_drewN ?_ _) | (with_reducible refine Below.setCell ?_ ?_ _) | (with_reducible refine below_call ?_ ?_ (by assumption)) | go_size))⟩
  · cases hs : trainB M
    · have HM := Lib.hid (show (0, false) = cmpR L M from by simp [cmpR, ht, hs])
      (go_enter Try.func59, Try.ntmps59)
      go_wp2_with fail
      refine (geTrain_is a c L ht _ X1.out hm).mono ?_
      (rintro e1 w1 ⟨rfl, hb1⟩; obtain ⟨hc1, hf1⟩ := bcell hb1; have hz1 := hb1.size; (try simp only [World.size_alloc, World.size_setCell, World.size_drew] at hz1); have q1 : w.heap.size ≤ w1.heap.size := (by omega); (try have q1_0 : w.heap.size < w1.heap.size := (by omega)); (try have q1_1 : w.heap.size + 1 < w1.heap.size := (by omega)); (try have q1_2 : w.heap.size + 2 < w1.heap.size := (by omega)); (try have q1_3 : w.heap.size + 3 < w1.heap.size := (by omega)))
      go_wp2_with fail
      refine (geTrain_is a2 c2 M hs _ (X2.out.below hb1) hm2).mono ?_
      (rintro e2 w2 ⟨rfl, hb2⟩; obtain ⟨hc2, hf2⟩ := bcell hb2; have hz2 := hb2.size; (try simp only [World.size_alloc, World.size_setCell, World.size_drew] at hz2); have q2 : w.heap.size ≤ w2.heap.size := (by omega); (try have q2_0 : w.heap.size < w2.heap.size := (by omega)); (try have q2_1 : w.heap.size + 1 < w2.heap.size := (by omega)); (try have q2_2 : w.heap.size + 2 < w2.heap.size := (by omega)); (try have q2_3 : w.heap.size + 3 < w2.heap.size := (by omega)); (try have q2_1_0 : w1.heap.size < w2.heap.size := (by omega)); (try have q2_1_1 : w1.heap.size + 1 < w2.heap.size := (by omega)))
      go_wp2
      go_ret2
      exact ⟨ret_iv HM.out, by (repeat' (first | (with_reducible exact Below.refl _ _) | (with_reducible assumption) | (with_reducible refine Below.alloc ?_ ?_ _) | (with_reducible refine Below.drew ?_) | (with_reducible refine below_drewN ?_ _) | (with_reducible refine Below.setCell ?_ ?_ _) | (with_reducible refine below_call ?_ ?_ (by assumption)) | go_size))⟩
    · have HM := Lib.hid (show (_, true) = cmpR L M from by simp only [cmpR, ht, hs, Bool.and_self, if_true]; rfl)
      obtain ⟨⟨s1, s2⟩, s3, s4⟩ := rt_bd ht
      obtain ⟨⟨t1, t2⟩, t3, t4⟩ := rt_bd hs
      have C1 := fun w hi => geRatio_any a c L ht w hi
      have C2 := fun w hi => geRatio_any a2 c2 M hs w hi
      have C1 := Lib.hid C1
      have C2 := Lib.hid C2
      generalize spN (numT L) (denT L) = p at *
      generalize spD (numT L) (denT L) = q at *
      generalize spN (numT M) (denT M) = r at *
      generalize spD (numT M) (denT M) = s at *
      obtain ⟨p1, p2⟩ := mulb (show 0 ≤ p by omega) s2 (show 0 ≤ s by omega) t4
      obtain ⟨p3, p4⟩ := mulb (show 0 ≤ r by omega) t2 (show 0 ≤ q by omega) s4
      (go_enter Try.func59, Try.ntmps59)
      go_wp2_with fail
      refine (geTrain_is a c L ht _ X1.out hm).mono ?_
      (rintro e1 w1 ⟨rfl, hb1⟩; obtain ⟨hc1, hf1⟩ := bcell hb1; have hz1 := hb1.size; (try simp only [World.size_alloc, World.size_setCell, World.size_drew] at hz1); have q1 : w.heap.size ≤ w1.heap.size := (by omega); (try have q1_0 : w.heap.size < w1.heap.size := (by omega)); (try have q1_1 : w.heap.size + 1 < w1.heap.size := (by omega)); (try have q1_2 : w.heap.size + 2 < w1.heap.size := (by omega)); (try have q1_3 : w.heap.size + 3 < w1.heap.size := (by omega)))
      go_wp2_with fail
      refine (geTrain_is a2 c2 M hs _ (X2.out.below hb1) hm2).mono ?_
      (rintro e2 w2 ⟨rfl, hb2⟩; obtain ⟨hc2, hf2⟩ := bcell hb2; have hz2 := hb2.size; (try simp only [World.size_alloc, World.size_setCell, World.size_drew] at hz2); have q2 : w.heap.size ≤ w2.heap.size := (by omega); (try have q2_0 : w.heap.size < w2.heap.size := (by omega)); (try have q2_1 : w.heap.size + 1 < w2.heap.size := (by omega)); (try have q2_2 : w.heap.size + 2 < w2.heap.size := (by omega)); (try have q2_3 : w.heap.size + 3 < w2.heap.size := (by omega)); (try have q2_1_0 : w1.heap.size < w2.heap.size := (by omega)); (try have q2_1_1 : w1.heap.size + 1 < w2.heap.size := (by omega)))
      go_wp2_with fail
      refine (C1.out _ ((X1.out.below hb1).below hb2)).mono ?_
      (rintro e3 w3 ⟨rfl, hb3⟩; obtain ⟨hc3, hf3⟩ := bcell hb3; have hz3 := hb3.size; (try simp only [World.size_alloc, World.size_setCell, World.size_drew] at hz3); have q3 : w.heap.size ≤ w3.heap.size := (by omega); (try have q3_0 : w.heap.size < w3.heap.size := (by omega)); (try have q3_1 : w.heap.size + 1 < w3.heap.size := (by omega)); (try have q3_2 : w.heap.size + 2 < w3.heap.size := (by omega)); (try have q3_3 : w.heap.size + 3 < w3.heap.size := (by omega)); (try have q3_1_0 : w1.heap.size < w3.heap.size := (by omega)); (try have q3_1_1 : w1.heap.size + 1 < w3.heap.size := (by omega)); (try have q3_2_0 : w2.heap.size < w3.heap.size := (by omega)); (try have q3_2_1 : w2.heap.size + 1 < w3.heap.size := (by omega)))
      go_wp2_with fail
      refine (C2.out _ (((X2.out.below hb1).below hb2).below hb3)).mono ?_
      (rintro e4 w4 ⟨rfl, hb4⟩; obtain ⟨hc4, hf4⟩ := bcell hb4; have hz4 := hb4.size; (try simp only [World.size_alloc, World.size_setCell, World.size_drew] at hz4); have q4 : w.heap.size ≤ w4.heap.size := (by omega); (try have q4_0 : w.heap.size < w4.heap.size := (by omega)); (try have q4_1 : w.heap.size + 1 < w4.heap.size := (by omega)); (try have q4_2 : w.heap.size + 2 < w4.heap.size := (by omega)); (try have q4_3 : w.heap.size + 3 < w4.heap.size := (by omega)); (try have q4_1_0 : w1.heap.size < w4.heap.size := (by omega)); (try have q4_1_1 : w1.heap.size + 1 < w4.heap.size := (by omega)); (try have q4_2_0 : w2.heap.size < w4.heap.size := (by omega)); (try have q4_2_1 : w2.heap.size + 1 < w4.heap.size := (by omega)); (try have q4_3_0 : w3.heap.size < w4.heap.size := (by omega)); (try have q4_3_1 : w3.heap.size + 1 < w4.heap.size := (by omega)))
      go_wp2_with fail
      refine (l1Sign_any (p * s - r * q) _).mono ?_
      (rintro e1 w1 ⟨rfl, rfl⟩)
      go_wp2
      go_ret2
      exact ⟨ret_iv HM.out, by (repeat' (first | (with_reducible exact Below.refl _ _) | (with_reducible assumption) | (with_reducible refine Below.alloc ?_ ?_ _) | (with_reducible refine Below.drew ?_) | (with_reducible refine below_drewN ?_ _) | (with_reducible refine Below.setCell ?_ ?_ _) | (with_reducible refine below_call ?_ ?_ (by assumption)) | go_size))⟩
end Go.Proofs.Ytaifcemdabcfjaa
