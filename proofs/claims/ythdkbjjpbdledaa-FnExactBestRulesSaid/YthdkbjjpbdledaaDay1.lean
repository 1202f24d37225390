/- Leap rules and their years: by the program and by the model. -/
import Derived.Test.YthdkbjjpbdledaaDayM
set_option linter.unusedSimpArgs false
set_option linter.unusedVariables false
set_option maxRecDepth 100000
namespace Go.Proofs.Ythdkbjjpbdledaa
open Go.RowKit

def gmB (n k : Int) : Bool := decide (k + 1 ≤ n ∧ n ≤ 10000 ∧ n % k = 0)
set_option maxHeartbeats 800000 in
theorem isGM_any (n k : Int) (hk : 1 ≤ k ∧ k ≤ 10000) (w : World) :
    Calls Try.prog 76 #[.int .i64 n, .int .i64 k] w fun e' w' => e' = .returned (.bool (gmB n k)) ∧ Below w.heap.size w w' := by
  obtain ⟨k1, k2⟩ := hk
  have hw := dw64 (n := k + 1) (by omega)
  cases g1 : inB n (k + 1) 10000
  · have g2 := inBn g1
    have HM := Lib.hid (show false = gmB n k from by unfold gmB; first | (refine (decide_eq_true ?_).symm; omega) | (refine (decide_eq_false ?_).symm; omega))
    (go_enter Try.func76, Try.ntmps76)
    go_wp2_with fail
    refine (isWithin_is _ _ _ g1 _).mono ?_
    (rintro e1 w1 ⟨rfl, rfl⟩)
    go_wp2
    go_ret
    exact ⟨dret_bool HM.out, by (repeat' (first | (with_reducible exact Below.refl _ _) | (with_reducible assumption) | (with_reducible refine Below.alloc ?_ ?_ _) | (with_reducible refine Below.drew ?_) | (with_reducible refine below_drewN ?_ _) | (with_reducible refine Below.setCell ?_ ?_ _) | (with_reducible refine below_call ?_ ?_ (by assumption)) | go_size))⟩
  · obtain ⟨n1, n2⟩ := inBd g1
    have ht := dt64 (n := n) (g := k) (by omega) (by omega) (by omega)
    by_cases c : n % k = 0
    · have HM := Lib.hid (show true = gmB n k from by unfold gmB; first | (refine (decide_eq_true ?_).symm; omega) | (refine (decide_eq_false ?_).symm; omega))
      (go_enter Try.func76, Try.ntmps76)
      go_wp2_with fail
      refine (isWithin_is _ _ _ g1 _).mono ?_
      (rintro e1 w1 ⟨rfl, rfl⟩)
      go_wp2
      go_ret
      exact ⟨dret_bool HM.out, by (repeat' (first | (with_reducible exact Below.refl _ _) | (with_reducible assumption) | (with_reducible refine Below.alloc ?_ ?_ _) | (with_reducible refine Below.drew ?_) | (with_reducible refine below_drewN ?_ _) | (with_reducible refine Below.setCell ?_ ?_ _) | (with_reducible refine below_call ?_ ?_ (by assumption)) | go_size))⟩
    · have c' : (n % k == 0) = false := by simpa using c
      have HM := Lib.hid (show false = gmB n k from by unfold gmB; first | (refine (decide_eq_true ?_).symm; omega) | (refine (decide_eq_false ?_).symm; omega))
      (go_enter Try.func76, Try.ntmps76)
      go_wp2_with fail
      refine (isWithin_is _ _ _ g1 _).mono ?_
      (rintro e1 w1 ⟨rfl, rfl⟩)
      go_wp2
      go_ret
      exact ⟨dret_bool HM.out, by (repeat' (first | (with_reducible exact Below.refl _ _) | (with_reducible assumption) | (with_reducible refine Below.alloc ?_ ?_ _) | (with_reducible refine Below.drew ?_) | (with_reducible refine below_drewN ?_ _) | (with_reducible refine Below.setCell ?_ ?_ _) | (with_reducible refine below_call ?_ ?_ (by assumption)) | go_size))⟩

theorem isGM_is {r : Bool} (n k : Int) (hk : 1 ≤ k ∧ k ≤ 10000) (h : gmB n k = r) (w : World) :
    Calls Try.prog 76 #[.int .i64 n, .int .i64 k] w fun e' w' => e' = .returned (.bool r) ∧ Below w.heap.size w w' := by
  subst h; exact isGM_any n k hk w

theorem gmBd {n k : Int} (h : gmB n k = true) : k + 1 ≤ n ∧ n ≤ 10000 ∧ n % k = 0 := by simpa [gmB] using h
theorem gmBn {n k : Int} (h : gmB n k = false) : ¬ (k + 1 ≤ n ∧ n ≤ 10000 ∧ n % k = 0) := by simpa [gmB] using h
set_option maxHeartbeats 800000 in
theorem isRule_any (e b y : Int) (w : World) :
    Calls Try.prog 27 #[lv e b y] w fun e' w' => e' = .returned (.bool (ruleB e b y)) ∧ Below w.heap.size w w' := by
  cases g1 : inB e 1 10000
  · have f1 := inBn g1
    have HM := Lib.hid (show false = ruleB e b y from by unfold ruleB; first | (refine (decide_eq_true ?_).symm; omega) | (refine (decide_eq_false ?_).symm; omega))
    (go_enter Try.func27, Try.ntmps27)
    go_wp2_with fail
    refine (isWithin_is _ _ _ g1 _).mono ?_
    (rintro e1 w1 ⟨rfl, rfl⟩)
    go_wp2
    go_ret
    exact ⟨dret_bool HM.out, by (repeat' (first | (with_reducible exact Below.refl _ _) | (with_reducible assumption) | (with_reducible refine Below.alloc ?_ ?_ _) | (with_reducible refine Below.drew ?_) | (with_reducible refine below_drewN ?_ _) | (with_reducible refine Below.setCell ?_ ?_ _) | (with_reducible refine below_call ?_ ?_ (by assumption)) | go_size))⟩
  · obtain ⟨e1, e2⟩ := inBd g1
    by_cases c0 : b = 0
    · subst c0
      by_cases c1 : y = 0
      · subst c1
        have HM := Lib.hid (show true = ruleB e 0 0 from by unfold ruleB; first | (refine (decide_eq_true ?_).symm; omega) | (refine (decide_eq_false ?_).symm; omega))
        (go_enter Try.func27, Try.ntmps27)
        go_wp2_with fail
        refine (isWithin_is _ _ _ g1 _).mono ?_
        (rintro e1 w1 ⟨rfl, rfl⟩)
        go_wp2
        go_ret
        exact ⟨dret_bool HM.out, by (repeat' (first | (with_reducible exact Below.refl _ _) | (with_reducible assumption) | (with_reducible refine Below.alloc ?_ ?_ _) | (with_reducible refine Below.drew ?_) | (with_reducible refine below_drewN ?_ _) | (with_reducible refine Below.setCell ?_ ?_ _) | (with_reducible refine below_call ?_ ?_ (by assumption)) | go_size))⟩
      · have c1' : (y == 0) = false := by simpa using c1
        have HM := Lib.hid (show false = ruleB e 0 y from by unfold ruleB; first | (refine (decide_eq_true ?_).symm; omega) | (refine (decide_eq_false ?_).symm; omega))
        (go_enter Try.func27, Try.ntmps27)
        go_wp2_with fail
        refine (isWithin_is _ _ _ g1 _).mono ?_
        (rintro e1 w1 ⟨rfl, rfl⟩)
        go_wp2
        go_ret
        exact ⟨dret_bool HM.out, by (repeat' (first | (with_reducible exact Below.refl _ _) | (with_reducible assumption) | (with_reducible refine Below.alloc ?_ ?_ _) | (with_reducible refine Below.drew ?_) | (with_reducible refine below_drewN ?_ _) | (with_reducible refine Below.setCell ?_ ?_ _) | (with_reducible refine below_call ?_ ?_ (by assumption)) | go_size))⟩
    · have c0' : (b == 0) = false := by simpa using c0
      cases g2 : gmB b e
      · have f2 := gmBn g2
        have HM := Lib.hid (show false = ruleB e b y from by unfold ruleB; first | (refine (decide_eq_true ?_).symm; omega) | (refine (decide_eq_false ?_).symm; omega))
        (go_enter Try.func27, Try.ntmps27)
        go_wp2_with fail
        refine (isWithin_is _ _ _ g1 _).mono ?_
        (rintro e1 w1 ⟨rfl, rfl⟩)
        go_wp2_with fail
        refine (isGM_is b e ⟨e1, e2⟩ g2 _).mono ?_
        (rintro e1 w1 ⟨rfl, hb1⟩; obtain ⟨hc1, hf1⟩ := bcell hb1; have hz1 := hb1.size; (try simp only [World.size_alloc, World.size_setCell, World.size_drew] at hz1); have q1 : w.heap.size ≤ w1.heap.size := (by omega); (try have q1_0 : w.heap.size < w1.heap.size := (by omega)); (try have q1_1 : w.heap.size + 1 < w1.heap.size := (by omega)); (try have q1_2 : w.heap.size + 2 < w1.heap.size := (by omega)); (try have q1_3 : w.heap.size + 3 < w1.heap.size := (by omega)))
        go_wp2
        go_ret
        exact ⟨dret_bool HM.out, by (repeat' (first | (with_reducible exact Below.refl _ _) | (with_reducible assumption) | (with_reducible refine Below.alloc ?_ ?_ _) | (with_reducible refine Below.drew ?_) | (with_reducible refine below_drewN ?_ _) | (with_reducible refine Below.setCell ?_ ?_ _) | (with_reducible refine below_call ?_ ?_ (by assumption)) | go_size))⟩
      · have f2 := gmBd g2
        by_cases c1 : y = 0
        · subst c1
          have HM := Lib.hid (show true = ruleB e b 0 from by unfold ruleB; first | (refine (decide_eq_true ?_).symm; omega) | (refine (decide_eq_false ?_).symm; omega))
          (go_enter Try.func27, Try.ntmps27)
          go_wp2_with fail
          refine (isWithin_is _ _ _ g1 _).mono ?_
          (rintro e1 w1 ⟨rfl, rfl⟩)
          go_wp2_with fail
          refine (isGM_is b e ⟨e1, e2⟩ g2 _).mono ?_
          (rintro e1 w1 ⟨rfl, hb1⟩; obtain ⟨hc1, hf1⟩ := bcell hb1; have hz1 := hb1.size; (try simp only [World.size_alloc, World.size_setCell, World.size_drew] at hz1); have q1 : w.heap.size ≤ w1.heap.size := (by omega); (try have q1_0 : w.heap.size < w1.heap.size := (by omega)); (try have q1_1 : w.heap.size + 1 < w1.heap.size := (by omega)); (try have q1_2 : w.heap.size + 2 < w1.heap.size := (by omega)); (try have q1_3 : w.heap.size + 3 < w1.heap.size := (by omega)))
          go_wp2
          go_ret
          exact ⟨dret_bool HM.out, by (repeat' (first | (with_reducible exact Below.refl _ _) | (with_reducible assumption) | (with_reducible refine Below.alloc ?_ ?_ _) | (with_reducible refine Below.drew ?_) | (with_reducible refine below_drewN ?_ _) | (with_reducible refine Below.setCell ?_ ?_ _) | (with_reducible refine below_call ?_ ?_ (by assumption)) | go_size))⟩
        · have c1' : (y == 0) = false := by simpa using c1
          cases g3 : gmB y b
          · have f3 := gmBn g3
            have HM := Lib.hid (show false = ruleB e b y from by unfold ruleB; first | (refine (decide_eq_true ?_).symm; omega) | (refine (decide_eq_false ?_).symm; omega))
            (go_enter Try.func27, Try.ntmps27)
            go_wp2_with fail
            refine (isWithin_is _ _ _ g1 _).mono ?_
            (rintro e1 w1 ⟨rfl, rfl⟩)
            go_wp2_with fail
            refine (isGM_is b e ⟨e1, e2⟩ g2 _).mono ?_
            (rintro e1 w1 ⟨rfl, hb1⟩; obtain ⟨hc1, hf1⟩ := bcell hb1; have hz1 := hb1.size; (try simp only [World.size_alloc, World.size_setCell, World.size_drew] at hz1); have q1 : w.heap.size ≤ w1.heap.size := (by omega); (try have q1_0 : w.heap.size < w1.heap.size := (by omega)); (try have q1_1 : w.heap.size + 1 < w1.heap.size := (by omega)); (try have q1_2 : w.heap.size + 2 < w1.heap.size := (by omega)); (try have q1_3 : w.heap.size + 3 < w1.heap.size := (by omega)))
            go_wp2_with fail
            refine (isGM_is y b (by omega) g3 _).mono ?_
            (rintro e2 w2 ⟨rfl, hb2⟩; obtain ⟨hc2, hf2⟩ := bcell hb2; have hz2 := hb2.size; (try simp only [World.size_alloc, World.size_setCell, World.size_drew] at hz2); have q2 : w.heap.size ≤ w2.heap.size := (by omega); (try have q2_0 : w.heap.size < w2.heap.size := (by omega)); (try have q2_1 : w.heap.size + 1 < w2.heap.size := (by omega)); (try have q2_2 : w.heap.size + 2 < w2.heap.size := (by omega)); (try have q2_3 : w.heap.size + 3 < w2.heap.size := (by omega)); (try have q2_1_0 : w1.heap.size < w2.heap.size := (by omega)); (try have q2_1_1 : w1.heap.size + 1 < w2.heap.size := (by omega)))
            go_wp2
            go_ret
            exact ⟨dret_bool HM.out, by (repeat' (first | (with_reducible exact Below.refl _ _) | (with_reducible assumption) | (with_reducible refine Below.alloc ?_ ?_ _) | (with_reducible refine Below.drew ?_) | (with_reducible refine below_drewN ?_ _) | (with_reducible refine Below.setCell ?_ ?_ _) | (with_reducible refine below_call ?_ ?_ (by assumption)) | go_size))⟩
          · have f3 := gmBd g3
            have HM := Lib.hid (show true = ruleB e b y from by unfold ruleB; first | (refine (decide_eq_true ?_).symm; omega) | (refine (decide_eq_false ?_).symm; omega))
            (go_enter Try.func27, Try.ntmps27)
            go_wp2_with fail
            refine (isWithin_is _ _ _ g1 _).mono ?_
            (rintro e1 w1 ⟨rfl, rfl⟩)
            go_wp2_with fail
            refine (isGM_is b e ⟨e1, e2⟩ g2 _).mono ?_
            (rintro e1 w1 ⟨rfl, hb1⟩; obtain ⟨hc1, hf1⟩ := bcell hb1; have hz1 := hb1.size; (try simp only [World.size_alloc, World.size_setCell, World.size_drew] at hz1); have q1 : w.heap.size ≤ w1.heap.size := (by omega); (try have q1_0 : w.heap.size < w1.heap.size := (by omega)); (try have q1_1 : w.heap.size + 1 < w1.heap.size := (by omega)); (try have q1_2 : w.heap.size + 2 < w1.heap.size := (by omega)); (try have q1_3 : w.heap.size + 3 < w1.heap.size := (by omega)))
            go_wp2_with fail
            refine (isGM_is y b (by omega) g3 _).mono ?_
            (rintro e2 w2 ⟨rfl, hb2⟩; obtain ⟨hc2, hf2⟩ := bcell hb2; have hz2 := hb2.size; (try simp only [World.size_alloc, World.size_setCell, World.size_drew] at hz2); have q2 : w.heap.size ≤ w2.heap.size := (by omega); (try have q2_0 : w.heap.size < w2.heap.size := (by omega)); (try have q2_1 : w.heap.size + 1 < w2.heap.size := (by omega)); (try have q2_2 : w.heap.size + 2 < w2.heap.size := (by omega)); (try have q2_3 : w.heap.size + 3 < w2.heap.size := (by omega)); (try have q2_1_0 : w1.heap.size < w2.heap.size := (by omega)); (try have q2_1_1 : w1.heap.size + 1 < w2.heap.size := (by omega)))
            go_wp2
            go_ret
            exact ⟨dret_bool HM.out, by (repeat' (first | (with_reducible exact Below.refl _ _) | (with_reducible assumption) | (with_reducible refine Below.alloc ?_ ?_ _) | (with_reducible refine Below.drew ?_) | (with_reducible refine below_drewN ?_ _) | (with_reducible refine Below.setCell ?_ ?_ _) | (with_reducible refine below_call ?_ ?_ (by assumption)) | go_size))⟩

theorem isRule_is {r : Bool} (e b y : Int) (h : ruleB e b y = r) (w : World) :
    Calls Try.prog 27 #[lv e b y] w fun e' w' => e' = .returned (.bool r) ∧ Below w.heap.size w w' := by
  subst h; exact isRule_any e b y w

set_option maxHeartbeats 1600000 in
theorem daRule_any (e b y : Int) (w : World) :
    Calls Try.prog 74 #[lv e b y] w fun e' w' => e' = .returned (.bool (ruleB e b y)) ∧ Below w.heap.size w w' := by
  cases g1 : inB e 1 10000
  · have f1 := inBn g1
    have HM := Lib.hid (show false = ruleB e b y from by unfold ruleB; first | (refine (decide_eq_true ?_).symm; omega) | (refine (decide_eq_false ?_).symm; omega))
    (go_enter Try.func74, Try.ntmps74)
    go_wp2_with fail
    refine (l1In_is _ _ _ g1 _).mono ?_
    (rintro e1 w1 ⟨rfl, rfl⟩)
    go_wp2
    go_ret
    exact ⟨dret_bool HM.out, by (repeat' (first | (with_reducible exact Below.refl _ _) | (with_reducible assumption) | (with_reducible refine Below.alloc ?_ ?_ _) | (with_reducible refine Below.drew ?_) | (with_reducible refine below_drewN ?_ _) | (with_reducible refine Below.setCell ?_ ?_ _) | (with_reducible refine below_call ?_ ?_ (by assumption)) | go_size))⟩
  · obtain ⟨e1, e2⟩ := inBd g1
    cases g2 : inB b 0 10000
    · have f2 := inBn g2
      have HM := Lib.hid (show false = ruleB e b y from by unfold ruleB; first | (refine (decide_eq_true ?_).symm; omega) | (refine (decide_eq_false ?_).symm; omega))
      (go_enter Try.func74, Try.ntmps74)
      go_wp2_with fail
      refine (l1In_is _ _ _ g1 _).mono ?_
      (rintro e1 w1 ⟨rfl, rfl⟩)
      go_wp2_with fail
      refine (l1In_is _ _ _ g2 _).mono ?_
      (rintro e1 w1 ⟨rfl, rfl⟩)
      go_wp2
      go_ret
      exact ⟨dret_bool HM.out, by (repeat' (first | (with_reducible exact Below.refl _ _) | (with_reducible assumption) | (with_reducible refine Below.alloc ?_ ?_ _) | (with_reducible refine Below.drew ?_) | (with_reducible refine below_drewN ?_ _) | (with_reducible refine Below.setCell ?_ ?_ _) | (with_reducible refine below_call ?_ ?_ (by assumption)) | go_size))⟩
    · obtain ⟨b1, b2⟩ := inBd g2
      cases g3 : inB y 0 10000
      · have f3 := inBn g3
        have HM := Lib.hid (show false = ruleB e b y from by unfold ruleB; first | (refine (decide_eq_true ?_).symm; omega) | (refine (decide_eq_false ?_).symm; omega))
        (go_enter Try.func74, Try.ntmps74)
        go_wp2_with fail
        refine (l1In_is _ _ _ g1 _).mono ?_
        (rintro e1 w1 ⟨rfl, rfl⟩)
        go_wp2_with fail
        refine (l1In_is _ _ _ g2 _).mono ?_
        (rintro e1 w1 ⟨rfl, rfl⟩)
        go_wp2_with fail
        refine (l1In_is _ _ _ g3 _).mono ?_
        (rintro e1 w1 ⟨rfl, rfl⟩)
        go_wp2
        go_ret
        exact ⟨dret_bool HM.out, by (repeat' (first | (with_reducible exact Below.refl _ _) | (with_reducible assumption) | (with_reducible refine Below.alloc ?_ ?_ _) | (with_reducible refine Below.drew ?_) | (with_reducible refine below_drewN ?_ _) | (with_reducible refine Below.setCell ?_ ?_ _) | (with_reducible refine below_call ?_ ?_ (by assumption)) | go_size))⟩
      · obtain ⟨y1, y2⟩ := inBd g3
        have ht := dt64 (n := b) (g := e) (by omega) (by omega) (by omega)
        by_cases c0 : b = 0
        · subst c0
          by_cases c1 : y = 0
          · subst c1
            have HM := Lib.hid (show true = ruleB e 0 0 from by unfold ruleB; first | (refine (decide_eq_true ?_).symm; omega) | (refine (decide_eq_false ?_).symm; omega))
            (go_enter Try.func74, Try.ntmps74)
            go_wp2_with fail
            refine (l1In_is _ _ _ g1 _).mono ?_
            (rintro e1 w1 ⟨rfl, rfl⟩)
            go_wp2_with fail
            refine (l1In_is _ _ _ g2 _).mono ?_
            (rintro e1 w1 ⟨rfl, rfl⟩)
            go_wp2_with fail
            refine (l1In_is _ _ _ g3 _).mono ?_
            (rintro e1 w1 ⟨rfl, rfl⟩)
            go_wp2
            go_ret
            exact ⟨dret_bool HM.out, by (repeat' (first | (with_reducible exact Below.refl _ _) | (with_reducible assumption) | (with_reducible refine Below.alloc ?_ ?_ _) | (with_reducible refine Below.drew ?_) | (with_reducible refine below_drewN ?_ _) | (with_reducible refine Below.setCell ?_ ?_ _) | (with_reducible refine below_call ?_ ?_ (by assumption)) | go_size))⟩
          · have c1' : (y == 0) = false := by simpa using c1
            have HM := Lib.hid (show false = ruleB e 0 y from by unfold ruleB; first | (refine (decide_eq_true ?_).symm; omega) | (refine (decide_eq_false ?_).symm; omega))
            (go_enter Try.func74, Try.ntmps74)
            go_wp2_with fail
            refine (l1In_is _ _ _ g1 _).mono ?_
            (rintro e1 w1 ⟨rfl, rfl⟩)
            go_wp2_with fail
            refine (l1In_is _ _ _ g2 _).mono ?_
            (rintro e1 w1 ⟨rfl, rfl⟩)
            go_wp2_with fail
            refine (l1In_is _ _ _ g3 _).mono ?_
            (rintro e1 w1 ⟨rfl, rfl⟩)
            go_wp2
            go_ret
            exact ⟨dret_bool HM.out, by (repeat' (first | (with_reducible exact Below.refl _ _) | (with_reducible assumption) | (with_reducible refine Below.alloc ?_ ?_ _) | (with_reducible refine Below.drew ?_) | (with_reducible refine below_drewN ?_ _) | (with_reducible refine Below.setCell ?_ ?_ _) | (with_reducible refine below_call ?_ ?_ (by assumption)) | go_size))⟩
        · have c0' : (b == 0) = false := by simpa using c0
          have hu := dt64 (n := y) (g := b) (by omega) (by omega) (by omega)
          by_cases c2 : e < b
          · by_cases c3 : b % e = 0
            · by_cases c1 : y = 0
              · subst c1
                have HM := Lib.hid (show true = ruleB e b 0 from by unfold ruleB; first | (refine (decide_eq_true ?_).symm; omega) | (refine (decide_eq_false ?_).symm; omega))
                (go_enter Try.func74, Try.ntmps74)
                go_wp2_with fail
                refine (l1In_is _ _ _ g1 _).mono ?_
                (rintro e1 w1 ⟨rfl, rfl⟩)
                go_wp2_with fail
                refine (l1In_is _ _ _ g2 _).mono ?_
                (rintro e1 w1 ⟨rfl, rfl⟩)
                go_wp2_with fail
                refine (l1In_is _ _ _ g3 _).mono ?_
                (rintro e1 w1 ⟨rfl, rfl⟩)
                go_wp2
                go_ret
                exact ⟨dret_bool HM.out, by (repeat' (first | (with_reducible exact Below.refl _ _) | (with_reducible assumption) | (with_reducible refine Below.alloc ?_ ?_ _) | (with_reducible refine Below.drew ?_) | (with_reducible refine below_drewN ?_ _) | (with_reducible refine Below.setCell ?_ ?_ _) | (with_reducible refine below_call ?_ ?_ (by assumption)) | go_size))⟩
              · have c1' : (y == 0) = false := by simpa using c1
                by_cases c4 : b < y
                · by_cases c5 : y % b = 0
                  · have HM := Lib.hid (show true = ruleB e b y from by unfold ruleB; first | (refine (decide_eq_true ?_).symm; omega) | (refine (decide_eq_false ?_).symm; omega))
                    (go_enter Try.func74, Try.ntmps74)
                    go_wp2_with fail
                    refine (l1In_is _ _ _ g1 _).mono ?_
                    (rintro e1 w1 ⟨rfl, rfl⟩)
                    go_wp2_with fail
                    refine (l1In_is _ _ _ g2 _).mono ?_
                    (rintro e1 w1 ⟨rfl, rfl⟩)
                    go_wp2_with fail
                    refine (l1In_is _ _ _ g3 _).mono ?_
                    (rintro e1 w1 ⟨rfl, rfl⟩)
                    go_wp2
                    go_ret
                    exact ⟨dret_bool HM.out, by (repeat' (first | (with_reducible exact Below.refl _ _) | (with_reducible assumption) | (with_reducible refine Below.alloc ?_ ?_ _) | (with_reducible refine Below.drew ?_) | (with_reducible refine below_drewN ?_ _) | (with_reducible refine Below.setCell ?_ ?_ _) | (with_reducible refine below_call ?_ ?_ (by assumption)) | go_size))⟩
                  · have c5' : (y % b == 0) = false := by simpa using c5
                    have HM := Lib.hid (show false = ruleB e b y from by unfold ruleB; first | (refine (decide_eq_true ?_).symm; omega) | (refine (decide_eq_false ?_).symm; omega))
                    (go_enter Try.func74, Try.ntmps74)
                    go_wp2_with fail
                    refine (l1In_is _ _ _ g1 _).mono ?_
                    (rintro e1 w1 ⟨rfl, rfl⟩)
                    go_wp2_with fail
                    refine (l1In_is _ _ _ g2 _).mono ?_
                    (rintro e1 w1 ⟨rfl, rfl⟩)
                    go_wp2_with fail
                    refine (l1In_is _ _ _ g3 _).mono ?_
                    (rintro e1 w1 ⟨rfl, rfl⟩)
                    go_wp2
                    go_ret
                    exact ⟨dret_bool HM.out, by (repeat' (first | (with_reducible exact Below.refl _ _) | (with_reducible assumption) | (with_reducible refine Below.alloc ?_ ?_ _) | (with_reducible refine Below.drew ?_) | (with_reducible refine below_drewN ?_ _) | (with_reducible refine Below.setCell ?_ ?_ _) | (with_reducible refine below_call ?_ ?_ (by assumption)) | go_size))⟩
                · have HM := Lib.hid (show false = ruleB e b y from by unfold ruleB; first | (refine (decide_eq_true ?_).symm; omega) | (refine (decide_eq_false ?_).symm; omega))
                  (go_enter Try.func74, Try.ntmps74)
                  go_wp2_with fail
                  refine (l1In_is _ _ _ g1 _).mono ?_
                  (rintro e1 w1 ⟨rfl, rfl⟩)
                  go_wp2_with fail
                  refine (l1In_is _ _ _ g2 _).mono ?_
                  (rintro e1 w1 ⟨rfl, rfl⟩)
                  go_wp2_with fail
                  refine (l1In_is _ _ _ g3 _).mono ?_
                  (rintro e1 w1 ⟨rfl, rfl⟩)
                  go_wp2
                  go_ret
                  exact ⟨dret_bool HM.out, by (repeat' (first | (with_reducible exact Below.refl _ _) | (with_reducible assumption) | (with_reducible refine Below.alloc ?_ ?_ _) | (with_reducible refine Below.drew ?_) | (with_reducible refine below_drewN ?_ _) | (with_reducible refine Below.setCell ?_ ?_ _) | (with_reducible refine below_call ?_ ?_ (by assumption)) | go_size))⟩
            · have c3' : (b % e == 0) = false := by simpa using c3
              have HM := Lib.hid (show false = ruleB e b y from by unfold ruleB; first | (refine (decide_eq_true ?_).symm; omega) | (refine (decide_eq_false ?_).symm; omega))
              (go_enter Try.func74, Try.ntmps74)
              go_wp2_with fail
              refine (l1In_is _ _ _ g1 _).mono ?_
              (rintro e1 w1 ⟨rfl, rfl⟩)
              go_wp2_with fail
              refine (l1In_is _ _ _ g2 _).mono ?_
              (rintro e1 w1 ⟨rfl, rfl⟩)
              go_wp2_with fail
              refine (l1In_is _ _ _ g3 _).mono ?_
              (rintro e1 w1 ⟨rfl, rfl⟩)
              go_wp2
              go_ret
              exact ⟨dret_bool HM.out, by (repeat' (first | (with_reducible exact Below.refl _ _) | (with_reducible assumption) | (with_reducible refine Below.alloc ?_ ?_ _) | (with_reducible refine Below.drew ?_) | (with_reducible refine below_drewN ?_ _) | (with_reducible refine Below.setCell ?_ ?_ _) | (with_reducible refine below_call ?_ ?_ (by assumption)) | go_size))⟩
          · have HM := Lib.hid (show false = ruleB e b y from by unfold ruleB; first | (refine (decide_eq_true ?_).symm; omega) | (refine (decide_eq_false ?_).symm; omega))
            (go_enter Try.func74, Try.ntmps74)
            go_wp2_with fail
            refine (l1In_is _ _ _ g1 _).mono ?_
            (rintro e1 w1 ⟨rfl, rfl⟩)
            go_wp2_with fail
            refine (l1In_is _ _ _ g2 _).mono ?_
            (rintro e1 w1 ⟨rfl, rfl⟩)
            go_wp2_with fail
            refine (l1In_is _ _ _ g3 _).mono ?_
            (rintro e1 w1 ⟨rfl, rfl⟩)
            go_wp2
            go_ret
            exact ⟨dret_bool HM.out, by (repeat' (first | (with_reducible exact Below.refl _ _) | (with_reducible assumption) | (with_reducible refine Below.alloc ?_ ?_ _) | (with_reducible refine Below.drew ?_) | (with_reducible refine below_drewN ?_ _) | (with_reducible refine Below.setCell ?_ ?_ _) | (with_reducible refine below_call ?_ ?_ (by assumption)) | go_size))⟩

theorem daRule_is {r : Bool} (e b y : Int) (h : ruleB e b y = r) (w : World) :
    Calls Try.prog 74 #[lv e b y] w fun e' w' => e' = .returned (.bool r) ∧ Below w.heap.size w w' := by
  subst h; exact daRule_any e b y w

set_option maxHeartbeats 800000 in
theorem specIsLeapRule_any (e b y : Int) (w : World) :
    Calls Try.prog 25 #[lv e b y] w fun e' w' => e' = .returned (.bool (ruleB e b y)) ∧ Below w.heap.size w w' := by
  (go_enter Try.func25, Try.ntmps25)
  go_wp2_with fail
  refine (daRule_any e b y _).mono ?_
  (rintro e1 w1 ⟨rfl, hb1⟩; obtain ⟨hc1, hf1⟩ := bcell hb1; have hz1 := hb1.size; (try simp only [World.size_alloc, World.size_setCell, World.size_drew] at hz1); have q1 : w.heap.size ≤ w1.heap.size := (by omega); (try have q1_0 : w.heap.size < w1.heap.size := (by omega)); (try have q1_1 : w.heap.size + 1 < w1.heap.size := (by omega)); (try have q1_2 : w.heap.size + 2 < w1.heap.size := (by omega)); (try have q1_3 : w.heap.size + 3 < w1.heap.size := (by omega)))
  go_wp2
  go_ret
  exact ⟨rfl, by (repeat' (first | (with_reducible exact Below.refl _ _) | (with_reducible assumption) | (with_reducible refine Below.alloc ?_ ?_ _) | (with_reducible refine Below.drew ?_) | (with_reducible refine below_drewN ?_ _) | (with_reducible refine Below.setCell ?_ ?_ _) | (with_reducible refine below_call ?_ ?_ (by assumption)) | go_size))⟩

end Go.Proofs.Ythdkbjjpbdledaa
