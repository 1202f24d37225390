/- Puzzles: clues and the minutes that fit them: by the program and by the model. -/
import Derived.Test.YtcpgjjmamclklaaPz0
import Derived.Test.YtcpgjjmamclklaaZArg
import Derived.Test.YtcpgjjmamclklaaDial3
import Derived.Laws.Cover1
set_option linter.unusedSimpArgs false
set_option linter.unusedVariables false
set_option maxRecDepth 100000
namespace Go.Proofs.Ytcpgjjmamclklaa
open Go.RowKit

set_option maxHeartbeats 400000 in
theorem zIsDial_is {b : Bool} (n : Int) (h : inB n 2 24 = b) (w : World) :
    Calls Try.prog 62 #[.int .i64 n] w fun e w' => e = .returned (.bool b) ∧ w = w' := by
  (go_enter Try.func62, Try.ntmps62)
  go_wp2_with fail
  refine (isWithin_is _ _ _ h _).mono ?_
  (rintro e1 w1 ⟨rfl, rfl⟩)
  go_wp2
  go_ret
  exact ⟨rfl, rfl⟩
set_option maxHeartbeats 400000 in
theorem zHours_is {b : Bool} (n : Int) (h : inB n 2 24 = b) (w : World) :
    Calls Try.prog 60 #[.int .i64 n] w fun e w' => e = .returned (.bool b) ∧ w = w' := by
  (go_enter Try.func60, Try.ntmps60)
  go_wp2_with fail
  refine (l1In_is _ _ _ h _).mono ?_
  (rintro e1 w1 ⟨rfl, rfl⟩)
  go_wp2
  go_ret
  exact ⟨rfl, rfl⟩
set_option maxHeartbeats 400000 in
theorem partsOf_any (k a b : Int) (w : World) :
    Calls Try.prog 63 #[kv k a b] w fun e w' => e = .returned (kv k a b) ∧ Below w.heap.size w w' := by
  (go_enter Try.func63, Try.ntmps63)
  go_wp2
  (refine bodyPost_ret (by simp [results, Try.results63, go_sem, *]; try rfl) rfl ?_)
  exact ⟨rfl, by (repeat' (first | (with_reducible exact Below.refl _ _) | (with_reducible assumption) | (with_reducible refine Below.alloc ?_ ?_ _) | (with_reducible refine Below.drew ?_) | (with_reducible refine below_drewN ?_ _) | (with_reducible refine Below.setCell ?_ ?_ _) | (with_reducible refine below_call ?_ ?_ (by assumption)) | go_size))⟩
/-- The least and the greatest A. -/
def rgA (h k : Int) : Int × Int := if k = 0 then (0, h - 1) else if k = 2 then (0, 30) else if k = 3 then (0, 1) else if k = 4 then (1, h) else if k = 5 then (0, 59) else (0, -1)
set_option maxHeartbeats 800000 in
theorem rangeOfA_any (h k : Int) (hh : 2 ≤ h ∧ h ≤ 24) (w : World) :
    Calls Try.prog 102 #[.int .i64 h, .int .i64 k] w fun e w' => e = .returned (.tuple #[.int .i64 (rgA h k).1, .int .i64 (rgA h k).2]) ∧ w = w' := by
  have f1 := zw64 (n := h - 1) (by omega)
  by_cases c0 : k = 0
  · subst c0
    (go_enter Try.func102, Try.ntmps102)
    go_wp2
    (refine bodyPost_ret (by simp [results, Try.results102, go_sem, *]; try rfl) rfl ?_)
    exact ⟨rfl, rfl⟩
  by_cases c2 : k = 2
  · subst c2
    (go_enter Try.func102, Try.ntmps102)
    go_wp2
    (refine bodyPost_ret (by simp [results, Try.results102, go_sem, *]; try rfl) rfl ?_)
    exact ⟨rfl, rfl⟩
  by_cases c3 : k = 3
  · subst c3
    (go_enter Try.func102, Try.ntmps102)
    go_wp2
    (refine bodyPost_ret (by simp [results, Try.results102, go_sem, *]; try rfl) rfl ?_)
    exact ⟨rfl, rfl⟩
  by_cases c4 : k = 4
  · subst c4
    (go_enter Try.func102, Try.ntmps102)
    go_wp2
    (refine bodyPost_ret (by simp [results, Try.results102, go_sem, *]; try rfl) rfl ?_)
    exact ⟨rfl, rfl⟩
  by_cases c5 : k = 5
  · subst c5
    (go_enter Try.func102, Try.ntmps102)
    go_wp2
    (refine bodyPost_ret (by simp [results, Try.results102, go_sem, *]; try rfl) rfl ?_)
    exact ⟨rfl, rfl⟩
  have d0 : (k == 0) = false := by simpa using c0
  have d2 : (k == 2) = false := by simpa using c2
  have d3 : (k == 3) = false := by simpa using c3
  have d4 : (k == 4) = false := by simpa using c4
  have d5 : (k == 5) = false := by simpa using c5
  have HM := Lib.hid (show ((0, -1) : Int × Int) = rgA h k from by simp [rgA, c0, c2, c3, c4, c5])
  clear c0 c2 c3 c4 c5
  (go_enter Try.func102, Try.ntmps102)
  go_wp2
  (refine bodyPost_ret (by simp [results, Try.results102, go_sem, *]; try rfl) rfl ?_)
  rw [← HM.out]
  exact ⟨rfl, rfl⟩
set_option maxHeartbeats 1600000 in
theorem areOf_any (k a b h : Int) (hh : 2 ≤ h ∧ h ≤ 24) (w : World) :
    Calls Try.prog 64 #[kv k a b, .int .i64 h] w fun e w' => e = .returned (.bool (okC h (k, a, b))) ∧ Below w.heap.size w w' := by
  by_cases c1 : k = 1
  · subst c1
    cases ga : inB a 2 60
    · have HM := Lib.hid (show false = okC h (1, a, b) from by simp [okC, ga])
      (go_enter Try.func64, Try.ntmps64)
      go_wp2_with fail
      refine wp_region_below (by kernel_rfl) (by kernel_rfl) ?_
      repeat (first | (apply wpB_take (hw := rfl); (intro wq hq; obtain ⟨hcq, hfq⟩ := bcell hq; unfold atB; go_simp; exact ⟨rfl, rfl⟩); simp only [Act.put, List.setIfInBounds_toArray, List.set_cons_zero, List.set_cons_succ]))
      refine fun w1 hb1 => ?_
      (obtain ⟨hc1, hf1⟩ := bcell hb1; have hz1 := hb1.size; (try simp only [World.size_alloc, World.size_setCell, World.size_drew] at hz1); have q1 : w.heap.size ≤ w1.heap.size := (by omega); (try have q1_0 : w.heap.size < w1.heap.size := (by omega)); (try have q1_1 : w.heap.size + 1 < w1.heap.size := (by omega)); (try have q1_2 : w.heap.size + 2 < w1.heap.size := (by omega)); (try have q1_3 : w.heap.size + 3 < w1.heap.size := (by omega)); try simp only [Act.put, List.setIfInBounds_toArray, List.set_cons_zero, List.set_cons_succ])
      go_wp2_with fail
      refine (isWithin_is _ _ _ ga _).mono ?_
      (rintro e1 w1 ⟨rfl, rfl⟩)
      go_wp2
      go_ret
      exact ⟨zret_bool HM.out, by (repeat' (first | (with_reducible exact Below.refl _ _) | (with_reducible assumption) | (with_reducible refine Below.alloc ?_ ?_ _) | (with_reducible refine Below.drew ?_) | (with_reducible refine below_drewN ?_ _) | (with_reducible refine Below.setCell ?_ ?_ _) | (with_reducible refine below_call ?_ ?_ (by assumption)) | go_size))⟩
    · have g := inB_bd ga
      have f1 := zw64 (n := a - 1) (by omega)
      obtain ⟨r, hr⟩ : ∃ r, inB b 0 (a - 1) = r := ⟨_, rfl⟩
      have HM := Lib.hid (show r = okC h (1, a, b) from by simp [okC, ga, hr])
      (go_enter Try.func64, Try.ntmps64)
      go_wp2_with fail
      refine wp_region_below (by kernel_rfl) (by kernel_rfl) ?_
      repeat (first | (apply wpB_take (hw := rfl); (intro wq hq; obtain ⟨hcq, hfq⟩ := bcell hq; unfold atB; go_simp; exact ⟨rfl, rfl⟩); simp only [Act.put, List.setIfInBounds_toArray, List.set_cons_zero, List.set_cons_succ]))
      refine fun w1 hb1 => ?_
      (obtain ⟨hc1, hf1⟩ := bcell hb1; have hz1 := hb1.size; (try simp only [World.size_alloc, World.size_setCell, World.size_drew] at hz1); have q1 : w.heap.size ≤ w1.heap.size := (by omega); (try have q1_0 : w.heap.size < w1.heap.size := (by omega)); (try have q1_1 : w.heap.size + 1 < w1.heap.size := (by omega)); (try have q1_2 : w.heap.size + 2 < w1.heap.size := (by omega)); (try have q1_3 : w.heap.size + 3 < w1.heap.size := (by omega)); try simp only [Act.put, List.setIfInBounds_toArray, List.set_cons_zero, List.set_cons_succ])
      go_wp2_with fail
      refine (isWithin_is _ _ _ ga _).mono ?_
      (rintro e1 w1 ⟨rfl, rfl⟩)
      go_wp2_with fail
      refine (isWithin_is _ _ _ hr _).mono ?_
      (rintro e1 w1 ⟨rfl, rfl⟩)
      go_wp2
      go_ret
      exact ⟨zret_bool HM.out, by (repeat' (first | (with_reducible exact Below.refl _ _) | (with_reducible assumption) | (with_reducible refine Below.alloc ?_ ?_ _) | (with_reducible refine Below.drew ?_) | (with_reducible refine below_drewN ?_ _) | (with_reducible refine Below.setCell ?_ ?_ _) | (with_reducible refine below_call ?_ ?_ (by assumption)) | go_size))⟩
  · have d1 : (k == 1) = false := by simpa using c1
    obtain ⟨lo, hi, hrg⟩ : ∃ lo hi, rgA h k = (lo, hi) := ⟨_, _, rfl⟩
    have HE : Hid (okC h (k, a, b) = (inB a lo hi && decide (b = 0))) := Lib.hid (by
      have e1 : lo = (rgA h k).1 := by rw [hrg]
      have e2 : hi = (rgA h k).2 := by rw [hrg]
      subst e1 e2
      clear d1 hrg
      unfold okC rgA
      simp only [c1, if_false]
      by_cases c0 : k = 0
      · subst c0; simp [Bool.and_comm]
      by_cases c2 : k = 2
      · subst c2; simp [Bool.and_comm]
      by_cases c3 : k = 3
      · subst c3; simp [Bool.and_comm]
      by_cases c4 : k = 4
      · subst c4; simp [Bool.and_comm]
      by_cases c5 : k = 5
      · subst c5; simp [Bool.and_comm]
      simp only [c0, c2, c3, c4, c5, if_false]
      simp [inB]
      omega)
    have HC := Lib.hid (rangeOfA_any h k hh)
    rw [hrg] at HC
    clear c1 hrg
    cases ga : inB a lo hi
    · have HM := Lib.hid (show false = okC h (k, a, b) from by rw [HE.out, ga]; rfl)
      (go_enter Try.func64, Try.ntmps64)
      go_wp2_with fail
      refine wp_region_below (by kernel_rfl) (by kernel_rfl) ?_
      repeat (first | (apply wpB_take (hw := rfl); (intro wq hq; obtain ⟨hcq, hfq⟩ := bcell hq; unfold atB; go_simp; exact ⟨rfl, rfl⟩); simp only [Act.put, List.setIfInBounds_toArray, List.set_cons_zero, List.set_cons_succ]))
      refine fun w1 hb1 => ?_
      (obtain ⟨hc1, hf1⟩ := bcell hb1; have hz1 := hb1.size; (try simp only [World.size_alloc, World.size_setCell, World.size_drew] at hz1); have q1 : w.heap.size ≤ w1.heap.size := (by omega); (try have q1_0 : w.heap.size < w1.heap.size := (by omega)); (try have q1_1 : w.heap.size + 1 < w1.heap.size := (by omega)); (try have q1_2 : w.heap.size + 2 < w1.heap.size := (by omega)); (try have q1_3 : w.heap.size + 3 < w1.heap.size := (by omega)); try simp only [Act.put, List.setIfInBounds_toArray, List.set_cons_zero, List.set_cons_succ])
      go_wp2_with fail
      refine (HC.out _).mono ?_
      (rintro e1 w1 ⟨rfl, rfl⟩)
      go_wp2_with fail
      refine (isWithin_is _ _ _ ga _).mono ?_
      (rintro e1 w1 ⟨rfl, rfl⟩)
      go_wp2
      go_ret
      exact ⟨zret_bool HM.out, by (repeat' (first | (with_reducible exact Below.refl _ _) | (with_reducible assumption) | (with_reducible refine Below.alloc ?_ ?_ _) | (with_reducible refine Below.drew ?_) | (with_reducible refine below_drewN ?_ _) | (with_reducible refine Below.setCell ?_ ?_ _) | (with_reducible refine below_call ?_ ?_ (by assumption)) | go_size))⟩
    · by_cases hb : b = 0
      · subst hb
        have HM := Lib.hid (show true = okC h (k, a, 0) from by rw [HE.out, ga]; rfl)
        (go_enter Try.func64, Try.ntmps64)
        go_wp2_with fail
        refine wp_region_below (by kernel_rfl) (by kernel_rfl) ?_
        repeat (first | (apply wpB_take (hw := rfl); (intro wq hq; obtain ⟨hcq, hfq⟩ := bcell hq; unfold atB; go_simp; exact ⟨rfl, rfl⟩); simp only [Act.put, List.setIfInBounds_toArray, List.set_cons_zero, List.set_cons_succ]))
        refine fun w1 hb1 => ?_
        (obtain ⟨hc1, hf1⟩ := bcell hb1; have hz1 := hb1.size; (try simp only [World.size_alloc, World.size_setCell, World.size_drew] at hz1); have q1 : w.heap.size ≤ w1.heap.size := (by omega); (try have q1_0 : w.heap.size < w1.heap.size := (by omega)); (try have q1_1 : w.heap.size + 1 < w1.heap.size := (by omega)); (try have q1_2 : w.heap.size + 2 < w1.heap.size := (by omega)); (try have q1_3 : w.heap.size + 3 < w1.heap.size := (by omega)); try simp only [Act.put, List.setIfInBounds_toArray, List.set_cons_zero, List.set_cons_succ])
        go_wp2_with fail
        refine (HC.out _).mono ?_
        (rintro e1 w1 ⟨rfl, rfl⟩)
        go_wp2_with fail
        refine (isWithin_is _ _ _ ga _).mono ?_
        (rintro e1 w1 ⟨rfl, rfl⟩)
        go_wp2
        go_ret
        exact ⟨zret_bool HM.out, by (repeat' (first | (with_reducible exact Below.refl _ _) | (with_reducible assumption) | (with_reducible refine Below.alloc ?_ ?_ _) | (with_reducible refine Below.drew ?_) | (with_reducible refine below_drewN ?_ _) | (with_reducible refine Below.setCell ?_ ?_ _) | (with_reducible refine below_call ?_ ?_ (by assumption)) | go_size))⟩
      · have hb' : (b == 0) = false := by simpa using hb
        have HM := Lib.hid (show false = okC h (k, a, b) from by rw [HE.out, ga]; simp [hb])
        (go_enter Try.func64, Try.ntmps64)
        go_wp2_with fail
        refine wp_region_below (by kernel_rfl) (by kernel_rfl) ?_
        repeat (first | (apply wpB_take (hw := rfl); (intro wq hq; obtain ⟨hcq, hfq⟩ := bcell hq; unfold atB; go_simp; exact ⟨rfl, rfl⟩); simp only [Act.put, List.setIfInBounds_toArray, List.set_cons_zero, List.set_cons_succ]))
        refine fun w1 hb1 => ?_
        (obtain ⟨hc1, hf1⟩ := bcell hb1; have hz1 := hb1.size; (try simp only [World.size_alloc, World.size_setCell, World.size_drew] at hz1); have q1 : w.heap.size ≤ w1.heap.size := (by omega); (try have q1_0 : w.heap.size < w1.heap.size := (by omega)); (try have q1_1 : w.heap.size + 1 < w1.heap.size := (by omega)); (try have q1_2 : w.heap.size + 2 < w1.heap.size := (by omega)); (try have q1_3 : w.heap.size + 3 < w1.heap.size := (by omega)); try simp only [Act.put, List.setIfInBounds_toArray, List.set_cons_zero, List.set_cons_succ])
        go_wp2_with fail
        refine (HC.out _).mono ?_
        (rintro e1 w1 ⟨rfl, rfl⟩)
        go_wp2_with fail
        refine (isWithin_is _ _ _ ga _).mono ?_
        (rintro e1 w1 ⟨rfl, rfl⟩)
        go_wp2
        go_ret
        exact ⟨zret_bool HM.out, by (repeat' (first | (with_reducible exact Below.refl _ _) | (with_reducible assumption) | (with_reducible refine Below.alloc ?_ ?_ _) | (with_reducible refine Below.drew ?_) | (with_reducible refine below_drewN ?_ _) | (with_reducible refine Below.setCell ?_ ?_ _) | (with_reducible refine below_call ?_ ?_ (by assumption)) | go_size))⟩
theorem areOf_is {r : Bool} (k a b h : Int) (hh : 2 ≤ h ∧ h ≤ 24) (hr : okC h (k, a, b) = r) (w : World) :
    Calls Try.prog 64 #[kv k a b, .int .i64 h] w fun e w' => e = .returned (.bool r) ∧ Below w.heap.size w w' := by
  subst hr; exact areOf_any k a b h hh w
set_option maxHeartbeats 1600000 in
theorem pzClue_any (k a b h : Int) (hh : 2 ≤ h ∧ h ≤ 24) (w : World) :
    Calls Try.prog 61 #[.int .i64 h, kv k a b] w fun e w' => e = .returned (.bool (okC h (k, a, b))) ∧ Below w.heap.size w w' := by
  have f0 := zw64 (n := h - 1) (by omega)
  by_cases c1 : k = 1
  · subst c1
    cases ga : inB a 2 60
    · have HM := Lib.hid (show false = okC h (1, a, b) from by simp [okC, ga])
      (go_enter Try.func61, Try.ntmps61)
      go_wp2_with fail
      refine (l1In_is _ _ _ ga _).mono ?_
      (rintro e1 w1 ⟨rfl, rfl⟩)
      go_wp2
      go_ret
      exact ⟨zret_bool HM.out, by (repeat' (first | (with_reducible exact Below.refl _ _) | (with_reducible assumption) | (with_reducible refine Below.alloc ?_ ?_ _) | (with_reducible refine Below.drew ?_) | (with_reducible refine below_drewN ?_ _) | (with_reducible refine Below.setCell ?_ ?_ _) | (with_reducible refine below_call ?_ ?_ (by assumption)) | go_size))⟩
    · have g := inB_bd ga
      have f1 := zw64 (n := a - 1) (by omega)
      obtain ⟨r, hr⟩ : ∃ r, inB b 0 (a - 1) = r := ⟨_, rfl⟩
      have HM := Lib.hid (show r = okC h (1, a, b) from by simp [okC, ga, hr])
      (go_enter Try.func61, Try.ntmps61)
      go_wp2_with fail
      refine (l1In_is _ _ _ ga _).mono ?_
      (rintro e1 w1 ⟨rfl, rfl⟩)
      go_wp2_with fail
      refine (l1In_is _ _ _ hr _).mono ?_
      (rintro e1 w1 ⟨rfl, rfl⟩)
      go_wp2
      go_ret
      exact ⟨zret_bool HM.out, by (repeat' (first | (with_reducible exact Below.refl _ _) | (with_reducible assumption) | (with_reducible refine Below.alloc ?_ ?_ _) | (with_reducible refine Below.drew ?_) | (with_reducible refine below_drewN ?_ _) | (with_reducible refine Below.setCell ?_ ?_ _) | (with_reducible refine below_call ?_ ?_ (by assumption)) | go_size))⟩
  by_cases c0 : k = 0
  · subst c0
    obtain ⟨r, hr⟩ : ∃ r, inB a 0 (h - 1) = r := ⟨_, rfl⟩
    by_cases hb : b = 0
    · subst hb
      have HM := Lib.hid (show r = okC h (0, a, 0) from by simp [okC, hr])
      (go_enter Try.func61, Try.ntmps61)
      go_wp2_with fail
      refine (l1In_is _ _ _ hr _).mono ?_
      (rintro e1 w1 ⟨rfl, rfl⟩)
      go_wp2
      go_ret
      exact ⟨zret_bool HM.out, by (repeat' (first | (with_reducible exact Below.refl _ _) | (with_reducible assumption) | (with_reducible refine Below.alloc ?_ ?_ _) | (with_reducible refine Below.drew ?_) | (with_reducible refine below_drewN ?_ _) | (with_reducible refine Below.setCell ?_ ?_ _) | (with_reducible refine below_call ?_ ?_ (by assumption)) | go_size))⟩
    · have hb' : (b == 0) = false := by simpa using hb
      have HM := Lib.hid (show false = okC h (0, a, b) from by simp [okC, hb])
      (go_enter Try.func61, Try.ntmps61)
      go_wp2
      go_ret
      exact ⟨zret_bool HM.out, by (repeat' (first | (with_reducible exact Below.refl _ _) | (with_reducible assumption) | (with_reducible refine Below.alloc ?_ ?_ _) | (with_reducible refine Below.drew ?_) | (with_reducible refine below_drewN ?_ _) | (with_reducible refine Below.setCell ?_ ?_ _) | (with_reducible refine below_call ?_ ?_ (by assumption)) | go_size))⟩
  by_cases c2 : k = 2
  · subst c2
    obtain ⟨r, hr⟩ : ∃ r, inB a 0 30 = r := ⟨_, rfl⟩
    by_cases hb : b = 0
    · subst hb
      have HM := Lib.hid (show r = okC h (2, a, 0) from by simp [okC, hr])
      (go_enter Try.func61, Try.ntmps61)
      go_wp2_with fail
      refine (l1In_is _ _ _ hr _).mono ?_
      (rintro e1 w1 ⟨rfl, rfl⟩)
      go_wp2
      go_ret
      exact ⟨zret_bool HM.out, by (repeat' (first | (with_reducible exact Below.refl _ _) | (with_reducible assumption) | (with_reducible refine Below.alloc ?_ ?_ _) | (with_reducible refine Below.drew ?_) | (with_reducible refine below_drewN ?_ _) | (with_reducible refine Below.setCell ?_ ?_ _) | (with_reducible refine below_call ?_ ?_ (by assumption)) | go_size))⟩
    · have hb' : (b == 0) = false := by simpa using hb
      have HM := Lib.hid (show false = okC h (2, a, b) from by simp [okC, hb])
      (go_enter Try.func61, Try.ntmps61)
      go_wp2
      go_ret
      exact ⟨zret_bool HM.out, by (repeat' (first | (with_reducible exact Below.refl _ _) | (with_reducible assumption) | (with_reducible refine Below.alloc ?_ ?_ _) | (with_reducible refine Below.drew ?_) | (with_reducible refine below_drewN ?_ _) | (with_reducible refine Below.setCell ?_ ?_ _) | (with_reducible refine below_call ?_ ?_ (by assumption)) | go_size))⟩
  by_cases c3 : k = 3
  · subst c3
    obtain ⟨r, hr⟩ : ∃ r, inB a 0 1 = r := ⟨_, rfl⟩
    by_cases hb : b = 0
    · subst hb
      have HM := Lib.hid (show r = okC h (3, a, 0) from by simp [okC, hr])
      (go_enter Try.func61, Try.ntmps61)
      go_wp2_with fail
      refine (l1In_is _ _ _ hr _).mono ?_
      (rintro e1 w1 ⟨rfl, rfl⟩)
      go_wp2
      go_ret
      exact ⟨zret_bool HM.out, by (repeat' (first | (with_reducible exact Below.refl _ _) | (with_reducible assumption) | (with_reducible refine Below.alloc ?_ ?_ _) | (with_reducible refine Below.drew ?_) | (with_reducible refine below_drewN ?_ _) | (with_reducible refine Below.setCell ?_ ?_ _) | (with_reducible refine below_call ?_ ?_ (by assumption)) | go_size))⟩
    · have hb' : (b == 0) = false := by simpa using hb
      have HM := Lib.hid (show false = okC h (3, a, b) from by simp [okC, hb])
      (go_enter Try.func61, Try.ntmps61)
      go_wp2
      go_ret
      exact ⟨zret_bool HM.out, by (repeat' (first | (with_reducible exact Below.refl _ _) | (with_reducible assumption) | (with_reducible refine Below.alloc ?_ ?_ _) | (with_reducible refine Below.drew ?_) | (with_reducible refine below_drewN ?_ _) | (with_reducible refine Below.setCell ?_ ?_ _) | (with_reducible refine below_call ?_ ?_ (by assumption)) | go_size))⟩
  by_cases c4 : k = 4
  · subst c4
    obtain ⟨r, hr⟩ : ∃ r, inB a 1 h = r := ⟨_, rfl⟩
    by_cases hb : b = 0
    · subst hb
      have HM := Lib.hid (show r = okC h (4, a, 0) from by simp [okC, hr])
      (go_enter Try.func61, Try.ntmps61)
      go_wp2_with fail
      refine (l1In_is _ _ _ hr _).mono ?_
      (rintro e1 w1 ⟨rfl, rfl⟩)
      go_wp2
      go_ret
      exact ⟨zret_bool HM.out, by (repeat' (first | (with_reducible exact Below.refl _ _) | (with_reducible assumption) | (with_reducible refine Below.alloc ?_ ?_ _) | (with_reducible refine Below.drew ?_) | (with_reducible refine below_drewN ?_ _) | (with_reducible refine Below.setCell ?_ ?_ _) | (with_reducible refine below_call ?_ ?_ (by assumption)) | go_size))⟩
    · have hb' : (b == 0) = false := by simpa using hb
      have HM := Lib.hid (show false = okC h (4, a, b) from by simp [okC, hb])
      (go_enter Try.func61, Try.ntmps61)
      go_wp2
      go_ret
      exact ⟨zret_bool HM.out, by (repeat' (first | (with_reducible exact Below.refl _ _) | (with_reducible assumption) | (with_reducible refine Below.alloc ?_ ?_ _) | (with_reducible refine Below.drew ?_) | (with_reducible refine below_drewN ?_ _) | (with_reducible refine Below.setCell ?_ ?_ _) | (with_reducible refine below_call ?_ ?_ (by assumption)) | go_size))⟩
  by_cases c5 : k = 5
  · subst c5
    obtain ⟨r, hr⟩ : ∃ r, inB a 0 59 = r := ⟨_, rfl⟩
    by_cases hb : b = 0
    · subst hb
      have HM := Lib.hid (show r = okC h (5, a, 0) from by simp [okC, hr])
      (go_enter Try.func61, Try.ntmps61)
      go_wp2_with fail
      refine (l1In_is _ _ _ hr _).mono ?_
      (rintro e1 w1 ⟨rfl, rfl⟩)
      go_wp2
      go_ret
      exact ⟨zret_bool HM.out, by (repeat' (first | (with_reducible exact Below.refl _ _) | (with_reducible assumption) | (with_reducible refine Below.alloc ?_ ?_ _) | (with_reducible refine Below.drew ?_) | (with_reducible refine below_drewN ?_ _) | (with_reducible refine Below.setCell ?_ ?_ _) | (with_reducible refine below_call ?_ ?_ (by assumption)) | go_size))⟩
    · have hb' : (b == 0) = false := by simpa using hb
      have HM := Lib.hid (show false = okC h (5, a, b) from by simp [okC, hb])
      (go_enter Try.func61, Try.ntmps61)
      go_wp2
      go_ret
      exact ⟨zret_bool HM.out, by (repeat' (first | (with_reducible exact Below.refl _ _) | (with_reducible assumption) | (with_reducible refine Below.alloc ?_ ?_ _) | (with_reducible refine Below.drew ?_) | (with_reducible refine below_drewN ?_ _) | (with_reducible refine Below.setCell ?_ ?_ _) | (with_reducible refine below_call ?_ ?_ (by assumption)) | go_size))⟩
  have d0 : (k == 0) = false := by simpa using c0
  have d1 : (k == 1) = false := by simpa using c1
  have d2 : (k == 2) = false := by simpa using c2
  have d3 : (k == 3) = false := by simpa using c3
  have d4 : (k == 4) = false := by simpa using c4
  have d5 : (k == 5) = false := by simpa using c5
  have HM := Lib.hid (show false = okC h (k, a, b) from by simp [okC, c0, c1, c2, c3, c4, c5])
  have e1 : (k != 1) = true := by simpa using c1
  by_cases hb : b = 0
  · subst hb
    (go_enter Try.func61, Try.ntmps61)
    go_wp2
    go_ret
    exact ⟨zret_bool HM.out, by (repeat' (first | (with_reducible exact Below.refl _ _) | (with_reducible assumption) | (with_reducible refine Below.alloc ?_ ?_ _) | (with_reducible refine Below.drew ?_) | (with_reducible refine below_drewN ?_ _) | (with_reducible refine Below.setCell ?_ ?_ _) | (with_reducible refine below_call ?_ ?_ (by assumption)) | go_size))⟩
  · have hb' : (b == 0) = false := by simpa using hb
    (go_enter Try.func61, Try.ntmps61)
    go_wp2
    go_ret
    exact ⟨zret_bool HM.out, by (repeat' (first | (with_reducible exact Below.refl _ _) | (with_reducible assumption) | (with_reducible refine Below.alloc ?_ ?_ _) | (with_reducible refine Below.drew ?_) | (with_reducible refine below_drewN ?_ _) | (with_reducible refine Below.setCell ?_ ?_ _) | (with_reducible refine below_call ?_ ?_ (by assumption)) | go_size))⟩
theorem pzClue_is {r : Bool} (k a b h : Int) (hh : 2 ≤ h ∧ h ≤ 24) (hr : okC h (k, a, b) = r) (w : World) :
    Calls Try.prog 61 #[.int .i64 h, kv k a b] w fun e w' => e = .returned (.bool r) ∧ Below w.heap.size w w' := by
  subst hr; exact pzClue_any k a b h hh w
def isC (h : Int) (c : Int × Int × Int) : Bool := inB h 2 24 && okC h c
set_option maxHeartbeats 800000 in
theorem implIsClue_any (h k a b : Int) (w : World) :
    Calls Try.prog 20 #[.int .i64 h, kv k a b] w fun e w' => e = .returned (.bool (isC h (k, a, b))) ∧ Below w.heap.size w w' := by
  cases ga : inB h 2 24
  · have HM := Lib.hid (show false = isC h (k, a, b) from by simp [isC, ga])
    (go_enter Try.func20, Try.ntmps20)
    go_wp2_with fail
    refine (zIsDial_is _ ga _).mono ?_
    (rintro e1 w1 ⟨rfl, rfl⟩)
    go_wp2
    go_ret
    exact ⟨zret_bool HM.out, by (repeat' (first | (with_reducible exact Below.refl _ _) | (with_reducible assumption) | (with_reducible refine Below.alloc ?_ ?_ _) | (with_reducible refine Below.drew ?_) | (with_reducible refine below_drewN ?_ _) | (with_reducible refine Below.setCell ?_ ?_ _) | (with_reducible refine below_call ?_ ?_ (by assumption)) | go_size))⟩
  · have HM := Lib.hid (show okC h (k, a, b) = isC h (k, a, b) from by simp [isC, ga])
    have HC := Lib.hid (fun W => areOf_any k a b h (inB_bd ga) W)
    generalize okC h (k, a, b) = q at *
    (go_enter Try.func20, Try.ntmps20)
    go_wp2_with fail
    refine (zIsDial_is _ ga _).mono ?_
    (rintro e1 w1 ⟨rfl, rfl⟩)
    go_wp2_with fail
    refine (partsOf_any k a b _).mono ?_
    (rintro e1 w1 ⟨rfl, hb1⟩; obtain ⟨hc1, hf1⟩ := bcell hb1; have hz1 := hb1.size; (try simp only [World.size_alloc, World.size_setCell, World.size_drew] at hz1); have q1 : w.heap.size ≤ w1.heap.size := (by omega); (try have q1_0 : w.heap.size < w1.heap.size := (by omega)); (try have q1_1 : w.heap.size + 1 < w1.heap.size := (by omega)); (try have q1_2 : w.heap.size + 2 < w1.heap.size := (by omega)); (try have q1_3 : w.heap.size + 3 < w1.heap.size := (by omega)))
    go_wp2_with fail
    refine (HC.out _).mono ?_
    (rintro e2 w2 ⟨rfl, hb2⟩; obtain ⟨hc2, hf2⟩ := bcell hb2; have hz2 := hb2.size; (try simp only [World.size_alloc, World.size_setCell, World.size_drew] at hz2); have q2 : w.heap.size ≤ w2.heap.size := (by omega); (try have q2_0 : w.heap.size < w2.heap.size := (by omega)); (try have q2_1 : w.heap.size + 1 < w2.heap.size := (by omega)); (try have q2_2 : w.heap.size + 2 < w2.heap.size := (by omega)); (try have q2_3 : w.heap.size + 3 < w2.heap.size := (by omega)); (try have q2_1_0 : w1.heap.size < w2.heap.size := (by omega)); (try have q2_1_1 : w1.heap.size + 1 < w2.heap.size := (by omega)))
    go_wp2
    go_ret
    exact ⟨zret_bool HM.out, by (repeat' (first | (with_reducible exact Below.refl _ _) | (with_reducible assumption) | (with_reducible refine Below.alloc ?_ ?_ _) | (with_reducible refine Below.drew ?_) | (with_reducible refine below_drewN ?_ _) | (with_reducible refine Below.setCell ?_ ?_ _) | (with_reducible refine below_call ?_ ?_ (by assumption)) | go_size))⟩
set_option maxHeartbeats 800000 in
theorem specIsClue_any (h k a b : Int) (w : World) :
    Calls Try.prog 18 #[.int .i64 h, kv k a b] w fun e w' => e = .returned (.bool (isC h (k, a, b))) ∧ Below w.heap.size w w' := by
  cases ga : inB h 2 24
  · have HM := Lib.hid (show false = isC h (k, a, b) from by simp [isC, ga])
    (go_enter Try.func18, Try.ntmps18)
    go_wp2_with fail
    refine (zHours_is _ ga _).mono ?_
    (rintro e1 w1 ⟨rfl, rfl⟩)
    go_wp2
    go_ret
    exact ⟨zret_bool HM.out, by (repeat' (first | (with_reducible exact Below.refl _ _) | (with_reducible assumption) | (with_reducible refine Below.alloc ?_ ?_ _) | (with_reducible refine Below.drew ?_) | (with_reducible refine below_drewN ?_ _) | (with_reducible refine Below.setCell ?_ ?_ _) | (with_reducible refine below_call ?_ ?_ (by assumption)) | go_size))⟩
  · have HM := Lib.hid (show okC h (k, a, b) = isC h (k, a, b) from by simp [isC, ga])
    have HC := Lib.hid (fun W => pzClue_any k a b h (inB_bd ga) W)
    generalize okC h (k, a, b) = q at *
    (go_enter Try.func18, Try.ntmps18)
    go_wp2_with fail
    refine (zHours_is _ ga _).mono ?_
    (rintro e1 w1 ⟨rfl, rfl⟩)
    go_wp2_with fail
    refine (HC.out _).mono ?_
    (rintro e1 w1 ⟨rfl, hb1⟩; obtain ⟨hc1, hf1⟩ := bcell hb1; have hz1 := hb1.size; (try simp only [World.size_alloc, World.size_setCell, World.size_drew] at hz1); have q1 : w.heap.size ≤ w1.heap.size := (by omega); (try have q1_0 : w.heap.size < w1.heap.size := (by omega)); (try have q1_1 : w.heap.size + 1 < w1.heap.size := (by omega)); (try have q1_2 : w.heap.size + 2 < w1.heap.size := (by omega)); (try have q1_3 : w.heap.size + 3 < w1.heap.size := (by omega)))
    go_wp2
    go_ret
    exact ⟨zret_bool HM.out, by (repeat' (first | (with_reducible exact Below.refl _ _) | (with_reducible assumption) | (with_reducible refine Below.alloc ?_ ?_ _) | (with_reducible refine Below.drew ?_) | (with_reducible refine below_drewN ?_ _) | (with_reducible refine Below.setCell ?_ ?_ _) | (with_reducible refine below_call ?_ ?_ (by assumption)) | go_size))⟩
end Go.Proofs.Ytcpgjjmamclklaa
