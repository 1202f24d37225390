/- The cursor over drawn bytes: hours, halves, and what the laws of chapter 4 draw. -/
import Derived.Test.YteamijcnejjmjaaCur1
set_option linter.unusedSimpArgs false
set_option linter.unusedVariables false
set_option maxRecDepth 100000
namespace Go.Proofs.Yteamijcnejjmjaa
open Go.RowKit

theorem iin_new (w : World) (M : List Int) (t : TypeId) : IIn (w.alloc (.cells (ints M).toArray t)) (some ⟨w.heap.size, 0, none⟩) M := by
  intro k hk
  refine ⟨w.heap.size, 0, rfl, by simp, ?_⟩
  have h := heap_alloc_new w (.cells (ints M).toArray t)
  simp only [World.cell?, h]
  simp [ints, hk]
theorem Cur.start (w : World) (a : Option Addr) (n cp : Nat) : Cur w (w.alloc (.cells #[.slice a n cp, .int .i64 0, .int .u64 0] 41)) w.heap.size a n cp 0 := by
  refine ⟨0, 0, Nat.le_refl _, by decide, ?_, ?_, ?_, ⟨?_, ?_, ?_⟩, Below.alloc (Below.refl _ _) (Nat.le_refl _) _, by simp⟩ <;> go_simp
theorem grown_below {w w' : World} {b B : Nat} (hg : w.grownBy w' (some b)) (hB : B ≤ b) (hBw : B ≤ w.heap.size) : Below B w w' :=
  Below.grown (Below.refl _ _) hg hBw (fun j hj => by cases hj; exact hB)
set_option maxHeartbeats 400000 in
theorem l1Least_any (x y : Int) (w : World) : Calls Try.prog 49 #[.int .i64 x, .int .i64 y] w fun e w' => e = .returned (.int .i64 (if x < y then x else y)) ∧ w = w' := by
  by_cases h : x < y
  · rw [if_pos h]
    (go_enter Try.func49, Try.ntmps49)
    go_wp2
    go_ret
    exact ⟨rfl, rfl⟩
  · rw [if_neg h]
    (go_enter Try.func49, Try.ntmps49)
    go_wp2
    go_ret
    exact ⟨rfl, rfl⟩
set_option maxHeartbeats 400000 in
theorem l1Most_any (x y : Int) (w : World) : Calls Try.prog 50 #[.int .i64 x, .int .i64 y] w fun e w' => e = .returned (.int .i64 (if y < x then x else y)) ∧ w = w' := by
  by_cases h : y < x
  · rw [if_pos h]
    (go_enter Try.func50, Try.ntmps50)
    go_wp2
    go_ret
    exact ⟨rfl, rfl⟩
  · rw [if_neg h]
    (go_enter Try.func50, Try.ntmps50)
    go_wp2
    go_ret
    exact ⟨rfl, rfl⟩

set_option maxHeartbeats 800000 in
theorem hours_any (L : List Int) (a : Option Addr) (n cp : Nat) (w0 : World) (b T : Nat)  (hO : CurOK L a n w0 b) (hT : T ≤ 800000) (w : World) (hC : Cur w0 w b a n cp T) :
    Calls Try.prog 27 #[.pointer (some ⟨b, 0, none⟩)] w fun e w' => ∃ r, e = .returned (.int .i64 r) ∧ (0 ≤ r ∧ r ≤ 25) ∧ Cur w0 w' b a n cp (T + 2) ∧ w.grownBy w' (some b) := by
  have HC := Lib.hid hC
  clear hC
  (go_enter Try.func27, Try.ntmps27)
  have hI1 := Lib.hid (iin_new w [(12 : Int), (24 : Int), (10 : Int), (12 : Int), (24 : Int), (6 : Int), (2 : Int), (3 : Int), (5 : Int), (12 : Int), (1 : Int), (25 : Int), (0 : Int)] 3)
  have hlt1 := Cur.lt HC.out
  go_wp2_with fail
  refine (among_any L a n cp w0 b (T) [(12 : Int), (24 : Int), (10 : Int), (12 : Int), (24 : Int), (6 : Int), (2 : Int), (3 : Int), (5 : Int), (12 : Int), (1 : Int), (25 : Int), (0 : Int)] 13 rfl (by omega) w.heap.size 0 13 hO (by omega) _ (Cur.alloc HC.out _) hI1.out (by omega)).mono ?_
  rintro e1 w1 ⟨r1, rfl, hm1, hC1, hg1⟩
  have HC1 := Lib.hid hC1
  have HG1 := Lib.hid (grown_trans (World.grownBy_alloc w _ (some b)) hg1)
  clear hC1 hg1
  have HR : Hid (0 ≤ r1 ∧ r1 ≤ 25) := Lib.hid (by simp only [List.mem_cons, List.not_mem_nil, or_false] at hm1; omega)
  clear hm1
  go_wp2
  go_ret
  exact ⟨r1, rfl, HR.out, HC1.out, HG1.out⟩

set_option maxHeartbeats 1600000 in
theorem half_any (L : List Int) (a : Option Addr) (n cp : Nat) (w0 : World) (b T : Nat)  (hO : CurOK L a n w0 b) (hT : T ≤ 800000) (w : World) (hC : Cur w0 w b a n cp T) :
    Calls Try.prog 48 #[.pointer (some ⟨b, 0, none⟩)] w fun e w' => ∃ h x, e = .returned (.tuple #[.int .i64 h, .int .i64 x]) ∧ Cur w0 w' b a n cp (T + 8) ∧ w.grownBy w' (some b) := by
  have HC := Lib.hid hC
  clear hC
  (go_enter Try.func48, Try.ntmps48)
  go_wp2_with fail
  refine (hours_any L a n cp w0 b T hO (by omega) _ HC.out).mono ?_
  rintro e1 w1 ⟨h, rfl, ⟨h0, h1⟩, hC1, hg1⟩
  have HC1 := Lib.hid hC1
  have HG1 := Lib.hid hg1
  clear hC1 hg1
  cases ga : inB h 2 24
  · go_wp2_with fail
    refine (diHours_is _ ga _).mono ?_
    rintro e2 w2 ⟨rfl, rfl⟩
    have hI3 := Lib.hid (iin_new w1 [(-1 : Int), (0 : Int), (48 : Int), (4611686018427387904 : Int)] 3)
    have hlt3 := Cur.lt HC1.out
    go_wp2_with fail
    refine (among_any L a n cp w0 b (T + 2) [(-1 : Int), (0 : Int), (48 : Int), (4611686018427387904 : Int)] 4 rfl (by omega) w1.heap.size 0 4 hO (by omega) _ (Cur.alloc HC1.out _) hI3.out (by omega)).mono ?_
    rintro e3 w3 ⟨r3, rfl, hm3, hC3, hg3⟩
    have HC3 := Lib.hid hC3
    have HG3 := Lib.hid (grown_trans (World.grownBy_alloc w1 _ (some b)) hg3)
    clear hC3 hg3
    clear hm3
    go_wp2
    (refine bodyPost_ret (by simp [results, Try.results48, go_sem, *]; try rfl) rfl ?_)
    exact ⟨_, _, rfl, Cur.mono HC3.out (by omega), grown_trans HG1.out (HG3.out)⟩
  · have hh := inB_bd ga
    have hw2 := w64 (n := 2 * h) (by omega)
    go_wp2_with fail
    refine (diHours_is _ ga _).mono ?_
    rintro e2 w2 ⟨rfl, rfl⟩
    go_wp2_with fail
    refine (one_any L a n cp w0 b (T + 2) 14 (by omega) hO (by omega) _ HC1.out).mono ?_
    rintro e2 w2 ⟨q, rfl, hC2, hg2⟩
    have HC2 := Lib.hid hC2
    have HG2 := Lib.hid hg2
    clear hC2 hg2
    cases q
    · go_wp2_with fail
      refine (pick_any L a n cp w0 b (T + 4) (2 * h) (by omega) hO (by omega) _ HC2.out).mono ?_
      rintro e3 w3 ⟨j, rfl, -, hC3, hg3⟩
      have HC3 := Lib.hid hC3
      have HG3 := Lib.hid hg3
      clear hC3 hg3
      go_wp2
      (refine bodyPost_ret (by simp [results, Try.results48, go_sem, *]; try rfl) rfl ?_)
      exact ⟨_, _, rfl, Cur.mono HC3.out (by omega), grown_trans HG1.out (grown_trans HG2.out (HG3.out))⟩
    · have hI3 := Lib.hid (iin_new w2 [(-1 : Int), (0 : Int), (48 : Int), (4611686018427387904 : Int)] 3)
      have hlt3 := Cur.lt HC2.out
      go_wp2_with fail
      refine (among_any L a n cp w0 b (T + 4) [(-1 : Int), (0 : Int), (48 : Int), (4611686018427387904 : Int)] 4 rfl (by omega) w2.heap.size 0 4 hO (by omega) _ (Cur.alloc HC2.out _) hI3.out (by omega)).mono ?_
      rintro e3 w3 ⟨r3, rfl, hm3, hC3, hg3⟩
      have HC3 := Lib.hid hC3
      have HG3 := Lib.hid (grown_trans (World.grownBy_alloc w2 _ (some b)) hg3)
      clear hC3 hg3
      clear hm3
      go_wp2
      (refine bodyPost_ret (by simp [results, Try.results48, go_sem, *]; try rfl) rfl ?_)
      exact ⟨_, _, rfl, Cur.mono HC3.out (by omega), grown_trans HG1.out (grown_trans HG2.out (HG3.out))⟩

theorem l1Least_ex (x y : Int) (w : World) : Calls Try.prog 49 #[.int .i64 x, .int .i64 y] w fun e w' => ∃ r, e = .returned (.int .i64 r) ∧ r ≤ x ∧ w = w' :=
  (l1Least_any x y w).mono fun e w' ⟨h1, h2⟩ => ⟨_, h1, by split <;> omega, h2⟩
theorem l1Most_ex (x y : Int) (w : World) : Calls Try.prog 50 #[.int .i64 x, .int .i64 y] w fun e w' => ∃ r, e = .returned (.int .i64 r) ∧ w = w' :=
  (l1Most_any x y w).mono fun e w' ⟨h1, h2⟩ => ⟨_, h1, h2⟩

end Go.Proofs.Yteamijcnejjmjaa
