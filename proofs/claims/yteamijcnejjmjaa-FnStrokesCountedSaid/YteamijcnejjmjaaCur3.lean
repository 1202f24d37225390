/- What the laws of chapter 4 draw, the rest. -/
import Derived.Test.YteamijcnejjmjaaCur2
set_option linter.unusedSimpArgs false
set_option linter.unusedVariables false
set_option maxRecDepth 100000
namespace Go.Proofs.Yteamijcnejjmjaa
open Go.RowKit

set_option maxHeartbeats 1600000 in
theorem DrawStrokesBetween_any (L : List Int) (a : Option Addr) (n cp : Nat) (hn : L.length = n) (hm : n ≤ 1048576) (w : World) (hB : BIn w a L) :
    Calls Try.prog 6 #[.slice a n cp] w fun e w' => ∃ v0 v1 v2, e = .returned (.tuple #[.int .i64 v0, .int .i64 v1, .int .i64 v2]) ∧ Below w.heap.size w w' := by
  have hO : CurOK L a n w w.heap.size := ⟨hn, Nat.le_refl _, hm, hB⟩
  have HC0 := Lib.hid (Cur.start w a n cp)
  clear hn hm hB
  (go_enter Try.func6, Try.ntmps6)
  go_wp2_with fail
  refine (one_any L a n cp w w.heap.size 0 12 (by omega) hO (by omega) _ HC0.out).mono ?_
  rintro e1 w1 ⟨q, rfl, hC1, -⟩
  have HC1 := Lib.hid hC1
  clear hC1
  cases q
  · go_wp2_with fail
    refine (hours_any L a n cp w w.heap.size 2 hO (by omega) _ HC1.out).mono ?_
    rintro e2 w2 ⟨h, rfl, ⟨h0, h1⟩, hC2, -⟩
    have HC2 := Lib.hid hC2
    clear hC2
    go_wp2_with fail
    refine (pick_any L a n cp w w.heap.size 4 100 (by omega) hO (by omega) _ HC2.out).mono ?_
    rintro e3 w3 ⟨j2, rfl, hj2, hC3, -⟩
    have HC3 := Lib.hid hC3
    clear hC3
    go_wp2_with fail
    refine (pick_any L a n cp w w.heap.size 6 150 (by omega) hO (by omega) _ HC3.out).mono ?_
    rintro e4 w4 ⟨j3, rfl, hj3, hC4, -⟩
    have HC4 := Lib.hid hC4
    clear hC4
    go_wp2
    (refine bodyPost_ret (by simp [results, Try.results6, go_sem, *]; try rfl) rfl ?_)
    exact ⟨_, _, _, rfl, (Cur.same HC4.out)⟩
  · go_wp2_with fail
    refine (hours_any L a n cp w w.heap.size 2 hO (by omega) _ HC1.out).mono ?_
    rintro e2 w2 ⟨h, rfl, ⟨h0, h1⟩, hC2, -⟩
    have HC2 := Lib.hid hC2
    clear hC2
    have hI2 := Lib.hid (iin_new w2 [(-1 : Int), (0 : Int), (1000000 : Int), (1000001 : Int)] 3)
    have hlt2 := Cur.lt HC2.out
    go_wp2_with fail
    refine (among_any L a n cp w w.heap.size 4 [(-1 : Int), (0 : Int), (1000000 : Int), (1000001 : Int)] 4 rfl (by omega) w2.heap.size 0 4 hO (by omega) _ (Cur.alloc HC2.out _) hI2.out (by omega)).mono ?_
    rintro e3 w3 ⟨r3, rfl, -, hC3, -⟩
    have HC3 := Lib.hid hC3
    clear hC3
    have hI3 := Lib.hid (iin_new w3 [(0 : Int), (999999 : Int), (1000000 : Int), (1000001 : Int)] 3)
    have hlt3 := Cur.lt HC3.out
    go_wp2_with fail
    refine (among_any L a n cp w w.heap.size 6 [(0 : Int), (999999 : Int), (1000000 : Int), (1000001 : Int)] 4 rfl (by omega) w3.heap.size 0 4 hO (by omega) _ (Cur.alloc HC3.out _) hI3.out (by omega)).mono ?_
    rintro e4 w4 ⟨r4, rfl, -, hC4, -⟩
    have HC4 := Lib.hid hC4
    clear hC4
    go_wp2
    (refine bodyPost_ret (by simp [results, Try.results6, go_sem, *]; try rfl) rfl ?_)
    exact ⟨_, _, _, rfl, (Cur.same HC4.out)⟩

set_option maxHeartbeats 1600000 in
theorem DrawStrokeNumber_any (L : List Int) (a : Option Addr) (n cp : Nat) (hn : L.length = n) (hm : n ≤ 1048576) (w : World) (hB : BIn w a L) :
    Calls Try.prog 15 #[.slice a n cp] w fun e w' => ∃ v0 v1, e = .returned (.tuple #[.int .i64 v0, .int .i64 v1]) ∧ Below w.heap.size w w' := by
  have hO : CurOK L a n w w.heap.size := ⟨hn, Nat.le_refl _, hm, hB⟩
  have HC0 := Lib.hid (Cur.start w a n cp)
  clear hn hm hB
  (go_enter Try.func15, Try.ntmps15)
  go_wp2_with fail
  refine (one_any L a n cp w w.heap.size 0 12 (by omega) hO (by omega) _ HC0.out).mono ?_
  rintro e1 w1 ⟨q, rfl, hC1, -⟩
  have HC1 := Lib.hid hC1
  clear hC1
  cases q
  · go_wp2_with fail
    refine (hours_any L a n cp w w.heap.size 2 hO (by omega) _ HC1.out).mono ?_
    rintro e2 w2 ⟨h, rfl, ⟨h0, h1⟩, hC2, -⟩
    have HC2 := Lib.hid hC2
    clear hC2
    go_wp2_with fail
    refine (pick_any L a n cp w w.heap.size 4 700 (by omega) hO (by omega) _ HC2.out).mono ?_
    rintro e3 w3 ⟨j2, rfl, hj2, hC3, -⟩
    have HC3 := Lib.hid hC3
    clear hC3
    go_wp2
    (refine bodyPost_ret (by simp [results, Try.results15, go_sem, *]; try rfl) rfl ?_)
    exact ⟨_, _, rfl, (Cur.same HC3.out)⟩
  · go_wp2_with fail
    refine (hours_any L a n cp w w.heap.size 2 hO (by omega) _ HC1.out).mono ?_
    rintro e2 w2 ⟨h, rfl, ⟨h0, h1⟩, hC2, -⟩
    have HC2 := Lib.hid hC2
    clear hC2
    have hI2 := Lib.hid (iin_new w2 [(0 : Int), (1 : Int), (1000000000 : Int), (1000000001 : Int), (-1 : Int)] 3)
    have hlt2 := Cur.lt HC2.out
    go_wp2_with fail
    refine (among_any L a n cp w w.heap.size 4 [(0 : Int), (1 : Int), (1000000000 : Int), (1000000001 : Int), (-1 : Int)] 5 rfl (by omega) w2.heap.size 0 5 hO (by omega) _ (Cur.alloc HC2.out _) hI2.out (by omega)).mono ?_
    rintro e3 w3 ⟨r3, rfl, -, hC3, -⟩
    have HC3 := Lib.hid hC3
    clear hC3
    go_wp2
    (refine bodyPost_ret (by simp [results, Try.results15, go_sem, *]; try rfl) rfl ?_)
    exact ⟨_, _, rfl, (Cur.same HC3.out)⟩

set_option maxHeartbeats 1600000 in
theorem DrawHalfOfWheel_any (L : List Int) (a : Option Addr) (n cp : Nat) (hn : L.length = n) (hm : n ≤ 1048576) (w : World) (hB : BIn w a L) :
    Calls Try.prog 18 #[.slice a n cp] w fun e w' => ∃ v0 v1, e = .returned (.tuple #[.int .i64 v0, .int .i64 v1]) ∧ Below w.heap.size w w' := by
  have hO : CurOK L a n w w.heap.size := ⟨hn, Nat.le_refl _, hm, hB⟩
  have HC0 := Lib.hid (Cur.start w a n cp)
  clear hn hm hB
  (go_enter Try.func18, Try.ntmps18)
  go_wp2_with fail
  refine (one_any L a n cp w w.heap.size 0 12 (by omega) hO (by omega) _ HC0.out).mono ?_
  rintro e1 w1 ⟨q, rfl, hC1, -⟩
  have HC1 := Lib.hid hC1
  clear hC1
  cases q
  · go_wp2_with fail
    refine (hours_any L a n cp w w.heap.size 2 hO (by omega) _ HC1.out).mono ?_
    rintro e2 w2 ⟨h, rfl, ⟨h0, h1⟩, hC2, -⟩
    have HC2 := Lib.hid hC2
    clear hC2
    go_wp2_with fail
    refine (pick_any L a n cp w w.heap.size 4 400 (by omega) hO (by omega) _ HC2.out).mono ?_
    rintro e3 w3 ⟨j2, rfl, hj2, hC3, -⟩
    have HC3 := Lib.hid hC3
    clear hC3
    go_wp2
    (refine bodyPost_ret (by simp [results, Try.results18, go_sem, *]; try rfl) rfl ?_)
    exact ⟨_, _, rfl, (Cur.same HC3.out)⟩
  · go_wp2_with fail
    refine (hours_any L a n cp w w.heap.size 2 hO (by omega) _ HC1.out).mono ?_
    rintro e2 w2 ⟨h, rfl, ⟨h0, h1⟩, hC2, -⟩
    have HC2 := Lib.hid hC2
    clear hC2
    have hI2 := Lib.hid (iin_new w2 [(0 : Int), (1000000000 : Int), (1000000001 : Int), (-1 : Int)] 3)
    have hlt2 := Cur.lt HC2.out
    go_wp2_with fail
    refine (among_any L a n cp w w.heap.size 4 [(0 : Int), (1000000000 : Int), (1000000001 : Int), (-1 : Int)] 4 rfl (by omega) w2.heap.size 0 4 hO (by omega) _ (Cur.alloc HC2.out _) hI2.out (by omega)).mono ?_
    rintro e3 w3 ⟨r3, rfl, -, hC3, -⟩
    have HC3 := Lib.hid hC3
    clear hC3
    go_wp2
    (refine bodyPost_ret (by simp [results, Try.results18, go_sem, *]; try rfl) rfl ?_)
    exact ⟨_, _, rfl, (Cur.same HC3.out)⟩

set_option maxHeartbeats 1600000 in
theorem DrawStepsBack_any (L : List Int) (a : Option Addr) (n cp : Nat) (hn : L.length = n) (hm : n ≤ 1048576) (w : World) (hB : BIn w a L) :
    Calls Try.prog 21 #[.slice a n cp] w fun e w' => ∃ v0 v1 v2, e = .returned (.tuple #[.int .i64 v0, .int .i64 v1, .int .i64 v2]) ∧ Below w.heap.size w w' := by
  have hO : CurOK L a n w w.heap.size := ⟨hn, Nat.le_refl _, hm, hB⟩
  have HC0 := Lib.hid (Cur.start w a n cp)
  clear hn hm hB
  (go_enter Try.func21, Try.ntmps21)
  go_wp2_with fail
  refine (half_any L a n cp w w.heap.size 0 hO (by omega) _ HC0.out).mono ?_
  rintro e1 w1 ⟨h, x, rfl, hC1, -⟩
  have HC1 := Lib.hid hC1
  clear hC1
  go_wp2_with fail
  refine (l1Most_ex _ _ _).mono ?_
  rintro em wm ⟨r, rfl, rfl⟩
  go_wp2_with fail
  refine (l1Least_ex _ _ _).mono ?_
  rintro el wl ⟨q, rfl, hq, rfl⟩
  go_wp2_with fail
  refine (pick_any L a n cp w w.heap.size 8 q (by omega) hO (by omega) _ HC1.out).mono ?_
  rintro e2 w2 ⟨j1, rfl, hj1, hC2, -⟩
  have HC2 := Lib.hid hC2
  clear hC2
  go_wp2
  (refine bodyPost_ret (by simp [results, Try.results21, go_sem, *]; try rfl) rfl ?_)
  exact ⟨_, _, _, rfl, (Cur.same HC2.out)⟩

end Go.Proofs.Yteamijcnejjmjaa
