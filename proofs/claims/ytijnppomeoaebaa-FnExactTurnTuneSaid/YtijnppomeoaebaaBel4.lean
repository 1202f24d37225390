/- What is played at a quarter, and where a tune stands: by the program and by the model. -/
import Derived.Test.YtijnppomeoaebaaBel3
set_option linter.unusedSimpArgs false
set_option linter.unusedVariables false
set_option maxRecDepth 100000
namespace Go.Proofs.Ytijnppomeoaebaa
open Go.RowKit

def phR (T : List (List UInt8)) (q : Int) : List Int × Bool := if askB T q then (phL T.length q.toNat, true) else ([], false)
def plR (T : List (List UInt8)) (q : Int) : List UInt8 × Bool := if askB T q then (ntL T q.toNat, true) else ([], false)
def saR (T : List (List UInt8)) (q : Int) : Int × Bool := if askB T q then (pb q % T.length, true) else (0, false)
def hrN (n : Nat) : Int := (n : Int) / gc n 10
def huR (T : List (List UInt8)) : Int × Bool := if okT T then (hrN T.length, true) else (0, false)
theorem ntL_big {T : List (List UInt8)} (h : okT T = true) (q : Nat) : (ntL T q).length ≤ maxLen := by have := ntL_len h q; unfold maxLen; omega
theorem phR_len (T : List (List UInt8)) (q : Int) : (phR T q).1.length ≤ 2000000 := by
  unfold phR
  split
  · rw [phL_len]; omega
  · exact Nat.zero_le _
theorem gc_bd (n : Nat) (h : 1 ≤ n) : 1 ≤ gc n 10 ∧ gc n 10 ≤ 10 := ⟨gcd_pos_of _ _ (by omega), gcd_le_of _ _ (by omega)⟩
theorem hrN_bd (n : Nat) (h : 1 ≤ n ∧ n ≤ 12) : 0 ≤ hrN n ∧ hrN n ≤ 12 := hrs_bd _ (by omega) (by omega) (gc_bd n h.1).1
set_option maxHeartbeats 800000 in
theorem hoursAround_any (a : Option Addr) (c n : Nat) (hn : 1 ≤ n ∧ n ≤ 12) (w : World) :
    Calls Try.prog 53 #[.slice a n c] w fun e w' => e = .returned (.int .i64 (hrN n)) ∧ Below w.heap.size w w' := by
  have HM : Hid ((n : Int) / gc n 10 = hrN n) := Lib.hid rfl
  obtain ⟨g1, g2⟩ := gc_bd n hn.1
  have hg := q64 (n := (n : Int)) (g := gc n 10) (by omega) (by omega) g1
  have hbd := hrs_bd (gc n 10) (n := (n : Int)) (by omega) (by omega) g1
  have hw := w64 (n := (n : Int) / gc n 10) (by omega)
  have HC := Lib.hid (commonDivisor_any (n : Int) 10 (by omega) (by omega) w)
  generalize gc n 10 = g at *
  have z1 : ¬ (g = 0) := by omega
  (go_enter Try.func53, Try.ntmps53)
  go_wp2_with fail
  refine HC.out.mono ?_
  (rintro e1 w1 ⟨rfl, hb1⟩; obtain ⟨hc1, hf1⟩ := bcell hb1; have hz1 := hb1.size; (try simp only [World.size_alloc, World.size_setCell, World.size_drew] at hz1); have q1 : w.heap.size ≤ w1.heap.size := (by omega); (try have q1_0 : w.heap.size < w1.heap.size := (by omega)); (try have q1_1 : w.heap.size + 1 < w1.heap.size := (by omega)); (try have q1_2 : w.heap.size + 2 < w1.heap.size := (by omega)); (try have q1_3 : w.heap.size + 3 < w1.heap.size := (by omega)))
  go_wp2
  go_ret
  exact ⟨ret_int (by first | exact HM.out | exact hg.trans HM.out | exact hw.trans HM.out), by (repeat' (first | (with_reducible exact Below.refl _ _) | (with_reducible assumption) | (with_reducible refine Below.alloc ?_ ?_ _) | (with_reducible refine Below.drew ?_) | (with_reducible refine below_drewN ?_ _) | (with_reducible refine Below.setCell ?_ ?_ _) | (with_reducible refine below_call ?_ ?_ (by assumption)) | go_size))⟩
set_option maxHeartbeats 800000 in
theorem beHours_any (a : Option Addr) (c n : Nat) (hn : 1 ≤ n ∧ n ≤ 12) (w : World) :
    Calls Try.prog 52 #[.slice a n c] w fun e w' => e = .returned (.int .i64 (hrN n)) ∧ Below w.heap.size w w' := by
  have HM : Hid ((n : Int) / gc n 10 = hrN n) := Lib.hid rfl
  obtain ⟨g1, g2⟩ := gc_bd n hn.1
  have hg := q64 (n := (n : Int)) (g := gc n 10) (by omega) (by omega) g1
  have hbd := hrs_bd (gc n 10) (n := (n : Int)) (by omega) (by omega) g1
  have hw := w64 (n := (n : Int) / gc n 10) (by omega)
  have HC := Lib.hid (diCommon_any (n : Int) 10 (by omega) (by omega) w)
  generalize gc n 10 = g at *
  have z1 : ¬ (g = 0) := by omega
  (go_enter Try.func52, Try.ntmps52)
  go_wp2_with fail
  refine HC.out.mono ?_
  (rintro e1 w1 ⟨rfl, hb1⟩; obtain ⟨hc1, hf1⟩ := bcell hb1; have hz1 := hb1.size; (try simp only [World.size_alloc, World.size_setCell, World.size_drew] at hz1); have q1 : w.heap.size ≤ w1.heap.size := (by omega); (try have q1_0 : w.heap.size < w1.heap.size := (by omega)); (try have q1_1 : w.heap.size + 1 < w1.heap.size := (by omega)); (try have q1_2 : w.heap.size + 2 < w1.heap.size := (by omega)); (try have q1_3 : w.heap.size + 3 < w1.heap.size := (by omega)))
  go_wp2
  go_ret
  exact ⟨ret_int (by first | exact HM.out | exact hg.trans HM.out | exact hw.trans HM.out), by (repeat' (first | (with_reducible exact Below.refl _ _) | (with_reducible assumption) | (with_reducible refine Below.alloc ?_ ?_ _) | (with_reducible refine Below.drew ?_) | (with_reducible refine below_drewN ?_ _) | (with_reducible refine Below.setCell ?_ ?_ _) | (with_reducible refine below_call ?_ ?_ (by assumption)) | go_size))⟩
set_option maxHeartbeats 1600000 in
theorem specPhrasesOf_any (a : Option Addr) (c : Nat) (T : List (List UInt8)) (q : Int) (hm : T.length ≤ maxLen) (hs : ∀ k, k < T.length → (T.getD k []).length ≤ maxLen) (w : World) (hin : XIn w a T) :
    Calls Try.prog 17 #[.slice a T.length c, .int .i64 q] w (IntsOut w (phR T q).1 (phR T q).2) := by
  have X := Lib.hid hin
  have HSZ := Lib.hid hs
  clear hin hs
  cases ga : askB T q
  · have HM := Lib.hid (show (([] : List Int), false) = phR T q from by simp [phR, ga])
    (go_enter Try.func17, Try.ntmps17)
    go_wp2_with fail
    refine (beAsked_is a c T q hm ga _ X.out).mono ?_
    (rintro e1 w1 ⟨rfl, hb1⟩; obtain ⟨hc1, hf1⟩ := bcell hb1; have hz1 := hb1.size; (try simp only [World.size_alloc, World.size_setCell, World.size_drew] at hz1); have q1 : w.heap.size ≤ w1.heap.size := (by omega); (try have q1_0 : w.heap.size < w1.heap.size := (by omega)); (try have q1_1 : w.heap.size + 1 < w1.heap.size := (by omega)); (try have q1_2 : w.heap.size + 2 < w1.heap.size := (by omega)); (try have q1_3 : w.heap.size + 3 < w1.heap.size := (by omega)))
    go_wp2
    (refine bodyPost_ret (by simp [results, Try.results17, go_sem, *]; try rfl) rfl ?_)
    rw [← HM.out]
    exact IntsOut.none (by (repeat' (first | (with_reducible exact Below.refl _ _) | (with_reducible assumption) | (with_reducible refine Below.alloc ?_ ?_ _) | (with_reducible refine Below.drew ?_) | (with_reducible refine below_drewN ?_ _) | (with_reducible refine Below.setCell ?_ ?_ _) | (with_reducible refine below_call ?_ ?_ (by assumption)) | go_size)))
  · obtain ⟨ht, gq⟩ : okT T = true ∧ inB q 0 1000000 = true := by simpa [askB] using ga
    have hq := inB_bd gq
    obtain ⟨k, rfl⟩ := Int.eq_ofNat_of_zero_le hq.1
    obtain ⟨hn, -⟩ := okT_bd ht
    have HT := Lib.hid ht
    have HM := Lib.hid (show (phL T.length k, true) = phR T (k : Int) from by simp [phR, ga])
    have y0 : 0 ≤ (k : Int) := by omega
    (go_enter Try.func17, Try.ntmps17)
    go_wp2_with fail
    refine (beAsked_is a c T k hm ga _ X.out).mono ?_
    (rintro e1 w1 ⟨rfl, hb1⟩; obtain ⟨hc1, hf1⟩ := bcell hb1; have hz1 := hb1.size; (try simp only [World.size_alloc, World.size_setCell, World.size_drew] at hz1); have q1 : w.heap.size ≤ w1.heap.size := (by omega); (try have q1_0 : w.heap.size < w1.heap.size := (by omega)); (try have q1_1 : w.heap.size + 1 < w1.heap.size := (by omega)); (try have q1_2 : w.heap.size + 2 < w1.heap.size := (by omega)); (try have q1_3 : w.heap.size + 3 < w1.heap.size := (by omega)))
    go_wp2_with fail
    refine (bePlays_any a c T.length k hn (by omega) _).mono ?_
    rintro e9 w9 ⟨v9, rfl, hr9, hb9⟩
    go_wp2
    (refine bodyPost_ret (by simp [results, Try.results17, go_sem, *]; try rfl) rfl ?_)
    rw [← HM.out]
    exact ⟨_, rfl, hr9.mono (by first | omega | exact Nat.le_refl _), by (repeat' (first | (with_reducible exact Below.refl _ _) | (with_reducible assumption) | (with_reducible refine Below.alloc ?_ ?_ _) | (with_reducible refine Below.drew ?_) | (with_reducible refine below_drewN ?_ _) | (with_reducible refine Below.setCell ?_ ?_ _) | (with_reducible refine below_call ?_ ?_ (by assumption)) | go_size))⟩

set_option maxHeartbeats 1600000 in
theorem implPhrasesOf_any (a : Option Addr) (c : Nat) (T : List (List UInt8)) (q : Int) (hm : T.length ≤ maxLen) (hs : ∀ k, k < T.length → (T.getD k []).length ≤ maxLen) (w : World) (hin : XIn w a T) :
    Calls Try.prog 18 #[.slice a T.length c, .int .i64 q] w (IntsOut w (phR T q).1 (phR T q).2) := by
  have X := Lib.hid hin
  have HSZ := Lib.hid hs
  clear hin hs
  cases ht : okT T
  · have HM := Lib.hid (show (([] : List Int), false) = phR T q from by simp [phR, askB, ht])
    (go_enter Try.func18, Try.ntmps18)
    go_wp2_with fail
    refine (isTune_is a c T HSZ.out ht _ X.out).mono ?_
    (rintro e1 w1 ⟨rfl, hb1⟩; obtain ⟨hc1, hf1⟩ := bcell hb1; have hz1 := hb1.size; (try simp only [World.size_alloc, World.size_setCell, World.size_drew] at hz1); have q1 : w.heap.size ≤ w1.heap.size := (by omega); (try have q1_0 : w.heap.size < w1.heap.size := (by omega)); (try have q1_1 : w.heap.size + 1 < w1.heap.size := (by omega)); (try have q1_2 : w.heap.size + 2 < w1.heap.size := (by omega)); (try have q1_3 : w.heap.size + 3 < w1.heap.size := (by omega)))
    go_wp2
    (refine bodyPost_ret (by simp [results, Try.results18, go_sem, *]; try rfl) rfl ?_)
    rw [← HM.out]
    exact IntsOut.none (by (repeat' (first | (with_reducible exact Below.refl _ _) | (with_reducible assumption) | (with_reducible refine Below.alloc ?_ ?_ _) | (with_reducible refine Below.drew ?_) | (with_reducible refine below_drewN ?_ _) | (with_reducible refine Below.setCell ?_ ?_ _) | (with_reducible refine below_call ?_ ?_ (by assumption)) | go_size)))
  · cases gq : inB q 0 1000000
    · have HM := Lib.hid (show (([] : List Int), false) = phR T q from by simp [phR, askB, ht, gq])
      (go_enter Try.func18, Try.ntmps18)
      go_wp2_with fail
      refine (isTune_is a c T HSZ.out ht _ X.out).mono ?_
      (rintro e1 w1 ⟨rfl, hb1⟩; obtain ⟨hc1, hf1⟩ := bcell hb1; have hz1 := hb1.size; (try simp only [World.size_alloc, World.size_setCell, World.size_drew] at hz1); have q1 : w.heap.size ≤ w1.heap.size := (by omega); (try have q1_0 : w.heap.size < w1.heap.size := (by omega)); (try have q1_1 : w.heap.size + 1 < w1.heap.size := (by omega)); (try have q1_2 : w.heap.size + 2 < w1.heap.size := (by omega)); (try have q1_3 : w.heap.size + 3 < w1.heap.size := (by omega)))
      go_wp2_with fail
      refine (isQuarter_is q gq _).mono ?_
      (rintro e1 w1 ⟨rfl, rfl⟩)
      go_wp2
      (refine bodyPost_ret (by simp [results, Try.results18, go_sem, *]; try rfl) rfl ?_)
      rw [← HM.out]
      exact IntsOut.none (by (repeat' (first | (with_reducible exact Below.refl _ _) | (with_reducible assumption) | (with_reducible refine Below.alloc ?_ ?_ _) | (with_reducible refine Below.drew ?_) | (with_reducible refine below_drewN ?_ _) | (with_reducible refine Below.setCell ?_ ?_ _) | (with_reducible refine below_call ?_ ?_ (by assumption)) | go_size)))
    · have hq := inB_bd gq
      obtain ⟨k, rfl⟩ := Int.eq_ofNat_of_zero_le hq.1
      obtain ⟨hn, -⟩ := okT_bd ht
      have HT := Lib.hid ht
      have HM := Lib.hid (show (phL T.length k, true) = phR T (k : Int) from by simp [phR, askB, ht, gq])
      (go_enter Try.func18, Try.ntmps18)
      go_wp2_with fail
      refine (isTune_is a c T HSZ.out ht _ X.out).mono ?_
      (rintro e1 w1 ⟨rfl, hb1⟩; obtain ⟨hc1, hf1⟩ := bcell hb1; have hz1 := hb1.size; (try simp only [World.size_alloc, World.size_setCell, World.size_drew] at hz1); have q1 : w.heap.size ≤ w1.heap.size := (by omega); (try have q1_0 : w.heap.size < w1.heap.size := (by omega)); (try have q1_1 : w.heap.size + 1 < w1.heap.size := (by omega)); (try have q1_2 : w.heap.size + 2 < w1.heap.size := (by omega)); (try have q1_3 : w.heap.size + 3 < w1.heap.size := (by omega)))
      go_wp2_with fail
      refine (isQuarter_is (k : Int) gq _).mono ?_
      (rintro e1 w1 ⟨rfl, rfl⟩)
      go_wp2_with fail
      refine (phrasesAt_any a c T.length k hn (by omega) _).mono ?_
      rintro e9 w9 ⟨v9, rfl, hr9, hb9⟩
      go_wp2
      (refine bodyPost_ret (by simp [results, Try.results18, go_sem, *]; try rfl) rfl ?_)
      rw [← HM.out]
      exact ⟨_, rfl, hr9.mono (by first | omega | exact Nat.le_refl _), by (repeat' (first | (with_reducible exact Below.refl _ _) | (with_reducible assumption) | (with_reducible refine Below.alloc ?_ ?_ _) | (with_reducible refine Below.drew ?_) | (with_reducible refine below_drewN ?_ _) | (with_reducible refine Below.setCell ?_ ?_ _) | (with_reducible refine below_call ?_ ?_ (by assumption)) | go_size))⟩

set_option maxHeartbeats 1600000 in
theorem specPlayedAt_any (a : Option Addr) (c : Nat) (T : List (List UInt8)) (q : Int) (hm : T.length ≤ maxLen) (hs : ∀ k, k < T.length → (T.getD k []).length ≤ maxLen) (w : World) (hin : XIn w a T) :
    Calls Try.prog 23 #[.slice a T.length c, .int .i64 q] w (fun e w' => e = .returned (xv (plR T q)) ∧ Below w.heap.size w w') := by
  have X := Lib.hid hin
  have HSZ := Lib.hid hs
  clear hin hs
  cases ga : askB T q
  · have HM := Lib.hid (show (([] : List UInt8), false) = plR T q from by simp [plR, ga])
    (go_enter Try.func23, Try.ntmps23)
    go_wp2_with fail
    refine (beAsked_is a c T q hm ga _ X.out).mono ?_
    (rintro e1 w1 ⟨rfl, hb1⟩; obtain ⟨hc1, hf1⟩ := bcell hb1; have hz1 := hb1.size; (try simp only [World.size_alloc, World.size_setCell, World.size_drew] at hz1); have q1 : w.heap.size ≤ w1.heap.size := (by omega); (try have q1_0 : w.heap.size < w1.heap.size := (by omega)); (try have q1_1 : w.heap.size + 1 < w1.heap.size := (by omega)); (try have q1_2 : w.heap.size + 2 < w1.heap.size := (by omega)); (try have q1_3 : w.heap.size + 3 < w1.heap.size := (by omega)))
    go_wp2
    (refine bodyPost_ret (by simp [results, Try.results23, go_sem, *]; try rfl) rfl ?_)
    exact ⟨ret_xv HM.out, by (repeat' (first | (with_reducible exact Below.refl _ _) | (with_reducible assumption) | (with_reducible refine Below.alloc ?_ ?_ _) | (with_reducible refine Below.drew ?_) | (with_reducible refine below_drewN ?_ _) | (with_reducible refine Below.setCell ?_ ?_ _) | (with_reducible refine below_call ?_ ?_ (by assumption)) | go_size))⟩
  · obtain ⟨ht, gq⟩ : okT T = true ∧ inB q 0 1000000 = true := by simpa [askB] using ga
    have hq := inB_bd gq
    obtain ⟨k, rfl⟩ := Int.eq_ofNat_of_zero_le hq.1
    obtain ⟨hn, -⟩ := okT_bd ht
    have HT := Lib.hid ht
    have HM := Lib.hid (show (ntL T k, true) = plR T (k : Int) from by simp [plR, ga])
    have y0 : 0 ≤ (k : Int) := by omega
    (go_enter Try.func23, Try.ntmps23)
    go_wp2_with fail
    refine (beAsked_is a c T k hm ga _ X.out).mono ?_
    (rintro e1 w1 ⟨rfl, hb1⟩; obtain ⟨hc1, hf1⟩ := bcell hb1; have hz1 := hb1.size; (try simp only [World.size_alloc, World.size_setCell, World.size_drew] at hz1); have q1 : w.heap.size ≤ w1.heap.size := (by omega); (try have q1_0 : w.heap.size < w1.heap.size := (by omega)); (try have q1_1 : w.heap.size + 1 < w1.heap.size := (by omega)); (try have q1_2 : w.heap.size + 2 < w1.heap.size := (by omega)); (try have q1_3 : w.heap.size + 3 < w1.heap.size := (by omega)))
    go_wp2_with fail
    refine (beNotes_any a c T k HT.out (by omega) _ (X.out.below hb1)).mono ?_
    (rintro e2 w2 ⟨rfl, hb2⟩; obtain ⟨hc2, hf2⟩ := bcell hb2; have hz2 := hb2.size; (try simp only [World.size_alloc, World.size_setCell, World.size_drew] at hz2); have q2 : w.heap.size ≤ w2.heap.size := (by omega); (try have q2_0 : w.heap.size < w2.heap.size := (by omega)); (try have q2_1 : w.heap.size + 1 < w2.heap.size := (by omega)); (try have q2_2 : w.heap.size + 2 < w2.heap.size := (by omega)); (try have q2_3 : w.heap.size + 3 < w2.heap.size := (by omega)); (try have q2_1_0 : w1.heap.size < w2.heap.size := (by omega)); (try have q2_1_1 : w1.heap.size + 1 < w2.heap.size := (by omega)))
    go_wp2
    (refine bodyPost_ret (by simp [results, Try.results23, go_sem, *]; try rfl) rfl ?_)
    exact ⟨ret_xv HM.out, by (repeat' (first | (with_reducible exact Below.refl _ _) | (with_reducible assumption) | (with_reducible refine Below.alloc ?_ ?_ _) | (with_reducible refine Below.drew ?_) | (with_reducible refine below_drewN ?_ _) | (with_reducible refine Below.setCell ?_ ?_ _) | (with_reducible refine below_call ?_ ?_ (by assumption)) | go_size))⟩

set_option maxHeartbeats 1600000 in
theorem implPlayedAt_any (a : Option Addr) (c : Nat) (T : List (List UInt8)) (q : Int) (hm : T.length ≤ maxLen) (hs : ∀ k, k < T.length → (T.getD k []).length ≤ maxLen) (w : World) (hin : XIn w a T) :
    Calls Try.prog 24 #[.slice a T.length c, .int .i64 q] w (fun e w' => e = .returned (xv (plR T q)) ∧ Below w.heap.size w w') := by
  have X := Lib.hid hin
  have HSZ := Lib.hid hs
  clear hin hs
  cases ht : okT T
  · have HM := Lib.hid (show (([] : List UInt8), false) = plR T q from by simp [plR, askB, ht])
    (go_enter Try.func24, Try.ntmps24)
    go_wp2_with fail
    refine (isTune_is a c T HSZ.out ht _ X.out).mono ?_
    (rintro e1 w1 ⟨rfl, hb1⟩; obtain ⟨hc1, hf1⟩ := bcell hb1; have hz1 := hb1.size; (try simp only [World.size_alloc, World.size_setCell, World.size_drew] at hz1); have q1 : w.heap.size ≤ w1.heap.size := (by omega); (try have q1_0 : w.heap.size < w1.heap.size := (by omega)); (try have q1_1 : w.heap.size + 1 < w1.heap.size := (by omega)); (try have q1_2 : w.heap.size + 2 < w1.heap.size := (by omega)); (try have q1_3 : w.heap.size + 3 < w1.heap.size := (by omega)))
    go_wp2
    (refine bodyPost_ret (by simp [results, Try.results24, go_sem, *]; try rfl) rfl ?_)
    exact ⟨ret_xv HM.out, by (repeat' (first | (with_reducible exact Below.refl _ _) | (with_reducible assumption) | (with_reducible refine Below.alloc ?_ ?_ _) | (with_reducible refine Below.drew ?_) | (with_reducible refine below_drewN ?_ _) | (with_reducible refine Below.setCell ?_ ?_ _) | (with_reducible refine below_call ?_ ?_ (by assumption)) | go_size))⟩
  · cases gq : inB q 0 1000000
    · have HM := Lib.hid (show (([] : List UInt8), false) = plR T q from by simp [plR, askB, ht, gq])
      (go_enter Try.func24, Try.ntmps24)
      go_wp2_with fail
      refine (isTune_is a c T HSZ.out ht _ X.out).mono ?_
      (rintro e1 w1 ⟨rfl, hb1⟩; obtain ⟨hc1, hf1⟩ := bcell hb1; have hz1 := hb1.size; (try simp only [World.size_alloc, World.size_setCell, World.size_drew] at hz1); have q1 : w.heap.size ≤ w1.heap.size := (by omega); (try have q1_0 : w.heap.size < w1.heap.size := (by omega)); (try have q1_1 : w.heap.size + 1 < w1.heap.size := (by omega)); (try have q1_2 : w.heap.size + 2 < w1.heap.size := (by omega)); (try have q1_3 : w.heap.size + 3 < w1.heap.size := (by omega)))
      go_wp2_with fail
      refine (isQuarter_is q gq _).mono ?_
      (rintro e1 w1 ⟨rfl, rfl⟩)
      go_wp2
      (refine bodyPost_ret (by simp [results, Try.results24, go_sem, *]; try rfl) rfl ?_)
      exact ⟨ret_xv HM.out, by (repeat' (first | (with_reducible exact Below.refl _ _) | (with_reducible assumption) | (with_reducible refine Below.alloc ?_ ?_ _) | (with_reducible refine Below.drew ?_) | (with_reducible refine below_drewN ?_ _) | (with_reducible refine Below.setCell ?_ ?_ _) | (with_reducible refine below_call ?_ ?_ (by assumption)) | go_size))⟩
    · have hq := inB_bd gq
      obtain ⟨k, rfl⟩ := Int.eq_ofNat_of_zero_le hq.1
      obtain ⟨hn, -⟩ := okT_bd ht
      have HT := Lib.hid ht
      have HM := Lib.hid (show (ntL T k, true) = plR T (k : Int) from by simp [plR, askB, ht, gq])
      (go_enter Try.func24, Try.ntmps24)
      go_wp2_with fail
      refine (isTune_is a c T HSZ.out ht _ X.out).mono ?_
      (rintro e1 w1 ⟨rfl, hb1⟩; obtain ⟨hc1, hf1⟩ := bcell hb1; have hz1 := hb1.size; (try simp only [World.size_alloc, World.size_setCell, World.size_drew] at hz1); have q1 : w.heap.size ≤ w1.heap.size := (by omega); (try have q1_0 : w.heap.size < w1.heap.size := (by omega)); (try have q1_1 : w.heap.size + 1 < w1.heap.size := (by omega)); (try have q1_2 : w.heap.size + 2 < w1.heap.size := (by omega)); (try have q1_3 : w.heap.size + 3 < w1.heap.size := (by omega)))
      go_wp2_with fail
      refine (isQuarter_is (k : Int) gq _).mono ?_
      (rintro e1 w1 ⟨rfl, rfl⟩)
      go_wp2_with fail
      refine (notesAt_any a c T k HT.out (by omega) _ (X.out.below hb1)).mono ?_
      (rintro e2 w2 ⟨rfl, hb2⟩; obtain ⟨hc2, hf2⟩ := bcell hb2; have hz2 := hb2.size; (try simp only [World.size_alloc, World.size_setCell, World.size_drew] at hz2); have q2 : w.heap.size ≤ w2.heap.size := (by omega); (try have q2_0 : w.heap.size < w2.heap.size := (by omega)); (try have q2_1 : w.heap.size + 1 < w2.heap.size := (by omega)); (try have q2_2 : w.heap.size + 2 < w2.heap.size := (by omega)); (try have q2_3 : w.heap.size + 3 < w2.heap.size := (by omega)); (try have q2_1_0 : w1.heap.size < w2.heap.size := (by omega)); (try have q2_1_1 : w1.heap.size + 1 < w2.heap.size := (by omega)))
      go_wp2
      (refine bodyPost_ret (by simp [results, Try.results24, go_sem, *]; try rfl) rfl ?_)
      exact ⟨ret_xv HM.out, by (repeat' (first | (with_reducible exact Below.refl _ _) | (with_reducible assumption) | (with_reducible refine Below.alloc ?_ ?_ _) | (with_reducible refine Below.drew ?_) | (with_reducible refine below_drewN ?_ _) | (with_reducible refine Below.setCell ?_ ?_ _) | (with_reducible refine below_call ?_ ?_ (by assumption)) | go_size))⟩

set_option maxHeartbeats 1600000 in
theorem specStandsAt_any (a : Option Addr) (c : Nat) (T : List (List UInt8)) (q : Int) (hm : T.length ≤ maxLen) (hs : ∀ k, k < T.length → (T.getD k []).length ≤ maxLen) (w : World) (hin : XIn w a T) :
    Calls Try.prog 25 #[.slice a T.length c, .int .i64 q] w (fun e w' => e = .returned (jv (saR T q)) ∧ Below w.heap.size w w') := by
  have X := Lib.hid hin
  have HSZ := Lib.hid hs
  clear hin hs
  cases ga : askB T q
  · have HM := Lib.hid (show ((0 : Int), false) = saR T q from by simp [saR, ga])
    (go_enter Try.func25, Try.ntmps25)
    go_wp2_with fail
    refine (beAsked_is a c T q hm ga _ X.out).mono ?_
    (rintro e1 w1 ⟨rfl, hb1⟩; obtain ⟨hc1, hf1⟩ := bcell hb1; have hz1 := hb1.size; (try simp only [World.size_alloc, World.size_setCell, World.size_drew] at hz1); have q1 : w.heap.size ≤ w1.heap.size := (by omega); (try have q1_0 : w.heap.size < w1.heap.size := (by omega)); (try have q1_1 : w.heap.size + 1 < w1.heap.size := (by omega)); (try have q1_2 : w.heap.size + 2 < w1.heap.size := (by omega)); (try have q1_3 : w.heap.size + 3 < w1.heap.size := (by omega)))
    go_wp2
    (refine bodyPost_ret (by simp [results, Try.results25, go_sem, *]; try rfl) rfl ?_)
    exact ⟨ret_jv HM.out, by (repeat' (first | (with_reducible exact Below.refl _ _) | (with_reducible assumption) | (with_reducible refine Below.alloc ?_ ?_ _) | (with_reducible refine Below.drew ?_) | (with_reducible refine below_drewN ?_ _) | (with_reducible refine Below.setCell ?_ ?_ _) | (with_reducible refine below_call ?_ ?_ (by assumption)) | go_size))⟩
  · obtain ⟨ht, gq⟩ : okT T = true ∧ inB q 0 1000000 = true := by simpa [askB] using ga
    have hq := inB_bd gq
    obtain ⟨k, rfl⟩ := Int.eq_ofNat_of_zero_le hq.1
    obtain ⟨hn, -⟩ := okT_bd ht
    have HT := Lib.hid ht
    have HM := Lib.hid (show (pb (k : Int) % T.length, true) = saR T (k : Int) from by simp [saR, ga])
    have p1 := pb_bd (q := (k : Int)) (by omega) (by omega)
    have f1 : (pb (k : Int)).tmod T.length = pb (k : Int) % T.length := Int.tmod_eq_emod_of_nonneg p1.1
    have f2 := t64 (n := pb (k : Int)) (g := (T.length : Int)) (by omega) (by omega) (by omega)
    have z1 : ¬ ((T.length : Int) = 0) := by omega
    have y0 : 0 ≤ (k : Int) := by omega
    (go_enter Try.func25, Try.ntmps25)
    go_wp2_with fail
    refine (beAsked_is a c T k hm ga _ X.out).mono ?_
    (rintro e1 w1 ⟨rfl, hb1⟩; obtain ⟨hc1, hf1⟩ := bcell hb1; have hz1 := hb1.size; (try simp only [World.size_alloc, World.size_setCell, World.size_drew] at hz1); have q1 : w.heap.size ≤ w1.heap.size := (by omega); (try have q1_0 : w.heap.size < w1.heap.size := (by omega)); (try have q1_1 : w.heap.size + 1 < w1.heap.size := (by omega)); (try have q1_2 : w.heap.size + 2 < w1.heap.size := (by omega)); (try have q1_3 : w.heap.size + 3 < w1.heap.size := (by omega)))
    go_wp2_with fail
    refine (beBefore_any (k : Int) (by omega) (by omega) _).mono ?_
    (rintro e1 w1 ⟨rfl, rfl⟩)
    go_wp2
    (refine bodyPost_ret (by simp [results, Try.results25, go_sem, *]; try rfl) rfl ?_)
    exact ⟨ret_jv HM.out, by (repeat' (first | (with_reducible exact Below.refl _ _) | (with_reducible assumption) | (with_reducible refine Below.alloc ?_ ?_ _) | (with_reducible refine Below.drew ?_) | (with_reducible refine below_drewN ?_ _) | (with_reducible refine Below.setCell ?_ ?_ _) | (with_reducible refine below_call ?_ ?_ (by assumption)) | go_size))⟩

set_option maxHeartbeats 1600000 in
theorem implStandsAt_any (a : Option Addr) (c : Nat) (T : List (List UInt8)) (q : Int) (hm : T.length ≤ maxLen) (hs : ∀ k, k < T.length → (T.getD k []).length ≤ maxLen) (w : World) (hin : XIn w a T) :
    Calls Try.prog 26 #[.slice a T.length c, .int .i64 q] w (fun e w' => e = .returned (jv (saR T q)) ∧ Below w.heap.size w w') := by
  have X := Lib.hid hin
  have HSZ := Lib.hid hs
  clear hin hs
  cases ht : okT T
  · have HM := Lib.hid (show ((0 : Int), false) = saR T q from by simp [saR, askB, ht])
    (go_enter Try.func26, Try.ntmps26)
    go_wp2_with fail
    refine (isTune_is a c T HSZ.out ht _ X.out).mono ?_
    (rintro e1 w1 ⟨rfl, hb1⟩; obtain ⟨hc1, hf1⟩ := bcell hb1; have hz1 := hb1.size; (try simp only [World.size_alloc, World.size_setCell, World.size_drew] at hz1); have q1 : w.heap.size ≤ w1.heap.size := (by omega); (try have q1_0 : w.heap.size < w1.heap.size := (by omega)); (try have q1_1 : w.heap.size + 1 < w1.heap.size := (by omega)); (try have q1_2 : w.heap.size + 2 < w1.heap.size := (by omega)); (try have q1_3 : w.heap.size + 3 < w1.heap.size := (by omega)))
    go_wp2
    (refine bodyPost_ret (by simp [results, Try.results26, go_sem, *]; try rfl) rfl ?_)
    exact ⟨ret_jv HM.out, by (repeat' (first | (with_reducible exact Below.refl _ _) | (with_reducible assumption) | (with_reducible refine Below.alloc ?_ ?_ _) | (with_reducible refine Below.drew ?_) | (with_reducible refine below_drewN ?_ _) | (with_reducible refine Below.setCell ?_ ?_ _) | (with_reducible refine below_call ?_ ?_ (by assumption)) | go_size))⟩
  · cases gq : inB q 0 1000000
    · have HM := Lib.hid (show ((0 : Int), false) = saR T q from by simp [saR, askB, ht, gq])
      (go_enter Try.func26, Try.ntmps26)
      go_wp2_with fail
      refine (isTune_is a c T HSZ.out ht _ X.out).mono ?_
      (rintro e1 w1 ⟨rfl, hb1⟩; obtain ⟨hc1, hf1⟩ := bcell hb1; have hz1 := hb1.size; (try simp only [World.size_alloc, World.size_setCell, World.size_drew] at hz1); have q1 : w.heap.size ≤ w1.heap.size := (by omega); (try have q1_0 : w.heap.size < w1.heap.size := (by omega)); (try have q1_1 : w.heap.size + 1 < w1.heap.size := (by omega)); (try have q1_2 : w.heap.size + 2 < w1.heap.size := (by omega)); (try have q1_3 : w.heap.size + 3 < w1.heap.size := (by omega)))
      go_wp2_with fail
      refine (isQuarter_is q gq _).mono ?_
      (rintro e1 w1 ⟨rfl, rfl⟩)
      go_wp2
      (refine bodyPost_ret (by simp [results, Try.results26, go_sem, *]; try rfl) rfl ?_)
      exact ⟨ret_jv HM.out, by (repeat' (first | (with_reducible exact Below.refl _ _) | (with_reducible assumption) | (with_reducible refine Below.alloc ?_ ?_ _) | (with_reducible refine Below.drew ?_) | (with_reducible refine below_drewN ?_ _) | (with_reducible refine Below.setCell ?_ ?_ _) | (with_reducible refine below_call ?_ ?_ (by assumption)) | go_size))⟩
    · have hq := inB_bd gq
      obtain ⟨k, rfl⟩ := Int.eq_ofNat_of_zero_le hq.1
      obtain ⟨hn, -⟩ := okT_bd ht
      have HT := Lib.hid ht
      have HM := Lib.hid (show (pb (k : Int) % T.length, true) = saR T (k : Int) from by simp [saR, askB, ht, gq])
      have p1 := pb_bd (q := (k : Int)) (by omega) (by omega)
      have f1 : (pb (k : Int)).tmod T.length = pb (k : Int) % T.length := Int.tmod_eq_emod_of_nonneg p1.1
      have f2 := t64 (n := pb (k : Int)) (g := (T.length : Int)) (by omega) (by omega) (by omega)
      have z1 : ¬ ((T.length : Int) = 0) := by omega
      (go_enter Try.func26, Try.ntmps26)
      go_wp2_with fail
      refine (isTune_is a c T HSZ.out ht _ X.out).mono ?_
      (rintro e1 w1 ⟨rfl, hb1⟩; obtain ⟨hc1, hf1⟩ := bcell hb1; have hz1 := hb1.size; (try simp only [World.size_alloc, World.size_setCell, World.size_drew] at hz1); have q1 : w.heap.size ≤ w1.heap.size := (by omega); (try have q1_0 : w.heap.size < w1.heap.size := (by omega)); (try have q1_1 : w.heap.size + 1 < w1.heap.size := (by omega)); (try have q1_2 : w.heap.size + 2 < w1.heap.size := (by omega)); (try have q1_3 : w.heap.size + 3 < w1.heap.size := (by omega)))
      go_wp2_with fail
      refine (isQuarter_is (k : Int) gq _).mono ?_
      (rintro e1 w1 ⟨rfl, rfl⟩)
      go_wp2_with fail
      refine (phrasesBefore_any (k : Int) (by omega) (by omega) _).mono ?_
      (rintro e1 w1 ⟨rfl, rfl⟩)
      go_wp2
      (refine bodyPost_ret (by simp [results, Try.results26, go_sem, *]; try rfl) rfl ?_)
      exact ⟨ret_jv HM.out, by (repeat' (first | (with_reducible exact Below.refl _ _) | (with_reducible assumption) | (with_reducible refine Below.alloc ?_ ?_ _) | (with_reducible refine Below.drew ?_) | (with_reducible refine below_drewN ?_ _) | (with_reducible refine Below.setCell ?_ ?_ _) | (with_reducible refine below_call ?_ ?_ (by assumption)) | go_size))⟩

set_option maxHeartbeats 1600000 in
theorem specHoursUntilSame_any (a : Option Addr) (c : Nat) (T : List (List UInt8)) (hm : T.length ≤ maxLen) (hs : ∀ k, k < T.length → (T.getD k []).length ≤ maxLen) (w : World) (hin : XIn w a T) :
    Calls Try.prog 27 #[.slice a T.length c] w (fun e w' => e = .returned (jv (huR T)) ∧ Below w.heap.size w w') := by
  have X := Lib.hid hin
  have HSZ := Lib.hid hs
  clear hin hs
  cases ht : okT T
  · have HM := Lib.hid (show ((0 : Int), false) = huR T from by simp [huR, ht])
    (go_enter Try.func27, Try.ntmps27)
    go_wp2_with fail
    refine (beTune_is a c T hm ht _ X.out).mono ?_
    (rintro e1 w1 ⟨rfl, hb1⟩; obtain ⟨hc1, hf1⟩ := bcell hb1; have hz1 := hb1.size; (try simp only [World.size_alloc, World.size_setCell, World.size_drew] at hz1); have q1 : w.heap.size ≤ w1.heap.size := (by omega); (try have q1_0 : w.heap.size < w1.heap.size := (by omega)); (try have q1_1 : w.heap.size + 1 < w1.heap.size := (by omega)); (try have q1_2 : w.heap.size + 2 < w1.heap.size := (by omega)); (try have q1_3 : w.heap.size + 3 < w1.heap.size := (by omega)))
    go_wp2
    (refine bodyPost_ret (by simp [results, Try.results27, go_sem, *]; try rfl) rfl ?_)
    exact ⟨ret_jv HM.out, by (repeat' (first | (with_reducible exact Below.refl _ _) | (with_reducible assumption) | (with_reducible refine Below.alloc ?_ ?_ _) | (with_reducible refine Below.drew ?_) | (with_reducible refine below_drewN ?_ _) | (with_reducible refine Below.setCell ?_ ?_ _) | (with_reducible refine below_call ?_ ?_ (by assumption)) | go_size))⟩
  · obtain ⟨hn, -⟩ := okT_bd ht
    have HT := Lib.hid ht
    have HM := Lib.hid (show (hrN T.length, true) = huR T from by simp [huR, ht])
    (go_enter Try.func27, Try.ntmps27)
    go_wp2_with fail
    refine (beTune_is a c T hm ht _ X.out).mono ?_
    (rintro e1 w1 ⟨rfl, hb1⟩; obtain ⟨hc1, hf1⟩ := bcell hb1; have hz1 := hb1.size; (try simp only [World.size_alloc, World.size_setCell, World.size_drew] at hz1); have q1 : w.heap.size ≤ w1.heap.size := (by omega); (try have q1_0 : w.heap.size < w1.heap.size := (by omega)); (try have q1_1 : w.heap.size + 1 < w1.heap.size := (by omega)); (try have q1_2 : w.heap.size + 2 < w1.heap.size := (by omega)); (try have q1_3 : w.heap.size + 3 < w1.heap.size := (by omega)))
    go_wp2_with fail
    refine (beHours_any a c T.length hn _).mono ?_
    (rintro e2 w2 ⟨rfl, hb2⟩; obtain ⟨hc2, hf2⟩ := bcell hb2; have hz2 := hb2.size; (try simp only [World.size_alloc, World.size_setCell, World.size_drew] at hz2); have q2 : w.heap.size ≤ w2.heap.size := (by omega); (try have q2_0 : w.heap.size < w2.heap.size := (by omega)); (try have q2_1 : w.heap.size + 1 < w2.heap.size := (by omega)); (try have q2_2 : w.heap.size + 2 < w2.heap.size := (by omega)); (try have q2_3 : w.heap.size + 3 < w2.heap.size := (by omega)); (try have q2_1_0 : w1.heap.size < w2.heap.size := (by omega)); (try have q2_1_1 : w1.heap.size + 1 < w2.heap.size := (by omega)))
    go_wp2
    (refine bodyPost_ret (by simp [results, Try.results27, go_sem, *]; try rfl) rfl ?_)
    exact ⟨ret_jv HM.out, by (repeat' (first | (with_reducible exact Below.refl _ _) | (with_reducible assumption) | (with_reducible refine Below.alloc ?_ ?_ _) | (with_reducible refine Below.drew ?_) | (with_reducible refine below_drewN ?_ _) | (with_reducible refine Below.setCell ?_ ?_ _) | (with_reducible refine below_call ?_ ?_ (by assumption)) | go_size))⟩

set_option maxHeartbeats 1600000 in
theorem implHoursUntilSame_any (a : Option Addr) (c : Nat) (T : List (List UInt8)) (hm : T.length ≤ maxLen) (hs : ∀ k, k < T.length → (T.getD k []).length ≤ maxLen) (w : World) (hin : XIn w a T) :
    Calls Try.prog 28 #[.slice a T.length c] w (fun e w' => e = .returned (jv (huR T)) ∧ Below w.heap.size w w') := by
  have X := Lib.hid hin
  have HSZ := Lib.hid hs
  clear hin hs
  cases ht : okT T
  · have HM := Lib.hid (show ((0 : Int), false) = huR T from by simp [huR, ht])
    (go_enter Try.func28, Try.ntmps28)
    go_wp2_with fail
    refine (isTune_is a c T HSZ.out ht _ X.out).mono ?_
    (rintro e1 w1 ⟨rfl, hb1⟩; obtain ⟨hc1, hf1⟩ := bcell hb1; have hz1 := hb1.size; (try simp only [World.size_alloc, World.size_setCell, World.size_drew] at hz1); have q1 : w.heap.size ≤ w1.heap.size := (by omega); (try have q1_0 : w.heap.size < w1.heap.size := (by omega)); (try have q1_1 : w.heap.size + 1 < w1.heap.size := (by omega)); (try have q1_2 : w.heap.size + 2 < w1.heap.size := (by omega)); (try have q1_3 : w.heap.size + 3 < w1.heap.size := (by omega)))
    go_wp2
    (refine bodyPost_ret (by simp [results, Try.results28, go_sem, *]; try rfl) rfl ?_)
    exact ⟨ret_jv HM.out, by (repeat' (first | (with_reducible exact Below.refl _ _) | (with_reducible assumption) | (with_reducible refine Below.alloc ?_ ?_ _) | (with_reducible refine Below.drew ?_) | (with_reducible refine below_drewN ?_ _) | (with_reducible refine Below.setCell ?_ ?_ _) | (with_reducible refine below_call ?_ ?_ (by assumption)) | go_size))⟩
  · obtain ⟨hn, -⟩ := okT_bd ht
    have HT := Lib.hid ht
    have HM := Lib.hid (show (hrN T.length, true) = huR T from by simp [huR, ht])
    (go_enter Try.func28, Try.ntmps28)
    go_wp2_with fail
    refine (isTune_is a c T HSZ.out ht _ X.out).mono ?_
    (rintro e1 w1 ⟨rfl, hb1⟩; obtain ⟨hc1, hf1⟩ := bcell hb1; have hz1 := hb1.size; (try simp only [World.size_alloc, World.size_setCell, World.size_drew] at hz1); have q1 : w.heap.size ≤ w1.heap.size := (by omega); (try have q1_0 : w.heap.size < w1.heap.size := (by omega)); (try have q1_1 : w.heap.size + 1 < w1.heap.size := (by omega)); (try have q1_2 : w.heap.size + 2 < w1.heap.size := (by omega)); (try have q1_3 : w.heap.size + 3 < w1.heap.size := (by omega)))
    go_wp2_with fail
    refine (hoursAround_any a c T.length hn _).mono ?_
    (rintro e2 w2 ⟨rfl, hb2⟩; obtain ⟨hc2, hf2⟩ := bcell hb2; have hz2 := hb2.size; (try simp only [World.size_alloc, World.size_setCell, World.size_drew] at hz2); have q2 : w.heap.size ≤ w2.heap.size := (by omega); (try have q2_0 : w.heap.size < w2.heap.size := (by omega)); (try have q2_1 : w.heap.size + 1 < w2.heap.size := (by omega)); (try have q2_2 : w.heap.size + 2 < w2.heap.size := (by omega)); (try have q2_3 : w.heap.size + 3 < w2.heap.size := (by omega)); (try have q2_1_0 : w1.heap.size < w2.heap.size := (by omega)); (try have q2_1_1 : w1.heap.size + 1 < w2.heap.size := (by omega)))
    go_wp2
    (refine bodyPost_ret (by simp [results, Try.results28, go_sem, *]; try rfl) rfl ?_)
    exact ⟨ret_jv HM.out, by (repeat' (first | (with_reducible exact Below.refl _ _) | (with_reducible assumption) | (with_reducible refine Below.alloc ?_ ?_ _) | (with_reducible refine Below.drew ?_) | (with_reducible refine below_drewN ?_ _) | (with_reducible refine Below.setCell ?_ ?_ _) | (with_reducible refine below_call ?_ ?_ (by assumption)) | go_size))⟩

end Go.Proofs.Ytijnppomeoaebaa
