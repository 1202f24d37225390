/- How many notes are played before a quarter: by the program and by the model. -/
import Derived.Test.YtijnppomeoaebaaBel4
set_option linter.unusedSimpArgs false
set_option linter.unusedVariables false
set_option maxRecDepth 100000
namespace Go.Proofs.Ytijnppomeoaebaa
open Go.RowKit

def nuR (T : List (List UInt8)) (q : Int) : Int × Bool := if askB T q then ((sumTm T List.length (pbN q.toNat) T.length : Nat), true) else (0, false)
set_option maxHeartbeats 400000 in
theorem noteLen_any (l : List UInt8) (hl : l.length ≤ maxLen) (w : World) :
    Calls Try.prog 56 #[str l] w fun e w' => e = .returned (.int .i64 (l.length : Nat)) ∧ Below w.heap.size w w' := by
  (go_enter Try.func56, Try.ntmps56)
  go_wp2
  go_ret
  exact ⟨rfl, by (repeat' (first | (with_reducible exact Below.refl _ _) | (with_reducible assumption) | (with_reducible refine Below.alloc ?_ ?_ _) | (with_reducible refine Below.drew ?_) | (with_reducible refine below_drewN ?_ _) | (with_reducible refine Below.setCell ?_ ?_ _) | (with_reducible refine below_call ?_ ?_ (by assumption)) | go_size))⟩
set_option maxHeartbeats 1600000 in
theorem sumNotes_any (a : Option Addr) (c : Nat) (T : List (List UInt8)) (q : Nat) (ht : okT T = true) (hq : q ≤ 100000000) (w : World) (hin : XIn w a T) :
    Calls Try.prog 55 #[.slice a T.length c, .int .i64 (q : Int), .func (.func 56) #[] #[]] w fun e w' => e = .returned (.int .i64 (sumTm T (List.length) (pbN q) T.length : Nat)) ∧ Below w.heap.size w w' := by
  obtain ⟨hn, hall⟩ := okT_bd ht
  have X := Lib.hid hin
  have HA := Lib.hid hall
  clear hin hall ht
  have hpb := pbN_le q
  have hpn := pb_nat q
  have HPN := Lib.hid hpn
  obtain ⟨P, hP⟩ : ∃ P, P = pbN q := ⟨_, rfl⟩
  rw [← hP] at hpb HPN ⊢
  clear hP hpn
  (go_enter Try.func55, Try.ntmps55)
  go_wp2
  go_loopw [7, 13] (fun s i wr => ∃ k : Nat, k ≤ T.length ∧ i = .int .i64 k ∧ s = .int .i64 (sumTm T (List.length) P k : Nat) ∧ Below w.heap.size w wr) (fun _ i _ => T.length - (intOf i).toNat)
  case atStart => exact ⟨0, Nat.zero_le _, rfl, rfl, Below.refl _ _⟩
  case round =>
    obtain ⟨k, hk, rfl, rfl, hbr⟩ := hrel
    obtain ⟨hcr, hfr⟩ := bcell hbr
    have hzr := hbr.size
    have i0 : (0 : Int) ≤ (k : Int) := Int.natCast_nonneg _
    by_cases hlt : k < T.length
    · obtain ⟨b, off, rfl, e1, e2⟩ := X.out k hlt
      have i1 : (k : Int) < (T.length : Int) := by omega
      have u1 : b < wr.heap.size := by omega
      have hok := all_at (d := []) HA.out hlt
      have hf8 : ∀ j, j < T.length → (List.length) (T.getD j []) ≤ 8 := fun j hj => by exact (okP_bd (all_at (d := []) HA.out hj)).1.2
      have hsl := sumTm_le (P := P) hf8 k hk
      have htm := tmN_le (P := P) hlt
      have hf1 := hf8 k hlt
      have hprod := Nat.mul_le_mul htm hf1
      have HS : Hid (sumTm T (List.length) P (k + 1) = sumTm T (List.length) P k + tmN P T.length k * (List.length) (T.getD k [])) := Lib.hid (by rw [Nat.mul_comm]; rfl)
      have HTM : Hid (((P : Int) + T.length - 1 - k) / T.length = (tmN P T.length k : Nat)) := Lib.hid (by unfold tmN; rw [show (P : Int) + T.length - 1 - k = ((P + T.length - 1 - k : Nat) : Int) by omega]; norm_cast)
      have hm0 : 8 * (P + 1) * k ≤ 8 * (P + 1) * 12 := Nat.mul_le_mul_left _ (by omega)
      clear hf8
      have HC := Lib.hid (fun W => noteLen_any (T.getD k []) (by have := (okP_bd hok).1; unfold maxLen; omega) W)
      generalize (List.length) (T.getD k []) = y at *
      generalize sumTm T (List.length) P k = s at *
      generalize T.getD k [] = l at *
      have g1 := w64 (n := (P : Int) + T.length) (by omega)
      have g2 := w64 (n := (P : Int) + T.length - 1) (by omega)
      have g3 := w64 (n := (P : Int) + T.length - 1 - k) (by omega)
      have g4 := q64 (n := (P : Int) + T.length - 1 - k) (g := (T.length : Int)) (by omega) (by omega) (by omega)
      have g5 : ((P : Int) + T.length - 1 - k).tdiv T.length = ((P : Int) + T.length - 1 - k) / T.length := Int.tdiv_eq_ediv_of_nonneg (by omega)
      have z1 : ¬ ((T.length : Int) = 0) := by omega
      have htmc := HTM.out
      rw [htmc] at g4 g5
      generalize tmN P T.length k = m at *
      have hmy : ((m * y : Nat) : Int) = (m : Int) * (y : Int) := by push_cast; rfl
      have g6 := w64 (n := (m : Int) * (y : Int)) (by omega)
      have g7 := w64 (n := (s : Int) + (m : Int) * (y : Int)) (by omega)
      have g8 := w64 (n := (m : Int)) (by omega)
      clear HTM
      go_wp2_with fail
      refine (phrasesBefore_any q (by omega) (by omega) _).mono ?_
      rw [HPN.out]
      (rintro e1 w1 ⟨rfl, rfl⟩)
      go_wp2_with fail
      refine (HC.out _).mono ?_
      rintro e9 w9 ⟨rfl, hb9⟩
      go_wp2
      go_roundw
      case rel =>
        refine ⟨k + 1, by omega, by go_num, ?_, hbr.trans (hb9.mono hzr)⟩
        rw [HS.out]
        exact ret_num (by push_cast; first | rfl | omega | (simp only [g5, htmc, g6, g7, g8]))
      case measure => simp [intOf]; omega
    · obtain rfl : k = T.length := by omega
      go_wp2
      go_ret
      exact ⟨rfl, hbr⟩

theorem div_w (P n : Nat) (h : P ≤ 400000000) : IntKind.i64.wrap ((P : Int) / (n : Int)) = ((P / n : Nat) : Int) := by
  have h1 := Nat.div_le_self P n
  rw [show (P : Int) / (n : Int) = ((P / n : Nat) : Int) from by norm_cast]
  generalize P / n = d at *
  exact w64 (by omega)
/-- A list of how often each phrase is counted. -/
def tmsL (T : List (List UInt8)) (f : List UInt8 → Nat) (k : Nat) : List Int := (List.range k).map fun j => (f (T.getD j []) : Int)
theorem tmsL_len (T : List (List UInt8)) (f : List UInt8 → Nat) (k : Nat) : (tmsL T f k).length = k := by simp [tmsL]
theorem tmsL_get (T : List (List UInt8)) (f : List UInt8 → Nat) (k j : Nat) (h : j < k) : (tmsL T f k).getD j 0 = (f (T.getD j []) : Int) := by simp [tmsL, List.getD_eq_getElem?_getD, h]
theorem tmsL_snoc (T : List (List UInt8)) (f : List UInt8 → Nat) (k : Nat) : ints (tmsL T f (k + 1)) = ints (tmsL T f k) ++ [.int .i64 (f (T.getD k []) : Int)] := by simp [tmsL, ints, List.range_succ]
set_option maxHeartbeats 1600000 in
theorem beTimes_any (T : List (List UInt8)) (f : List UInt8 → Nat) (hf : ∀ j, j < T.length → f (T.getD j []) ≤ 8) (hn : 1 ≤ T.length ∧ T.length ≤ 12) (P : Nat) (hP : P ≤ 400000000) (v : Value) (B : Nat) (w : World) (r : IRow w B v (tmsL T f T.length)) :
    Calls Try.prog 54 #[v, .int .i64 (P : Int)] w fun e w' => e = .returned (.int .i64 (sumTm T f P T.length : Nat)) ∧ Below w.heap.size w w' := by
  obtain ⟨a1, c1, rfl, l1, m1, x1⟩ := r.cells
  rw [tmsL_len] at l1 x1 ⊢
  have X1 := Lib.hid x1
  have HF := Lib.hid hf
  clear x1 r hf
  have z1 : ¬ ((T.length : Int) = 0) := by omega
  have g4 := q64 (n := (P : Int)) (g := (T.length : Int)) (by omega) (by omega) (by omega)
  have g5 : ((P : Int)).tmod T.length = (P : Int) % T.length := Int.tmod_eq_emod_of_nonneg (by omega)
  have g9 := t64 (n := (P : Int)) (g := (T.length : Int)) (by omega) (by omega) (by omega)
  (go_enter Try.func54, Try.ntmps54)
  go_wp2
  go_loop [5, 11] (fun s i => ∃ k : Nat, k ≤ T.length ∧ i = .int .i64 k ∧ s = .int .i64 (sumTm T f P k : Nat)) (fun _ i => T.length - (intOf i).toNat)
  case atStart => exact ⟨0, Nat.zero_le _, rfl, rfl⟩
  case round =>
    obtain ⟨k, hk, rfl, rfl⟩ := hrel
    have i0 : (0 : Int) ≤ (k : Int) := Int.natCast_nonneg _
    by_cases hlt : k < T.length
    · obtain ⟨g1, rfl, e1, e2, e3⟩ := X1.out k hlt
      rw [tmsL_get _ _ _ _ hlt] at e3
      have i1 : (k : Int) < (T.length : Int) := by omega
      have hsl := sumTm_le (P := P) HF.out k hk
      have htm := tmN_le (P := P) hlt
      have hf1 := HF.out k hlt
      have hprod := Nat.mul_le_mul hf1 htm
      have HS : Hid (sumTm T f P (k + 1) = sumTm T f P k + f (T.getD k []) * tmN P T.length k) := Lib.hid rfl
      have HTM := Lib.hid (tmN_eq (P := P) hlt)
      have hm0 : 8 * (P + 1) * k ≤ 8 * (P + 1) * 12 := Nat.mul_le_mul_left _ (by omega)
      have hdl := Nat.div_le_self P T.length
      have hd : (P : Int) / T.length = ((P / T.length : Nat) : Int) := by norm_cast
      have hr : (P : Int) % T.length = ((P % T.length : Nat) : Int) := by norm_cast
      generalize f (T.getD k []) = y at *
      generalize sumTm T f P k = s at *
      rw [hd] at g4
      rw [hr] at g5 g9
      have g11 := div_w P T.length hP
      generalize P / T.length = d at *
      generalize P % T.length = m at *
      have HD := Lib.hid hd
      have HR := Lib.hid hr
      clear hd hr
      by_cases hb : k < m
      · have ht := HTM.out
        rw [if_pos hb] at ht
        generalize tmN P T.length k = t at *
        subst ht
        have i2 : (k : Int) < (m : Int) := by omega
        have hmy : ((y * (d + 1) : Nat) : Int) = (y : Int) * ((d : Int) + 1) := by push_cast; rfl
        have g6 := w64 (n := (y : Int) * ((d : Int) + 1)) (by omega)
        have g7 := w64 (n := (s : Int) + (y : Int) * ((d : Int) + 1)) (by omega)
        have g8 := w64 (n := (d : Int) + 1) (by omega)
        have g10 := w64 (n := (d : Int)) (by omega)
        go_wp2
        go_round
        case rel =>
          refine ⟨k + 1, by omega, by go_num, ?_⟩
          rw [HS.out]
          exact ret_num (by push_cast; first | rfl | omega | (simp only [g4, g6, g7, g8, g10, g11]))
        case measure => simp [intOf]; omega
      · have ht := HTM.out
        rw [if_neg hb, Nat.add_zero] at ht
        generalize tmN P T.length k = t at *
        subst ht
        have i2 : ¬ ((k : Int) < (m : Int)) := by omega
        have hmy : ((y * t : Nat) : Int) = (y : Int) * (t : Int) := by push_cast; rfl
        have g6 := w64 (n := (y : Int) * (t : Int)) (by omega)
        have g7 := w64 (n := (s : Int) + (y : Int) * (t : Int)) (by omega)
        have g10 := w64 (n := (t : Int)) (by omega)
        go_wp2
        go_round
        case rel =>
          refine ⟨k + 1, by omega, by go_num, ?_⟩
          rw [HS.out]
          exact ret_num (by push_cast; first | rfl | omega | (simp only [g4, g6, g7, g10]))
        case measure => simp [intOf]; omega
    · obtain rfl : k = T.length := by omega
      go_wp2
      go_ret
      exact ⟨rfl, Below.refl _ _⟩

set_option maxHeartbeats 1600000 in
theorem implNotesUpTo_any (a : Option Addr) (c : Nat) (T : List (List UInt8)) (q : Int) (hm : T.length ≤ maxLen) (hs : ∀ k, k < T.length → (T.getD k []).length ≤ maxLen) (w : World) (hin : XIn w a T) :
    Calls Try.prog 30 #[.slice a T.length c, .int .i64 q] w (fun e w' => e = .returned (jv (nuR T q)) ∧ Below w.heap.size w w') := by
  have X := Lib.hid hin
  have HSZ := Lib.hid hs
  clear hin hs
  cases ht : okT T
  · have HM := Lib.hid (show ((0 : Int), false) = nuR T q from by simp [nuR, askB, ht])
    (go_enter Try.func30, Try.ntmps30)
    go_wp2_with fail
    refine (isTune_is a c T HSZ.out ht _ X.out).mono ?_
    (rintro e1 w1 ⟨rfl, hb1⟩; obtain ⟨hc1, hf1⟩ := bcell hb1; have hz1 := hb1.size; (try simp only [World.size_alloc, World.size_setCell, World.size_drew] at hz1); have q1 : w.heap.size ≤ w1.heap.size := (by omega); (try have q1_0 : w.heap.size < w1.heap.size := (by omega)); (try have q1_1 : w.heap.size + 1 < w1.heap.size := (by omega)); (try have q1_2 : w.heap.size + 2 < w1.heap.size := (by omega)); (try have q1_3 : w.heap.size + 3 < w1.heap.size := (by omega)))
    go_wp2
    (refine bodyPost_ret (by simp [results, Try.results30, go_sem, *]; try rfl) rfl ?_)
    exact ⟨ret_jv HM.out, by (repeat' (first | (with_reducible exact Below.refl _ _) | (with_reducible assumption) | (with_reducible refine Below.alloc ?_ ?_ _) | (with_reducible refine Below.drew ?_) | (with_reducible refine below_drewN ?_ _) | (with_reducible refine Below.setCell ?_ ?_ _) | (with_reducible refine below_call ?_ ?_ (by assumption)) | go_size))⟩
  · cases gq : inB q 0 1000000
    · have HM := Lib.hid (show ((0 : Int), false) = nuR T q from by simp [nuR, askB, ht, gq])
      (go_enter Try.func30, Try.ntmps30)
      go_wp2_with fail
      refine (isTune_is a c T HSZ.out ht _ X.out).mono ?_
      (rintro e1 w1 ⟨rfl, hb1⟩; obtain ⟨hc1, hf1⟩ := bcell hb1; have hz1 := hb1.size; (try simp only [World.size_alloc, World.size_setCell, World.size_drew] at hz1); have q1 : w.heap.size ≤ w1.heap.size := (by omega); (try have q1_0 : w.heap.size < w1.heap.size := (by omega)); (try have q1_1 : w.heap.size + 1 < w1.heap.size := (by omega)); (try have q1_2 : w.heap.size + 2 < w1.heap.size := (by omega)); (try have q1_3 : w.heap.size + 3 < w1.heap.size := (by omega)))
      go_wp2_with fail
      refine (isQuarter_is q gq _).mono ?_
      (rintro e1 w1 ⟨rfl, rfl⟩)
      go_wp2
      (refine bodyPost_ret (by simp [results, Try.results30, go_sem, *]; try rfl) rfl ?_)
      exact ⟨ret_jv HM.out, by (repeat' (first | (with_reducible exact Below.refl _ _) | (with_reducible assumption) | (with_reducible refine Below.alloc ?_ ?_ _) | (with_reducible refine Below.drew ?_) | (with_reducible refine below_drewN ?_ _) | (with_reducible refine Below.setCell ?_ ?_ _) | (with_reducible refine below_call ?_ ?_ (by assumption)) | go_size))⟩
    · have hq := inB_bd gq
      obtain ⟨k, rfl⟩ := Int.eq_ofNat_of_zero_le hq.1
      obtain ⟨hn, -⟩ := okT_bd ht
      have HT := Lib.hid ht
      have HM := Lib.hid (show (((sumTm T List.length (pbN k) T.length : Nat) : Int), true) = nuR T (k : Int) from by simp [nuR, askB, ht, gq])
      (go_enter Try.func30, Try.ntmps30)
      go_wp2_with fail
      refine (isTune_is a c T HSZ.out ht _ X.out).mono ?_
      (rintro e1 w1 ⟨rfl, hb1⟩; obtain ⟨hc1, hf1⟩ := bcell hb1; have hz1 := hb1.size; (try simp only [World.size_alloc, World.size_setCell, World.size_drew] at hz1); have q1 : w.heap.size ≤ w1.heap.size := (by omega); (try have q1_0 : w.heap.size < w1.heap.size := (by omega)); (try have q1_1 : w.heap.size + 1 < w1.heap.size := (by omega)); (try have q1_2 : w.heap.size + 2 < w1.heap.size := (by omega)); (try have q1_3 : w.heap.size + 3 < w1.heap.size := (by omega)))
      go_wp2_with fail
      refine (isQuarter_is (k : Int) gq _).mono ?_
      (rintro e1 w1 ⟨rfl, rfl⟩)
      go_wp2_with fail
      refine (sumNotes_any a c T k HT.out (by omega) _ (X.out.below hb1)).mono ?_
      (rintro e2 w2 ⟨rfl, hb2⟩; obtain ⟨hc2, hf2⟩ := bcell hb2; have hz2 := hb2.size; (try simp only [World.size_alloc, World.size_setCell, World.size_drew] at hz2); have q2 : w.heap.size ≤ w2.heap.size := (by omega); (try have q2_0 : w.heap.size < w2.heap.size := (by omega)); (try have q2_1 : w.heap.size + 1 < w2.heap.size := (by omega)); (try have q2_2 : w.heap.size + 2 < w2.heap.size := (by omega)); (try have q2_3 : w.heap.size + 3 < w2.heap.size := (by omega)); (try have q2_1_0 : w1.heap.size < w2.heap.size := (by omega)); (try have q2_1_1 : w1.heap.size + 1 < w2.heap.size := (by omega)))
      go_wp2
      (refine bodyPost_ret (by simp [results, Try.results30, go_sem, *]; try rfl) rfl ?_)
      exact ⟨ret_jv HM.out, by (repeat' (first | (with_reducible exact Below.refl _ _) | (with_reducible assumption) | (with_reducible refine Below.alloc ?_ ?_ _) | (with_reducible refine Below.drew ?_) | (with_reducible refine below_drewN ?_ _) | (with_reducible refine Below.setCell ?_ ?_ _) | (with_reducible refine below_call ?_ ?_ (by assumption)) | go_size))⟩

set_option maxHeartbeats 1600000 in
theorem specNotesUpTo_any (a : Option Addr) (c : Nat) (T : List (List UInt8)) (t : Int) (hm : T.length ≤ maxLen) (hs : ∀ k, k < T.length → (T.getD k []).length ≤ maxLen) (w : World) (hin : XIn w a T) :
    Calls Try.prog 29 #[.slice a T.length c, .int .i64 t] w fun e w' => e = .returned (jv (nuR T t)) ∧ Below w.heap.size w w' := by
  obtain ⟨i0, hi0, hz0, hz1, hz2⟩ := info_parts Try.infoInt
  have I0 := Lib.hid hi0
  have Z0 := Lib.hid hz0
  have Z1 := Lib.hid hz1
  have Z2 := Lib.hid hz2
  clear hi0 hz0 hz1 hz2
  have X := Lib.hid hin
  clear hin hs
  cases ga : askB T t
  · have HM := Lib.hid (show ((0 : Int), false) = nuR T t from by simp [nuR, ga])
    (go_enter Try.func29, Try.ntmps29)
    go_wp2_with fail
    refine (beAsked_is a c T t hm ga _ X.out).mono ?_
    (rintro e1 w1 ⟨rfl, hb1⟩; obtain ⟨hc1, hf1⟩ := bcell hb1; have hz1 := hb1.size; (try simp only [World.size_alloc, World.size_setCell, World.size_drew] at hz1); have q1 : w.heap.size ≤ w1.heap.size := (by omega); (try have q1_0 : w.heap.size < w1.heap.size := (by omega)); (try have q1_1 : w.heap.size + 1 < w1.heap.size := (by omega)); (try have q1_2 : w.heap.size + 2 < w1.heap.size := (by omega)); (try have q1_3 : w.heap.size + 3 < w1.heap.size := (by omega)))
    go_wp2
    (refine bodyPost_ret (by simp [results, Try.results29, go_sem, *]; try rfl) rfl ?_)
    exact ⟨ret_jv HM.out, by (repeat' (first | (with_reducible exact Below.refl _ _) | (with_reducible assumption) | (with_reducible refine Below.alloc ?_ ?_ _) | (with_reducible refine Below.drew ?_) | (with_reducible refine below_drewN ?_ _) | (with_reducible refine Below.setCell ?_ ?_ _) | (with_reducible refine below_call ?_ ?_ (by assumption)) | go_size))⟩
  · obtain ⟨ht, gq⟩ : okT T = true ∧ inB t 0 1000000 = true := by simpa [askB] using ga
    have hq := inB_bd gq
    obtain ⟨q, rfl⟩ := Int.eq_ofNat_of_zero_le hq.1
    obtain ⟨hn, -⟩ := okT_bd ht
    have HT := Lib.hid ht
    have HM := Lib.hid (show (((sumTm T List.length (pbN q) T.length : Nat) : Int), true) = nuR T (q : Int) from by simp [nuR, ga])
    (go_enter Try.func29, Try.ntmps29)
    go_wp2_with fail
    refine (beAsked_is a c T q hm ga _ X.out).mono ?_
    rintro e1 w1 ⟨rfl, hbB⟩
    have hzB := hbB.size
    go_wp2
    go_loopw [6, 15] (fun o i wr => ∃ k : Nat, k ≤ T.length ∧ i = .int .i64 k ∧ wr.ownsRow w.heap.size 3 1 o k (ints (tmsL T (List.length) k)) ∧ Below w.heap.size w wr) (fun _ i _ => T.length - (intOf i).toNat)
    case atStart => exact ⟨0, Nat.zero_le _, rfl, World.ownsRow_nil _ _ _ _, by first | exact hbB | ((repeat' (first | (with_reducible exact Below.refl _ _) | (with_reducible assumption) | (with_reducible refine Below.alloc ?_ ?_ _) | (with_reducible refine Below.drew ?_) | (with_reducible refine below_drewN ?_ _) | (with_reducible refine Below.setCell ?_ ?_ _) | (with_reducible refine below_call ?_ ?_ (by assumption)) | go_size)))⟩
    case round =>
      obtain ⟨k, hk, rfl, hown, hbr⟩ := hrel
      have HO := Lib.hid hown
      have hzr := hbr.size
      have i0' : (0 : Int) ≤ (k : Int) := Int.natCast_nonneg _
      by_cases hlt : k < T.length
      · obtain ⟨hcr, hfr⟩ := bcell hbr
        obtain ⟨b, off, rfl, e1, e2⟩ := X.out k hlt
        have u1 : b < wr.heap.size := by omega
        have i1 : (k : Int) < (T.length : Int) := by omega
        have hok := all_at (d := []) (okT_bd HT.out).2 hlt
        have hl8 := (okP_bd hok).1
        have HSN := Lib.hid (tmsL_snoc T (List.length) k)
        have HLT : ∀ k, u6.ownBlock = some k → w.heap.size ≤ k := fun k hk => (World.ownsRow.lt HO.out k hk).1
        clear hown
        generalize T.getD k [] = l at *
        go_wp2_with (at_builtin; refine wpList_append_lies _ rfl _ _ _ rfl (w.heap.size) 3 i0 _ 1 8 Try.underlying27 I0.out Z0.out Z1.out Z2.out rfl (by omega) u6 (k) _ rfl (HO.out.alloc _) ⟨wr.heap.size, 0, none⟩ 1 1 [.int .i64 ((l.length : Nat) : Int)] rfl rfl (World.news_of_block (cs := #[.int .i64 ((l.length : Nat) : Int)]) (t := 3) (fr := (0, 0)) (by simpa using heap_alloc_new wr _)) (by simp [Value.oneCell']) (by omega) (by unfold maxLen; omega) (by omega) (by simp; omega) (wr.heap.size + 1) (by simp) ?_; intro g cap w3 hown3 hgrow hat hlt3)
        go_wp2
        go_roundw
        case rel =>
          refine ⟨k + 1, by omega, by go_num, ?_, ?_⟩
          · rw [HSN.out]; exact hown3
          · exact Below.grown (by (repeat' (first | (with_reducible exact Below.refl _ _) | (with_reducible assumption) | (with_reducible refine Below.alloc ?_ ?_ _) | (with_reducible refine Below.drew ?_) | (with_reducible refine below_drewN ?_ _) | (with_reducible refine Below.setCell ?_ ?_ _) | (with_reducible refine below_call ?_ ?_ (by assumption)) | go_size))) hgrow (by simp; omega) HLT
        case measure => simp [intOf]; omega
      · obtain rfl : k = T.length := by omega
        have HRW : Hid (IRow wr w.heap.size u6 (tmsL T (List.length) T.length)) := Lib.hid (by unfold IRow; rw [tmsL_len]; exact hown)
        clear hown
        go_wp2_with fail
        refine (beBefore_any (q : Int) (by omega) (by omega) _).mono ?_
        rw [pb_nat]
        (rintro e1 w1 ⟨rfl, rfl⟩)
        go_wp2_with fail
        refine (beTimes_any T (List.length) (fun j hj => (okP_bd (all_at (d := []) (okT_bd HT.out).2 hj)).1.2) hn (pbN q) (by have := pbN_le q; omega) _ _ _ HRW.out).mono ?_
        rintro e9 w9 ⟨rfl, hb9⟩
        go_wp2
        (refine bodyPost_ret (by simp [results, Try.results29, go_sem, *]; try rfl) rfl ?_)
        exact ⟨ret_jv HM.out, hbr.trans (hb9.mono hzr)⟩
end Go.Proofs.Ytijnppomeoaebaa
