/- How often a bell is played before a quarter: by the program and by the model. -/
import Derived.Test.YtijnppomeoaebaaDoorBel5a
import Derived.Test.YtijnppomeoaebaaDoorShelf
set_option linter.unusedSimpArgs false
set_option linter.unusedVariables false
set_option maxRecDepth 100000
namespace Go.Proofs.YtijnppomeoaebaaDoor
open Go.RowKit

theorem dec_bell {b : Int} (h : 1 ≤ b ∧ b ≤ 8) : dec b = [ntB b] := dec_one (by omega) (by omega)
theorem itoa_bell (b : Int) (h : 1 ≤ b ∧ b ≤ 8) (w : World) :
    Calls Tryd.prog 28 #[.int .i64 b] w fun e w' => e = .returned (str [ntB b]) ∧ w = w' := by
  obtain ⟨k, rfl⟩ := Int.eq_ofNat_of_zero_le (show 0 ≤ b by omega)
  refine (Tryd.strconv_Itoa_small k (by omega) w).mono fun e w' ⟨he, hw⟩ => ⟨?_, hw.symm⟩
  rw [he, ← dec_bell h]
  unfold dec
  rw [Int.toNat_natCast]
theorem countNote_any (b : Int) (l : List UInt8) (w : World) :
    Calls Tryd.prog 31 #[str l, str [ntB b]] w fun e w' => e = .returned (.int .i64 (cntN b l : Nat)) ∧ w = w' :=
  (Tryd.strings_Count_one ⟨l.toArray⟩ (ntB b) w).mono fun e w' ⟨he, hw⟩ => ⟨he, hw.symm⟩
def buR (T : List (List UInt8)) (b q : Int) : Int × Bool := if askB T q && inB b 1 8 then ((sumTm T (cntN b) (pbN q.toNat) T.length : Nat), true) else (0, false)
set_option maxHeartbeats 400000 in
theorem noteCount_any (b : Int) (l : List UInt8) (g : Nat) (w : World) (hc : w.cell? ⟨g, 0, none⟩ = some (str [ntB b])) :
    Calls Tryd.prog 30 #[str l, .pointer (some ⟨g, 0, none⟩)] w fun e w' => e = .returned (.int .i64 (cntN b l : Nat)) ∧ Below w.heap.size w w' := by
  (go_enter Tryd.func30, Tryd.ntmps30)
  go_wp2_with fail
  refine (countNote_any b l _).mono ?_
  (rintro e1 w1 ⟨rfl, rfl⟩)
  go_wp2
  go_ret
  exact ⟨rfl, by (repeat' (first | (with_reducible exact Below.refl _ _) | (with_reducible assumption) | (with_reducible refine Below.alloc ?_ ?_ _) | (with_reducible refine Below.drew ?_) | (with_reducible refine below_drewN ?_ _) | (with_reducible refine Below.setCell ?_ ?_ _) | (with_reducible refine below_call ?_ ?_ (by assumption)) | go_size))⟩
set_option maxHeartbeats 400000 in
theorem beIs_is {r : Bool} (x : Int) (h : inB x 1 8 = r) (w : World) :
    Calls Tryd.prog 21 #[.int .i64 x] w fun e w' => e = .returned (.bool r) ∧ w = w' := by
  (go_enter Tryd.func21, Tryd.ntmps21)
  go_wp2_with fail
  refine (l1In_is _ _ _ h _).mono ?_
  (rintro e1 w1 ⟨rfl, rfl⟩)
  go_wp2
  go_ret
  exact ⟨rfl, rfl⟩
set_option maxHeartbeats 1600000 in
theorem sumBell_any (bb : Int) (g : Nat) (a : Option Addr) (c : Nat) (T : List (List UInt8)) (q : Nat) (ht : okT T = true) (hq : q ≤ 100000000) (w : World) (hg : g < w.heap.size) (hcell : w.cell? ⟨g, 0, none⟩ = some (str [ntB bb])) (hin : XIn w a T) :
    Calls Tryd.prog 29 #[.slice a T.length c, .int .i64 (q : Int), .func (.func 30) #[] #[.pointer (some ⟨g, 0, none⟩)]] w fun e w' => e = .returned (.int .i64 (sumTm T (cntN bb) (pbN q) T.length : Nat)) ∧ Below w.heap.size w w' := by
  obtain ⟨hn, hall⟩ := okT_bd ht
  have X := Lib.hid hin
  have HA := Lib.hid hall
  clear hin hall ht
  have hpb := pbN_le q
  have hpn := pb_nat q
  have HPN := Lib.hid hpn
  obtain ⟨P, hP⟩ : ∃ P, P = pbN q := ⟨_, rfl⟩
  rw [← hP] at hpb HPN ⊢
  clear hP hpn
  (go_enter Tryd.func29, Tryd.ntmps29)
  go_wp2
  go_loopw [7, 13] (fun s i wr => ∃ k : Nat, k ≤ T.length ∧ i = .int .i64 k ∧ s = .int .i64 (sumTm T (cntN bb) P k : Nat) ∧ Below w.heap.size w wr) (fun _ i _ => T.length - (intOf i).toNat)
  case atStart => exact ⟨0, Nat.zero_le _, rfl, rfl, Below.refl _ _⟩
  case round =>
    obtain ⟨k, hk, rfl, rfl, hbr⟩ := hrel
    obtain ⟨hcr, hfr⟩ := bcell hbr
    have hzr := hbr.size
    have i0 : (0 : Int) ≤ (k : Int) := Int.natCast_nonneg _
    by_cases hlt : k < T.length
    · obtain ⟨b, off, rfl, e1, e2⟩ := X.out k hlt
      have i1 : (k : Int) < (T.length : Int) := by omega
      have u1 : b < wr.heap.size := by omega
      have hok := all_at (d := []) HA.out hlt
      have hf8 : ∀ j, j < T.length → (cntN bb) (T.getD j []) ≤ 8 := fun j hj => by exact Nat.le_trans (cntN_le _ _) (okP_bd (all_at (d := []) HA.out hj)).1.2
      have hsl := sumTm_le (P := P) hf8 k hk
      have htm := tmN_le (P := P) hlt
      have hf1 := hf8 k hlt
      have hprod := Nat.mul_le_mul htm hf1
      have HS : Hid (sumTm T (cntN bb) P (k + 1) = sumTm T (cntN bb) P k + tmN P T.length k * (cntN bb) (T.getD k [])) := Lib.hid (by rw [Nat.mul_comm]; rfl)
      have HTM : Hid (((P : Int) + T.length - 1 - k) / T.length = (tmN P T.length k : Nat)) := Lib.hid (by unfold tmN; rw [show (P : Int) + T.length - 1 - k = ((P + T.length - 1 - k : Nat) : Int) by omega]; norm_cast)
      have hm0 : 8 * (P + 1) * k ≤ 8 * (P + 1) * 12 := Nat.mul_le_mul_left _ (by omega)
      clear hf8
      have HC := Lib.hid (noteCount_any bb (T.getD k []) g wr ((hcr g 0 hg).trans hcell))
      generalize (cntN bb) (T.getD k []) = y at *
      generalize sumTm T (cntN bb) P k = s at *
      generalize T.getD k [] = l at *
      have g1 := w64 (n := (P : Int) + T.length) (by omega)
      have g2 := w64 (n := (P : Int) + T.length - 1) (by omega)
      have g3 := w64 (n := (P : Int) + T.length - 1 - k) (by omega)
      have g4 := q64 (n := (P : Int) + T.length - 1 - k) (g := (T.length : Int)) (by omega) (by omega) (by omega)
      have g5 : ((P : Int) + T.length - 1 - k).tdiv T.length = ((P : Int) + T.length - 1 - k) / T.length := Int.tdiv_eq_ediv_of_nonneg (by omega)
      have z1 : ¬ ((T.length : Int) = 0) := by omega
      have htmc := HTM.out
      rw [htmc] at g4 g5
      generalize tmN P T.length k = m at *
      have hmy : ((m * y : Nat) : Int) = (m : Int) * (y : Int) := by push_cast; rfl
      have g6 := w64 (n := (m : Int) * (y : Int)) (by omega)
      have g7 := w64 (n := (s : Int) + (m : Int) * (y : Int)) (by omega)
      have g8 := w64 (n := (m : Int)) (by omega)
      clear HTM
      go_wp2_with fail
      refine (phrasesBefore_any q (by omega) (by omega) _).mono ?_
      rw [HPN.out]
      (rintro e1 w1 ⟨rfl, rfl⟩)
      go_wp2_with fail
      refine HC.out.mono ?_
      rintro e9 w9 ⟨rfl, hb9⟩
      go_wp2
      go_roundw
      case rel =>
        refine ⟨k + 1, by omega, by go_num, ?_, hbr.trans (hb9.mono hzr)⟩
        rw [HS.out]
        exact ret_num (by push_cast; first | rfl | omega | (simp only [g5, htmc, g6, g7, g8]))
      case measure => simp [intOf]; omega
    · obtain rfl : k = T.length := by omega
      go_wp2
      go_ret
      exact ⟨rfl, hbr⟩

set_option maxHeartbeats 1600000 in
theorem implBellUpTo_any (a : Option Addr) (c : Nat) (T : List (List UInt8)) (b t : Int) (hm : T.length ≤ maxLen) (hs : ∀ k, k < T.length → (T.getD k []).length ≤ maxLen) (w : World) (hin : XIn w a T) :
    Calls Tryd.prog 10 #[.slice a T.length c, .int .i64 b, .int .i64 t] w fun e w' => e = .returned (jv (buR T b t)) ∧ Below w.heap.size w w' := by
  have X := Lib.hid hin
  have HSZ := Lib.hid hs
  clear hin hs
  cases ht : okT T
  · have HM := Lib.hid (show ((0 : Int), false) = buR T b t from by simp [buR, askB, ht])
    (go_enter Tryd.func10, Tryd.ntmps10)
    go_wp2_with fail
    refine (isTune_is a c T HSZ.out ht _ X.out).mono ?_
    (rintro e1 w1 ⟨rfl, hb1⟩; obtain ⟨hc1, hf1⟩ := bcell hb1; have hz1 := hb1.size; (try simp only [World.size_alloc, World.size_setCell, World.size_drew] at hz1); have q1 : w.heap.size ≤ w1.heap.size := (by omega); (try have q1_0 : w.heap.size < w1.heap.size := (by omega)); (try have q1_1 : w.heap.size + 1 < w1.heap.size := (by omega)); (try have q1_2 : w.heap.size + 2 < w1.heap.size := (by omega)); (try have q1_3 : w.heap.size + 3 < w1.heap.size := (by omega)))
    go_wp2
    (refine bodyPost_ret (by simp [results, Tryd.results10, go_sem, *]; try rfl) rfl ?_)
    exact ⟨ret_jv HM.out, by (repeat' (first | (with_reducible exact Below.refl _ _) | (with_reducible assumption) | (with_reducible refine Below.alloc ?_ ?_ _) | (with_reducible refine Below.drew ?_) | (with_reducible refine below_drewN ?_ _) | (with_reducible refine Below.setCell ?_ ?_ _) | (with_reducible refine below_call ?_ ?_ (by assumption)) | go_size))⟩
  · cases gb : inB b 1 8
    · have HM := Lib.hid (show ((0 : Int), false) = buR T b t from by simp [buR, gb])
      (go_enter Tryd.func10, Tryd.ntmps10)
      go_wp2_with fail
      refine (isTune_is a c T HSZ.out ht _ X.out).mono ?_
      (rintro e1 w1 ⟨rfl, hb1⟩; obtain ⟨hc1, hf1⟩ := bcell hb1; have hz1 := hb1.size; (try simp only [World.size_alloc, World.size_setCell, World.size_drew] at hz1); have q1 : w.heap.size ≤ w1.heap.size := (by omega); (try have q1_0 : w.heap.size < w1.heap.size := (by omega)); (try have q1_1 : w.heap.size + 1 < w1.heap.size := (by omega)); (try have q1_2 : w.heap.size + 2 < w1.heap.size := (by omega)); (try have q1_3 : w.heap.size + 3 < w1.heap.size := (by omega)))
      go_wp2_with fail
      refine (isBell_is b gb _).mono ?_
      (rintro e1 w1 ⟨rfl, rfl⟩)
      go_wp2
      (refine bodyPost_ret (by simp [results, Tryd.results10, go_sem, *]; try rfl) rfl ?_)
      exact ⟨ret_jv HM.out, by (repeat' (first | (with_reducible exact Below.refl _ _) | (with_reducible assumption) | (with_reducible refine Below.alloc ?_ ?_ _) | (with_reducible refine Below.drew ?_) | (with_reducible refine below_drewN ?_ _) | (with_reducible refine Below.setCell ?_ ?_ _) | (with_reducible refine below_call ?_ ?_ (by assumption)) | go_size))⟩
    · cases gq : inB t 0 1000000
      · have HM := Lib.hid (show ((0 : Int), false) = buR T b t from by simp [buR, askB, gq])
        (go_enter Tryd.func10, Tryd.ntmps10)
        go_wp2_with fail
        refine (isTune_is a c T HSZ.out ht _ X.out).mono ?_
        (rintro e1 w1 ⟨rfl, hb1⟩; obtain ⟨hc1, hf1⟩ := bcell hb1; have hz1 := hb1.size; (try simp only [World.size_alloc, World.size_setCell, World.size_drew] at hz1); have q1 : w.heap.size ≤ w1.heap.size := (by omega); (try have q1_0 : w.heap.size < w1.heap.size := (by omega)); (try have q1_1 : w.heap.size + 1 < w1.heap.size := (by omega)); (try have q1_2 : w.heap.size + 2 < w1.heap.size := (by omega)); (try have q1_3 : w.heap.size + 3 < w1.heap.size := (by omega)))
        go_wp2_with fail
        refine (isBell_is b gb _).mono ?_
        (rintro e1 w1 ⟨rfl, rfl⟩)
        go_wp2_with fail
        refine (isQuarter_is t gq _).mono ?_
        (rintro e1 w1 ⟨rfl, rfl⟩)
        go_wp2
        (refine bodyPost_ret (by simp [results, Tryd.results10, go_sem, *]; try rfl) rfl ?_)
        exact ⟨ret_jv HM.out, by (repeat' (first | (with_reducible exact Below.refl _ _) | (with_reducible assumption) | (with_reducible refine Below.alloc ?_ ?_ _) | (with_reducible refine Below.drew ?_) | (with_reducible refine below_drewN ?_ _) | (with_reducible refine Below.setCell ?_ ?_ _) | (with_reducible refine below_call ?_ ?_ (by assumption)) | go_size))⟩
      · have hq := inB_bd gq
        have hbb := inB_bd gb
        obtain ⟨q, rfl⟩ := Int.eq_ofNat_of_zero_le hq.1
        have HT := Lib.hid ht
        have HM := Lib.hid (show (((sumTm T (cntN b) (pbN q) T.length : Nat) : Int), true) = buR T b (q : Int) from by simp [buR, askB, ht, gb, gq])
        (go_enter Tryd.func10, Tryd.ntmps10)
        go_wp2_with fail
        refine (isTune_is a c T HSZ.out ht _ X.out).mono ?_
        rintro e1 w1 ⟨rfl, hb1⟩
        go_wp2_with fail
        refine (isBell_is b gb _).mono ?_
        (rintro e1 w1 ⟨rfl, rfl⟩)
        go_wp2_with fail
        refine (isQuarter_is (q : Int) gq _).mono ?_
        (rintro e1 w1 ⟨rfl, rfl⟩)
        go_wp2_with fail
        refine (itoa_bell b hbb _).mono ?_
        (rintro e1 w1 ⟨rfl, rfl⟩)
        have hbA : Below w1.heap.size w1 ((w1.alloc (.cells #[.string ⟨#[]⟩] 9)).setCell ⟨w1.heap.size, 0, none⟩ (str [ntB b])) := by (repeat' (first | (with_reducible exact Below.refl _ _) | (with_reducible assumption) | (with_reducible refine Below.alloc ?_ ?_ _) | (with_reducible refine Below.drew ?_) | (with_reducible refine below_drewN ?_ _) | (with_reducible refine Below.setCell ?_ ?_ _) | (with_reducible refine below_call ?_ ?_ (by assumption)) | go_size))
        go_wp2_with fail
        refine (sumBell_any b w1.heap.size a c T q HT.out (by omega) _ (by go_size) (by first | (go_simp; done) | simp) ((X.out.below hb1).below (by (repeat' (first | (with_reducible exact Below.refl _ _) | (with_reducible assumption) | (with_reducible refine Below.alloc ?_ ?_ _) | (with_reducible refine Below.drew ?_) | (with_reducible refine below_drewN ?_ _) | (with_reducible refine Below.setCell ?_ ?_ _) | (with_reducible refine below_call ?_ ?_ (by assumption)) | go_size))))).mono ?_
        rintro e9 w9 ⟨rfl, hb9⟩
        go_wp2
        (refine bodyPost_ret (by simp [results, Tryd.results10, go_sem, *]; try rfl) rfl ?_)
        refine ⟨ret_jv HM.out, ?_⟩
        exact hb1.trans ((Below.trans (by (repeat' (first | (with_reducible exact Below.refl _ _) | (with_reducible assumption) | (with_reducible refine Below.alloc ?_ ?_ _) | (with_reducible refine Below.drew ?_) | (with_reducible refine below_drewN ?_ _) | (with_reducible refine Below.setCell ?_ ?_ _) | (with_reducible refine below_call ?_ ?_ (by assumption)) | go_size))) (hb9.mono (by go_size)) : Below w1.heap.size w1 w9).mono hb1.size)

set_option maxHeartbeats 1600000 in
theorem specBellUpTo_any (a : Option Addr) (c : Nat) (T : List (List UInt8)) (b t : Int) (hm : T.length ≤ maxLen) (hs : ∀ k, k < T.length → (T.getD k []).length ≤ maxLen) (w : World) (hin : XIn w a T) :
    Calls Tryd.prog 8 #[.slice a T.length c, .int .i64 b, .int .i64 t] w fun e w' => e = .returned (jv (buR T b t)) ∧ Below w.heap.size w w' := by
  obtain ⟨i0, hi0, hz0, hz1, hz2⟩ := info_parts Tryd.infoInt
  have I0 := Lib.hid hi0
  have Z0 := Lib.hid hz0
  have Z1 := Lib.hid hz1
  have Z2 := Lib.hid hz2
  clear hi0 hz0 hz1 hz2
  have X := Lib.hid hin
  clear hin hs
  cases ga : askB T t
  · have HM := Lib.hid (show ((0 : Int), false) = buR T b t from by simp [buR, ga])
    (go_enter Tryd.func8, Tryd.ntmps8)
    go_wp2_with fail
    refine (beAsked_is a c T t hm ga _ X.out).mono ?_
    (rintro e1 w1 ⟨rfl, hb1⟩; obtain ⟨hc1, hf1⟩ := bcell hb1; have hz1 := hb1.size; (try simp only [World.size_alloc, World.size_setCell, World.size_drew] at hz1); have q1 : w.heap.size ≤ w1.heap.size := (by omega); (try have q1_0 : w.heap.size < w1.heap.size := (by omega)); (try have q1_1 : w.heap.size + 1 < w1.heap.size := (by omega)); (try have q1_2 : w.heap.size + 2 < w1.heap.size := (by omega)); (try have q1_3 : w.heap.size + 3 < w1.heap.size := (by omega)))
    go_wp2
    (refine bodyPost_ret (by simp [results, Tryd.results8, go_sem, *]; try rfl) rfl ?_)
    exact ⟨ret_jv HM.out, by (repeat' (first | (with_reducible exact Below.refl _ _) | (with_reducible assumption) | (with_reducible refine Below.alloc ?_ ?_ _) | (with_reducible refine Below.drew ?_) | (with_reducible refine below_drewN ?_ _) | (with_reducible refine Below.setCell ?_ ?_ _) | (with_reducible refine below_call ?_ ?_ (by assumption)) | go_size))⟩
  · cases gb : inB b 1 8
    · have HM := Lib.hid (show ((0 : Int), false) = buR T b t from by simp [buR, gb])
      (go_enter Tryd.func8, Tryd.ntmps8)
      go_wp2_with fail
      refine (beAsked_is a c T t hm ga _ X.out).mono ?_
      (rintro e1 w1 ⟨rfl, hb1⟩; obtain ⟨hc1, hf1⟩ := bcell hb1; have hz1 := hb1.size; (try simp only [World.size_alloc, World.size_setCell, World.size_drew] at hz1); have q1 : w.heap.size ≤ w1.heap.size := (by omega); (try have q1_0 : w.heap.size < w1.heap.size := (by omega)); (try have q1_1 : w.heap.size + 1 < w1.heap.size := (by omega)); (try have q1_2 : w.heap.size + 2 < w1.heap.size := (by omega)); (try have q1_3 : w.heap.size + 3 < w1.heap.size := (by omega)))
      go_wp2_with fail
      refine (beIs_is b gb _).mono ?_
      (rintro e1 w1 ⟨rfl, rfl⟩)
      go_wp2
      (refine bodyPost_ret (by simp [results, Tryd.results8, go_sem, *]; try rfl) rfl ?_)
      exact ⟨ret_jv HM.out, by (repeat' (first | (with_reducible exact Below.refl _ _) | (with_reducible assumption) | (with_reducible refine Below.alloc ?_ ?_ _) | (with_reducible refine Below.drew ?_) | (with_reducible refine below_drewN ?_ _) | (with_reducible refine Below.setCell ?_ ?_ _) | (with_reducible refine below_call ?_ ?_ (by assumption)) | go_size))⟩
    · obtain ⟨ht, gq⟩ : okT T = true ∧ inB t 0 1000000 = true := by simpa [askB] using ga
      have hq := inB_bd gq
      have hbb := inB_bd gb
      obtain ⟨q, rfl⟩ := Int.eq_ofNat_of_zero_le hq.1
      obtain ⟨hn, -⟩ := okT_bd ht
      have HT := Lib.hid ht
      have HM := Lib.hid (show (((sumTm T (cntN b) (pbN q) T.length : Nat) : Int), true) = buR T b (q : Int) from by simp [buR, ga, gb])
      (go_enter Tryd.func8, Tryd.ntmps8)
      go_wp2_with fail
      refine (beAsked_is a c T q hm ga _ X.out).mono ?_
      rintro e1 w1 ⟨rfl, hbB⟩
      have hzB := hbB.size
      go_wp2_with fail
      refine (beIs_is b gb _).mono ?_
      (rintro e1 w1 ⟨rfl, rfl⟩)
      go_wp2
      go_loopw [8, 22] (fun o i wr => ∃ k : Nat, k ≤ T.length ∧ i = .int .i64 k ∧ wr.ownsRow w.heap.size 3 1 o k (ints (tmsL T (cntN b) k)) ∧ Below w.heap.size w wr) (fun _ i _ => T.length - (intOf i).toNat)
      case atStart => exact ⟨0, Nat.zero_le _, rfl, World.ownsRow_nil _ _ _ _, by first | exact hbB | ((repeat' (first | (with_reducible exact Below.refl _ _) | (with_reducible assumption) | (with_reducible refine Below.alloc ?_ ?_ _) | (with_reducible refine Below.drew ?_) | (with_reducible refine below_drewN ?_ _) | (with_reducible refine Below.setCell ?_ ?_ _) | (with_reducible refine below_call ?_ ?_ (by assumption)) | go_size)))⟩
      case round =>
        obtain ⟨k, hk, rfl, hown, hbr⟩ := hrel
        have HO := Lib.hid hown
        have hzr := hbr.size
        have i0' : (0 : Int) ≤ (k : Int) := Int.natCast_nonneg _
        by_cases hlt : k < T.length
        · obtain ⟨hcr, hfr⟩ := bcell hbr
          obtain ⟨g0, off, rfl, e1, e2⟩ := X.out k hlt
          have u1 : g0 < wr.heap.size := by omega
          have i1 : (k : Int) < (T.length : Int) := by omega
          have hok := all_at (d := []) (okT_bd HT.out).2 hlt
          have hl8 := (okP_bd hok).1
          have HSN := Lib.hid (tmsL_snoc T (cntN b) k)
          have HLT : ∀ k, u8.ownBlock = some k → w.heap.size ≤ k := fun k hk => (World.ownsRow.lt HO.out k hk).1
          clear hown
          generalize T.getD k [] = l at *
          have hcl := cntN_le b l
          have HCB := Lib.hid (fun W => beBell_any b l hbb (by omega) W)
          generalize cntN b l = y at *
          go_wp2_with fail
          refine (HCB.out _).mono ?_
          (rintro e1 w1 ⟨rfl, rfl⟩)
          go_wp2_with (at_builtin; refine wpList_append_lies _ rfl _ _ _ rfl (w.heap.size) 3 i0 _ 1 8 Tryd.underlying36 I0.out Z0.out Z1.out Z2.out rfl (by omega) u8 (k) _ rfl (World.ownsRow.alloc HO.out _) ⟨wr.heap.size, 0, none⟩ 1 1 [.int .i64 ((y : Nat) : Int)] rfl rfl (World.news_of_block (cs := #[.int .i64 ((y : Nat) : Int)]) (t := 3) (fr := (0, 0)) (by simpa using heap_alloc_new wr _)) (by simp [Value.oneCell']) (by omega) (by unfold maxLen; omega) (by omega) (by simp; omega) (wr.heap.size + 1) (by simp) ?_; intro g cap w3 hown3 hgrow hat hlt3)
          go_wp2
          go_roundw
          case rel =>
            refine ⟨k + 1, by omega, by go_num, ?_, ?_⟩
            · rw [HSN.out]; exact hown3
            · exact Below.grown (by (repeat' (first | (with_reducible exact Below.refl _ _) | (with_reducible assumption) | (with_reducible refine Below.alloc ?_ ?_ _) | (with_reducible refine Below.drew ?_) | (with_reducible refine below_drewN ?_ _) | (with_reducible refine Below.setCell ?_ ?_ _) | (with_reducible refine below_call ?_ ?_ (by assumption)) | go_size))) hgrow (by simp; omega) HLT
          case measure => simp [intOf]; omega
        · obtain rfl : k = T.length := by omega
          have HRW : Hid (IRow wr w.heap.size u8 (tmsL T (cntN b) T.length)) := Lib.hid (by unfold IRow; rw [tmsL_len]; exact hown)
          clear hown
          go_wp2_with fail
          refine (beBefore_any (q : Int) (by omega) (by omega) _).mono ?_
          rw [pb_nat]
          (rintro e1 w1 ⟨rfl, rfl⟩)
          go_wp2_with fail
          refine (beTimes_any T (cntN b) (fun j hj => Nat.le_trans (cntN_le _ _) (okP_bd (all_at (d := []) (okT_bd HT.out).2 hj)).1.2) hn (pbN q) (by have := pbN_le q; omega) _ _ _ HRW.out).mono ?_
          rintro e9 w9 ⟨rfl, hb9⟩
          go_wp2
          (refine bodyPost_ret (by simp [results, Tryd.results8, go_sem, *]; try rfl) rfl ?_)
          exact ⟨ret_jv HM.out, hbr.trans (hb9.mono hzr)⟩
end Go.Proofs.YtijnppomeoaebaaDoor
