/- The teeth and the ratio of a train: by the program and by the model. -/
import Derived.Test.YtaifcemdabcfjaaGe1
set_option linter.unusedSimpArgs false
set_option linter.unusedVariables false
set_option maxRecDepth 100000
namespace Go.Proofs.Ytaifcemdabcfjaa
open Go.RowKit

set_option maxHeartbeats 1600000 in
theorem teethOf_any (a : Option Addr) (c : Nat) (L : List (Int × Int)) (hr : trainB L = true) (w : World) (hin : PIn w a L) :
    Calls Try.prog 91 #[.slice a L.length c] w fun e w' => e = .returned (.int .i64 (sumT L)) ∧ Below w.heap.size w w' := by
  have X1 := Lib.hid hin
  clear hin
  have hT := trainB_bd hr
  have hTl := hT.1
  have HT := Lib.hid hT.2
  clear hT
  have HB := Lib.hid (fun k => train_bd (trainB_take hr k))
  (go_enter Try.func91, Try.ntmps91)
  go_wp2
  go_loopw [3, 8] (fun s i wr => ∃ k : Nat, k ≤ L.length ∧ i = .int .i64 k ∧ s = .int .i64 (sumT (L.take k)) ∧ Below w.heap.size w wr) (fun _ i _ => L.length - (intOf i).toNat)
  case atStart => exact ⟨0, Nat.zero_le _, rfl, by simp [sumT], Below.refl _ _⟩
  case round =>
    obtain ⟨k, hk, rfl, rfl, hbel⟩ := hrel
    have hz := hbel.size
    have i0 : (0 : Int) ≤ (k : Int) := Int.natCast_nonneg _
    by_cases hlt : k < L.length
    · obtain ⟨x, y, hxy⟩ : ∃ x y, L.getD k (0, 0) = (x, y) := ⟨_, _, rfl⟩
      obtain ⟨b, off, rfl, u1, f2, f3⟩ := X1.out.at hlt hbel hxy
      have hp := HT.out k hlt
      rw [hxy] at hp
      obtain ⟨⟨p1, p2⟩, p3, p4⟩ := pairB_bd hp
      simp only at p1 p2 p3 p4
      have HN := Lib.hid (sumT_next hlt hxy)
      obtain ⟨-, -, s1, s2⟩ := HB.out k
      clear hxy hp
      generalize sumT (L.take k) = s at *
      have i1 : (k : Int) < (L.length : Int) := by omega
      go_wp2
      go_roundw
      case rel => exact ⟨k + 1, by omega, by go_num, ret_num (by rw [HN.out]), by (repeat' (first | (with_reducible exact Below.refl _ _) | (with_reducible assumption) | (with_reducible refine Below.alloc ?_ ?_ _) | (with_reducible refine Below.drew ?_) | (with_reducible refine below_drewN ?_ _) | (with_reducible refine Below.setCell ?_ ?_ _) | (with_reducible refine below_call ?_ ?_ (by assumption)) | go_size))⟩
      case measure => simp [intOf]; omega
    · obtain rfl : k = L.length := by omega
      rw [List.take_length]
      go_wp2
      go_ret
      exact ⟨rfl, hbel⟩
/-- What is handed back of a train's number and whether there is one. -/
def teethR (L : List (Int × Int)) : Int × Bool := if trainB L then (sumT L, true) else (0, false)
set_option maxHeartbeats 400000 in
theorem implTeethOf_any (a : Option Addr) (c : Nat) (L : List (Int × Int)) (w : World) (hin : PIn w a L) (hm : L.length ≤ maxLen) :
    Calls Try.prog 58 #[.slice a L.length c] w fun e w' => e = .returned (iv (teethR L)) ∧ Below w.heap.size w w' := by
  have X1 := Lib.hid hin
  clear hin
  cases ht : trainB L
  · have HM := Lib.hid (show (0, false) = teethR L from by simp [teethR, ht])
    (go_enter Try.func58, Try.ntmps58)
    go_wp2_with fail
    refine (implIsTrain_is a c L ht _ X1.out hm).mono ?_
    (rintro e1 w1 ⟨rfl, hb1⟩; obtain ⟨hc1, hf1⟩ := bcell hb1; have hz1 := hb1.size; (try simp only [World.size_alloc, World.size_setCell, World.size_drew] at hz1); have q1 : w.heap.size ≤ w1.heap.size := (by omega); (try have q1_0 : w.heap.size < w1.heap.size := (by omega)); (try have q1_1 : w.heap.size + 1 < w1.heap.size := (by omega)); (try have q1_2 : w.heap.size + 2 < w1.heap.size := (by omega)); (try have q1_3 : w.heap.size + 3 < w1.heap.size := (by omega)))
    go_wp2
    go_ret2
    exact ⟨ret_iv HM.out, by (repeat' (first | (with_reducible exact Below.refl _ _) | (with_reducible assumption) | (with_reducible refine Below.alloc ?_ ?_ _) | (with_reducible refine Below.drew ?_) | (with_reducible refine below_drewN ?_ _) | (with_reducible refine Below.setCell ?_ ?_ _) | (with_reducible refine below_call ?_ ?_ (by assumption)) | go_size))⟩
  · have HM := Lib.hid (show (sumT L, true) = teethR L from by simp [teethR, ht])
    (go_enter Try.func58, Try.ntmps58)
    go_wp2_with fail
    refine (implIsTrain_is a c L ht _ X1.out hm).mono ?_
    (rintro e1 w1 ⟨rfl, hb1⟩; obtain ⟨hc1, hf1⟩ := bcell hb1; have hz1 := hb1.size; (try simp only [World.size_alloc, World.size_setCell, World.size_drew] at hz1); have q1 : w.heap.size ≤ w1.heap.size := (by omega); (try have q1_0 : w.heap.size < w1.heap.size := (by omega)); (try have q1_1 : w.heap.size + 1 < w1.heap.size := (by omega)); (try have q1_2 : w.heap.size + 2 < w1.heap.size := (by omega)); (try have q1_3 : w.heap.size + 3 < w1.heap.size := (by omega)))
    go_wp2_with fail
    refine (teethOf_any a c L ht _ (X1.out.below hb1)).mono ?_
    (rintro e2 w2 ⟨rfl, hb2⟩; obtain ⟨hc2, hf2⟩ := bcell hb2; have hz2 := hb2.size; (try simp only [World.size_alloc, World.size_setCell, World.size_drew] at hz2); have q2 : w.heap.size ≤ w2.heap.size := (by omega); (try have q2_0 : w.heap.size < w2.heap.size := (by omega)); (try have q2_1 : w.heap.size + 1 < w2.heap.size := (by omega)); (try have q2_2 : w.heap.size + 2 < w2.heap.size := (by omega)); (try have q2_3 : w.heap.size + 3 < w2.heap.size := (by omega)); (try have q2_1_0 : w1.heap.size < w2.heap.size := (by omega)); (try have q2_1_1 : w1.heap.size + 1 < w2.heap.size := (by omega)))
    go_wp2
    go_ret2
    exact ⟨ret_iv HM.out, by (repeat' (first | (with_reducible exact Below.refl _ _) | (with_reducible assumption) | (with_reducible refine Below.alloc ?_ ?_ _) | (with_reducible refine Below.drew ?_) | (with_reducible refine below_drewN ?_ _) | (with_reducible refine Below.setCell ?_ ?_ _) | (with_reducible refine below_call ?_ ?_ (by assumption)) | go_size))⟩
set_option maxHeartbeats 1600000 in
theorem specTeethOf_any (a : Option Addr) (c : Nat) (L : List (Int × Int)) (w : World) (hin : PIn w a L) (hm : L.length ≤ maxLen) :
    Calls Try.prog 57 #[.slice a L.length c] w fun e w' => e = .returned (iv (teethR L)) ∧ Below w.heap.size w w' := by
  have X1 := Lib.hid hin
  clear hin
  cases ht : trainB L
  · have HM := Lib.hid (show (0, false) = teethR L from by simp [teethR, ht])
    (go_enter Try.func57, Try.ntmps57)
    go_wp2_with fail
    refine (geTrain_is a c L ht _ X1.out hm).mono ?_
    (rintro e1 w1 ⟨rfl, hb1⟩; obtain ⟨hc1, hf1⟩ := bcell hb1; have hz1 := hb1.size; (try simp only [World.size_alloc, World.size_setCell, World.size_drew] at hz1); have q1 : w.heap.size ≤ w1.heap.size := (by omega); (try have q1_0 : w.heap.size < w1.heap.size := (by omega)); (try have q1_1 : w.heap.size + 1 < w1.heap.size := (by omega)); (try have q1_2 : w.heap.size + 2 < w1.heap.size := (by omega)); (try have q1_3 : w.heap.size + 3 < w1.heap.size := (by omega)))
    go_wp2
    go_ret2
    exact ⟨ret_iv HM.out, by (repeat' (first | (with_reducible exact Below.refl _ _) | (with_reducible assumption) | (with_reducible refine Below.alloc ?_ ?_ _) | (with_reducible refine Below.drew ?_) | (with_reducible refine below_drewN ?_ _) | (with_reducible refine Below.setCell ?_ ?_ _) | (with_reducible refine below_call ?_ ?_ (by assumption)) | go_size))⟩
  · have HM := Lib.hid (show (sumT L, true) = teethR L from by simp [teethR, ht])
    have hT := trainB_bd ht
    have hTl := hT.1
    have HT := Lib.hid hT.2
    clear hT
    have HB := Lib.hid (fun k => train_bd (trainB_take ht k))
    (go_enter Try.func57, Try.ntmps57)
    go_wp2_with fail
    refine (geTrain_is a c L ht _ X1.out hm).mono ?_
    (rintro e1 w1 ⟨rfl, hb1⟩; obtain ⟨hc1, hf1⟩ := bcell hb1; have hz1 := hb1.size; (try simp only [World.size_alloc, World.size_setCell, World.size_drew] at hz1); have q1 : w.heap.size ≤ w1.heap.size := (by omega); (try have q1_0 : w.heap.size < w1.heap.size := (by omega)); (try have q1_1 : w.heap.size + 1 < w1.heap.size := (by omega)); (try have q1_2 : w.heap.size + 2 < w1.heap.size := (by omega)); (try have q1_3 : w.heap.size + 3 < w1.heap.size := (by omega)))
    go_wp2
    go_loopw [4, 12] (fun s i wr => ∃ k : Nat, k ≤ L.length ∧ i = .int .i64 k ∧ s = .int .i64 (sumT (L.take k)) ∧ Below w.heap.size w wr) (fun _ i _ => L.length - (intOf i).toNat)
    case atStart => exact ⟨0, Nat.zero_le _, rfl, by simp [sumT], by (repeat' (first | (with_reducible exact Below.refl _ _) | (with_reducible assumption) | (with_reducible refine Below.alloc ?_ ?_ _) | (with_reducible refine Below.drew ?_) | (with_reducible refine below_drewN ?_ _) | (with_reducible refine Below.setCell ?_ ?_ _) | (with_reducible refine below_call ?_ ?_ (by assumption)) | go_size))⟩
    case round =>
      obtain ⟨k, hk, rfl, rfl, hbel⟩ := hrel
      have hz := hbel.size
      have i0 : (0 : Int) ≤ (k : Int) := Int.natCast_nonneg _
      by_cases hlt : k < L.length
      · obtain ⟨x, y, hxy⟩ : ∃ x y, L.getD k (0, 0) = (x, y) := ⟨_, _, rfl⟩
        obtain ⟨b, off, rfl, u1, f2, f3⟩ := X1.out.at hlt hbel hxy
        have hp := HT.out k hlt
        rw [hxy] at hp
        obtain ⟨⟨p1, p2⟩, p3, p4⟩ := pairB_bd hp
        simp only at p1 p2 p3 p4
        have HN := Lib.hid (sumT_next hlt hxy)
        obtain ⟨-, -, s1, s2⟩ := HB.out k
        clear hxy hp
        generalize sumT (L.take k) = s at *
        have i1 : (k : Int) < (L.length : Int) := by omega
        go_wp2
        go_roundw
        case rel => exact ⟨k + 1, by omega, by go_num, ret_num (by rw [HN.out]), by (repeat' (first | (with_reducible exact Below.refl _ _) | (with_reducible assumption) | (with_reducible refine Below.alloc ?_ ?_ _) | (with_reducible refine Below.drew ?_) | (with_reducible refine below_drewN ?_ _) | (with_reducible refine Below.setCell ?_ ?_ _) | (with_reducible refine below_call ?_ ?_ (by assumption)) | go_size))⟩
        case measure => simp [intOf]; omega
      · obtain rfl : k = L.length := by omega
        rw [List.take_length]
        go_wp2
        go_ret2
        exact ⟨ret_iv HM.out, hbel⟩
/-- Two numbers handed back. -/
abbrev tp (a b : Int) : Value := .tuple #[.int .i64 a, .int .i64 b]
set_option maxHeartbeats 1600000 in
theorem geRatio_any (a : Option Addr) (c : Nat) (L : List (Int × Int)) (hr : trainB L = true) (w : World) (hin : PIn w a L) :
    Calls Try.prog 64 #[.slice a L.length c] w fun e w' => e = .returned (tp (spN (numT L) (denT L)) (spD (numT L) (denT L))) ∧ Below w.heap.size w w' := by
  have X1 := Lib.hid hin
  clear hin
  have hT := trainB_bd hr
  have hTl := hT.1
  have HT := Lib.hid hT.2
  clear hT
  have HB := Lib.hid (fun k => train_bd (trainB_take hr k))
  (go_enter Try.func64, Try.ntmps64)
  go_wp2
  go_loopw [4, 5, 11] (fun s q i wr => ∃ k : Nat, k ≤ L.length ∧ i = .int .i64 k ∧ s = .int .i64 (numT (L.take k)) ∧ q = .int .i64 (denT (L.take k)) ∧ Below w.heap.size w wr) (fun _ _ i _ => L.length - (intOf i).toNat)
  case atStart => exact ⟨0, Nat.zero_le _, rfl, by simp [numT], by simp [denT], Below.refl _ _⟩
  case round =>
    obtain ⟨k, hk, rfl, rfl, rfl, hbel⟩ := hrel
    have hz := hbel.size
    have i0 : (0 : Int) ≤ (k : Int) := Int.natCast_nonneg _
    by_cases hlt : k < L.length
    · obtain ⟨x, y, hxy⟩ : ∃ x y, L.getD k (0, 0) = (x, y) := ⟨_, _, rfl⟩
      obtain ⟨b, off, rfl, u1, f2, f3⟩ := X1.out.at hlt hbel hxy
      have hp := HT.out k hlt
      rw [hxy] at hp
      obtain ⟨⟨p1, p2⟩, p3, p4⟩ := pairB_bd hp
      simp only at p1 p2 p3 p4
      have HN := Lib.hid (numT_next hlt hxy)
      have HD := Lib.hid (denT_next hlt hxy)
      obtain ⟨⟨s1, s2⟩, ⟨t1, t2⟩, -⟩ := HB.out k
      clear hxy hp
      generalize numT (L.take k) = s at *
      generalize denT (L.take k) = t at *
      have i1 : (k : Int) < (L.length : Int) := by omega
      obtain ⟨m1, m2⟩ := mulb (show 0 ≤ s by omega) s2 (show 0 ≤ x by omega) p2
      obtain ⟨m3, m4⟩ := mulb (show 0 ≤ t by omega) t2 (show 0 ≤ y by omega) p4
      go_wp2
      go_roundw
      case rel => exact ⟨k + 1, by omega, by go_num, ret_num (by rw [HN.out]), ret_num (by rw [HD.out]), by (repeat' (first | (with_reducible exact Below.refl _ _) | (with_reducible assumption) | (with_reducible refine Below.alloc ?_ ?_ _) | (with_reducible refine Below.drew ?_) | (with_reducible refine below_drewN ?_ _) | (with_reducible refine Below.setCell ?_ ?_ _) | (with_reducible refine below_call ?_ ?_ (by assumption)) | go_size))⟩
      case measure => simp [intOf]; omega
    · obtain rfl : k = L.length := by omega
      rw [List.take_length]
      obtain ⟨⟨s1, s2⟩, ⟨t1, t2⟩, -⟩ := HB.out L.length
      rw [List.take_length] at s1 s2 t1 t2
      have hg := gcd_pos_of (numT L) (denT L) t1
      have HR := Lib.hid (show tp (numT L / gc (numT L) (denT L)) (denT L / gc (numT L) (denT L)) = tp (spN (numT L) (denT L)) (spD (numT L) (denT L)) from rfl)
      go_wp2_with fail
      refine (diCommon_any _ _ (by omega) (by omega) _).mono ?_
      rintro e1 w1 ⟨rfl, hb1⟩
      have hz1 := hb1.size
      go_wp2
      go_region
      all_goals (go_wp2; (refine bodyPost_ret (by simp [results, Try.results64, go_sem, *]; try rfl) rfl ?_))
      all_goals exact ⟨congrArg Ending.returned HR.out, by (repeat' (first | (with_reducible exact Below.refl _ _) | (with_reducible assumption) | (with_reducible refine Below.alloc ?_ ?_ _) | (with_reducible refine Below.drew ?_) | (with_reducible refine below_drewN ?_ _) | (with_reducible refine Below.setCell ?_ ?_ _) | (with_reducible refine below_call ?_ ?_ (by assumption)) | go_size))⟩
end Go.Proofs.Ytaifcemdabcfjaa
