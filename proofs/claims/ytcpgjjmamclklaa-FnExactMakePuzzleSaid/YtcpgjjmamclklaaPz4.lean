/- Puzzles: the clue that minutes have, and whether they fit one: by the program and by the model. -/
import Derived.Test.YtcpgjjmamclklaaPz1
import Derived.ChangeKeysEq
set_option linter.unusedSimpArgs false
set_option linter.unusedVariables false
set_option maxRecDepth 100000
namespace Go.Proofs.Ytcpgjjmamclklaa
open Go.RowKit

theorem Try.infoNum : (Try.prog.info? 3).map (fun i => (i.zero, i.size, i.bytes)) = some (some (.int .i64 0), 1, 8) := by kernel_rfl
/-- '==' between the parts of two clues. -/
theorem run_eql_parts (a b c a' b' c' : Int) (w : World) : (binOp .eql 66 (kv a b c) (kv a' b' c')).run Try.prog w = .ok (.bool (decide ((a, b, c) = (a', b', c')))) w := by
  have u := Try.underlying66
  obtain ⟨i0, hi, -, -, -⟩ := info_parts Try.infoNum
  have hc : Try.prog.cellsOf 3 = 1 := by kernel_rfl
  have u3 := Try.underlying3
  have a3 := Try.isAgg3
  have z3 := Try.sizeOf3
  rw [run_eql_struct, show (10000 : Nat) = 9999 + 1 from rfl, run_equalIn_array w 9999 _ _ u hi, hc]
  simp only [List.range_succ, List.range_zero, List.nil_append, List.cons_append, Op.eqItems]
  go_simp
  by_cases h1 : a = a' <;> by_cases h2 : b = b' <;> by_cases h3 : c = c' <;> simp [h1, h2, h3]
attribute [local go_sem ↓] run_eql_parts
set_option maxHeartbeats 400000 in
theorem digitSum_any (n : Int) (h : 0 ≤ n ∧ n ≤ 99) (w : World) :
    Calls Try.prog 120 #[.int .i64 n] w fun e w' => e = .returned (.int .i64 (dsum n)) ∧ w = w' := by
  have f1 := zq64 (n := n) (g := 10) (by omega) (by omega) (by omega)
  have f2 : n.tmod 10 = n % 10 := Int.tmod_eq_emod_of_nonneg h.1
  have f3 := zw64 (n := n / 10 + n % 10) (by omega)
  have HE := Lib.hid (show n / 10 + n % 10 = dsum n from rfl)
  have f4 := zw64 (n := n % 10) (by omega)
  (go_enter Try.func120, Try.ntmps120)
  go_wp2
  go_ret
  exact ⟨zret_int HE.out, rfl⟩
set_option maxHeartbeats 400000 in
theorem turnOfMinute_any (h m : Int) (hh : 2 ≤ h ∧ h ≤ 24) (w : World) :
    Calls Try.prog 112 #[.int .i64 h, .int .i64 m] w fun e w' => e = .returned (tv (lowNum m (60 * h)) (lowDen m (60 * h))) ∧ Below w.heap.size w w' := by
  have f1 := zw64 (n := 60 * h) (by omega)
  (go_enter Try.func112, Try.ntmps112)
  go_wp2_with fail
  refine (lowest_any m (60 * h) (by omega) (by omega) _).mono ?_
  (rintro e1 w1 ⟨rfl, hb1⟩; obtain ⟨hc1, hf1⟩ := bcell hb1; have hz1 := hb1.size; (try simp only [World.size_alloc, World.size_setCell, World.size_drew] at hz1); have q1 : w.heap.size ≤ w1.heap.size := (by omega); (try have q1_0 : w.heap.size < w1.heap.size := (by omega)); (try have q1_1 : w.heap.size + 1 < w1.heap.size := (by omega)); (try have q1_2 : w.heap.size + 2 < w1.heap.size := (by omega)); (try have q1_3 : w.heap.size + 3 < w1.heap.size := (by omega)))
  go_wp2
  (refine bodyPost_ret (by simp [results, Try.results112, go_sem, *]; try rfl) rfl ?_)
  exact ⟨rfl, by (repeat' (first | (with_reducible exact Below.refl _ _) | (with_reducible assumption) | (with_reducible refine Below.alloc ?_ ?_ _) | (with_reducible refine Below.drew ?_) | (with_reducible refine below_drewN ?_ _) | (with_reducible refine Below.setCell ?_ ?_ _) | (with_reducible refine below_call ?_ ?_ (by assumption)) | go_size))⟩
theorem mt_bd {h m : Int} (hh : 2 ≤ h ∧ h ≤ 24) (hm : 0 ≤ m ∧ m < 60 * h) : (1 ≤ lowDen m (60 * h) ∧ lowDen m (60 * h) ≤ 1440) ∧ 0 ≤ lowNum m (60 * h) ∧ lowNum m (60 * h) ≤ 1440 := by
  obtain ⟨g, hg, e1, e2⟩ := low_part (m := m) (D := 60 * h) (by omega) hm.1 hm.2
  have b := low_bd m (60 * h) (by omega)
  have l := low_lt m (60 * h) (by omega)
  have : 1 * lowDen m (60 * h) ≤ g * lowDen m (60 * h) := Int.mul_le_mul_of_nonneg_right hg (by omega)
  omega
set_option maxHeartbeats 400000 in
theorem zAngle_any (n d h : Int) (hh : 2 ≤ h ∧ h ≤ 24) (hd : 1 ≤ d ∧ d ≤ 1440) (hn : 0 ≤ n ∧ n ≤ 1440) (w : World) :
    Calls Try.prog 127 #[kv n d h] w fun e w' => e = .returned (tv (lowNum (n * (h - 1)) d) (lowDen (n * (h - 1)) d)) ∧ Below w.heap.size w w' := by
  obtain ⟨p1, p2⟩ := mulb hn.1 hn.2 (show 0 ≤ (h - 1) by omega) (show (h - 1) ≤ 23 by omega)
  have f1 := zw64 (n := h - 1) (by omega)
  (go_enter Try.func127, Try.ntmps127)
  go_wp2_with fail
  refine (manyTimes_any n d (h - 1) hd.1 (by omega) (by omega) (by omega) _).mono ?_
  (rintro e1 w1 ⟨rfl, hb1⟩; obtain ⟨hc1, hf1⟩ := bcell hb1; have hz1 := hb1.size; (try simp only [World.size_alloc, World.size_setCell, World.size_drew] at hz1); have q1 : w.heap.size ≤ w1.heap.size := (by omega); (try have q1_0 : w.heap.size < w1.heap.size := (by omega)); (try have q1_1 : w.heap.size + 1 < w1.heap.size := (by omega)); (try have q1_2 : w.heap.size + 2 < w1.heap.size := (by omega)); (try have q1_3 : w.heap.size + 3 < w1.heap.size := (by omega)))
  go_wp2
  (refine bodyPost_ret (by simp [results, Try.results127, go_sem, *]; try rfl) rfl ?_)
  exact ⟨rfl, by (repeat' (first | (with_reducible exact Below.refl _ _) | (with_reducible assumption) | (with_reducible refine Below.alloc ?_ ?_ _) | (with_reducible refine Below.drew ?_) | (with_reducible refine below_drewN ?_ _) | (with_reducible refine Below.setCell ?_ ?_ _) | (with_reducible refine below_call ?_ ?_ (by assumption)) | go_size))⟩
set_option maxHeartbeats 800000 in
theorem aheadOfMinute_any (h m : Int) (hh : 2 ≤ h ∧ h ≤ 24) (hm : 0 ≤ m ∧ m < 60 * h) (w : World) :
    Calls Try.prog 121 #[.int .i64 h, .int .i64 m] w fun e w' => e = .returned (.int .i64 (ahd h m)) ∧ Below w.heap.size w w' := by
  obtain ⟨b1, b2⟩ := mt_bd hh hm
  have HA := Lib.hid (ahd_low hh hm.1 hm.2)
  have HT := Lib.hid (fun W => turnOfMinute_any h m hh W)
  generalize lowNum m (60 * h) = n at *
  generalize lowDen m (60 * h) = d at *
  have HG := Lib.hid (fun W => zAngle_any n d h hh b1 b2 W)
  have l1 := low_bd (n * (h - 1)) d (by omega)
  have l2 := low_lt (n * (h - 1)) d (by omega)
  generalize lowNum (n * (h - 1)) d = p at *
  generalize lowDen (n * (h - 1)) d = q at *
  have HO := Lib.hid (fun W => turnOrder_any p q 1 2 (by omega) (by omega) W)
  have hb0 : p * 2 - 1 * q = 2 * p - q := by omega
  rw [hb0] at HO
  clear hb0
  have HS : Hid (sg (2 * p - q) < 0 ↔ 2 * p - q < 0) := Lib.hid (by unfold sg; split <;> (try split) <;> omega)
  have hsb : -1 ≤ sg (2 * p - q) ∧ sg (2 * p - q) ≤ 1 := by unfold sg; split <;> (try split) <;> omega
  generalize sg (2 * p - q) = s at *
  by_cases hs : s < 0
  · have HE := Lib.hid (show (1 : Int) = ahd h m from by rw [HA.out, if_pos (HS.out.1 hs)])
    clear b1 b2 l1 l2
    (go_enter Try.func121, Try.ntmps121)
    go_wp2_with fail
    refine (HT.out _).mono ?_
    (rintro e1 w1 ⟨rfl, hb1⟩; obtain ⟨hc1, hf1⟩ := bcell hb1; have hz1 := hb1.size; (try simp only [World.size_alloc, World.size_setCell, World.size_drew] at hz1); have q1 : w.heap.size ≤ w1.heap.size := (by omega); (try have q1_0 : w.heap.size < w1.heap.size := (by omega)); (try have q1_1 : w.heap.size + 1 < w1.heap.size := (by omega)); (try have q1_2 : w.heap.size + 2 < w1.heap.size := (by omega)); (try have q1_3 : w.heap.size + 3 < w1.heap.size := (by omega)))
    go_wp2_with fail
    refine (HG.out _).mono ?_
    (rintro e2 w2 ⟨rfl, hb2⟩; obtain ⟨hc2, hf2⟩ := bcell hb2; have hz2 := hb2.size; (try simp only [World.size_alloc, World.size_setCell, World.size_drew] at hz2); have q2 : w.heap.size ≤ w2.heap.size := (by omega); (try have q2_0 : w.heap.size < w2.heap.size := (by omega)); (try have q2_1 : w.heap.size + 1 < w2.heap.size := (by omega)); (try have q2_2 : w.heap.size + 2 < w2.heap.size := (by omega)); (try have q2_3 : w.heap.size + 3 < w2.heap.size := (by omega)); (try have q2_1_0 : w1.heap.size < w2.heap.size := (by omega)); (try have q2_1_1 : w1.heap.size + 1 < w2.heap.size := (by omega)))
    go_wp2_with fail
    refine (HO.out _).mono ?_
    (rintro e3 w3 ⟨rfl, hb3⟩; obtain ⟨hc3, hf3⟩ := bcell hb3; have hz3 := hb3.size; (try simp only [World.size_alloc, World.size_setCell, World.size_drew] at hz3); have q3 : w.heap.size ≤ w3.heap.size := (by omega); (try have q3_0 : w.heap.size < w3.heap.size := (by omega)); (try have q3_1 : w.heap.size + 1 < w3.heap.size := (by omega)); (try have q3_2 : w.heap.size + 2 < w3.heap.size := (by omega)); (try have q3_3 : w.heap.size + 3 < w3.heap.size := (by omega)); (try have q3_1_0 : w1.heap.size < w3.heap.size := (by omega)); (try have q3_1_1 : w1.heap.size + 1 < w3.heap.size := (by omega)); (try have q3_2_0 : w2.heap.size < w3.heap.size := (by omega)); (try have q3_2_1 : w2.heap.size + 1 < w3.heap.size := (by omega)))
    go_wp2
    go_ret
    exact ⟨zret_int HE.out, by (repeat' (first | (with_reducible exact Below.refl _ _) | (with_reducible assumption) | (with_reducible refine Below.alloc ?_ ?_ _) | (with_reducible refine Below.drew ?_) | (with_reducible refine below_drewN ?_ _) | (with_reducible refine Below.setCell ?_ ?_ _) | (with_reducible refine below_call ?_ ?_ (by assumption)) | go_size))⟩
  · have HE := Lib.hid (show (0 : Int) = ahd h m from by rw [HA.out, if_neg (fun e => hs (HS.out.2 e))])
    clear b1 b2 l1 l2
    (go_enter Try.func121, Try.ntmps121)
    go_wp2_with fail
    refine (HT.out _).mono ?_
    (rintro e1 w1 ⟨rfl, hb1⟩; obtain ⟨hc1, hf1⟩ := bcell hb1; have hz1 := hb1.size; (try simp only [World.size_alloc, World.size_setCell, World.size_drew] at hz1); have q1 : w.heap.size ≤ w1.heap.size := (by omega); (try have q1_0 : w.heap.size < w1.heap.size := (by omega)); (try have q1_1 : w.heap.size + 1 < w1.heap.size := (by omega)); (try have q1_2 : w.heap.size + 2 < w1.heap.size := (by omega)); (try have q1_3 : w.heap.size + 3 < w1.heap.size := (by omega)))
    go_wp2_with fail
    refine (HG.out _).mono ?_
    (rintro e2 w2 ⟨rfl, hb2⟩; obtain ⟨hc2, hf2⟩ := bcell hb2; have hz2 := hb2.size; (try simp only [World.size_alloc, World.size_setCell, World.size_drew] at hz2); have q2 : w.heap.size ≤ w2.heap.size := (by omega); (try have q2_0 : w.heap.size < w2.heap.size := (by omega)); (try have q2_1 : w.heap.size + 1 < w2.heap.size := (by omega)); (try have q2_2 : w.heap.size + 2 < w2.heap.size := (by omega)); (try have q2_3 : w.heap.size + 3 < w2.heap.size := (by omega)); (try have q2_1_0 : w1.heap.size < w2.heap.size := (by omega)); (try have q2_1_1 : w1.heap.size + 1 < w2.heap.size := (by omega)))
    go_wp2_with fail
    refine (HO.out _).mono ?_
    (rintro e3 w3 ⟨rfl, hb3⟩; obtain ⟨hc3, hf3⟩ := bcell hb3; have hz3 := hb3.size; (try simp only [World.size_alloc, World.size_setCell, World.size_drew] at hz3); have q3 : w.heap.size ≤ w3.heap.size := (by omega); (try have q3_0 : w.heap.size < w3.heap.size := (by omega)); (try have q3_1 : w.heap.size + 1 < w3.heap.size := (by omega)); (try have q3_2 : w.heap.size + 2 < w3.heap.size := (by omega)); (try have q3_3 : w.heap.size + 3 < w3.heap.size := (by omega)); (try have q3_1_0 : w1.heap.size < w3.heap.size := (by omega)); (try have q3_1_1 : w1.heap.size + 1 < w3.heap.size := (by omega)); (try have q3_2_0 : w2.heap.size < w3.heap.size := (by omega)); (try have q3_2_1 : w2.heap.size + 1 < w3.heap.size := (by omega)))
    go_wp2
    go_ret
    exact ⟨zret_int HE.out, by (repeat' (first | (with_reducible exact Below.refl _ _) | (with_reducible assumption) | (with_reducible refine Below.alloc ?_ ?_ _) | (with_reducible refine Below.drew ?_) | (with_reducible refine below_drewN ?_ _) | (with_reducible refine Below.setCell ?_ ?_ _) | (with_reducible refine below_call ?_ ?_ (by assumption)) | go_size))⟩
end Go.Proofs.Ytcpgjjmamclklaa
