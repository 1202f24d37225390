/- Turns of the last axle, meshes and turns until all is as at first: by the program and by the model. -/
import Derived.Test.YtaifcemdabcfjaaGe4
import Derived.StillTail
import Derived.BigQuiet
set_option linter.unusedSimpArgs false
set_option linter.unusedVariables false
set_option maxRecDepth 100000
namespace Go.Proofs.Ytaifcemdabcfjaa
open Go.RowKit

theorem gc_mul_left {n d k : Int} (h : gc n d = 1) : gc (n * k) d = gc k d := by
  unfold gc at h ⊢
  rw [Int.gcd_mul_right_left_of_gcd_eq_one (by omega)]
theorem gc_dvd (n d : Int) : gc n d ∣ n ∧ gc n d ∣ d := by
  unfold gc
  exact ⟨Int.gcd_dvd_left .., Int.gcd_dvd_right ..⟩
theorem gc_neg (n d : Int) : gc (-n) d = gc n d := by unfold gc; rw [Int.neg_gcd]
def absI (n : Int) : Int := if 0 ≤ n then n else -n
theorem gc_abs (n d : Int) : gc (absI n) d = gc n d := by
  unfold absI
  split
  · rfl
  · exact gc_neg n d
theorem absI_bd {n b : Int} (h : -b ≤ n ∧ n ≤ b) : 0 ≤ absI n ∧ absI n ≤ b := by unfold absI; split <;> omega
theorem abs_max (n : Int) : (if n ≤ -n then -n else n) = absI n := by unfold absI; split <;> split <;> omega
def most (a b : Int) : Int := if b < a then a else b
theorem most_abs (n : Int) : most n (-n) = absI n := by unfold most absI; split <;> split <;> omega
set_option maxHeartbeats 400000 in
theorem l1Most_any (a b : Int) (w : World) :
    Calls Try.prog 100 #[.int .i64 a, .int .i64 b] w fun e w' => e = .returned (.int .i64 (most a b)) ∧ w = w' := by
  by_cases h : b < a
  · have HM := Lib.hid (show a = most a b from (if_pos h).symm)
    (go_enter Try.func100, Try.ntmps100)
    go_wp2
    go_ret
    exact ⟨ret_int HM.out, rfl⟩
  · have HM := Lib.hid (show b = most a b from (if_neg h).symm)
    (go_enter Try.func100, Try.ntmps100)
    go_wp2
    go_ret
    exact ⟨ret_int HM.out, rfl⟩
set_option maxHeartbeats 400000 in
theorem l1Abs_is (n : Int) (h : -9000000000000000000 ≤ n ∧ n ≤ 9000000000000000000) (w : World) :
    Calls Try.prog 69 #[.int .i64 n] w fun e w' => e = .returned (.int .i64 (absI n)) ∧ w = w' := by
  obtain ⟨h1, h2⟩ := h
  have HM := Lib.hid (most_abs n)
  (go_enter Try.func69, Try.ntmps69)
  go_wp2_with fail
  refine (l1Most_any n (-n) _).mono ?_
  (rintro e1 w1 ⟨rfl, rfl⟩)
  go_wp2
  go_ret
  exact ⟨ret_int HM.out, rfl⟩
theorem dir_is (L : List (Int × Int)) : dirT L = 1 ∨ dirT L = -1 := by
  unfold dirT
  split
  · exact .inl rfl
  · exact .inr rfl
theorem abs_le_of_mul {G q b : Int} (hG : 1 ≤ G) (h : -b ≤ G * q ∧ G * q ≤ b) : -b ≤ q ∧ q ≤ b := by
  rcases Int.lt_trichotomy q 0 with hq | hq | hq
  · have := Int.mul_le_mul_of_nonpos_right hG (show q ≤ 0 by omega); omega
  · subst hq; omega
  · have := Int.mul_le_mul_of_nonneg_right hG (show 0 ≤ q by omega); omega
/-- The numbers of TurnsOfLast. -/
theorem tol_num {L : List (Int × Int)} (ht : trainB L = true) {t : Int} (hb : -1000 ≤ t ∧ t ≤ 1000) :
    ∃ G q, (dirT L = 1 ∨ dirT L = -1) ∧ 1 ≤ G ∧ G ≤ spD (numT L) (denT L) ∧ gc (absI t) (spD (numT L) (denT L)) = G ∧ gc (absI (spN (numT L) (denT L) * (t * dirT L))) (spD (numT L) (denT L)) = G ∧ (1 ≤ spN (numT L) (denT L) ∧ spN (numT L) (denT L) ≤ 207360000) ∧ (1 ≤ spD (numT L) (denT L) ∧ spD (numT L) (denT L) ≤ 207360000) ∧ t = G * q ∧ (-1000 ≤ q ∧ q ≤ 1000) ∧ tolR L t = (dirT L * q * spN (numT L) (denT L), spD (numT L) (denT L) / G, true) := by
  obtain ⟨⟨n1, n2⟩, d1, d2⟩ := rt_bd ht
  have hc := sp_cop (numT L) (denT L) (train_bd ht).2.1.1
  have hd := dir_is L
  have e0 : toG L t = gc (absI t) (spD (numT L) (denT L)) := rfl
  have e1 : tolR L t = (dirT L * (t / toG L t) * spN (numT L) (denT L), spD (numT L) (denT L) / toG L t, true) := by
    have : inB t (-1000) 1000 = true := by simp [inB]; omega
    simp [tolR, ht, this]
  rw [e0] at e1
  generalize spN (numT L) (denT L) = N at *
  generalize spD (numT L) (denT L) = D at *
  generalize dirT L = d at *
  have hG := gcd_pos_of (absI t) D d1
  have hG2 := gcd_le_of (absI t) D d1
  have hk : gc (absI (N * (t * d))) D = gc (absI t) D := by
    rw [gc_abs, gc_mul_left hc, gc_abs]
    rcases hd with rfl | rfl
    · rw [Int.mul_one]
    · rw [Int.mul_neg, Int.mul_one, gc_neg]
  have hdv := (gc_dvd t D).1
  rw [← gc_abs] at hdv
  obtain ⟨G, hGe⟩ : ∃ G, gc (absI t) D = G := ⟨_, rfl⟩
  rw [hGe] at hG hG2 hk hdv e1
  obtain ⟨q, hq⟩ := hdv
  refine ⟨G, q, hd, hG, hG2, hGe, hk, ⟨n1, n2⟩, ⟨d1, d2⟩, hq, abs_le_of_mul hG (hq ▸ hb), ?_⟩
  rw [e1, hq, Int.mul_ediv_cancel_left _ (by omega)]

set_option maxHeartbeats 1600000 in
theorem implTurnsOfLast_any (a : Option Addr) (c : Nat) (L : List (Int × Int)) (t : Int) (kt : I64 t) (w : World) (hin : PIn w a L) (hm : L.length ≤ maxLen) :
    Calls Try.prog 30 #[.slice a L.length c, .int .i64 t] w fun e w' => e = .returned (tq (tolR L t)) ∧ Below w.heap.size w w' := by
  have X1 := Lib.hid hin
  clear hin
  cases ht : trainB L
  · have HM := Lib.hid (show fail3 = tolR L t from by simp [tolR, ht])
    (go_enter Try.func30, Try.ntmps30)
    go_wp2_with fail
    refine (implIsTrain_is a c L ht _ X1.out hm).mono ?_
    (rintro e1 w1 ⟨rfl, hb1⟩; obtain ⟨hc1, hf1⟩ := bcell hb1; have hz1 := hb1.size; (try simp only [World.size_alloc, World.size_setCell, World.size_drew] at hz1); have q1 : w.heap.size ≤ w1.heap.size := (by omega); (try have q1_0 : w.heap.size < w1.heap.size := (by omega)); (try have q1_1 : w.heap.size + 1 < w1.heap.size := (by omega)); (try have q1_2 : w.heap.size + 2 < w1.heap.size := (by omega)); (try have q1_3 : w.heap.size + 3 < w1.heap.size := (by omega)))
    go_wp2
    (refine bodyPost_ret (by simp [results, Try.results30, go_sem, *]; try rfl) rfl ?_)
    exact ⟨ret_tq HM.out, by (repeat' (first | (with_reducible exact Below.refl _ _) | (with_reducible assumption) | (with_reducible refine Below.alloc ?_ ?_ _) | (with_reducible refine Below.drew ?_) | (with_reducible refine below_drewN ?_ _) | (with_reducible refine Below.setCell ?_ ?_ _) | (with_reducible refine below_call ?_ ?_ (by assumption)) | go_size))⟩
  · cases hb : inB t (-1000) 1000
    · have HM := Lib.hid (show fail3 = tolR L t from by simp [tolR, ht, hb])
      (go_enter Try.func30, Try.ntmps30)
      go_wp2_with fail
      refine (implIsTrain_is a c L ht _ X1.out hm).mono ?_
      (rintro e1 w1 ⟨rfl, hb1⟩; obtain ⟨hc1, hf1⟩ := bcell hb1; have hz1 := hb1.size; (try simp only [World.size_alloc, World.size_setCell, World.size_drew] at hz1); have q1 : w.heap.size ≤ w1.heap.size := (by omega); (try have q1_0 : w.heap.size < w1.heap.size := (by omega)); (try have q1_1 : w.heap.size + 1 < w1.heap.size := (by omega)); (try have q1_2 : w.heap.size + 2 < w1.heap.size := (by omega)); (try have q1_3 : w.heap.size + 3 < w1.heap.size := (by omega)))
      go_wp2_with fail
      refine (isWithin_is _ _ _ hb _).mono ?_
      (rintro e1 w1 ⟨rfl, rfl⟩)
      go_wp2
      (refine bodyPost_ret (by simp [results, Try.results30, go_sem, *]; try rfl) rfl ?_)
      exact ⟨ret_tq HM.out, by (repeat' (first | (with_reducible exact Below.refl _ _) | (with_reducible assumption) | (with_reducible refine Below.alloc ?_ ?_ _) | (with_reducible refine Below.drew ?_) | (with_reducible refine below_drewN ?_ _) | (with_reducible refine Below.setCell ?_ ?_ _) | (with_reducible refine below_call ?_ ?_ (by assumption)) | go_size))⟩
    · have h4 := (trainB_bd ht).1
      obtain ⟨G, q, hd, g1, g2, hG, -, ⟨n1, n2⟩, ⟨d1, d2⟩, htq, ⟨q1, q2⟩, hR⟩ := tol_num ht (inB_bd hb)
      have HM := Lib.hid hR.symm
      obtain ⟨t1, t2⟩ := inB_bd hb
      have CD := fun w => directionOf_any a c L h4 w
      have CD := Lib.hid CD
      have E1 : IntKind.i64.wrap (t.tdiv G) = q := by
        rw [htq, Int.mul_tdiv_cancel_left _ (by omega)]; exact w64 ⟨by omega, by omega⟩
      have E3 : IntKind.i64.wrap (dirT L * q * spN (numT L) (denT L)) = dirT L * q * spN (numT L) (denT L) := by
        have h := mulb (show 0 ≤ absI q from (absI_bd ⟨q1, q2⟩).1) (absI_bd ⟨q1, q2⟩).2 (show 0 ≤ spN (numT L) (denT L) by omega) n2
        have h2 : dirT L * q * spN (numT L) (denT L) = absI q * spN (numT L) (denT L) ∨ dirT L * q * spN (numT L) (denT L) = -(absI q * spN (numT L) (denT L)) := by
          unfold absI
          rcases hd with e | e <;> rw [e] <;> split
          · exact .inl (by rw [Int.one_mul])
          · exact .inr (by rw [Int.one_mul, Int.neg_mul, Int.neg_neg])
          · exact .inr (by rw [Int.neg_mul, Int.one_mul, Int.neg_mul])
          · exact .inl (by rw [Int.neg_mul, Int.one_mul])
        rcases h2 with h2 | h2 <;> rw [h2] <;> exact w64 ⟨by omega, by omega⟩
      have E2 : IntKind.i64.wrap (dirT L * q) = dirT L * q := by
        rcases hd with e | e <;> rw [e] <;> exact w64 ⟨by omega, by omega⟩
      have E4 : IntKind.i64.wrap ((spD (numT L) (denT L)).tdiv G) = spD (numT L) (denT L) / G := q64 (by omega) (by omega) g1
      clear hR htq
      have gne : ¬ G = 0 := by omega
      rcases (show 0 ≤ t ∨ t < 0 by omega) with hs | hs
      · rw [show absI t = t from if_pos (by omega)] at hG
        have CG := fun w => commonDivisor_any (t) (spD (numT L) (denT L)) (by omega) (by omega) w
        rw [hG] at CG
        have CG := Lib.hid CG
        clear hG
        (go_enter Try.func30, Try.ntmps30)
        go_wp2_with fail
        refine (implIsTrain_is a c L ht _ X1.out hm).mono ?_
        (rintro e1 w1 ⟨rfl, hb1⟩; obtain ⟨hc1, hf1⟩ := bcell hb1; have hz1 := hb1.size; (try simp only [World.size_alloc, World.size_setCell, World.size_drew] at hz1); have q1 : w.heap.size ≤ w1.heap.size := (by omega); (try have q1_0 : w.heap.size < w1.heap.size := (by omega)); (try have q1_1 : w.heap.size + 1 < w1.heap.size := (by omega)); (try have q1_2 : w.heap.size + 2 < w1.heap.size := (by omega)); (try have q1_3 : w.heap.size + 3 < w1.heap.size := (by omega)))
        go_wp2_with fail
        refine (isWithin_is _ _ _ hb _).mono ?_
        (rintro e1 w1 ⟨rfl, rfl⟩)
        go_wp2_with fail
        refine (ratioOf_any a c L ht _ (X1.out.below hb1)).mono ?_
        (rintro e2 w2 ⟨rfl, hb2⟩; obtain ⟨hc2, hf2⟩ := bcell hb2; have hz2 := hb2.size; (try simp only [World.size_alloc, World.size_setCell, World.size_drew] at hz2); have q2 : w.heap.size ≤ w2.heap.size := (by omega); (try have q2_0 : w.heap.size < w2.heap.size := (by omega)); (try have q2_1 : w.heap.size + 1 < w2.heap.size := (by omega)); (try have q2_2 : w.heap.size + 2 < w2.heap.size := (by omega)); (try have q2_3 : w.heap.size + 3 < w2.heap.size := (by omega)); (try have q2_1_0 : w1.heap.size < w2.heap.size := (by omega)); (try have q2_1_1 : w1.heap.size + 1 < w2.heap.size := (by omega)))
        go_wp2_with fail
        refine (CG.out _).mono ?_
        (rintro e3 w3 ⟨rfl, hb3⟩; obtain ⟨hc3, hf3⟩ := bcell hb3; have hz3 := hb3.size; (try simp only [World.size_alloc, World.size_setCell, World.size_drew] at hz3); have q3 : w.heap.size ≤ w3.heap.size := (by omega); (try have q3_0 : w.heap.size < w3.heap.size := (by omega)); (try have q3_1 : w.heap.size + 1 < w3.heap.size := (by omega)); (try have q3_2 : w.heap.size + 2 < w3.heap.size := (by omega)); (try have q3_3 : w.heap.size + 3 < w3.heap.size := (by omega)); (try have q3_1_0 : w1.heap.size < w3.heap.size := (by omega)); (try have q3_1_1 : w1.heap.size + 1 < w3.heap.size := (by omega)); (try have q3_2_0 : w2.heap.size < w3.heap.size := (by omega)); (try have q3_2_1 : w2.heap.size + 1 < w3.heap.size := (by omega)))
        go_wp2_with fail
        refine wp_region_below (by kernel_rfl) (by kernel_rfl) ?_
        repeat (first | (apply wpB_take (hw := rfl); (intro wq hq; obtain ⟨hcq, hfq⟩ := bcell hq; unfold atB; go_simp; exact ⟨rfl, rfl⟩); simp only [Act.put, List.setIfInBounds_toArray, List.set_cons_zero, List.set_cons_succ]) | (apply wpB_take (hw := rfl); (intro wq hq; unfold atB; go_simp; exact ⟨rfl, (CD.out _).mono (fun _ _ h => ⟨h.1, h.2 ▸ Below.refl _ _⟩)⟩); simp only [Act.put, List.setIfInBounds_toArray, List.set_cons_zero, List.set_cons_succ]))
        refine fun w4 hb4 => ?_
        try simp only [Act.put, List.setIfInBounds_toArray, List.set_cons_zero, List.set_cons_succ]
        (obtain ⟨hc4, hf4⟩ := bcell hb4; have hz4 := hb4.size; (try simp only [World.size_alloc, World.size_setCell, World.size_drew] at hz4); have q4 : w.heap.size ≤ w4.heap.size := (by omega); (try have q4_0 : w.heap.size < w4.heap.size := (by omega)); (try have q4_1 : w.heap.size + 1 < w4.heap.size := (by omega)); (try have q4_2 : w.heap.size + 2 < w4.heap.size := (by omega)); (try have q4_3 : w.heap.size + 3 < w4.heap.size := (by omega)); (try have p4_1 : b1 < w4.heap.size := (by omega)); (try have p4_2 : b2 < w4.heap.size := (by omega)); (try have p4_3 : b3 < w4.heap.size := (by omega)); try simp only [Act.put, List.setIfInBounds_toArray, List.set_cons_zero, List.set_cons_succ])
        go_wp2
        (refine bodyPost_ret (by simp [results, Try.results30, go_sem, *]; try rfl) rfl ?_)
        exact ⟨ret_tq HM.out, by (repeat' (first | (with_reducible exact Below.refl _ _) | (with_reducible assumption) | (with_reducible refine Below.alloc ?_ ?_ _) | (with_reducible refine Below.drew ?_) | (with_reducible refine below_drewN ?_ _) | (with_reducible refine Below.setCell ?_ ?_ _) | (with_reducible refine below_call ?_ ?_ (by assumption)) | go_size))⟩
      · rw [show absI t = -t by unfold absI; split <;> omega] at hG
        have CG := fun w => commonDivisor_any (-t) (spD (numT L) (denT L)) (by omega) (by omega) w
        rw [hG] at CG
        have CG := Lib.hid CG
        clear hG
        (go_enter Try.func30, Try.ntmps30)
        go_wp2_with fail
        refine (implIsTrain_is a c L ht _ X1.out hm).mono ?_
        (rintro e1 w1 ⟨rfl, hb1⟩; obtain ⟨hc1, hf1⟩ := bcell hb1; have hz1 := hb1.size; (try simp only [World.size_alloc, World.size_setCell, World.size_drew] at hz1); have q1 : w.heap.size ≤ w1.heap.size := (by omega); (try have q1_0 : w.heap.size < w1.heap.size := (by omega)); (try have q1_1 : w.heap.size + 1 < w1.heap.size := (by omega)); (try have q1_2 : w.heap.size + 2 < w1.heap.size := (by omega)); (try have q1_3 : w.heap.size + 3 < w1.heap.size := (by omega)))
        go_wp2_with fail
        refine (isWithin_is _ _ _ hb _).mono ?_
        (rintro e1 w1 ⟨rfl, rfl⟩)
        go_wp2_with fail
        refine (ratioOf_any a c L ht _ (X1.out.below hb1)).mono ?_
        (rintro e2 w2 ⟨rfl, hb2⟩; obtain ⟨hc2, hf2⟩ := bcell hb2; have hz2 := hb2.size; (try simp only [World.size_alloc, World.size_setCell, World.size_drew] at hz2); have q2 : w.heap.size ≤ w2.heap.size := (by omega); (try have q2_0 : w.heap.size < w2.heap.size := (by omega)); (try have q2_1 : w.heap.size + 1 < w2.heap.size := (by omega)); (try have q2_2 : w.heap.size + 2 < w2.heap.size := (by omega)); (try have q2_3 : w.heap.size + 3 < w2.heap.size := (by omega)); (try have q2_1_0 : w1.heap.size < w2.heap.size := (by omega)); (try have q2_1_1 : w1.heap.size + 1 < w2.heap.size := (by omega)))
        go_wp2_with fail
        refine (CG.out _).mono ?_
        (rintro e3 w3 ⟨rfl, hb3⟩; obtain ⟨hc3, hf3⟩ := bcell hb3; have hz3 := hb3.size; (try simp only [World.size_alloc, World.size_setCell, World.size_drew] at hz3); have q3 : w.heap.size ≤ w3.heap.size := (by omega); (try have q3_0 : w.heap.size < w3.heap.size := (by omega)); (try have q3_1 : w.heap.size + 1 < w3.heap.size := (by omega)); (try have q3_2 : w.heap.size + 2 < w3.heap.size := (by omega)); (try have q3_3 : w.heap.size + 3 < w3.heap.size := (by omega)); (try have q3_1_0 : w1.heap.size < w3.heap.size := (by omega)); (try have q3_1_1 : w1.heap.size + 1 < w3.heap.size := (by omega)); (try have q3_2_0 : w2.heap.size < w3.heap.size := (by omega)); (try have q3_2_1 : w2.heap.size + 1 < w3.heap.size := (by omega)))
        go_wp2_with fail
        refine wp_region_below (by kernel_rfl) (by kernel_rfl) ?_
        repeat (first | (apply wpB_take (hw := rfl); (intro wq hq; obtain ⟨hcq, hfq⟩ := bcell hq; unfold atB; go_simp; exact ⟨rfl, rfl⟩); simp only [Act.put, List.setIfInBounds_toArray, List.set_cons_zero, List.set_cons_succ]) | (apply wpB_take (hw := rfl); (intro wq hq; unfold atB; go_simp; exact ⟨rfl, (CD.out _).mono (fun _ _ h => ⟨h.1, h.2 ▸ Below.refl _ _⟩)⟩); simp only [Act.put, List.setIfInBounds_toArray, List.set_cons_zero, List.set_cons_succ]))
        refine fun w4 hb4 => ?_
        try simp only [Act.put, List.setIfInBounds_toArray, List.set_cons_zero, List.set_cons_succ]
        (obtain ⟨hc4, hf4⟩ := bcell hb4; have hz4 := hb4.size; (try simp only [World.size_alloc, World.size_setCell, World.size_drew] at hz4); have q4 : w.heap.size ≤ w4.heap.size := (by omega); (try have q4_0 : w.heap.size < w4.heap.size := (by omega)); (try have q4_1 : w.heap.size + 1 < w4.heap.size := (by omega)); (try have q4_2 : w.heap.size + 2 < w4.heap.size := (by omega)); (try have q4_3 : w.heap.size + 3 < w4.heap.size := (by omega)); (try have p4_1 : b1 < w4.heap.size := (by omega)); (try have p4_2 : b2 < w4.heap.size := (by omega)); (try have p4_3 : b3 < w4.heap.size := (by omega)); try simp only [Act.put, List.setIfInBounds_toArray, List.set_cons_zero, List.set_cons_succ])
        go_wp2
        (refine bodyPost_ret (by simp [results, Try.results30, go_sem, *]; try rfl) rfl ?_)
        exact ⟨ret_tq HM.out, by (repeat' (first | (with_reducible exact Below.refl _ _) | (with_reducible assumption) | (with_reducible refine Below.alloc ?_ ?_ _) | (with_reducible refine Below.drew ?_) | (with_reducible refine below_drewN ?_ _) | (with_reducible refine Below.setCell ?_ ?_ _) | (with_reducible refine below_call ?_ ?_ (by assumption)) | go_size))⟩

set_option maxHeartbeats 1600000 in
theorem specTurnsOfLast_any (a : Option Addr) (c : Nat) (L : List (Int × Int)) (t : Int) (kt : I64 t) (w : World) (hin : PIn w a L) (hm : L.length ≤ maxLen) :
    Calls Try.prog 29 #[.slice a L.length c, .int .i64 t] w fun e w' => e = .returned (tq (tolR L t)) ∧ Below w.heap.size w w' := by
  have X1 := Lib.hid hin
  clear hin
  cases ht : trainB L
  · have HM := Lib.hid (show fail3 = tolR L t from by simp [tolR, ht])
    (go_enter Try.func29, Try.ntmps29)
    go_wp2_with fail
    refine (geTrain_is a c L ht _ X1.out hm).mono ?_
    (rintro e1 w1 ⟨rfl, hb1⟩; obtain ⟨hc1, hf1⟩ := bcell hb1; have hz1 := hb1.size; (try simp only [World.size_alloc, World.size_setCell, World.size_drew] at hz1); have q1 : w.heap.size ≤ w1.heap.size := (by omega); (try have q1_0 : w.heap.size < w1.heap.size := (by omega)); (try have q1_1 : w.heap.size + 1 < w1.heap.size := (by omega)); (try have q1_2 : w.heap.size + 2 < w1.heap.size := (by omega)); (try have q1_3 : w.heap.size + 3 < w1.heap.size := (by omega)))
    go_wp2
    (refine bodyPost_ret (by simp [results, Try.results29, go_sem, *]; try rfl) rfl ?_)
    exact ⟨ret_tq HM.out, by (repeat' (first | (with_reducible exact Below.refl _ _) | (with_reducible assumption) | (with_reducible refine Below.alloc ?_ ?_ _) | (with_reducible refine Below.drew ?_) | (with_reducible refine below_drewN ?_ _) | (with_reducible refine Below.setCell ?_ ?_ _) | (with_reducible refine below_call ?_ ?_ (by assumption)) | go_size))⟩
  · cases hb : inB t (-1000) 1000
    · have HM := Lib.hid (show fail3 = tolR L t from by simp [tolR, ht, hb])
      (go_enter Try.func29, Try.ntmps29)
      go_wp2_with fail
      refine (geTrain_is a c L ht _ X1.out hm).mono ?_
      (rintro e1 w1 ⟨rfl, hb1⟩; obtain ⟨hc1, hf1⟩ := bcell hb1; have hz1 := hb1.size; (try simp only [World.size_alloc, World.size_setCell, World.size_drew] at hz1); have q1 : w.heap.size ≤ w1.heap.size := (by omega); (try have q1_0 : w.heap.size < w1.heap.size := (by omega)); (try have q1_1 : w.heap.size + 1 < w1.heap.size := (by omega)); (try have q1_2 : w.heap.size + 2 < w1.heap.size := (by omega)); (try have q1_3 : w.heap.size + 3 < w1.heap.size := (by omega)))
      go_wp2_with fail
      refine (l1In_is _ _ _ hb _).mono ?_
      (rintro e1 w1 ⟨rfl, rfl⟩)
      go_wp2
      (refine bodyPost_ret (by simp [results, Try.results29, go_sem, *]; try rfl) rfl ?_)
      exact ⟨ret_tq HM.out, by (repeat' (first | (with_reducible exact Below.refl _ _) | (with_reducible assumption) | (with_reducible refine Below.alloc ?_ ?_ _) | (with_reducible refine Below.drew ?_) | (with_reducible refine below_drewN ?_ _) | (with_reducible refine Below.setCell ?_ ?_ _) | (with_reducible refine below_call ?_ ?_ (by assumption)) | go_size))⟩
    · have h4 := (trainB_bd ht).1
      obtain ⟨G, q, hd, g1, g2, -, hG, ⟨n1, n2⟩, ⟨d1, d2⟩, htq, ⟨q1, q2⟩, hR⟩ := tol_num ht (inB_bd hb)
      have HM := Lib.hid hR.symm
      obtain ⟨t1, t2⟩ := inB_bd hb
      have CD := fun w => geDirection_any a c L h4 w
      have CR := fun w hi => geRatio_any a c L ht w hi
      have CD := Lib.hid CD
      have CR := Lib.hid CR
      have K1 : -1000 ≤ t * dirT L ∧ t * dirT L ≤ 1000 := by
        rcases hd with e | e <;> rw [e] <;> omega
      have K2 : -207360000000 ≤ spN (numT L) (denT L) * (t * dirT L) ∧ spN (numT L) (denT L) * (t * dirT L) ≤ 207360000000 := by
        have h := mulb (show 0 ≤ spN (numT L) (denT L) by omega) n2 (absI_bd K1).1 (absI_bd K1).2
        have h2 : spN (numT L) (denT L) * (t * dirT L) = spN (numT L) (denT L) * absI (t * dirT L) ∨ spN (numT L) (denT L) * (t * dirT L) = -(spN (numT L) (denT L) * absI (t * dirT L)) := by
          unfold absI; split
          · exact .inl rfl
          · exact .inr (by rw [Int.mul_neg, Int.neg_neg])
        rcases h2 with h2 | h2 <;> rw [h2] <;> omega
      have E1 : IntKind.i64.wrap ((spN (numT L) (denT L) * (t * dirT L)).tdiv G) = dirT L * q * spN (numT L) (denT L) := by
        have e : spN (numT L) (denT L) * (t * dirT L) = G * (dirT L * q * spN (numT L) (denT L)) := by
          rw [htq]; generalize dirT L = d; generalize spN (numT L) (denT L) = N; grind
        rw [e] at K2
        rw [e, Int.mul_tdiv_cancel_left _ (by omega)]
        exact w64 ⟨by have := abs_le_of_mul g1 K2; omega, by have := abs_le_of_mul g1 K2; omega⟩
      have E0 : IntKind.i64.wrap (t * dirT L) = t * dirT L := w64 ⟨by omega, by omega⟩
      have E2 : IntKind.i64.wrap (spN (numT L) (denT L) * (t * dirT L)) = spN (numT L) (denT L) * (t * dirT L) := w64 ⟨by omega, by omega⟩
      have E4 : IntKind.i64.wrap ((spD (numT L) (denT L)).tdiv G) = spD (numT L) (denT L) / G := q64 (by omega) (by omega) g1
      have CG := fun w => diCommon_any (absI (spN (numT L) (denT L) * (t * dirT L))) (spD (numT L) (denT L)) (absI_bd K2).1 (by omega) w
      rw [hG] at CG
      have CG := Lib.hid CG
      have gne : ¬ G = 0 := by omega
      clear hR htq hG
      (go_enter Try.func29, Try.ntmps29)
      go_wp2_with fail
      refine (geTrain_is a c L ht _ X1.out hm).mono ?_
      (rintro e1 w1 ⟨rfl, hb1⟩; obtain ⟨hc1, hf1⟩ := bcell hb1; have hz1 := hb1.size; (try simp only [World.size_alloc, World.size_setCell, World.size_drew] at hz1); have q1 : w.heap.size ≤ w1.heap.size := (by omega); (try have q1_0 : w.heap.size < w1.heap.size := (by omega)); (try have q1_1 : w.heap.size + 1 < w1.heap.size := (by omega)); (try have q1_2 : w.heap.size + 2 < w1.heap.size := (by omega)); (try have q1_3 : w.heap.size + 3 < w1.heap.size := (by omega)))
      go_wp2_with fail
      refine (l1In_is _ _ _ hb _).mono ?_
      (rintro e1 w1 ⟨rfl, rfl⟩)
      go_wp2_with fail
      refine (CR.out _ (X1.out.below hb1)).mono ?_
      (rintro e2 w2 ⟨rfl, hb2⟩; obtain ⟨hc2, hf2⟩ := bcell hb2; have hz2 := hb2.size; (try simp only [World.size_alloc, World.size_setCell, World.size_drew] at hz2); have q2 : w.heap.size ≤ w2.heap.size := (by omega); (try have q2_0 : w.heap.size < w2.heap.size := (by omega)); (try have q2_1 : w.heap.size + 1 < w2.heap.size := (by omega)); (try have q2_2 : w.heap.size + 2 < w2.heap.size := (by omega)); (try have q2_3 : w.heap.size + 3 < w2.heap.size := (by omega)); (try have q2_1_0 : w1.heap.size < w2.heap.size := (by omega)); (try have q2_1_1 : w1.heap.size + 1 < w2.heap.size := (by omega)))
      go_wp2_with fail
      refine (CD.out _).mono ?_
      rintro e3 w3 ⟨rfl, rfl⟩
      go_wp2_with fail
      refine (l1Abs_is (spN (numT L) (denT L) * (t * dirT L)) (by omega) _).mono ?_
      rintro e4 w4 ⟨rfl, rfl⟩
      go_wp2_with fail
      refine (CG.out _).mono ?_
      (rintro e5 w5 ⟨rfl, hb5⟩; obtain ⟨hc5, hf5⟩ := bcell hb5; have hz5 := hb5.size; (try simp only [World.size_alloc, World.size_setCell, World.size_drew] at hz5); have q5 : w.heap.size ≤ w5.heap.size := (by omega); (try have q5_0 : w.heap.size < w5.heap.size := (by omega)); (try have q5_1 : w.heap.size + 1 < w5.heap.size := (by omega)); (try have q5_2 : w.heap.size + 2 < w5.heap.size := (by omega)); (try have q5_3 : w.heap.size + 3 < w5.heap.size := (by omega)); (try have q5_1_0 : w1.heap.size < w5.heap.size := (by omega)); (try have q5_1_1 : w1.heap.size + 1 < w5.heap.size := (by omega)); (try have q5_2_0 : w2.heap.size < w5.heap.size := (by omega)); (try have q5_2_1 : w2.heap.size + 1 < w5.heap.size := (by omega)); (try have q5_3_0 : w3.heap.size < w5.heap.size := (by omega)); (try have q5_3_1 : w3.heap.size + 1 < w5.heap.size := (by omega)); (try have q5_4_0 : w4.heap.size < w5.heap.size := (by omega)); (try have q5_4_1 : w4.heap.size + 1 < w5.heap.size := (by omega)))
      go_wp2
      go_quiet (fail)
      go_wp2
      (refine bodyPost_ret (by simp [results, Try.results29, go_sem, *]; try rfl) rfl ?_)
      exact ⟨ret_tq HM.out, by (repeat' (first | (with_reducible exact Below.refl _ _) | (with_reducible assumption) | (with_reducible refine Below.alloc ?_ ?_ _) | (with_reducible refine Below.drew ?_) | (with_reducible refine below_drewN ?_ _) | (with_reducible refine Below.setCell ?_ ?_ _) | (with_reducible refine below_call ?_ ?_ (by assumption)) | go_size))⟩
end Go.Proofs.Ytaifcemdabcfjaa
