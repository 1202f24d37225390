/- Nearness in numbers; the nearest pair: by the program and by the model. -/
import Derived.Test.YtaifcemdabcfjaaNear2
set_option linter.unusedSimpArgs false
set_option linter.unusedVariables false
set_option maxRecDepth 100000
namespace Go.Proofs.Ytaifcemdabcfjaa
open Go.RowKit

theorem absI_mul {m z : Int} (hm : 0 ≤ m) : absI (m * z) = m * absI z := by
  unfold absI
  by_cases hz : 0 ≤ z
  · rw [if_pos (Int.mul_nonneg hm hz), if_pos hz]
  · by_cases h0 : 0 ≤ m * z
    · have h1 : m * z ≤ 0 := Int.mul_nonpos_of_nonneg_of_nonpos hm (by omega)
      rw [if_pos h0, if_neg hz, Int.mul_neg]; omega
    · rw [if_neg h0, if_neg hz, Int.mul_neg]
theorem absI_neg (z : Int) : absI (-z) = absI z := by unfold absI; split <;> split <;> omega
theorem sgn_mul {m x : Int} (hm : 1 ≤ m) : (m * x < 0 ↔ x < 0) ∧ (m * x = 0 ↔ x = 0) := by
  rcases Int.lt_trichotomy x 0 with h | h | h
  · have := Int.mul_neg_of_pos_of_neg (show 0 < m by omega) h
    constructor <;> constructor <;> intro <;> omega
  · subst h; simp
  · have := Int.mul_pos (show 0 < m by omega) h
    constructor <;> constructor <;> intro <;> omega
theorem off_mul {K g N D x y : Int} (hK : 1 ≤ K) (hg : 1 ≤ g) : absI (g * x * (K * D) - K * N * (g * y)) = K * g * absI (N * y - x * D) := by
  rw [← absI_mul (Int.mul_nonneg (by omega) (by omega)), ← absI_neg]
  congr 1
  grind
theorem nr_iff {num den a b bx bz : Int} (hn : 1 ≤ num) (hd : 1 ≤ den) (ha : 1 ≤ a) (hb : 1 ≤ b) (hx : 1 ≤ bx) (hz : 1 ≤ bz) : nrO (spN num den) (spD num den) a b bx bz < 0 ↔
    (absI (a * den - num * b) * bz < absI (bx * den - num * bz) * b ∨ (absI (a * den - num * b) * bz = absI (bx * den - num * bz) * b ∧ a + b < bx + bz)) := by
  have k1 := gcd_pos_of num den hd
  have k2 := gcd_pos_of a b hb
  have k3 := gcd_pos_of bx bz hz
  have s1 := sp_pos num den hn hd
  have s2 := sp_pos a b ha hb
  have s3 := sp_pos bx bz hx hz
  obtain ⟨e1, e2⟩ := sp_mul num den
  obtain ⟨f1, f2⟩ := sp_mul a b
  obtain ⟨g1, g2⟩ := sp_mul bx bz
  have ho1 : absI (a * den - num * b) = gc num den * gc a b * absI (spN num den * spD a b - spN a b * spD num den) := by
    rw [← off_mul (by omega) (by omega), ← e1, ← e2, ← f1, ← f2]
  have ho2 : absI (bx * den - num * bz) = gc num den * gc bx bz * absI (spN num den * spD bx bz - spN bx bz * spD num den) := by
    rw [← off_mul (by omega) (by omega), ← e1, ← e2, ← g1, ← g2]
  have hsum : nrB a b bx bz = sg (a + b - (bx + bz)) := by simp [nrB, sumT]
  unfold nrO nrA
  rw [hsum, ho1, ho2]
  generalize spN num den = N at *
  generalize spD num den = D at *
  generalize spN a b = x at *
  generalize spN bx bz = u at *
  have d1 := gcd_pos_of (absI (N * spD a b - x * D)) (D * spD a b) (Int.mul_pos (by omega) (by omega))
  have d2 := gcd_pos_of (absI (N * spD bx bz - u * D)) (D * spD bx bz) (Int.mul_pos (by omega) (by omega))
  obtain ⟨h1, h2⟩ := sp_mul (absI (N * spD a b - x * D)) (D * spD a b)
  obtain ⟨h3, h4⟩ := sp_mul (absI (N * spD bx bz - u * D)) (D * spD bx bz)
  unfold dsN dsD
  generalize spD a b = y at *
  generalize spD bx bz = v at *
  generalize absI (N * y - x * D) = A at *
  generalize absI (N * v - u * D) = B at *
  generalize gc A (D * y) = ga at *
  generalize gc B (D * v) = gb at *
  generalize spN A (D * y) = p at *
  generalize spD A (D * y) = q at *
  generalize spN B (D * v) = r at *
  generalize spD B (D * v) = s at *
  generalize gc num den = K at *
  generalize gc a b = g at *
  generalize gc bx bz = h at *
  have E1 : ga * gb * (p * s - r * q) = D * (A * v - B * y) := by
    have : ga * gb * (p * s - r * q) = (ga * p) * (gb * s) - (gb * r) * (ga * q) := by grind
    rw [this, ← h1, ← h2, ← h3, ← h4]
    grind
  have E2 : K * g * A * bz - K * h * B * b = K * g * h * (A * v - B * y) := by
    rw [g2, f2]
    grind
  have m1 := sgn_mul (m := ga * gb) (x := p * s - r * q) (Int.mul_pos (by omega) (by omega))
  have m2 := sgn_mul (m := D) (x := A * v - B * y) (by omega)
  have m3 := sgn_mul (m := K * g * h) (x := A * v - B * y) (Int.mul_pos (Int.mul_pos (by omega) (by omega)) (by omega))
  rw [E1] at m1
  rw [← E2] at m3
  generalize A * v - B * y = Y at *
  generalize p * s - r * q = X at *
  generalize K * g * A * bz = L1 at *
  generalize K * h * B * b = L2 at *
  have t1 : X < 0 ↔ L1 < L2 := by
    rw [← m1.1, m2.1, ← m3.1]; omega
  have t2 : X = 0 ↔ L1 = L2 := by
    rw [← m1.2, m2.2, ← m3.2]; omega
  unfold orI
  by_cases hX : X = 0
  · have := t2.1 hX
    rw [if_pos (by simp [sg, hX])]
    unfold sg
    split
    · omega
    · split <;> omega
  · have : ¬ L1 = L2 := fun h => hX (t2.2 h)
    rw [if_neg (show ¬ sg X = 0 by unfold sg; split <;> first | omega | (split <;> omega))]
    unfold sg
    split
    · omega
    · split <;> omega
def npR (num den most : Int) : Int × Int × Bool :=
  if askB num den most then (((allP (most - 5).toNat).foldl (stN (spN num den) (spD num den)) (6, 6)).1, ((allP (most - 5).toNat).foldl (stN (spN num den) (spD num den)) (6, 6)).2, true) else (0, 0, false)
theorem allP_cons {n : Nat} (hn : 1 ≤ n) : ∃ LL, allP n = (6, 6) :: LL := by
  obtain ⟨m, rfl⟩ : ∃ m, n = m + 1 := ⟨n - 1, by omega⟩
  simp [allP, rowP, List.range_succ_eq_map]
theorem pairB_all {n : Nat} (hn : n ≤ 115) {p : Int × Int} (h : p ∈ allP n) : pairB p = true := by
  obtain ⟨⟨h1, h2⟩, h3, h4⟩ := mem_allP h
  exact pairB_of ⟨⟨h1, by omega⟩, h3, by omega⟩
set_option maxHeartbeats 1600000 in
theorem implNearestPair_any (num den most : Int) (w : World) :
    Calls Try.prog 49 #[.int .i64 num, .int .i64 den, .int .i64 most] w fun e w' => e = .returned (pv (npR num den most)) ∧ Below w.heap.size w w' := by
  cases ha : askB num den most
  · have HM := Lib.hid (show (0, 0, false) = npR num den most from by simp [npR, ha])
    (go_enter Try.func49, Try.ntmps49)
    go_wp2_with fail
    refine (isSearch_is _ _ _ ha _).mono ?_
    (rintro e1 w1 ⟨rfl, rfl⟩)
    go_wp2
    (refine bodyPost_ret (by simp [results, Try.results49, go_sem, *]; try rfl) rfl ?_)
    exact ⟨ret_pv HM.out, by (repeat' (first | (with_reducible exact Below.refl _ _) | (with_reducible assumption) | (with_reducible refine Below.alloc ?_ ?_ _) | (with_reducible refine Below.drew ?_) | (with_reducible refine below_drewN ?_ _) | (with_reducible refine Below.setCell ?_ ?_ _) | (with_reducible refine below_call ?_ ?_ (by assumption)) | go_size))⟩
  · obtain ⟨⟨a1, a2⟩, ⟨b1, b2⟩, m1, m2⟩ := askB_bd ha
    obtain ⟨n, hn⟩ := Int.eq_ofNat_of_zero_le (show 0 ≤ most - 5 by omega)
    obtain rfl : most = 5 + (n : Int) := by omega
    have hn1 : 1 ≤ n := by omega
    have hn2 : n ≤ 115 := by omega
    obtain ⟨LL, hLL⟩ := allP_cons hn1
    have hok : ∀ t, t ∈ (6, 6) :: LL → pairB t = true := fun t ht => pairB_all hn2 (by rw [hLL]; exact ht)
    have HM := Lib.hid (show ((((6, 6) :: LL).foldl (stN (spN num den) (spD num den)) (6, 6)).1, (((6, 6) :: LL).foldl (stN (spN num den) (spD num den)) (6, 6)).2, true) = npR num den (5 + (n : Int)) from by
      rw [npR, if_pos ha, show (5 + (n : Int) - 5).toNat = n by omega, hLL])
    obtain ⟨⟨kp1, kp2⟩, kq1, kq2⟩ := sp_pos num den a1 b1
    have CL := fun w => lowestRatio_any num den (by omega) (by omega) b1 (by omega) w
    have CL := Lib.hid CL
    generalize spN num den = P at *
    generalize spD num den = Q at *
    have HL := Lib.hid hLL
    have HOK := Lib.hid hok
    clear hLL hok hn
    (go_enter Try.func49, Try.ntmps49)
    go_wp2_with fail
    refine (isSearch_is _ _ _ ha _).mono ?_
    (rintro e1 w1 ⟨rfl, rfl⟩)
    go_wp2_with fail
    refine (CL.out _).mono ?_
    (rintro e1 w1 ⟨rfl, hb1⟩; obtain ⟨hc1, hf1⟩ := bcell hb1; have hz1 := hb1.size; (try simp only [World.size_alloc, World.size_setCell, World.size_drew] at hz1); have q1 : w.heap.size ≤ w1.heap.size := (by omega); (try have q1_0 : w.heap.size < w1.heap.size := (by omega)); (try have q1_1 : w.heap.size + 1 < w1.heap.size := (by omega)); (try have q1_2 : w.heap.size + 2 < w1.heap.size := (by omega)); (try have q1_3 : w.heap.size + 3 < w1.heap.size := (by omega)))
    go_wp2_with fail
    refine (pairsUpTo_makes _ _).mono ?_
    rintro e2 w2 ⟨rfl, rfl⟩
    have hse := pairsUpTo_seqs n hn2 (w1.heap.size + 1) ((w1.alloc (.cells #[.int .i64 P, .int .i64 Q] 63)).alloc (.cells #[.int .i64 (5 + (n : Int))] 3)) (by simp) (by go_simp)
    rw [HL.out] at hse
    have CF := fun w hb hc h0 h1 => leastOf_pair (N := P) (D := Q) ⟨kp1, by omega⟩ ⟨kq1, by omega⟩ 6 6 LL HOK.out (enters_of Try.func106 (by kernel_rfl) rfl) hse (by rintro k rfl; simp) w hb w1.heap.size hc h0 h1
    have CF := Lib.hid CF
    clear hse
    go_wp2_with fail
    refine (CF.out _ (Below.refl _ _) (by simp; omega) (by go_simp) (by go_simp)).mono ?_
    (rintro e3 w3 ⟨rfl, hb3⟩; obtain ⟨hc3, hf3⟩ := bcell hb3; have hz3 := hb3.size; (try simp only [World.size_alloc, World.size_setCell, World.size_drew] at hz3); have q3 : w.heap.size ≤ w3.heap.size := (by omega); (try have q3_0 : w.heap.size < w3.heap.size := (by omega)); (try have q3_1 : w.heap.size + 1 < w3.heap.size := (by omega)); (try have q3_2 : w.heap.size + 2 < w3.heap.size := (by omega)); (try have q3_3 : w.heap.size + 3 < w3.heap.size := (by omega)); (try have q3_1_0 : w1.heap.size < w3.heap.size := (by omega)); (try have q3_1_1 : w1.heap.size + 1 < w3.heap.size := (by omega)); (try have q3_2_0 : w2.heap.size < w3.heap.size := (by omega)); (try have q3_2_1 : w2.heap.size + 1 < w3.heap.size := (by omega)))
    have c3_0_0 : w3.cell? ⟨w.heap.size, 0, none⟩ = some (.int .i64 0) := (hc3 _ _ (by first | go_size | (simp; omega) | simp)).trans (by go_simp)
    have f3_0_0 : w3.frozen? ⟨w.heap.size, 0, none⟩ = false := (hf3 _ _ (by first | go_size | (simp; omega) | simp)).trans (by go_simp)
    have c3_0_1 : w3.cell? ⟨w.heap.size, 1, none⟩ = some (.int .i64 0) := (hc3 _ _ (by first | go_size | (simp; omega) | simp)).trans (by go_simp)
    have f3_0_1 : w3.frozen? ⟨w.heap.size, 1, none⟩ = false := (hf3 _ _ (by first | go_size | (simp; omega) | simp)).trans (by go_simp)
    go_wp2
    (refine bodyPost_ret (by simp [results, Try.results49, go_sem, *]; try rfl) rfl ?_)
    exact ⟨ret_pv HM.out, by (repeat' (first | (with_reducible exact Below.refl _ _) | (with_reducible assumption) | (with_reducible refine Below.alloc ?_ ?_ _) | (with_reducible refine Below.drew ?_) | (with_reducible refine below_drewN ?_ _) | (with_reducible refine Below.setCell ?_ ?_ _) | (with_reducible refine below_call ?_ ?_ (by assumption)) | go_size))⟩
set_option maxRecDepth 100000 in
set_option maxHeartbeats 6400000 in
theorem specNearestPair_any (num den most : Int) (w : World) :
    Calls Try.prog 48 #[.int .i64 num, .int .i64 den, .int .i64 most] w fun e w' => e = .returned (pv (npR num den most)) ∧ Below w.heap.size w w' := by
  cases ha : askB num den most
  · have HM := Lib.hid (show (0, 0, false) = npR num den most from by simp [npR, ha])
    (go_enter Try.func48, Try.ntmps48)
    go_wp2_with fail
    refine (geAsked_is _ _ _ ha _).mono ?_
    (rintro e1 w1 ⟨rfl, rfl⟩)
    go_wp2
    (refine bodyPost_ret (by simp [results, Try.results48, go_sem, *]; try rfl) rfl ?_)
    exact ⟨ret_pv HM.out, by (repeat' (first | (with_reducible exact Below.refl _ _) | (with_reducible assumption) | (with_reducible refine Below.alloc ?_ ?_ _) | (with_reducible refine Below.drew ?_) | (with_reducible refine below_drewN ?_ _) | (with_reducible refine Below.setCell ?_ ?_ _) | (with_reducible refine below_call ?_ ?_ (by assumption)) | go_size))⟩
  · obtain ⟨⟨hN1, hN2⟩, ⟨hD1, hD2⟩, m1, m2⟩ := askB_bd ha
    obtain ⟨n, hn⟩ := Int.eq_ofNat_of_zero_le (show 0 ≤ most - 5 by omega)
    obtain rfl : most = 5 + (n : Int) := by omega
    have n0 : (0 : Int) ≤ (n : Int) := Int.natCast_nonneg _
    have n1 : (n : Int) ≤ 115 := by omega
    have HM := Lib.hid (show (((allP n).foldl (stN (spN num den) (spD num den)) (6, 6)).1, ((allP n).foldl (stN (spN num den) (spD num den)) (6, 6)).2, true) = npR num den (5 + (n : Int)) from by
      rw [npR, if_pos ha, show (5 + (n : Int) - 5).toNat = n by omega])
    clear hn
    (go_enter Try.func48, Try.ntmps48)
    go_wp2_with fail
    refine (geAsked_is _ _ _ ha _).mono ?_
    (rintro e1 w1 ⟨rfl, rfl⟩)
    go_wp2
    go_loopw [9] (fun va wr => ∃ (i : Nat) (a bx bz : Int), a = 6 + (i : Int) ∧ a ≤ 6 + (n : Int) ∧ va = .int .i64 a ∧ pairB (bx, bz) = true ∧ (partP n i 0).foldl (stN (spN num den) (spD num den)) (6, 6) = (bx, bz) ∧ Below w.heap.size w wr ∧ CellsAt wr [(w.heap.size, 0, .int .i64 0), (w.heap.size, 1, .int .i64 0), (w.heap.size + 1, 0, .int .i64 bx), (w.heap.size + 1, 1, .int .i64 bz)]) (fun va _ => (6 + n) - (intOf va).toNat)
    case atStart =>
      refine ⟨0, 6, 6, 6, rfl, by omega, rfl, rfl, rfl, by (repeat' (first | (with_reducible exact Below.refl _ _) | (with_reducible assumption) | (with_reducible refine Below.alloc ?_ ?_ _) | (with_reducible refine Below.drew ?_) | (with_reducible refine below_drewN ?_ _) | (with_reducible refine Below.setCell ?_ ?_ _) | (with_reducible refine below_call ?_ ?_ (by assumption)) | go_size)), ?_⟩
      intro p hp
      simp only [List.mem_cons, List.not_mem_nil, or_false] at hp
      rcases hp with rfl | rfl | rfl | rfl
      all_goals exact ⟨by (simp only [World.size_alloc]; omega), by go_simp, by go_simp⟩

    case round =>
      obtain ⟨i, a, bx, bz, ha', ha2, rfl, hp, h1, hb1, hcell⟩ := hrel
      obtain ⟨wa, hwa⟩ : ∃ wo : World, wo = wr := ⟨_, rfl⟩
      subst hwa
      have a1' : 6 ≤ a := by omega
      have hi2 : a ≤ 5 + (n : Int) → i < n := fun h => by omega
      have hi3 : ¬ a ≤ 5 + (n : Int) → i = n := fun h => by omega
      have HA := Lib.hid ha'
      have HCe := Lib.hid hcell
      have hz1 := hb1.size
      clear ha'
      by_cases hlt : a ≤ 5 + (n : Int)
      · have hin := hi2 hlt
        have hd1 : decide (a ≤ 5 + (n : Int)) = true := by rw [decide_eq_true_eq]; exact hlt
        clear hcell
        go_wp2
        go_loopw [10] (fun vb wr => ∃ (j : Nat) (b bx bz : Int), b = 6 + (j : Int) ∧ b ≤ 6 + (n : Int) ∧ vb = .int .i64 b ∧ pairB (bx, bz) = true ∧ (partP n i j).foldl (stN (spN num den) (spD num den)) (6, 6) = (bx, bz) ∧ Below w.heap.size w wr ∧ CellsAt wr [(w.heap.size, 0, .int .i64 0), (w.heap.size, 1, .int .i64 0), (w.heap.size + 1, 0, .int .i64 bx), (w.heap.size + 1, 1, .int .i64 bz)]) (fun vb _ => (6 + n) - (intOf vb).toNat)
        case atStart => exact ⟨0, 6, bx, bz, rfl, by omega, rfl, hp, h1, hb1, HCe.out⟩
        case round =>
          clear hb1 hz1 hp h1 HCe bx bz
          obtain ⟨j, b, bx, bz, hb, hb2, rfl, hp, h1, hb1, hcell⟩ := hrel
          obtain ⟨wb, hwb⟩ : ∃ wo : World, wo = wr := ⟨_, rfl⟩
          subst hwb
          have b1' : 6 ≤ b := by omega
          have hj2 : b ≤ 5 + (n : Int) → j < n := fun h => by omega
          have hj3 : ¬ b ≤ 5 + (n : Int) → j = n := fun h => by omega
          have HB := Lib.hid hb
          have H2 := Lib.hid h1
          have HCe := Lib.hid hcell
          have HP := Lib.hid hp
          have hz1 := hb1.size
          clear hb h1
          obtain ⟨⟨x1, x2⟩, x3, x4⟩ := pairB_bd hp
          simp only at x1 x2 x3 x4
          clear hp
          by_cases hlt2 : b ≤ 5 + (n : Int)
          · have hjn := hj2 hlt2
            have hd2 : decide (b ≤ 5 + (n : Int)) = true := by rw [decide_eq_true_eq]; exact hlt2
            obtain ⟨p1, p2⟩ := mulb (show 0 ≤ a by omega) (show a ≤ 120 by omega) (show 0 ≤ den by omega) hD2
            obtain ⟨p3, p4⟩ := mulb (show 0 ≤ num by omega) hN2 (show 0 ≤ b by omega) (show b ≤ 120 by omega)
            obtain ⟨p5, p6⟩ := mulb (show 0 ≤ bx by omega) x2 (show 0 ≤ den by omega) hD2
            obtain ⟨p7, p8⟩ := mulb (show 0 ≤ num by omega) hN2 (show 0 ≤ bz by omega) x4
            have HI := Lib.hid (nr_iff (num := num) (den := den) (a := a) (b := b) (bx := bx) (bz := bz) hN1 hD1 (by omega) (by omega) (by omega) (by omega))
            have C1 := fun w => same_below (l1Abs_is (a * den - num * b) ⟨by omega, by omega⟩ w)
            have C2 := fun w => l1Abs_is (bx * den - num * bz) ⟨by omega, by omega⟩ w
            obtain ⟨r1, r2⟩ := absI_bd (n := a * den - num * b) (b := 120000) ⟨by omega, by omega⟩
            obtain ⟨r3, r4⟩ := absI_bd (n := bx * den - num * bz) (b := 120000) ⟨by omega, by omega⟩
            have C1 := Lib.hid C1
            have C2 := Lib.hid C2
            obtain ⟨q1, q2⟩ := mulb r1 r2 (show 0 ≤ bz by omega) x4
            obtain ⟨q3, q4⟩ := mulb r3 r4 (show 0 ≤ b by omega) (show b ≤ 120 by omega)
            generalize absI (a * den - num * b) = o1 at *
            generalize absI (bx * den - num * bz) = o2 at *
            have W1 : IntKind.i64.wrap (a * den) = a * den := w64 ⟨by omega, by omega⟩
            have W2 : IntKind.i64.wrap (num * b) = num * b := w64 ⟨by omega, by omega⟩
            have W3 : IntKind.i64.wrap (a * den - num * b) = a * den - num * b := w64 ⟨by omega, by omega⟩
            have W4 : IntKind.i64.wrap (o1 * bz) = o1 * bz := w64 ⟨by omega, by omega⟩
            have W5 : IntKind.i64.wrap (bx * den) = bx * den := w64 ⟨by omega, by omega⟩
            have W6 : IntKind.i64.wrap (num * bz) = num * bz := w64 ⟨by omega, by omega⟩
            have W7 : IntKind.i64.wrap (bx * den - num * bz) = bx * den - num * bz := w64 ⟨by omega, by omega⟩
            have W8 : IntKind.i64.wrap (o2 * b) = o2 * b := w64 ⟨by omega, by omega⟩
            have W9 : IntKind.i64.wrap (a + b) = a + b := w64 ⟨by omega, by omega⟩
            have W10 : IntKind.i64.wrap (bx + bz) = bx + bz := w64 ⟨by omega, by omega⟩
            have cc0 : wb.cell? ⟨w.heap.size, 0, none⟩ = some (.int .i64 0) := (hcell (w.heap.size, 0, .int .i64 0) (by simp)).2.1
            have cf0 : wb.frozen? ⟨w.heap.size, 0, none⟩ = false := (hcell (w.heap.size, 0, .int .i64 0) (by simp)).2.2
            have cs0 : w.heap.size < wb.heap.size := (hcell (w.heap.size, 0, .int .i64 0) (by simp)).1
            have cc1 : wb.cell? ⟨w.heap.size, 1, none⟩ = some (.int .i64 0) := (hcell (w.heap.size, 1, .int .i64 0) (by simp)).2.1
            have cf1 : wb.frozen? ⟨w.heap.size, 1, none⟩ = false := (hcell (w.heap.size, 1, .int .i64 0) (by simp)).2.2
            have cc2 : wb.cell? ⟨w.heap.size + 1, 0, none⟩ = some (.int .i64 bx) := (hcell (w.heap.size + 1, 0, .int .i64 bx) (by simp)).2.1
            have cf2 : wb.frozen? ⟨w.heap.size + 1, 0, none⟩ = false := (hcell (w.heap.size + 1, 0, .int .i64 bx) (by simp)).2.2
            have cs2 : w.heap.size + 1 < wb.heap.size := (hcell (w.heap.size + 1, 0, .int .i64 bx) (by simp)).1
            have cc3 : wb.cell? ⟨w.heap.size + 1, 1, none⟩ = some (.int .i64 bz) := (hcell (w.heap.size + 1, 1, .int .i64 bz) (by simp)).2.1
            have cf3 : wb.frozen? ⟨w.heap.size + 1, 1, none⟩ = false := (hcell (w.heap.size + 1, 1, .int .i64 bz) (by simp)).2.2
            go_wp2_with fail
            refine wp_region_below (by kernel_rfl) (by kernel_rfl) ?_
            (apply wpB_take (hw := rfl); (intro wq hq; obtain ⟨hcq, hfq⟩ := bcell hq; unfold atB; go_simp; exact ⟨rfl, rfl⟩); simp only [Act.put, List.setIfInBounds_toArray, List.set_cons_zero, List.set_cons_succ])
            (apply wpB_take (hw := rfl); (intro wq hq; obtain ⟨hcq, hfq⟩ := bcell hq; unfold atB; go_simp; exact ⟨rfl, rfl⟩); simp only [Act.put, List.setIfInBounds_toArray, List.set_cons_zero, List.set_cons_succ])
            (apply wpB_take (hw := rfl); (intro wq hq; obtain ⟨hcq, hfq⟩ := bcell hq; unfold atB; go_simp; exact ⟨rfl, rfl⟩); simp only [Act.put, List.setIfInBounds_toArray, List.set_cons_zero, List.set_cons_succ])
            (apply wpB_take (hw := rfl); (intro wq hq; obtain ⟨hcq, hfq⟩ := bcell hq; unfold atB; go_simp; exact ⟨rfl, rfl⟩); simp only [Act.put, List.setIfInBounds_toArray, List.set_cons_zero, List.set_cons_succ])
            (apply wpB_take (hw := rfl); (intro wq hq; obtain ⟨hcq, hfq⟩ := bcell hq; unfold atB; go_simp; exact ⟨rfl, rfl⟩); simp only [Act.put, List.setIfInBounds_toArray, List.set_cons_zero, List.set_cons_succ])
            (apply wpB_take (hw := rfl); (intro wq hq; obtain ⟨hcq, hfq⟩ := bcell hq; unfold atB; go_simp; exact ⟨rfl, rfl⟩); simp only [Act.put, List.setIfInBounds_toArray, List.set_cons_zero, List.set_cons_succ])
            (apply wpB_take (hw := rfl); (intro wq hq; obtain ⟨hcq, hfq⟩ := bcell hq; unfold atB; go_simp; exact ⟨rfl, rfl⟩); simp only [Act.put, List.setIfInBounds_toArray, List.set_cons_zero, List.set_cons_succ])
            (apply wpB_take (hw := rfl); (intro wq hq; unfold atB; go_simp; exact ⟨rfl, C1.out _⟩); simp only [Act.put, List.setIfInBounds_toArray, List.set_cons_zero, List.set_cons_succ])
            (apply wpB_take (hw := rfl); (intro wq hq; obtain ⟨hcq, hfq⟩ := bcell hq; unfold atB; go_simp; exact ⟨rfl, rfl⟩); simp only [Act.put, List.setIfInBounds_toArray, List.set_cons_zero, List.set_cons_succ])
            (apply wpB_take (hw := rfl); (intro wq hq; obtain ⟨hcq, hfq⟩ := bcell hq; unfold atB; go_simp; exact ⟨rfl, rfl⟩); simp only [Act.put, List.setIfInBounds_toArray, List.set_cons_zero, List.set_cons_succ])
            (apply wpB_take (hw := rfl); (intro wq hq; obtain ⟨hcq, hfq⟩ := bcell hq; unfold atB; go_simp; exact ⟨rfl, rfl⟩); simp only [Act.put, List.setIfInBounds_toArray, List.set_cons_zero, List.set_cons_succ])
            (apply wpB_take (hw := rfl); (intro wq hq; obtain ⟨hcq, hfq⟩ := bcell hq; unfold atB; go_simp; exact ⟨rfl, rfl⟩); simp only [Act.put, List.setIfInBounds_toArray, List.set_cons_zero, List.set_cons_succ])
            refine fun wn hbn => ?_
            have hzn := hbn.size
            have hcn := hcell.below hbn
            have bn : Below w.heap.size w wn := hb1.trans (hbn.mono hb1.size)
            have HCn := Lib.hid hcn
            clear hcell HCe cc0 cf0 cc1 cf1 cc2 cf2 cc3 cf3
            have dc0 : wn.cell? ⟨w.heap.size, 0, none⟩ = some (.int .i64 0) := (hcn (w.heap.size, 0, .int .i64 0) (by simp)).2.1
            have df0 : wn.frozen? ⟨w.heap.size, 0, none⟩ = false := (hcn (w.heap.size, 0, .int .i64 0) (by simp)).2.2
            have ds0 : w.heap.size < wn.heap.size := (hcn (w.heap.size, 0, .int .i64 0) (by simp)).1
            have dc1 : wn.cell? ⟨w.heap.size, 1, none⟩ = some (.int .i64 0) := (hcn (w.heap.size, 1, .int .i64 0) (by simp)).2.1
            have df1 : wn.frozen? ⟨w.heap.size, 1, none⟩ = false := (hcn (w.heap.size, 1, .int .i64 0) (by simp)).2.2
            have dc2 : wn.cell? ⟨w.heap.size + 1, 0, none⟩ = some (.int .i64 bx) := (hcn (w.heap.size + 1, 0, .int .i64 bx) (by simp)).2.1
            have df2 : wn.frozen? ⟨w.heap.size + 1, 0, none⟩ = false := (hcn (w.heap.size + 1, 0, .int .i64 bx) (by simp)).2.2
            have ds2 : w.heap.size + 1 < wn.heap.size := (hcn (w.heap.size + 1, 0, .int .i64 bx) (by simp)).1
            have dc3 : wn.cell? ⟨w.heap.size + 1, 1, none⟩ = some (.int .i64 bz) := (hcn (w.heap.size + 1, 1, .int .i64 bz) (by simp)).2.1
            have df3 : wn.frozen? ⟨w.heap.size + 1, 1, none⟩ = false := (hcn (w.heap.size + 1, 1, .int .i64 bz) (by simp)).2.2
            clear hcn
            go_wp2_with fail
            refine (C2.out _).mono ?_
            (rintro e1 w1 ⟨rfl, rfl⟩)
            by_cases g1 : o1 * bz < o2 * b
            · have HS := Lib.hid (show (partP n i (j + 1)).foldl (stN (spN num den) (spD num den)) (6, 6) = (a, b) by
                rw [partP_next, List.foldl_append, H2.out, ← HA.out, ← HB.out]
                simp only [List.foldl_cons, List.foldl_nil, stN]
                rw [if_pos (HI.out.2 (.inl g1))])
              go_wp2
              go_roundw
              case rel =>
                refine ⟨j + 1, b + 1, a, b, by have := HB.out; omega, by omega, rfl, pairB_of ⟨⟨a1', by omega⟩, b1', by omega⟩, HS.out, by (repeat' (first | (with_reducible exact Below.refl _ _) | (with_reducible assumption) | (with_reducible refine Below.alloc ?_ ?_ _) | (with_reducible refine Below.drew ?_) | (with_reducible refine below_drewN ?_ _) | (with_reducible refine Below.setCell ?_ ?_ _) | (with_reducible refine below_call ?_ ?_ (by assumption)) | go_size)), ?_⟩
                intro p hp
                simp only [List.mem_cons, List.not_mem_nil, or_false] at hp
                rcases hp with rfl | rfl | rfl | rfl
                all_goals exact ⟨by go_size, by go_simp, by go_simp⟩
              case measure => simp [intOf]; omega
            · by_cases g2 : o1 * bz = o2 * b
              · by_cases g3 : a + b < bx + bz
                · have HS := Lib.hid (show (partP n i (j + 1)).foldl (stN (spN num den) (spD num den)) (6, 6) = (a, b) by
                    rw [partP_next, List.foldl_append, H2.out, ← HA.out, ← HB.out]
                    simp only [List.foldl_cons, List.foldl_nil, stN]
                    rw [if_pos (HI.out.2 (.inr ⟨g2, g3⟩))])
                  go_wp2
                  go_roundw
                  case rel =>
                    refine ⟨j + 1, b + 1, a, b, by have := HB.out; omega, by omega, rfl, pairB_of ⟨⟨a1', by omega⟩, b1', by omega⟩, HS.out, by (repeat' (first | (with_reducible exact Below.refl _ _) | (with_reducible assumption) | (with_reducible refine Below.alloc ?_ ?_ _) | (with_reducible refine Below.drew ?_) | (with_reducible refine below_drewN ?_ _) | (with_reducible refine Below.setCell ?_ ?_ _) | (with_reducible refine below_call ?_ ?_ (by assumption)) | go_size)), ?_⟩
                    intro p hp
                    simp only [List.mem_cons, List.not_mem_nil, or_false] at hp
                    rcases hp with rfl | rfl | rfl | rfl
                    all_goals exact ⟨by go_size, by go_simp, by go_simp⟩
                  case measure => simp [intOf]; omega
                · have HS := Lib.hid (show (partP n i (j + 1)).foldl (stN (spN num den) (spD num den)) (6, 6) = (bx, bz) by
                    rw [partP_next, List.foldl_append, H2.out, ← HA.out, ← HB.out]
                    simp only [List.foldl_cons, List.foldl_nil, stN]
                    rw [if_neg (fun h0 => absurd (HI.out.1 h0) (by rintro (h | ⟨-, h⟩) <;> omega))])
                  go_wp2
                  go_roundw
                  case rel => exact ⟨j + 1, b + 1, bx, bz, by have := HB.out; omega, by omega, rfl, HP.out, HS.out, bn, HCn.out⟩
                  case measure => simp [intOf]; omega
              · have HS := Lib.hid (show (partP n i (j + 1)).foldl (stN (spN num den) (spD num den)) (6, 6) = (bx, bz) by
                  rw [partP_next, List.foldl_append, H2.out, ← HA.out, ← HB.out]
                  simp only [List.foldl_cons, List.foldl_nil, stN]
                  rw [if_neg (fun h0 => absurd (HI.out.1 h0) (by rintro (h | ⟨h, -⟩) <;> omega))])
                go_wp2
                go_roundw
                case rel => exact ⟨j + 1, b + 1, bx, bz, by have := HB.out; omega, by omega, rfl, HP.out, HS.out, bn, HCn.out⟩
                case measure => simp [intOf]; omega
          · have hjn := hj3 hlt2
            have HX := Lib.hid (show (partP n (i + 1) 0).foldl (stN (spN num den) (spD num den)) (6, 6) = (bx, bz) by
              have h9 := H2.out; rw [hjn] at h9; rw [← partP_row]; exact h9)
            clear hcell
            go_wp2
            go_roundw
            case rel => exact ⟨i + 1, a + 1, bx, bz, by have := HA.out; omega, by omega, rfl, HP.out, HX.out, hb1, HCe.out⟩
            case measure => simp [intOf]; omega
      · have hin := hi3 hlt
        have HX := Lib.hid (show (bx, bz, true) = npR num den (5 + (n : Int)) by
          rw [← HM.out, ← partP_end]
          rw [hin] at h1
          rw [h1])
        clear h1
        have cc0 : wa.cell? ⟨w.heap.size, 0, none⟩ = some (.int .i64 0) := (hcell (w.heap.size, 0, .int .i64 0) (by simp)).2.1
        have cf0 : wa.frozen? ⟨w.heap.size, 0, none⟩ = false := (hcell (w.heap.size, 0, .int .i64 0) (by simp)).2.2
        have cs0 : w.heap.size < wa.heap.size := (hcell (w.heap.size, 0, .int .i64 0) (by simp)).1
        have cc1 : wa.cell? ⟨w.heap.size, 1, none⟩ = some (.int .i64 0) := (hcell (w.heap.size, 1, .int .i64 0) (by simp)).2.1
        have cf1 : wa.frozen? ⟨w.heap.size, 1, none⟩ = false := (hcell (w.heap.size, 1, .int .i64 0) (by simp)).2.2
        have cc2 : wa.cell? ⟨w.heap.size + 1, 0, none⟩ = some (.int .i64 bx) := (hcell (w.heap.size + 1, 0, .int .i64 bx) (by simp)).2.1
        have cf2 : wa.frozen? ⟨w.heap.size + 1, 0, none⟩ = false := (hcell (w.heap.size + 1, 0, .int .i64 bx) (by simp)).2.2
        have cs2 : w.heap.size + 1 < wa.heap.size := (hcell (w.heap.size + 1, 0, .int .i64 bx) (by simp)).1
        have cc3 : wa.cell? ⟨w.heap.size + 1, 1, none⟩ = some (.int .i64 bz) := (hcell (w.heap.size + 1, 1, .int .i64 bz) (by simp)).2.1
        have cf3 : wa.frozen? ⟨w.heap.size + 1, 1, none⟩ = false := (hcell (w.heap.size + 1, 1, .int .i64 bz) (by simp)).2.2
        clear hcell
        go_wp2
        (refine bodyPost_ret (by simp [results, Try.results48, go_sem, *]; try rfl) rfl ?_)
        exact ⟨ret_pv HX.out, by (repeat' (first | (with_reducible exact Below.refl _ _) | (with_reducible assumption) | (with_reducible refine Below.alloc ?_ ?_ _) | (with_reducible refine Below.drew ?_) | (with_reducible refine below_drewN ?_ _) | (with_reducible refine Below.setCell ?_ ?_ _) | (with_reducible refine below_call ?_ ?_ (by assumption)) | go_size))⟩
end Go.Proofs.Ytaifcemdabcfjaa
