/- Meshes and turns until all is as at first: by the program and by the model. -/
import Derived.Test.YtaifcemdabcfjaaGe5
set_option linter.unusedSimpArgs false
set_option linter.unusedVariables false
set_option maxRecDepth 100000
namespace Go.Proofs.Ytaifcemdabcfjaa
open Go.RowKit

theorem PIn_one {w : World} {b off : Nat} {x y : Int} (hb : b < w.heap.size) (h0 : w.cell? ⟨b, off, none⟩ = some (.int .i64 x)) (h1 : w.cell? ⟨b, off + 1, none⟩ = some (.int .i64 y)) : PIn w (some ⟨b, off, none⟩) [(x, y)] := by
  intro k hk
  have : k = 0 := by simpa using hk
  subst this
  exact ⟨b, off, rfl, hb, by simpa using h0, by simpa using h1⟩
theorem train_one {x y : Int} (h : pairB (x, y) = true) : trainB [(x, y)] = true := by simp [trainB, h]
theorem rt_one (x y : Int) : rt [(x, y)] = tv (spN x y) (spD x y) := by simp [rt, numT, denT]
def meshR (x y : Int) : Int × Int × Bool := if pairB (x, y) then (spD x y, spN x y, true) else fail3
set_option maxHeartbeats 800000 in
theorem ratioOf_one {x y : Int} (h : pairB (x, y) = true) {b off c : Nat} (w : World) (hb : b < w.heap.size) (h0 : w.cell? ⟨b, off, none⟩ = some (.int .i64 x)) (h1 : w.cell? ⟨b, off + 1, none⟩ = some (.int .i64 y)) :
    Calls Try.prog 65 #[.slice (some ⟨b, off, none⟩) 1 c] w fun e w' => e = .returned (tv (spN x y) (spD x y)) ∧ Below w.heap.size w w' := by
  have := ratioOf_any (some ⟨b, off, none⟩) c [(x, y)] (train_one h) w (PIn_one hb h0 h1)
  rw [rt_one] at this
  exact this
set_option maxHeartbeats 800000 in
theorem implMeshes_any (x y : Int) (w : World) :
    Calls Try.prog 38 #[tv x y] w fun e w' => e = .returned (tq (meshR x y)) ∧ Below w.heap.size w w' := by
  cases hp : pairB (x, y)
  · have HM := Lib.hid (show fail3 = meshR x y from by simp [meshR, hp])
    (go_enter Try.func38, Try.ntmps38)
    go_wp2_with fail
    refine (implIsPair_is _ _ hp _).mono ?_
    (rintro e1 w1 ⟨rfl, hb1⟩; obtain ⟨hc1, hf1⟩ := bcell hb1; have hz1 := hb1.size; (try simp only [World.size_alloc, World.size_setCell, World.size_drew] at hz1); have q1 : w.heap.size ≤ w1.heap.size := (by omega); (try have q1_0 : w.heap.size < w1.heap.size := (by omega)); (try have q1_1 : w.heap.size + 1 < w1.heap.size := (by omega)); (try have q1_2 : w.heap.size + 2 < w1.heap.size := (by omega)); (try have q1_3 : w.heap.size + 3 < w1.heap.size := (by omega)))
    go_wp2
    (refine bodyPost_ret (by simp [results, Try.results38, go_sem, *]; try rfl) rfl ?_)
    exact ⟨ret_tq HM.out, by (repeat' (first | (with_reducible exact Below.refl _ _) | (with_reducible assumption) | (with_reducible refine Below.alloc ?_ ?_ _) | (with_reducible refine Below.drew ?_) | (with_reducible refine below_drewN ?_ _) | (with_reducible refine Below.setCell ?_ ?_ _) | (with_reducible refine below_call ?_ ?_ (by assumption)) | go_size))⟩
  · have HM := Lib.hid (show (spD x y, spN x y, true) = meshR x y from by simp [meshR, hp])
    (go_enter Try.func38, Try.ntmps38)
    go_wp2_with fail
    refine (implIsPair_is _ _ hp _).mono ?_
    (rintro e1 w1 ⟨rfl, hb1⟩; obtain ⟨hc1, hf1⟩ := bcell hb1; have hz1 := hb1.size; (try simp only [World.size_alloc, World.size_setCell, World.size_drew] at hz1); have q1 : w.heap.size ≤ w1.heap.size := (by omega); (try have q1_0 : w.heap.size < w1.heap.size := (by omega)); (try have q1_1 : w.heap.size + 1 < w1.heap.size := (by omega)); (try have q1_2 : w.heap.size + 2 < w1.heap.size := (by omega)); (try have q1_3 : w.heap.size + 3 < w1.heap.size := (by omega)))
    go_wp2_with fail
    refine (ratioOf_one hp _ (by go_size) (by go_simp) (by go_simp)).mono ?_
    (rintro e2 w2 ⟨rfl, hb2⟩; obtain ⟨hc2, hf2⟩ := bcell hb2; have hz2 := hb2.size; (try simp only [World.size_alloc, World.size_setCell, World.size_drew] at hz2); have q2 : w.heap.size ≤ w2.heap.size := (by omega); (try have q2_0 : w.heap.size < w2.heap.size := (by omega)); (try have q2_1 : w.heap.size + 1 < w2.heap.size := (by omega)); (try have q2_2 : w.heap.size + 2 < w2.heap.size := (by omega)); (try have q2_3 : w.heap.size + 3 < w2.heap.size := (by omega)); (try have q2_1_0 : w1.heap.size < w2.heap.size := (by omega)); (try have q2_1_1 : w1.heap.size + 1 < w2.heap.size := (by omega)))
    go_wp2
    go_quiet (fail)
    go_wp2
    (refine bodyPost_ret (by simp [results, Try.results38, go_sem, *]; try rfl) rfl ?_)
    exact ⟨ret_tq HM.out, by (repeat' (first | (with_reducible exact Below.refl _ _) | (with_reducible assumption) | (with_reducible refine Below.alloc ?_ ?_ _) | (with_reducible refine Below.drew ?_) | (with_reducible refine below_drewN ?_ _) | (with_reducible refine Below.setCell ?_ ?_ _) | (with_reducible refine below_call ?_ ?_ (by assumption)) | go_size))⟩
set_option maxHeartbeats 800000 in
theorem specMeshes_any (x y : Int) (w : World) :
    Calls Try.prog 37 #[tv x y] w fun e w' => e = .returned (tq (meshR x y)) ∧ Below w.heap.size w w' := by
  cases hp : pairB (x, y)
  · have HM := Lib.hid (show fail3 = meshR x y from by simp [meshR, hp])
    (go_enter Try.func37, Try.ntmps37)
    go_wp2_with fail
    refine (gePair_is _ _ hp _).mono ?_
    (rintro e1 w1 ⟨rfl, hb1⟩; obtain ⟨hc1, hf1⟩ := bcell hb1; have hz1 := hb1.size; (try simp only [World.size_alloc, World.size_setCell, World.size_drew] at hz1); have q1 : w.heap.size ≤ w1.heap.size := (by omega); (try have q1_0 : w.heap.size < w1.heap.size := (by omega)); (try have q1_1 : w.heap.size + 1 < w1.heap.size := (by omega)); (try have q1_2 : w.heap.size + 2 < w1.heap.size := (by omega)); (try have q1_3 : w.heap.size + 3 < w1.heap.size := (by omega)))
    go_wp2
    (refine bodyPost_ret (by simp [results, Try.results37, go_sem, *]; try rfl) rfl ?_)
    exact ⟨ret_tq HM.out, by (repeat' (first | (with_reducible exact Below.refl _ _) | (with_reducible assumption) | (with_reducible refine Below.alloc ?_ ?_ _) | (with_reducible refine Below.drew ?_) | (with_reducible refine below_drewN ?_ _) | (with_reducible refine Below.setCell ?_ ?_ _) | (with_reducible refine below_call ?_ ?_ (by assumption)) | go_size))⟩
  · have HM := Lib.hid (show (y / gc x y, x / gc x y, true) = meshR x y from by simp [meshR, hp, spN, spD])
    obtain ⟨⟨p1, p2⟩, p3, p4⟩ := pairB_bd hp
    simp only at p1 p2 p3 p4
    have hg := gcd_pos_of x y (by omega)
    (go_enter Try.func37, Try.ntmps37)
    go_wp2_with fail
    refine (gePair_is _ _ hp _).mono ?_
    (rintro e1 w1 ⟨rfl, hb1⟩; obtain ⟨hc1, hf1⟩ := bcell hb1; have hz1 := hb1.size; (try simp only [World.size_alloc, World.size_setCell, World.size_drew] at hz1); have q1 : w.heap.size ≤ w1.heap.size := (by omega); (try have q1_0 : w.heap.size < w1.heap.size := (by omega)); (try have q1_1 : w.heap.size + 1 < w1.heap.size := (by omega)); (try have q1_2 : w.heap.size + 2 < w1.heap.size := (by omega)); (try have q1_3 : w.heap.size + 3 < w1.heap.size := (by omega)))
    go_wp2_with fail
    refine (diCommon_any x y (by omega) (by omega) _).mono ?_
    (rintro e2 w2 ⟨rfl, hb2⟩; obtain ⟨hc2, hf2⟩ := bcell hb2; have hz2 := hb2.size; (try simp only [World.size_alloc, World.size_setCell, World.size_drew] at hz2); have q2 : w.heap.size ≤ w2.heap.size := (by omega); (try have q2_0 : w.heap.size < w2.heap.size := (by omega)); (try have q2_1 : w.heap.size + 1 < w2.heap.size := (by omega)); (try have q2_2 : w.heap.size + 2 < w2.heap.size := (by omega)); (try have q2_3 : w.heap.size + 3 < w2.heap.size := (by omega)); (try have q2_1_0 : w1.heap.size < w2.heap.size := (by omega)); (try have q2_1_1 : w1.heap.size + 1 < w2.heap.size := (by omega)))
    go_wp2
    go_quiet (fail)
    go_wp2
    (refine bodyPost_ret (by simp [results, Try.results37, go_sem, *]; try rfl) rfl ?_)
    exact ⟨ret_tq HM.out, by (repeat' (first | (with_reducible exact Below.refl _ _) | (with_reducible assumption) | (with_reducible refine Below.alloc ?_ ?_ _) | (with_reducible refine Below.drew ?_) | (with_reducible refine below_drewN ?_ _) | (with_reducible refine Below.setCell ?_ ?_ _) | (with_reducible refine below_call ?_ ?_ (by assumption)) | go_size))⟩

/-! ### Turns until all is as at first -/
/-- The denominator of the ratio up to the axle k. -/
def denK (L : List (Int × Int)) (k : Nat) : Int := spD (numT (L.take k)) (denT (L.take k))
def tusT (L : List (Int × Int)) : Nat → Int
  | 0 => 1
  | k + 1 => tusT L k / gc (tusT L k) (denK L (k + 1)) * denK L (k + 1)
def tusR (L : List (Int × Int)) : Int × Bool := if trainB L then (tusT L L.length, true) else (0, false)
theorem div_q {t g q : Int} (hg : 1 ≤ g) (h : t = g * q) : t / g = q := by
  subst h; exact Int.mul_ediv_cancel_left _ (by omega)
theorem div_swap {t d g q r : Int} (hg : 1 ≤ g) (h1 : t = g * q) (h2 : d = g * r) : t * (d / g) = t / g * d := by
  rw [div_q hg h1, div_q hg h2, h1, h2, Int.mul_assoc, Int.mul_left_comm]
theorem lcm_dvd' {t d X : Int} (ht : 1 ≤ t) (hd : 1 ≤ d) (h1 : t ∣ X) (h2 : d ∣ X) (hX : 1 ≤ X) : t / gc t d * d ∣ X := by
  obtain ⟨X', rfl⟩ := Int.eq_ofNat_of_zero_le (show 0 ≤ X by omega)
  have h := Int.lcm_dvd h1 h2
  have hm := Int.gcd_mul_lcm t d
  obtain ⟨g1, g2⟩ := gc_dvd t d
  have hg := gcd_pos_of t d hd
  obtain ⟨q, hq⟩ := g1
  have hl : ((Int.lcm t d : Nat) : Int) = t / gc t d * d := by
    have hm' : gc t d * ((Int.lcm t d : Nat) : Int) = t * d := by
      unfold gc
      rw [← Int.natCast_mul, hm, Int.natCast_mul, Int.natAbs_of_nonneg (by omega), Int.natAbs_of_nonneg (by omega)]
    rw [div_q hg hq]
    refine Int.eq_of_mul_eq_mul_left (show gc t d ≠ 0 by omega) ?_
    rw [hm', ← Int.mul_assoc, ← hq]
  rw [← hl]
  exact Int.natCast_dvd_natCast.2 h
theorem denT_dvd (L : List (Int × Int)) {k : Nat} (hk : k < L.length) : denT (L.take k) ∣ denT (L.take (k + 1)) := by
  rw [take_next hk, denT_append]
  exact Int.dvd_mul_right ..
theorem denK_dvd {L : List (Int × Int)} (h : trainB L = true) (k : Nat) : 1 ≤ denK L k ∧ denK L k ∣ denT (L.take k) := by
  obtain ⟨⟨a1, a2⟩, ⟨b1, b2⟩, -⟩ := train_bd (trainB_take h k)
  obtain ⟨-, d1, -⟩ := sp_pos _ _ a1 b1
  refine ⟨d1, gc (numT (L.take k)) (denT (L.take k)), ?_⟩
  have := (sp_mul (numT (L.take k)) (denT (L.take k))).2
  rw [Int.mul_comm] at this
  exact this
theorem tusT_bd {L : List (Int × Int)} (h : trainB L = true) (k : Nat) (hk : k ≤ L.length) : 1 ≤ tusT L k ∧ tusT L k ∣ denT (L.take k) := by
  induction k with
  | zero => exact ⟨Int.le_refl _, Int.one_dvd _⟩
  | succ k ih =>
    obtain ⟨i1, i2⟩ := ih (by omega)
    obtain ⟨j1, j2⟩ := denK_dvd h (k + 1)
    have hX := (train_bd (trainB_take h (k + 1))).2.1.1
    have hg := gcd_pos_of (tusT L k) (denK L (k + 1)) j1
    have hd := lcm_dvd' i1 j1 (Int.dvd_trans i2 (denT_dvd L (by omega))) j2 hX
    refine ⟨?_, hd⟩
    show 1 ≤ tusT L k / gc (tusT L k) (denK L (k + 1)) * denK L (k + 1)
    have h0 : 0 ≤ tusT L k / gc (tusT L k) (denK L (k + 1)) * denK L (k + 1) := Int.mul_nonneg (Int.ediv_nonneg (by omega) (by omega)) (by omega)
    rcases Int.lt_or_eq_of_le h0 with h1 | h1
    · omega
    · rw [← h1] at hd
      have := Int.zero_dvd.1 hd
      omega
theorem tus_nums {L : List (Int × Int)} (h : trainB L = true) {k : Nat} (hk : k < L.length) : ∃ t d g, t = tusT L k ∧ d = denK L (k + 1) ∧ g = gc t d ∧ (1 ≤ t ∧ t ≤ 207360000) ∧ (1 ≤ d ∧ d ≤ 207360000) ∧ 1 ≤ g ∧ (1 ≤ t / g * d ∧ t / g * d ≤ 207360000) ∧ t * (d / g) = t / g * d ∧ tusT L (k + 1) = t / g * d := by
  obtain ⟨i1, i2⟩ := tusT_bd h k (by omega)
  obtain ⟨j1, j2⟩ := denK_dvd h (k + 1)
  obtain ⟨l1, l2⟩ := tusT_bd h (k + 1) (by omega)
  have hX := (train_bd (trainB_take h (k + 1))).2.1
  have hX2 := (train_bd (trainB_take h k)).2.1
  have m1 := Int.le_of_dvd (by omega) i2
  have m2 := Int.le_of_dvd (by omega) j2
  have m3 := Int.le_of_dvd (by omega) l2
  have hg := gcd_pos_of (tusT L k) (denK L (k + 1)) j1
  obtain ⟨⟨q, hq⟩, r, hr⟩ := gc_dvd (tusT L k) (denK L (k + 1))
  refine ⟨tusT L k, denK L (k + 1), _, rfl, rfl, rfl, ⟨i1, by omega⟩, ⟨j1, by omega⟩, hg, ⟨l1, by show tusT L (k + 1) ≤ _; omega⟩, div_swap hg hq hr, rfl⟩
theorem PIn.take {w : World} {a : Option Addr} {L : List (Int × Int)} (h : PIn w a L) (n : Nat) : PIn w a (L.take n) := by
  intro k hk
  have hk' : k < L.length ∧ k < n := by rw [List.length_take] at hk; omega
  obtain ⟨b, off, h1, h2, h3, h4⟩ := h k hk'.1
  have e : (L.take n).getD k (0, 0) = L.getD k (0, 0) := by simp [List.getD_eq_getElem?_getD, List.getElem?_take_of_lt hk'.2]
  rw [e]
  exact ⟨b, off, h1, h2, h3, h4⟩
theorem ratioOf_upto {L : List (Int × Int)} (hr : trainB L = true) (a : Option Addr) (c : Nat) {k : Nat} (hk : k < L.length) (w : World) (hin : PIn w a L) {m d : Int} (hd : d = denK L (k + 1)) (hm : m = spN (numT (L.take (k + 1))) (denT (L.take (k + 1)))) :
    Calls Try.prog 65 #[.slice a (k + 1) c] w fun e w' => e = .returned (tv m d) ∧ Below w.heap.size w w' := by
  have := ratioOf_any a c (L.take (k + 1)) (trainB_take hr _) w (hin.take _)
  rw [show (L.take (k + 1)).length = k + 1 by rw [List.length_take]; omega] at this
  subst hd hm
  exact this
theorem geRatio_upto {L : List (Int × Int)} (hr : trainB L = true) (a : Option Addr) (c : Nat) {k : Nat} (hk : k < L.length) (w : World) (hin : PIn w a L) {m d : Int} (hd : d = denK L (k + 1)) (hm : m = spN (numT (L.take (k + 1))) (denT (L.take (k + 1)))) :
    Calls Try.prog 64 #[.slice a (k + 1) c] w fun e w' => e = .returned (tp m d) ∧ Below w.heap.size w w' := by
  have := geRatio_any a c (L.take (k + 1)) (trainB_take hr _) w (hin.take _)
  rw [show (L.take (k + 1)).length = k + 1 by rw [List.length_take]; omega] at this
  subst hd hm
  exact this
set_option maxHeartbeats 3200000 in
theorem implTurnsUntilSame_any (a : Option Addr) (c : Nat) (L : List (Int × Int)) (w : World) (hin : PIn w a L) (hm : L.length ≤ maxLen) (hc : L.length ≤ c) :
    Calls Try.prog 40 #[.slice a L.length c] w fun e w' => e = .returned (iv (tusR L)) ∧ Below w.heap.size w w' := by
  have X1 := Lib.hid hin
  clear hin
  cases ht : trainB L
  · have HM := Lib.hid (show (0, false) = tusR L from by simp [tusR, ht])
    (go_enter Try.func40, Try.ntmps40)
    go_wp2_with fail
    refine (implIsTrain_is a c L ht _ X1.out hm).mono ?_
    (rintro e1 w1 ⟨rfl, hb1⟩; obtain ⟨hc1, hf1⟩ := bcell hb1; have hz1 := hb1.size; (try simp only [World.size_alloc, World.size_setCell, World.size_drew] at hz1); have q1 : w.heap.size ≤ w1.heap.size := (by omega); (try have q1_0 : w.heap.size < w1.heap.size := (by omega)); (try have q1_1 : w.heap.size + 1 < w1.heap.size := (by omega)); (try have q1_2 : w.heap.size + 2 < w1.heap.size := (by omega)); (try have q1_3 : w.heap.size + 3 < w1.heap.size := (by omega)))
    go_wp2
    go_ret2
    exact ⟨ret_iv HM.out, by (repeat' (first | (with_reducible exact Below.refl _ _) | (with_reducible assumption) | (with_reducible refine Below.alloc ?_ ?_ _) | (with_reducible refine Below.drew ?_) | (with_reducible refine below_drewN ?_ _) | (with_reducible refine Below.setCell ?_ ?_ _) | (with_reducible refine below_call ?_ ?_ (by assumption)) | go_size))⟩
  · have HM := Lib.hid (show (tusT L L.length, true) = tusR L from by simp [tusR, ht])
    have hTl := (trainB_bd ht).1
    (go_enter Try.func40, Try.ntmps40)
    go_wp2_with fail
    refine (implIsTrain_is a c L ht _ X1.out hm).mono ?_
    (rintro e1 w1 ⟨rfl, hb1⟩; obtain ⟨hc1, hf1⟩ := bcell hb1; have hz1 := hb1.size; (try simp only [World.size_alloc, World.size_setCell, World.size_drew] at hz1); have q1 : w.heap.size ≤ w1.heap.size := (by omega); (try have q1_0 : w.heap.size < w1.heap.size := (by omega)); (try have q1_1 : w.heap.size + 1 < w1.heap.size := (by omega)); (try have q1_2 : w.heap.size + 2 < w1.heap.size := (by omega)); (try have q1_3 : w.heap.size + 3 < w1.heap.size := (by omega)))
    go_wp2
    go_loopw [4, 12] (fun s i wr => ∃ k : Nat, k ≤ L.length ∧ i = .int .i64 k ∧ s = .int .i64 (tusT L k) ∧ Below w.heap.size w wr) (fun _ i _ => L.length - (intOf i).toNat)
    case atStart => exact ⟨0, Nat.zero_le _, rfl, rfl, by (repeat' (first | (with_reducible exact Below.refl _ _) | (with_reducible assumption) | (with_reducible refine Below.alloc ?_ ?_ _) | (with_reducible refine Below.drew ?_) | (with_reducible refine below_drewN ?_ _) | (with_reducible refine Below.setCell ?_ ?_ _) | (with_reducible refine below_call ?_ ?_ (by assumption)) | go_size))⟩
    case round =>
      obtain ⟨k, hk, rfl, rfl, hbel⟩ := hrel
      have hz := hbel.size
      have i0 : (0 : Int) ≤ (k : Int) := Int.natCast_nonneg _
      by_cases hlt : k < L.length
      · obtain ⟨t, d, g, et, ed, eg, ⟨t1, t2⟩, ⟨d1, d2⟩, g1, ⟨l1, l2⟩, hq, hn⟩ := tus_nums ht hlt
        obtain ⟨m, hmm⟩ : ∃ m, m = spN (numT (L.take (k + 1))) (denT (L.take (k + 1))) := ⟨_, rfl⟩
        rw [← et]
        have CR := fun w hi => ratioOf_upto ht a c hlt w hi ed hmm
        have CR := Lib.hid CR
        have CG := fun w => commonDivisor_any t d (by omega) (by omega) w
        rw [← eg] at CG
        have CG := Lib.hid CG
        have HN := Lib.hid hn
        have i1 : (k : Int) < (L.length : Int) := by omega
        have i2 : (k : Int) + 1 ≤ (c : Int) := by omega
        have gne : ¬ g = 0 := by omega
        have E1 : IntKind.i64.wrap (d.tdiv g) = d / g := q64 (by omega) (by omega) g1
        have E2 : IntKind.i64.wrap (t.tdiv g) = t / g := q64 (by omega) (by omega) g1
        have E3 : IntKind.i64.wrap (t * (d / g)) = t / g * d := by rw [hq]; exact w64 ⟨by omega, by omega⟩
        have E4 : IntKind.i64.wrap (t / g * d) = t / g * d := w64 ⟨by omega, by omega⟩
        clear hq et ed eg hn hmm
        go_wp2_with fail
        refine (CR.out _ (X1.out.below hbel)).mono ?_
        rintro e2 w2 ⟨rfl, hb2⟩
        obtain ⟨hc2, hf2⟩ := bcell hb2
        have hz2 := hb2.size
        go_wp2_with fail
        refine wp_region_below (by kernel_rfl) (by kernel_rfl) ?_
        repeat (first | (apply wpB_take (hw := rfl); (intro wq hq; obtain ⟨hcq, hfq⟩ := bcell hq; unfold atB; go_simp; exact ⟨rfl, rfl⟩); simp only [Act.put, List.setIfInBounds_toArray, List.set_cons_zero, List.set_cons_succ]) | (apply wpB_take (hw := rfl); (intro wq hq; unfold atB; go_simp; exact ⟨rfl, CG.out _⟩); simp only [Act.put, List.setIfInBounds_toArray, List.set_cons_zero, List.set_cons_succ]))
        refine fun w4 hb4 => ?_
        try simp only [Act.put, List.setIfInBounds_toArray, List.set_cons_zero, List.set_cons_succ]
        have hz4 := hb4.size
        simp only [World.size_alloc, World.size_drew] at hz4
        go_wp2
        go_roundw
        case rel => exact ⟨k + 1, by omega, by go_num, ret_num HN.out.symm, by (repeat' (first | (with_reducible exact Below.refl _ _) | (with_reducible assumption) | (with_reducible refine Below.alloc ?_ ?_ _) | (with_reducible refine Below.drew ?_) | (with_reducible refine below_drewN ?_ _) | (with_reducible refine Below.setCell ?_ ?_ _) | (with_reducible refine below_call ?_ ?_ (by assumption)) | go_size))⟩
        case measure => simp [intOf]; omega
      · obtain rfl : k = L.length := by omega
        go_wp2
        go_ret2
        exact ⟨ret_iv HM.out, hbel⟩
set_option maxHeartbeats 3200000 in
theorem specTurnsUntilSame_any (a : Option Addr) (c : Nat) (L : List (Int × Int)) (w : World) (hin : PIn w a L) (hm : L.length ≤ maxLen) (hc : L.length ≤ c) :
    Calls Try.prog 39 #[.slice a L.length c] w fun e w' => e = .returned (iv (tusR L)) ∧ Below w.heap.size w w' := by
  have X1 := Lib.hid hin
  clear hin
  cases ht : trainB L
  · have HM := Lib.hid (show (0, false) = tusR L from by simp [tusR, ht])
    (go_enter Try.func39, Try.ntmps39)
    go_wp2_with fail
    refine (geTrain_is a c L ht _ X1.out hm).mono ?_
    (rintro e1 w1 ⟨rfl, hb1⟩; obtain ⟨hc1, hf1⟩ := bcell hb1; have hz1 := hb1.size; (try simp only [World.size_alloc, World.size_setCell, World.size_drew] at hz1); have q1 : w.heap.size ≤ w1.heap.size := (by omega); (try have q1_0 : w.heap.size < w1.heap.size := (by omega)); (try have q1_1 : w.heap.size + 1 < w1.heap.size := (by omega)); (try have q1_2 : w.heap.size + 2 < w1.heap.size := (by omega)); (try have q1_3 : w.heap.size + 3 < w1.heap.size := (by omega)))
    go_wp2
    go_ret2
    exact ⟨ret_iv HM.out, by (repeat' (first | (with_reducible exact Below.refl _ _) | (with_reducible assumption) | (with_reducible refine Below.alloc ?_ ?_ _) | (with_reducible refine Below.drew ?_) | (with_reducible refine below_drewN ?_ _) | (with_reducible refine Below.setCell ?_ ?_ _) | (with_reducible refine below_call ?_ ?_ (by assumption)) | go_size))⟩
  · have HM := Lib.hid (show (tusT L L.length, true) = tusR L from by simp [tusR, ht])
    have hTl := (trainB_bd ht).1
    (go_enter Try.func39, Try.ntmps39)
    go_wp2_with fail
    refine (geTrain_is a c L ht _ X1.out hm).mono ?_
    (rintro e1 w1 ⟨rfl, hb1⟩; obtain ⟨hc1, hf1⟩ := bcell hb1; have hz1 := hb1.size; (try simp only [World.size_alloc, World.size_setCell, World.size_drew] at hz1); have q1 : w.heap.size ≤ w1.heap.size := (by omega); (try have q1_0 : w.heap.size < w1.heap.size := (by omega)); (try have q1_1 : w.heap.size + 1 < w1.heap.size := (by omega)); (try have q1_2 : w.heap.size + 2 < w1.heap.size := (by omega)); (try have q1_3 : w.heap.size + 3 < w1.heap.size := (by omega)))
    go_wp2
    go_loopw [4, 13] (fun s i wr => ∃ k : Nat, k ≤ L.length ∧ i = .int .i64 k ∧ s = .int .i64 (tusT L k) ∧ Below w.heap.size w wr) (fun _ i _ => L.length - (intOf i).toNat)
    case atStart => exact ⟨0, Nat.zero_le _, rfl, rfl, by (repeat' (first | (with_reducible exact Below.refl _ _) | (with_reducible assumption) | (with_reducible refine Below.alloc ?_ ?_ _) | (with_reducible refine Below.drew ?_) | (with_reducible refine below_drewN ?_ _) | (with_reducible refine Below.setCell ?_ ?_ _) | (with_reducible refine below_call ?_ ?_ (by assumption)) | go_size))⟩
    case round =>
      obtain ⟨k, hk, rfl, rfl, hbel⟩ := hrel
      have hz := hbel.size
      have i0 : (0 : Int) ≤ (k : Int) := Int.natCast_nonneg _
      by_cases hlt : k < L.length
      · obtain ⟨t, d, g, et, ed, eg, ⟨t1, t2⟩, ⟨d1, d2⟩, g1, ⟨l1, l2⟩, hq, hn⟩ := tus_nums ht hlt
        obtain ⟨m, hmm⟩ : ∃ m, m = spN (numT (L.take (k + 1))) (denT (L.take (k + 1))) := ⟨_, rfl⟩
        rw [← et]
        have CR := fun w hi => geRatio_upto ht a c hlt w hi ed hmm
        have CR := Lib.hid CR
        have CG := fun w => diCommon_any t d (by omega) (by omega) w
        rw [← eg] at CG
        have CG := Lib.hid CG
        have HN := Lib.hid hn
        have i1 : (k : Int) < (L.length : Int) := by omega
        have i2 : (k : Int) + 1 ≤ (c : Int) := by omega
        have gne : ¬ g = 0 := by omega
        have E1 : IntKind.i64.wrap (d.tdiv g) = d / g := q64 (by omega) (by omega) g1
        have E2 : IntKind.i64.wrap (t.tdiv g) = t / g := q64 (by omega) (by omega) g1
        have E3 : IntKind.i64.wrap (t * (d / g)) = t / g * d := by rw [hq]; exact w64 ⟨by omega, by omega⟩
        have E4 : IntKind.i64.wrap (t / g * d) = t / g * d := w64 ⟨by omega, by omega⟩
        clear hq et ed eg hn hmm
        go_wp2_with fail
        refine (CR.out _ (X1.out.below hbel)).mono ?_
        rintro e2 w2 ⟨rfl, hb2⟩
        obtain ⟨hc2, hf2⟩ := bcell hb2
        have hz2 := hb2.size
        go_wp2_with fail
        refine (CG.out _).mono ?_
        rintro e4 w4 ⟨rfl, hb4⟩
        have hz4 := hb4.size
        go_wp2
        go_roundw
        case rel => exact ⟨k + 1, by omega, by go_num, ret_num HN.out.symm, by (repeat' (first | (with_reducible exact Below.refl _ _) | (with_reducible assumption) | (with_reducible refine Below.alloc ?_ ?_ _) | (with_reducible refine Below.drew ?_) | (with_reducible refine below_drewN ?_ _) | (with_reducible refine Below.setCell ?_ ?_ _) | (with_reducible refine below_call ?_ ?_ (by assumption)) | go_size))⟩
        case measure => simp [intOf]; omega
      · obtain rfl : k = L.length := by omega
        go_wp2
        go_ret2
        exact ⟨ret_iv HM.out, hbel⟩
end Go.Proofs.Ytaifcemdabcfjaa
