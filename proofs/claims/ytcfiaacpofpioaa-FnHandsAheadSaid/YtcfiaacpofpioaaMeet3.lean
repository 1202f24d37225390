/- All times at which a hand stands at a place: by the program and by the model. -/
import Derived.Test.YtcfiaacpofpioaaParts
import Derived.Test.YtcfiaacpofpioaaMeet2
set_option linter.unusedSimpArgs false
set_option linter.unusedVariables false
set_option maxRecDepth 100000
namespace Go.Proofs.Ytcfiaacpofpioaa
open Go.RowKit

/-- A turn taken away and turned round is the other one taken away. -/
theorem mirror_eq (m D : Int) (hD : 1 ≤ D) : lowNum (-(lowNum m D)) (lowDen m D) = lowNum (-m) D ∧ lowDen (-(lowNum m D)) (lowDen m D) = lowDen (-m) D := by
  have hg := gcd_pos_of (m % D) D hD
  have hb := low_bd m D hD
  have hc := gc_low m D hD
  obtain ⟨e1, e2⟩ := mirror_low (lowNum m D) (lowDen m D) hb.2.1 hc
  rw [e1, e2]
  have g1 : gc (-m % D) D = gc m D := gc_neg_mod m D hD
  have g2 : gc (m % D) D = gc m D := by
    unfold gc
    rw [Int.gcd_comm, Int.gcd_comm m D, Int.emod_def, Int.mul_comm, Int.gcd_sub_mul_right_right]
  have hq : gc (m % D) D * (D / gc (m % D) D) = D := gc_mul (m % D) D
  have hp : gc (m % D) D * ((m % D) / gc (m % D) D) = m % D := Int.mul_ediv_cancel' (by unfold gc; exact Int.gcd_dvd_left ..)
  constructor
  · unfold lowNum lowDen
    rw [g1, ← g2]
    generalize gc (m % D) D = g at *
    have h1 : -m % D = (-(m % D)) % D := by
      rw [Int.emod_eq_emod_iff_emod_sub_eq_zero]
      have h2 : -m - -(m % D) = D * (-(m / D)) := by
        have := Int.mul_ediv_add_emod m D
        rw [Int.mul_neg]; omega
      rw [h2]
      exact Int.mul_emod_right ..
    rw [h1]
    generalize hp' : (m % D) / g = p at *
    generalize hq' : D / g = q at *
    have : (-(m % D)) % D = g * (-p % q) := by
      rw [← Int.mul_emod_mul_of_pos _ _ (show 0 < g by omega), hq, Int.mul_neg, hp]
    rw [this, Int.mul_ediv_cancel_left _ (show g ≠ 0 by omega)]
  · unfold lowDen
    rw [g1, ← g2]
/-- A way whose Den is too great leads to no turn. -/
theorem parts_big {h n d : Int} (hh : 1 ≤ h) (hd : 1 ≤ d) (hn : 0 ≤ n) (hn' : n ≤ d - 1) (hg : gc n d = 1) (hbig : ¬ d ≤ 1000000) : partsOk h n d = false := by
  refine parts_bad (k := 0) (by omega) ?_
  unfold twl
  simp only [Int.natCast_zero, Int.zero_mul, Int.add_zero]
  unfold lowDen
  have h1 : 1 ≤ d * h := Int.mul_pos (by omega) (by omega)
  have hle : d ≤ d * h := by
    have := Int.mul_le_mul_of_nonneg_left hh (show 0 ≤ d by omega)
    omega
  rw [Int.emod_eq_of_lt hn (by omega)]
  have hgg : gc n (d * h) ≤ h := by
    have hcop : Nat.gcd n.natAbs d.natAbs = 1 := by
      unfold gc at hg
      show Int.gcd n d = 1
      omega
    have hdv : Nat.gcd n.natAbs (d * h).natAbs ∣ h.natAbs := by
      rw [Int.natAbs_mul]
      have c : Nat.Coprime (Nat.gcd n.natAbs (d.natAbs * h.natAbs)) d.natAbs := by
        have b1 : Nat.gcd (Nat.gcd n.natAbs (d.natAbs * h.natAbs)) d.natAbs ∣ Nat.gcd n.natAbs d.natAbs := Nat.dvd_gcd (Nat.dvd_trans (Nat.gcd_dvd_left ..) (Nat.gcd_dvd_left ..)) (Nat.gcd_dvd_right ..)
        rw [hcop] at b1
        exact Nat.dvd_one.1 b1
      exact c.dvd_of_dvd_mul_left (Nat.gcd_dvd_right ..)
    have hle2 := Nat.le_of_dvd (by omega) hdv
    show ((Nat.gcd n.natAbs (d * h).natAbs : Nat) : Int) ≤ h
    omega
  have hg1 := gcd_pos_of n (d * h) h1
  have : d ≤ d * h / gc n (d * h) := by
    refine (Int.le_ediv_iff_mul_le (by omega)).2 ?_
    exact Int.mul_le_mul_of_nonneg_left hgg (by omega)
  omega

/-- All times at which a hand, whose start may have a greater Den, stands at a place: none for the speed 0. -/
def timesR (rn rd rs pn pd : Int) : List (Int × Int) × Bool :=
  if 0 < rs then (partsL rs (lowNum (pn * rd - rn * pd) (pd * rd)) (lowDen (pn * rd - rn * pd) (pd * rd)), partsOk rs (lowNum (pn * rd - rn * pd) (pd * rd)) (lowDen (pn * rd - rn * pd) (pd * rd)))
  else if rs < 0 then (partsL (-rs) (lowNum (rn * pd - pn * rd) (rd * pd)) (lowDen (rn * pd - pn * rd) (rd * pd)), partsOk (-rs) (lowNum (rn * pd - pn * rd) (rd * pd)) (lowDen (rn * pd - pn * rd) (rd * pd)))
  else ([], false)
theorem timesR_pos {rn rd rs pn pd : Int} (h : 0 < rs) : timesR rn rd rs pn pd = (partsL rs (lowNum (pn * rd - rn * pd) (pd * rd)) (lowDen (pn * rd - rn * pd) (pd * rd)), partsOk rs (lowNum (pn * rd - rn * pd) (pd * rd)) (lowDen (pn * rd - rn * pd) (pd * rd))) := if_pos h
theorem timesR_neg {rn rd rs pn pd : Int} (h : rs < 0) : timesR rn rd rs pn pd = (partsL (-rs) (lowNum (rn * pd - pn * rd) (rd * pd)) (lowDen (rn * pd - pn * rd) (rd * pd)), partsOk (-rs) (lowNum (rn * pd - pn * rd) (rd * pd)) (lowDen (rn * pd - pn * rd) (rd * pd))) := by
  unfold timesR; rw [if_neg (by omega), if_pos h]
theorem timesR_zero {rn rd rs pn pd : Int} (h : rs = 0) : timesR rn rd rs pn pd = ([], false) := by
  unfold timesR; rw [if_neg (by omega), if_neg (by omega)]
theorem timesR_len (rn rd rs pn pd : Int) (h : -1000 ≤ rs ∧ rs ≤ 1000) : (timesR rn rd rs pn pd).1.length ≤ 1000000 := by
  unfold timesR
  split
  · exact partsL_len _ _ _ (by omega)
  · split
    · exact partsL_len _ _ _ (by omega)
    · simp
theorem way_bd {rn rd pn pd : Int} (h1 : 1 ≤ rd ∧ rd ≤ 1000000) (h3 : 1 ≤ pd ∧ pd ≤ 1000) :
    1 ≤ pd * rd ∧ pd * rd ≤ 1000000000 ∧ (1 ≤ lowDen (pn * rd - rn * pd) (pd * rd) ∧ lowDen (pn * rd - rn * pd) (pd * rd) ≤ 1000000000) ∧ (0 ≤ lowNum (pn * rd - rn * pd) (pd * rd) ∧ lowNum (pn * rd - rn * pd) (pd * rd) ≤ lowDen (pn * rd - rn * pd) (pd * rd) - 1) := by
  obtain ⟨p5, p6⟩ := mulb (show 0 ≤ pd by omega) h3.2 (show 0 ≤ rd by omega) h1.2
  have p7 : 1 ≤ pd * rd := Int.mul_pos (by omega) (by omega)
  have h := low_bd (pn * rd - rn * pd) (pd * rd) p7
  have l := low_lt (pn * rd - rn * pd) (pd * rd) p7
  omega

set_option maxHeartbeats 1600000 in
theorem timesAt_any (rn rd rs pn pd : Int) (h1 : 1 ≤ rd ∧ rd ≤ 1000000) (h2 : 0 ≤ rn ∧ rn ≤ 999999) (hs : -800 ≤ rs ∧ rs ≤ 800) (h3 : 1 ≤ pd ∧ pd ≤ 1000) (h4 : 0 ≤ pn ∧ pn ≤ 999) (w : World) :
    Calls Try.prog 66 #[hv rn rd rs, tv pn pd] w (TurnsOut w (timesR rn rd rs pn pd).1 (timesR rn rd rs pn pd).2) := by
  rcases Int.lt_trichotomy rs 0 with h0 | h0 | h0
  · have hw : (1 ≤ lowDen (rn * pd - pn * rd) (rd * pd) ∧ lowDen (rn * pd - pn * rd) (rd * pd) ≤ 1000000000) ∧ (0 ≤ lowNum (rn * pd - pn * rd) (rd * pd) ∧ lowNum (rn * pd - pn * rd) (rd * pd) ≤ 999999999) := by
      obtain ⟨p5, p6⟩ := mulb (show 0 ≤ rd by omega) h1.2 (show 0 ≤ pd by omega) h3.2
      have p7 : 1 ≤ rd * pd := Int.mul_pos (by omega) (by omega)
      have h := low_bd (rn * pd - pn * rd) (rd * pd) p7
      have l := low_lt (rn * pd - pn * rd) (rd * pd) p7
      omega
    rw [timesR_neg h0]
    obtain ⟨⟨b1, b2⟩, b3, b4⟩ := hw
    (go_enter Try.func66, Try.ntmps66)
    go_wp2_with fail
    refine wp_region_made 7 (f := 87) (args := #[tv (lowNum (rn * pd - pn * rd) (rd * pd)) (lowDen (rn * pd - pn * rd) (rd * pd)), .int .i64 (-rs)]) (fun v => .tuple #[v, .bool (partsOk (-rs) (lowNum (rn * pd - pn * rd) (rd * pd)) (lowDen (rn * pd - pn * rd) (rd * pd)))]) (fun v wv => TRow wv (w.heap.size) v (partsL (-rs) (lowNum (rn * pd - pn * rd) (rd * pd)) (lowDen (rn * pd - pn * rd) (rd * pd)))) (fun v w1 w2 h hb => TRow.below h hb) (by kernel_rfl) (by kernel_rfl) rfl rfl rfl ?_
    simp only [List.take_succ_cons, List.take_zero, List.drop_succ_cons, List.drop_zero]
    repeat (first | (apply wpB_take (hw := rfl); (intro wq hq; obtain ⟨hcq, hfq⟩ := bcell hq; unfold atB; go_simp; exact ⟨rfl, rfl⟩); simp only [Act.put, List.setIfInBounds_toArray, List.set_cons_zero, List.set_cons_succ]) | (apply wpB_take (hw := rfl); (intro wq hq; unfold atB; go_simp; exact ⟨rfl, difference_any rn rd pn pd ⟨by omega, by omega⟩ ⟨by omega, by omega⟩ ⟨by omega, by omega⟩ ⟨by omega, by omega⟩ _⟩); simp only [Act.put, List.setIfInBounds_toArray, List.set_cons_zero, List.set_cons_succ]))
    refine ⟨fun wq hq => ?_, fun wq hq => ?_, fun v1 => ?_⟩
    · obtain ⟨hcq, hfq⟩ := bcell hq; go_simp; try (rw [IntKind.wrap_i64]; omega)
    · exact (allParts_any (-rs) (lowNum (rn * pd - pn * rd) (rd * pd)) (lowDen (rn * pd - pn * rd) (rd * pd)) (by omega) (by omega) b1 b2 b3 (by omega) wq).mono fun e w2 h => by obtain ⟨v, he, hr, hb⟩ := h; exact ⟨v, he, TRow.mono hr (by have hqz := hq.size; (try simp only [World.size_alloc, World.size_setCell, World.size_drew] at hqz); omega), hb⟩
    simp only [Act.put, List.setIfInBounds_toArray, List.set_cons_zero, List.set_cons_succ]
    repeat (apply wpB_take (hw := rfl); (intro wq hq; obtain ⟨hcq, hfq⟩ := bcell hq; unfold atB; go_simp; exact ⟨rfl, rfl⟩); simp only [Act.put, List.setIfInBounds_toArray, List.set_cons_zero, List.set_cons_succ])
    refine fun w1 hb1 hr1 => ?_
    try simp only [Act.put, List.setIfInBounds_toArray, List.set_cons_zero, List.set_cons_succ]
    have HR1 := Lib.hid hr1
    clear hr1
    (obtain ⟨hc1, hf1⟩ := bcell hb1; have hz1 := hb1.size; (try simp only [World.size_alloc, World.size_setCell, World.size_drew] at hz1); have q1 : w.heap.size ≤ w1.heap.size := (by omega); (try have q1_0 : w.heap.size < w1.heap.size := (by omega)); (try have q1_1 : w.heap.size + 1 < w1.heap.size := (by omega)); (try have q1_2 : w.heap.size + 2 < w1.heap.size := (by omega)); (try have q1_3 : w.heap.size + 3 < w1.heap.size := (by omega)); try simp only [Act.put, List.setIfInBounds_toArray, List.set_cons_zero, List.set_cons_succ])
    go_wp2
    go_ret2
    exact ⟨_, rfl, TRow.mono HR1.out (by first | omega | (go_size; done) | (simp only [World.size_alloc, World.size_setCell, World.size_drew]; omega)), by (repeat' (first | (with_reducible exact Below.refl _ _) | (with_reducible assumption) | (with_reducible refine Below.alloc ?_ ?_ _) | (with_reducible refine Below.drew ?_) | (with_reducible refine below_drewN ?_ _) | (with_reducible refine Below.setCell ?_ ?_ _) | (with_reducible refine below_call ?_ ?_ (by assumption)) | go_size))⟩

  · rw [timesR_zero h0]
    subst h0
    (go_enter Try.func66, Try.ntmps66)
    go_wp2
    go_ret2
    exact TurnsOut.none (by (repeat' (first | (with_reducible exact Below.refl _ _) | (with_reducible assumption) | (with_reducible refine Below.alloc ?_ ?_ _) | (with_reducible refine Below.drew ?_) | (with_reducible refine below_drewN ?_ _) | (with_reducible refine Below.setCell ?_ ?_ _) | (with_reducible refine below_call ?_ ?_ (by assumption)) | go_size)))
  · have hw := way_bd (rn := rn) (pn := pn) h1 h3
    rw [timesR_pos h0]
    obtain ⟨-, -, ⟨b1, b2⟩, b3, b4⟩ := hw
    (go_enter Try.func66, Try.ntmps66)
    go_wp2_with fail
    refine wp_region_made 6 (f := 87) (args := #[tv (lowNum (pn * rd - rn * pd) (pd * rd)) (lowDen (pn * rd - rn * pd) (pd * rd)), .int .i64 rs]) (fun v => .tuple #[v, .bool (partsOk rs (lowNum (pn * rd - rn * pd) (pd * rd)) (lowDen (pn * rd - rn * pd) (pd * rd)))]) (fun v wv => TRow wv (w.heap.size) v (partsL rs (lowNum (pn * rd - rn * pd) (pd * rd)) (lowDen (pn * rd - rn * pd) (pd * rd)))) (fun v w1 w2 h hb => TRow.below h hb) (by kernel_rfl) (by kernel_rfl) rfl rfl rfl ?_
    simp only [List.take_succ_cons, List.take_zero, List.drop_succ_cons, List.drop_zero]
    repeat (first | (apply wpB_take (hw := rfl); (intro wq hq; obtain ⟨hcq, hfq⟩ := bcell hq; unfold atB; go_simp; exact ⟨rfl, rfl⟩); simp only [Act.put, List.setIfInBounds_toArray, List.set_cons_zero, List.set_cons_succ]) | (apply wpB_take (hw := rfl); (intro wq hq; unfold atB; go_simp; exact ⟨rfl, difference_any pn pd rn rd ⟨by omega, by omega⟩ ⟨by omega, by omega⟩ ⟨by omega, by omega⟩ ⟨by omega, by omega⟩ _⟩); simp only [Act.put, List.setIfInBounds_toArray, List.set_cons_zero, List.set_cons_succ]))
    refine ⟨fun wq hq => ?_, fun wq hq => ?_, fun v1 => ?_⟩
    · obtain ⟨hcq, hfq⟩ := bcell hq; go_simp; try (rw [IntKind.wrap_i64]; omega)
    · exact (allParts_any rs (lowNum (pn * rd - rn * pd) (pd * rd)) (lowDen (pn * rd - rn * pd) (pd * rd)) (by omega) (by omega) b1 b2 b3 (by omega) wq).mono fun e w2 h => by obtain ⟨v, he, hr, hb⟩ := h; exact ⟨v, he, TRow.mono hr (by have hqz := hq.size; (try simp only [World.size_alloc, World.size_setCell, World.size_drew] at hqz); omega), hb⟩
    simp only [Act.put, List.setIfInBounds_toArray, List.set_cons_zero, List.set_cons_succ]
    repeat (apply wpB_take (hw := rfl); (intro wq hq; obtain ⟨hcq, hfq⟩ := bcell hq; unfold atB; go_simp; exact ⟨rfl, rfl⟩); simp only [Act.put, List.setIfInBounds_toArray, List.set_cons_zero, List.set_cons_succ])
    refine fun w1 hb1 hr1 => ?_
    try simp only [Act.put, List.setIfInBounds_toArray, List.set_cons_zero, List.set_cons_succ]
    have HR1 := Lib.hid hr1
    clear hr1
    (obtain ⟨hc1, hf1⟩ := bcell hb1; have hz1 := hb1.size; (try simp only [World.size_alloc, World.size_setCell, World.size_drew] at hz1); have q1 : w.heap.size ≤ w1.heap.size := (by omega); (try have q1_0 : w.heap.size < w1.heap.size := (by omega)); (try have q1_1 : w.heap.size + 1 < w1.heap.size := (by omega)); (try have q1_2 : w.heap.size + 2 < w1.heap.size := (by omega)); (try have q1_3 : w.heap.size + 3 < w1.heap.size := (by omega)); try simp only [Act.put, List.setIfInBounds_toArray, List.set_cons_zero, List.set_cons_succ])
    go_wp2
    go_ret2
    exact ⟨_, rfl, TRow.mono HR1.out (by first | omega | (go_size; done) | (simp only [World.size_alloc, World.size_setCell, World.size_drew]; omega)), by (repeat' (first | (with_reducible exact Below.refl _ _) | (with_reducible assumption) | (with_reducible refine Below.alloc ?_ ?_ _) | (with_reducible refine Below.drew ?_) | (with_reducible refine below_drewN ?_ _) | (with_reducible refine Below.setCell ?_ ?_ _) | (with_reducible refine below_call ?_ ?_ (by assumption)) | go_size))⟩


end Go.Proofs.Ytcfiaacpofpioaa
