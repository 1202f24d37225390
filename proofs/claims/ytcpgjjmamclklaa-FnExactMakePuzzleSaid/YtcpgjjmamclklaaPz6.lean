/- Puzzles: whether minutes fit a clue: by the program and by the model. -/
import Derived.Test.YtcpgjjmamclklaaPz5
set_option linter.unusedSimpArgs false
set_option linter.unusedVariables false
set_option maxRecDepth 100000
namespace Go.Proofs.Ytcpgjjmamclklaa
open Go.RowKit
attribute [local go_sem ↓] run_eql_parts

set_option maxHeartbeats 1600000 in
theorem fit_any (h m k a b : Int) (hh : 2 ≤ h ∧ h ≤ 24) (hm : 0 ≤ m ∧ m < 60 * h) (hd : k = 1 → 2 ≤ a ∧ a ≤ 60) (w : World) :
    Calls Try.prog 73 #[kv k a b, .int .i64 h, .int .i64 m] w fun e w' => e = .returned (.bool (fitB h m (k, a, b))) ∧ Below w.heap.size w w' := by
  have HC := Lib.hid (fun W => clueOfMinute_any h m k a hh hm hd W)
  have HE : Hid (fitB h m (k, a, b) = decide ((k, a, b) = ofM h m k a)) := Lib.hid rfl
  generalize fitB h m (k, a, b) = s at *
  (go_enter Try.func73, Try.ntmps73)
  go_wp2_with fail
  refine wp_region_below (by kernel_rfl) (by kernel_rfl) ?_
  repeat (first | (apply wpB_take (hw := rfl); (intro wq hq; obtain ⟨hcq, hfq⟩ := bcell hq; unfold atB; go_simp; exact ⟨rfl, rfl⟩); simp only [Act.put, List.setIfInBounds_toArray, List.set_cons_zero, List.set_cons_succ]) | (apply wpB_take (hw := rfl); (intro wq hq; unfold atB; go_simp; exact ⟨rfl, HC.out _⟩); simp only [Act.put, List.setIfInBounds_toArray, List.set_cons_zero, List.set_cons_succ]))
  refine fun w1 hb1 => ?_
  (obtain ⟨hc1, hf1⟩ := bcell hb1; have hz1 := hb1.size; (try simp only [World.size_alloc, World.size_setCell, World.size_drew] at hz1); have q1 : w.heap.size ≤ w1.heap.size := (by omega); (try have q1_0 : w.heap.size < w1.heap.size := (by omega)); (try have q1_1 : w.heap.size + 1 < w1.heap.size := (by omega)); (try have q1_2 : w.heap.size + 2 < w1.heap.size := (by omega)); (try have q1_3 : w.heap.size + 3 < w1.heap.size := (by omega)); try simp only [Act.put, List.setIfInBounds_toArray, List.set_cons_zero, List.set_cons_succ])
  go_wp2
  go_ret
  exact ⟨zret_bool (by rw [HE.out, Bool.eq_iff_iff]; simp [Prod.ext_iff]), by (repeat' (first | (with_reducible exact Below.refl _ _) | (with_reducible assumption) | (with_reducible refine Below.alloc ?_ ?_ _) | (with_reducible refine Below.drew ?_) | (with_reducible refine below_drewN ?_ _) | (with_reducible refine Below.setCell ?_ ?_ _) | (with_reducible refine below_call ?_ ?_ (by assumption)) | go_size))⟩
theorem fit_iff {h m k a b x : Int} (c1 : k ≠ 1) (hb : b = 0) (hx : aOf h m k = x) : (fitB h m (k, a, b) = true ↔ x = a) := by
  subst hx hb
  unfold fitB ofM
  simp only [c1, if_false, decide_eq_true_eq, Prod.mk.injEq, true_and, and_true]
  exact ⟨fun h => h.symm, fun h => h.symm⟩
theorem okC_zero {h k a b : Int} (c1 : k ≠ 1) (hok : okC h (k, a, b) = true) : b = 0 := by
  unfold okC at hok
  simp only [c1, if_false, Bool.and_eq_true, decide_eq_true_eq] at hok
  exact hok.1
theorem okC_one {h a b : Int} (hok : okC h (1, a, b) = true) : (2 ≤ a ∧ a ≤ 60) ∧ 0 ≤ b ∧ b < a := by
  unfold okC at hok
  simp only [if_true, Bool.and_eq_true] at hok
  have h1 := inB_bd hok.1
  have h2 := inB_bd hok.2
  omega
theorem okC_three {h a b : Int} (hok : okC h (3, a, b) = true) : a = 0 ∨ a = 1 := by
  unfold okC at hok
  simp at hok
  have := inB_bd hok.2
  omega
theorem okC_kind {h k a b : Int} (hok : okC h (k, a, b) = true) : k = 0 ∨ k = 1 ∨ k = 2 ∨ k = 3 ∨ k = 4 ∨ k = 5 := by
  unfold okC at hok
  by_cases c0 : k = 0
  · omega
  by_cases c1 : k = 1
  · omega
  by_cases c2 : k = 2
  · omega
  by_cases c3 : k = 3
  · omega
  by_cases c4 : k = 4
  · omega
  by_cases c5 : k = 5
  · omega
  simp [c0, c1, c2, c3, c4, c5] at hok
set_option maxHeartbeats 800000 in
theorem pzFits0 (h m a b : Int) (hh : 2 ≤ h ∧ h ≤ 24) (hm : 0 ≤ m ∧ m < 60 * h) (hok : okC h (0, a, b) = true) (w : World) :
    Calls Try.prog 71 #[.int .i64 h, kv 0 a b, .int .i64 m] w fun e w' => e = .returned (.bool (fitB h m (0, a, b))) ∧ Below w.heap.size w w' := by
  obtain ⟨⟨b1, b2⟩, b3, b4⟩ := hm_bd hh hm
  have f1 := zq64 (n := m) (g := 60) hm.1 (by omega) (by omega)
  have f2 : m.tmod 60 = m % 60 := Int.tmod_eq_emod_of_nonneg hm.1
  have f3 := zw64 (n := m % 60) (by omega)
  have hb0 := okC_zero (by decide) hok
  have HE := Lib.hid (fit_iff (h := h) (m := m) (a := a) (b := b) (k := 0) (by decide) hb0 (show aOf h m 0 = m / 60 from by simp [aOf]))
  generalize fitB h m (0, a, b) = s at *

  (go_enter Try.func71, Try.ntmps71)
  go_wp2
  go_ret
  exact ⟨zret_bool (by rw [Bool.eq_iff_iff, HE.out]; first | (simp; done) | (by_cases h1 : t < 30 * h <;> by_cases h2 : a = 1 <;> simp [h1, h2])), by (repeat' (first | (with_reducible exact Below.refl _ _) | (with_reducible assumption) | (with_reducible refine Below.alloc ?_ ?_ _) | (with_reducible refine Below.drew ?_) | (with_reducible refine below_drewN ?_ _) | (with_reducible refine Below.setCell ?_ ?_ _) | (with_reducible refine below_call ?_ ?_ (by assumption)) | go_size))⟩

set_option maxHeartbeats 800000 in
theorem pzFits1 (h m a b : Int) (hh : 2 ≤ h ∧ h ≤ 24) (hm : 0 ≤ m ∧ m < 60 * h) (hok : okC h (1, a, b) = true) (w : World) :
    Calls Try.prog 71 #[.int .i64 h, kv 1 a b, .int .i64 m] w fun e w' => e = .returned (.bool (fitB h m (1, a, b))) ∧ Below w.heap.size w w' := by
  obtain ⟨⟨b1, b2⟩, b3, b4⟩ := hm_bd hh hm
  have f1 := zq64 (n := m) (g := 60) hm.1 (by omega) (by omega)
  have f2 : m.tmod 60 = m % 60 := Int.tmod_eq_emod_of_nonneg hm.1
  have f3 := zw64 (n := m % 60) (by omega)
  have ha := okC_one hok
  have HE : Hid (fitB h m (1, a, b) = true ↔ m % 60 % a = b) := Lib.hid (by unfold fitB ofM; simp; exact ⟨fun h => h.symm, fun h => h.symm⟩)
  generalize fitB h m (1, a, b) = s at *
  have f4 := zt64 (n := m % 60) (g := a) b3 (by omega) (by omega)
  have f5 : (m % 60).tmod a = m % 60 % a := Int.tmod_eq_emod_of_nonneg b3
  have z1 : ¬ (a = 0) := by omega
  (go_enter Try.func71, Try.ntmps71)
  go_wp2_with fail
  refine wp_region_below (by kernel_rfl) (by kernel_rfl) ?_
  repeat (first | (apply wpB_take (hw := rfl); (intro wq hq; obtain ⟨hcq, hfq⟩ := bcell hq; unfold atB; go_simp; exact ⟨rfl, rfl⟩); simp only [Act.put, List.setIfInBounds_toArray, List.set_cons_zero, List.set_cons_succ]))
  refine fun w1 hb1 => ?_
  (obtain ⟨hc1, hf1⟩ := bcell hb1; have hz1 := hb1.size; (try simp only [World.size_alloc, World.size_setCell, World.size_drew] at hz1); have q1 : w.heap.size ≤ w1.heap.size := (by omega); (try have q1_0 : w.heap.size < w1.heap.size := (by omega)); (try have q1_1 : w.heap.size + 1 < w1.heap.size := (by omega)); (try have q1_2 : w.heap.size + 2 < w1.heap.size := (by omega)); (try have q1_3 : w.heap.size + 3 < w1.heap.size := (by omega)); try simp only [Act.put, List.setIfInBounds_toArray, List.set_cons_zero, List.set_cons_succ])
  go_wp2
  go_ret
  exact ⟨zret_bool (by rw [Bool.eq_iff_iff, HE.out]; first | (simp; done) | (by_cases h1 : t < 30 * h <;> by_cases h2 : a = 1 <;> simp [h1, h2])), by (repeat' (first | (with_reducible exact Below.refl _ _) | (with_reducible assumption) | (with_reducible refine Below.alloc ?_ ?_ _) | (with_reducible refine Below.drew ?_) | (with_reducible refine below_drewN ?_ _) | (with_reducible refine Below.setCell ?_ ?_ _) | (with_reducible refine below_call ?_ ?_ (by assumption)) | go_size))⟩

set_option maxHeartbeats 800000 in
theorem pzFits2 (h m a b : Int) (hh : 2 ≤ h ∧ h ≤ 24) (hm : 0 ≤ m ∧ m < 60 * h) (hok : okC h (2, a, b) = true) (w : World) :
    Calls Try.prog 71 #[.int .i64 h, kv 2 a b, .int .i64 m] w fun e w' => e = .returned (.bool (fitB h m (2, a, b))) ∧ Below w.heap.size w w' := by
  obtain ⟨⟨b1, b2⟩, b3, b4⟩ := hm_bd hh hm
  have f1 := zq64 (n := m) (g := 60) hm.1 (by omega) (by omega)
  have f2 : m.tmod 60 = m % 60 := Int.tmod_eq_emod_of_nonneg hm.1
  have f3 := zw64 (n := m % 60) (by omega)
  have hb0 := okC_zero (by decide) hok
  have HE := Lib.hid (fit_iff (h := h) (m := m) (a := a) (b := b) (k := 2) (by decide) hb0 (show aOf h m 2 = dsum (m / 60) + dsum (m % 60) from by simp [aOf]))
  generalize fitB h m (2, a, b) = s at *
  have HE2 : Hid (s = true ↔ m / 60 / 10 + m / 60 % 10 + m % 60 / 10 + m % 60 % 10 = a) := Lib.hid (by rw [HE.out]; unfold dsum; omega)
  have HE := HE2
  have g1 := zq64 (n := m / 60) (g := 10) (by omega) (by omega) (by omega)
  have g2 : (m / 60).tmod 10 = m / 60 % 10 := Int.tmod_eq_emod_of_nonneg b1
  have g3 := zw64 (n := m / 60 % 10) (by omega)
  have g4 := zw64 (n := m / 60 / 10 + m / 60 % 10) (by omega)
  have g5 := zq64 (n := m % 60) (g := 10) (by omega) (by omega) (by omega)
  have g6 := zw64 (n := m / 60 / 10 + m / 60 % 10 + m % 60 / 10) (by omega)
  have g7 : (m % 60).tmod 10 = m % 60 % 10 := Int.tmod_eq_emod_of_nonneg b3
  have g8 := zw64 (n := m % 60 % 10) (by omega)
  have g9 := zw64 (n := m / 60 / 10 + m / 60 % 10 + m % 60 / 10 + m % 60 % 10) (by omega)
  (go_enter Try.func71, Try.ntmps71)
  go_wp2
  go_ret
  exact ⟨zret_bool (by rw [Bool.eq_iff_iff, HE.out]; first | (simp; done) | (by_cases h1 : t < 30 * h <;> by_cases h2 : a = 1 <;> simp [h1, h2])), by (repeat' (first | (with_reducible exact Below.refl _ _) | (with_reducible assumption) | (with_reducible refine Below.alloc ?_ ?_ _) | (with_reducible refine Below.drew ?_) | (with_reducible refine below_drewN ?_ _) | (with_reducible refine Below.setCell ?_ ?_ _) | (with_reducible refine below_call ?_ ?_ (by assumption)) | go_size))⟩

set_option maxHeartbeats 800000 in
theorem pzFits3 (h m a b : Int) (hh : 2 ≤ h ∧ h ≤ 24) (hm : 0 ≤ m ∧ m < 60 * h) (hok : okC h (3, a, b) = true) (w : World) :
    Calls Try.prog 71 #[.int .i64 h, kv 3 a b, .int .i64 m] w fun e w' => e = .returned (.bool (fitB h m (3, a, b))) ∧ Below w.heap.size w w' := by
  obtain ⟨⟨b1, b2⟩, b3, b4⟩ := hm_bd hh hm
  have f1 := zq64 (n := m) (g := 60) hm.1 (by omega) (by omega)
  have f2 : m.tmod 60 = m % 60 := Int.tmod_eq_emod_of_nonneg hm.1
  have f3 := zw64 (n := m % 60) (by omega)
  have ha := okC_three hok
  have hb0 := okC_zero (by decide) hok
  have HE : Hid (fitB h m (3, a, b) = true ↔ ((h - 1) * m % (60 * h) < 30 * h ↔ a = 1)) := Lib.hid (by
    rw [fit_iff (h := h) (m := m) (a := a) (b := b) (k := 3) (by decide) hb0 (show aOf h m 3 = ahd h m from by simp [aOf])]
    unfold ahd
    split <;> omega)
  generalize fitB h m (3, a, b) = s at *
  have HC := Lib.hid (fun W => pzAhead_any h m hh hm W)
  generalize (h - 1) * m % (60 * h) = t at *
  have f5 := zw64 (n := 30 * h) (by omega)
  (go_enter Try.func71, Try.ntmps71)
  go_wp2_with fail
  refine wp_region_below (by kernel_rfl) (by kernel_rfl) ?_
  repeat (first | (apply wpB_take (hw := rfl); (intro wq hq; obtain ⟨hcq, hfq⟩ := bcell hq; unfold atB; go_simp; exact ⟨rfl, rfl⟩); simp only [Act.put, List.setIfInBounds_toArray, List.set_cons_zero, List.set_cons_succ]) | (apply wpB_take (hw := rfl); (intro wq hq; unfold atB; go_simp; exact ⟨rfl, (HC.out _).mono fun e w' x => ⟨x.1, x.2 ▸ Below.refl _ _⟩⟩); simp only [Act.put, List.setIfInBounds_toArray, List.set_cons_zero, List.set_cons_succ]))
  refine fun w1 hb1 => ?_
  (obtain ⟨hc1, hf1⟩ := bcell hb1; have hz1 := hb1.size; (try simp only [World.size_alloc, World.size_setCell, World.size_drew] at hz1); have q1 : w.heap.size ≤ w1.heap.size := (by omega); (try have q1_0 : w.heap.size < w1.heap.size := (by omega)); (try have q1_1 : w.heap.size + 1 < w1.heap.size := (by omega)); (try have q1_2 : w.heap.size + 2 < w1.heap.size := (by omega)); (try have q1_3 : w.heap.size + 3 < w1.heap.size := (by omega)); try simp only [Act.put, List.setIfInBounds_toArray, List.set_cons_zero, List.set_cons_succ])
  go_wp2
  go_ret
  exact ⟨zret_bool (by rw [Bool.eq_iff_iff, HE.out]; first | (simp; done) | (by_cases h1 : t < 30 * h <;> by_cases h2 : a = 1 <;> simp [h1, h2])), by (repeat' (first | (with_reducible exact Below.refl _ _) | (with_reducible assumption) | (with_reducible refine Below.alloc ?_ ?_ _) | (with_reducible refine Below.drew ?_) | (with_reducible refine below_drewN ?_ _) | (with_reducible refine Below.setCell ?_ ?_ _) | (with_reducible refine below_call ?_ ?_ (by assumption)) | go_size))⟩

set_option maxHeartbeats 800000 in
theorem pzFits4 (h m a b : Int) (hh : 2 ≤ h ∧ h ≤ 24) (hm : 0 ≤ m ∧ m < 60 * h) (hok : okC h (4, a, b) = true) (w : World) :
    Calls Try.prog 71 #[.int .i64 h, kv 4 a b, .int .i64 m] w fun e w' => e = .returned (.bool (fitB h m (4, a, b))) ∧ Below w.heap.size w w' := by
  obtain ⟨⟨b1, b2⟩, b3, b4⟩ := hm_bd hh hm
  have f1 := zq64 (n := m) (g := 60) hm.1 (by omega) (by omega)
  have f2 : m.tmod 60 = m % 60 := Int.tmod_eq_emod_of_nonneg hm.1
  have f3 := zw64 (n := m % 60) (by omega)
  have hb0 := okC_zero (by decide) hok
  have HE := Lib.hid (fit_iff (h := h) (m := m) (a := a) (b := b) (k := 4) (by decide) hb0 (show aOf h m 4 = nxt h m from by simp [aOf]))
  generalize fitB h m (4, a, b) = s at *
  have HC := Lib.hid (fun W => pzNext_any h m hh hm W)
  generalize nxt h m = t at *
  (go_enter Try.func71, Try.ntmps71)
  go_wp2_with fail
  refine wp_region_below (by kernel_rfl) (by kernel_rfl) ?_
  repeat (first | (apply wpB_take (hw := rfl); (intro wq hq; obtain ⟨hcq, hfq⟩ := bcell hq; unfold atB; go_simp; exact ⟨rfl, rfl⟩); simp only [Act.put, List.setIfInBounds_toArray, List.set_cons_zero, List.set_cons_succ]) | (apply wpB_take (hw := rfl); (intro wq hq; unfold atB; go_simp; exact ⟨rfl, (HC.out _).mono fun e w' x => ⟨x.1, x.2 ▸ Below.refl _ _⟩⟩); simp only [Act.put, List.setIfInBounds_toArray, List.set_cons_zero, List.set_cons_succ]))
  refine fun w1 hb1 => ?_
  (obtain ⟨hc1, hf1⟩ := bcell hb1; have hz1 := hb1.size; (try simp only [World.size_alloc, World.size_setCell, World.size_drew] at hz1); have q1 : w.heap.size ≤ w1.heap.size := (by omega); (try have q1_0 : w.heap.size < w1.heap.size := (by omega)); (try have q1_1 : w.heap.size + 1 < w1.heap.size := (by omega)); (try have q1_2 : w.heap.size + 2 < w1.heap.size := (by omega)); (try have q1_3 : w.heap.size + 3 < w1.heap.size := (by omega)); try simp only [Act.put, List.setIfInBounds_toArray, List.set_cons_zero, List.set_cons_succ])
  go_wp2
  go_ret
  exact ⟨zret_bool (by rw [Bool.eq_iff_iff, HE.out]; first | (simp; done) | (by_cases h1 : t < 30 * h <;> by_cases h2 : a = 1 <;> simp [h1, h2])), by (repeat' (first | (with_reducible exact Below.refl _ _) | (with_reducible assumption) | (with_reducible refine Below.alloc ?_ ?_ _) | (with_reducible refine Below.drew ?_) | (with_reducible refine below_drewN ?_ _) | (with_reducible refine Below.setCell ?_ ?_ _) | (with_reducible refine below_call ?_ ?_ (by assumption)) | go_size))⟩

set_option maxHeartbeats 800000 in
theorem pzFits5 (h m a b : Int) (hh : 2 ≤ h ∧ h ≤ 24) (hm : 0 ≤ m ∧ m < 60 * h) (hok : okC h (5, a, b) = true) (w : World) :
    Calls Try.prog 71 #[.int .i64 h, kv 5 a b, .int .i64 m] w fun e w' => e = .returned (.bool (fitB h m (5, a, b))) ∧ Below w.heap.size w w' := by
  obtain ⟨⟨b1, b2⟩, b3, b4⟩ := hm_bd hh hm
  have f1 := zq64 (n := m) (g := 60) hm.1 (by omega) (by omega)
  have f2 : m.tmod 60 = m % 60 := Int.tmod_eq_emod_of_nonneg hm.1
  have f3 := zw64 (n := m % 60) (by omega)
  have hb0 := okC_zero (by decide) hok
  have HE := Lib.hid (fit_iff (h := h) (m := m) (a := a) (b := b) (k := 5) (by decide) hb0 (show aOf h m 5 = absd (m / 60) (m % 60) from by simp [aOf]))
  generalize fitB h m (5, a, b) = s at *
  have HC := Lib.hid (fun W => l1Abs_any (m / 60) (m % 60) (by omega) (by omega) W)
  generalize absd (m / 60) (m % 60) = t at *
  have f5 := zw64 (n := m / 60 - m % 60) (by omega)
  (go_enter Try.func71, Try.ntmps71)
  go_wp2_with fail
  refine wp_region_below (by kernel_rfl) (by kernel_rfl) ?_
  repeat (first | (apply wpB_take (hw := rfl); (intro wq hq; obtain ⟨hcq, hfq⟩ := bcell hq; unfold atB; go_simp; exact ⟨rfl, rfl⟩); simp only [Act.put, List.setIfInBounds_toArray, List.set_cons_zero, List.set_cons_succ]) | (apply wpB_take (hw := rfl); (intro wq hq; unfold atB; go_simp; exact ⟨rfl, (HC.out _).mono fun e w' x => ⟨x.1, x.2 ▸ Below.refl _ _⟩⟩); simp only [Act.put, List.setIfInBounds_toArray, List.set_cons_zero, List.set_cons_succ]))
  refine fun w1 hb1 => ?_
  (obtain ⟨hc1, hf1⟩ := bcell hb1; have hz1 := hb1.size; (try simp only [World.size_alloc, World.size_setCell, World.size_drew] at hz1); have q1 : w.heap.size ≤ w1.heap.size := (by omega); (try have q1_0 : w.heap.size < w1.heap.size := (by omega)); (try have q1_1 : w.heap.size + 1 < w1.heap.size := (by omega)); (try have q1_2 : w.heap.size + 2 < w1.heap.size := (by omega)); (try have q1_3 : w.heap.size + 3 < w1.heap.size := (by omega)); try simp only [Act.put, List.setIfInBounds_toArray, List.set_cons_zero, List.set_cons_succ])
  go_wp2
  go_ret
  exact ⟨zret_bool (by rw [Bool.eq_iff_iff, HE.out]; first | (simp; done) | (by_cases h1 : t < 30 * h <;> by_cases h2 : a = 1 <;> simp [h1, h2])), by (repeat' (first | (with_reducible exact Below.refl _ _) | (with_reducible assumption) | (with_reducible refine Below.alloc ?_ ?_ _) | (with_reducible refine Below.drew ?_) | (with_reducible refine below_drewN ?_ _) | (with_reducible refine Below.setCell ?_ ?_ _) | (with_reducible refine below_call ?_ ?_ (by assumption)) | go_size))⟩

theorem pzFits_any (h m k a b : Int) (hh : 2 ≤ h ∧ h ≤ 24) (hm : 0 ≤ m ∧ m < 60 * h) (hok : okC h (k, a, b) = true) (w : World) :
    Calls Try.prog 71 #[.int .i64 h, kv k a b, .int .i64 m] w fun e w' => e = .returned (.bool (fitB h m (k, a, b))) ∧ Below w.heap.size w w' := by
  rcases okC_kind hok with rfl | rfl | rfl | rfl | rfl | rfl
  · exact pzFits0 h m a b hh hm hok w
  · exact pzFits1 h m a b hh hm hok w
  · exact pzFits2 h m a b hh hm hok w
  · exact pzFits3 h m a b hh hm hok w
  · exact pzFits4 h m a b hh hm hok w
  · exact pzFits5 h m a b hh hm hok w
/-- There are a dial and minutes. -/
def minB (h m : Int) : Bool := inB h 2 24 && inB m 0 (60 * h - 1)
/-- What DoesFit hands back. -/
def dfR (h m : Int) (c : Int × Int × Int) : Bool × Bool := if isC h c && inB m 0 (60 * h - 1) then (fitB h m c, true) else (false, false)
abbrev bbv (r : Bool × Bool) : Value := .tuple #[.bool r.1, .bool r.2]
theorem ret_bbv {a b : Bool × Bool} (h : a = b) : Ending.returned (bbv a) = .returned (bbv b) := by rw [h]
set_option maxHeartbeats 800000 in
theorem isMinute_is {r : Bool} (h m : Int) (hr : minB h m = r) (w : World) :
    Calls Try.prog 72 #[.int .i64 h, .int .i64 m] w fun e w' => e = .returned (.bool r) ∧ w = w' := by
  subst hr
  cases ga : inB h 2 24
  · have HM := Lib.hid (show false = minB h m from by simp [minB, ga])
    (go_enter Try.func72, Try.ntmps72)
    go_wp2_with fail
    refine (zIsDial_is _ ga _).mono ?_
    (rintro e1 w1 ⟨rfl, rfl⟩)
    go_wp2
    go_ret
    exact ⟨zret_bool HM.out, rfl⟩
  · have hh := inB_bd ga
    have f1 := zw64 (n := 60 * h) (by omega)
    have f2 := zw64 (n := 60 * h - 1) (by omega)
    obtain ⟨r, hr⟩ : ∃ r, inB m 0 (60 * h - 1) = r := ⟨_, rfl⟩
    have HM := Lib.hid (show r = minB h m from by simp [minB, ga, hr])
    (go_enter Try.func72, Try.ntmps72)
    go_wp2_with fail
    refine (zIsDial_is _ ga _).mono ?_
    (rintro e1 w1 ⟨rfl, rfl⟩)
    go_wp2_with fail
    refine (isWithin_is _ _ _ hr _).mono ?_
    (rintro e1 w1 ⟨rfl, rfl⟩)
    go_wp2
    go_ret
    exact ⟨zret_bool HM.out, rfl⟩
theorem implIsClue_is {r : Bool} (h k a b : Int) (hr : isC h (k, a, b) = r) (w : World) :
    Calls Try.prog 20 #[.int .i64 h, kv k a b] w fun e w' => e = .returned (.bool r) ∧ Below w.heap.size w w' := by
  subst hr; exact implIsClue_any h k a b w
set_option maxHeartbeats 800000 in
theorem implDoesFit_any (h k a b m : Int) (w : World) :
    Calls Try.prog 27 #[.int .i64 h, kv k a b, .int .i64 m] w fun e w' => e = .returned (bbv (dfR h m (k, a, b))) ∧ Below w.heap.size w w' := by
  cases ga : isC h (k, a, b)
  · have HM := Lib.hid (show (false, false) = dfR h m (k, a, b) from by simp [dfR, ga])
    (go_enter Try.func27, Try.ntmps27)
    go_wp2_with fail
    refine (implIsClue_is _ _ _ _ ga _).mono ?_
    (rintro e1 w1 ⟨rfl, hb1⟩; obtain ⟨hc1, hf1⟩ := bcell hb1; have hz1 := hb1.size; (try simp only [World.size_alloc, World.size_setCell, World.size_drew] at hz1); have q1 : w.heap.size ≤ w1.heap.size := (by omega); (try have q1_0 : w.heap.size < w1.heap.size := (by omega)); (try have q1_1 : w.heap.size + 1 < w1.heap.size := (by omega)); (try have q1_2 : w.heap.size + 2 < w1.heap.size := (by omega)); (try have q1_3 : w.heap.size + 3 < w1.heap.size := (by omega)))
    go_wp2
    (refine bodyPost_ret (by simp [results, Try.results27, go_sem, *]; try rfl) rfl ?_)
    exact ⟨ret_bbv HM.out, by (repeat' (first | (with_reducible exact Below.refl _ _) | (with_reducible assumption) | (with_reducible refine Below.alloc ?_ ?_ _) | (with_reducible refine Below.drew ?_) | (with_reducible refine below_drewN ?_ _) | (with_reducible refine Below.setCell ?_ ?_ _) | (with_reducible refine below_call ?_ ?_ (by assumption)) | go_size))⟩
  · obtain ⟨hd, hok⟩ : inB h 2 24 = true ∧ okC h (k, a, b) = true := by unfold isC at ga; simpa using ga
    have hh := inB_bd hd
    cases gb : inB m 0 (60 * h - 1)
    · have HM := Lib.hid (show (false, false) = dfR h m (k, a, b) from by simp [dfR, gb])
      have gm : minB h m = false := by simp [minB, gb]
      (go_enter Try.func27, Try.ntmps27)
      go_wp2_with fail
      refine (implIsClue_is _ _ _ _ ga _).mono ?_
      (rintro e1 w1 ⟨rfl, hb1⟩; obtain ⟨hc1, hf1⟩ := bcell hb1; have hz1 := hb1.size; (try simp only [World.size_alloc, World.size_setCell, World.size_drew] at hz1); have q1 : w.heap.size ≤ w1.heap.size := (by omega); (try have q1_0 : w.heap.size < w1.heap.size := (by omega)); (try have q1_1 : w.heap.size + 1 < w1.heap.size := (by omega)); (try have q1_2 : w.heap.size + 2 < w1.heap.size := (by omega)); (try have q1_3 : w.heap.size + 3 < w1.heap.size := (by omega)))
      go_wp2_with fail
      refine (isMinute_is _ _ gm _).mono ?_
      (rintro e1 w1 ⟨rfl, rfl⟩)
      go_wp2
      (refine bodyPost_ret (by simp [results, Try.results27, go_sem, *]; try rfl) rfl ?_)
      exact ⟨ret_bbv HM.out, by (repeat' (first | (with_reducible exact Below.refl _ _) | (with_reducible assumption) | (with_reducible refine Below.alloc ?_ ?_ _) | (with_reducible refine Below.drew ?_) | (with_reducible refine below_drewN ?_ _) | (with_reducible refine Below.setCell ?_ ?_ _) | (with_reducible refine below_call ?_ ?_ (by assumption)) | go_size))⟩
    · have hm := inB_bd gb
      have gm : minB h m = true := by simp [minB, gb, hd]
      have HM := Lib.hid (show (fitB h m (k, a, b), true) = dfR h m (k, a, b) from by simp [dfR, ga, gb])
      have HF := Lib.hid (fun W => fit_any h m k a b hh (by omega) (fun e => by subst e; exact (okC_one hok).1) W)
      generalize fitB h m (k, a, b) = s at *
      (go_enter Try.func27, Try.ntmps27)
      go_wp2_with fail
      refine (implIsClue_is _ _ _ _ ga _).mono ?_
      (rintro e1 w1 ⟨rfl, hb1⟩; obtain ⟨hc1, hf1⟩ := bcell hb1; have hz1 := hb1.size; (try simp only [World.size_alloc, World.size_setCell, World.size_drew] at hz1); have q1 : w.heap.size ≤ w1.heap.size := (by omega); (try have q1_0 : w.heap.size < w1.heap.size := (by omega)); (try have q1_1 : w.heap.size + 1 < w1.heap.size := (by omega)); (try have q1_2 : w.heap.size + 2 < w1.heap.size := (by omega)); (try have q1_3 : w.heap.size + 3 < w1.heap.size := (by omega)))
      go_wp2_with fail
      refine (isMinute_is _ _ gm _).mono ?_
      (rintro e1 w1 ⟨rfl, rfl⟩)
      go_wp2_with fail
      refine (partsOf_any _ _ _ _).mono ?_
      (rintro e2 w2 ⟨rfl, hb2⟩; obtain ⟨hc2, hf2⟩ := bcell hb2; have hz2 := hb2.size; (try simp only [World.size_alloc, World.size_setCell, World.size_drew] at hz2); have q2 : w.heap.size ≤ w2.heap.size := (by omega); (try have q2_0 : w.heap.size < w2.heap.size := (by omega)); (try have q2_1 : w.heap.size + 1 < w2.heap.size := (by omega)); (try have q2_2 : w.heap.size + 2 < w2.heap.size := (by omega)); (try have q2_3 : w.heap.size + 3 < w2.heap.size := (by omega)); (try have q2_1_0 : w1.heap.size < w2.heap.size := (by omega)); (try have q2_1_1 : w1.heap.size + 1 < w2.heap.size := (by omega)))
      go_wp2_with fail
      refine (HF.out _).mono ?_
      (rintro e3 w3 ⟨rfl, hb3⟩; obtain ⟨hc3, hf3⟩ := bcell hb3; have hz3 := hb3.size; (try simp only [World.size_alloc, World.size_setCell, World.size_drew] at hz3); have q3 : w.heap.size ≤ w3.heap.size := (by omega); (try have q3_0 : w.heap.size < w3.heap.size := (by omega)); (try have q3_1 : w.heap.size + 1 < w3.heap.size := (by omega)); (try have q3_2 : w.heap.size + 2 < w3.heap.size := (by omega)); (try have q3_3 : w.heap.size + 3 < w3.heap.size := (by omega)); (try have q3_1_0 : w1.heap.size < w3.heap.size := (by omega)); (try have q3_1_1 : w1.heap.size + 1 < w3.heap.size := (by omega)); (try have q3_2_0 : w2.heap.size < w3.heap.size := (by omega)); (try have q3_2_1 : w2.heap.size + 1 < w3.heap.size := (by omega)))
      go_wp2
      (refine bodyPost_ret (by simp [results, Try.results27, go_sem, *]; try rfl) rfl ?_)
      exact ⟨ret_bbv HM.out, by (repeat' (first | (with_reducible exact Below.refl _ _) | (with_reducible assumption) | (with_reducible refine Below.alloc ?_ ?_ _) | (with_reducible refine Below.drew ?_) | (with_reducible refine below_drewN ?_ _) | (with_reducible refine Below.setCell ?_ ?_ _) | (with_reducible refine below_call ?_ ?_ (by assumption)) | go_size))⟩
set_option maxHeartbeats 800000 in
theorem specDoesFit_any (h k a b m : Int) (w : World) :
    Calls Try.prog 26 #[.int .i64 h, kv k a b, .int .i64 m] w fun e w' => e = .returned (bbv (dfR h m (k, a, b))) ∧ Below w.heap.size w w' := by
  cases gd : inB h 2 24
  · have HM := Lib.hid (show (false, false) = dfR h m (k, a, b) from by simp [dfR, isC, gd])
    (go_enter Try.func26, Try.ntmps26)
    go_wp2_with fail
    refine (zHours_is _ gd _).mono ?_
    (rintro e1 w1 ⟨rfl, rfl⟩)
    go_wp2
    (refine bodyPost_ret (by simp [results, Try.results26, go_sem, *]; try rfl) rfl ?_)
    exact ⟨ret_bbv HM.out, by (repeat' (first | (with_reducible exact Below.refl _ _) | (with_reducible assumption) | (with_reducible refine Below.alloc ?_ ?_ _) | (with_reducible refine Below.drew ?_) | (with_reducible refine below_drewN ?_ _) | (with_reducible refine Below.setCell ?_ ?_ _) | (with_reducible refine below_call ?_ ?_ (by assumption)) | go_size))⟩
  · have hh := inB_bd gd
    have f1 := zw64 (n := 60 * h) (by omega)
    have f2 := zw64 (n := 60 * h - 1) (by omega)
    cases ga : okC h (k, a, b)
    · have HM := Lib.hid (show (false, false) = dfR h m (k, a, b) from by simp [dfR, isC, ga])
      (go_enter Try.func26, Try.ntmps26)
      go_wp2_with fail
      refine (zHours_is _ gd _).mono ?_
      (rintro e1 w1 ⟨rfl, rfl⟩)
      go_wp2_with fail
      refine (pzClue_is _ _ _ _ hh ga _).mono ?_
      (rintro e1 w1 ⟨rfl, hb1⟩; obtain ⟨hc1, hf1⟩ := bcell hb1; have hz1 := hb1.size; (try simp only [World.size_alloc, World.size_setCell, World.size_drew] at hz1); have q1 : w.heap.size ≤ w1.heap.size := (by omega); (try have q1_0 : w.heap.size < w1.heap.size := (by omega)); (try have q1_1 : w.heap.size + 1 < w1.heap.size := (by omega)); (try have q1_2 : w.heap.size + 2 < w1.heap.size := (by omega)); (try have q1_3 : w.heap.size + 3 < w1.heap.size := (by omega)))
      go_wp2
      (refine bodyPost_ret (by simp [results, Try.results26, go_sem, *]; try rfl) rfl ?_)
      exact ⟨ret_bbv HM.out, by (repeat' (first | (with_reducible exact Below.refl _ _) | (with_reducible assumption) | (with_reducible refine Below.alloc ?_ ?_ _) | (with_reducible refine Below.drew ?_) | (with_reducible refine below_drewN ?_ _) | (with_reducible refine Below.setCell ?_ ?_ _) | (with_reducible refine below_call ?_ ?_ (by assumption)) | go_size))⟩
    · cases gb : inB m 0 (60 * h - 1)
      · have HM := Lib.hid (show (false, false) = dfR h m (k, a, b) from by simp [dfR, gb])
        (go_enter Try.func26, Try.ntmps26)
        go_wp2_with fail
        refine (zHours_is _ gd _).mono ?_
        (rintro e1 w1 ⟨rfl, rfl⟩)
        go_wp2_with fail
        refine (pzClue_is _ _ _ _ hh ga _).mono ?_
        (rintro e1 w1 ⟨rfl, hb1⟩; obtain ⟨hc1, hf1⟩ := bcell hb1; have hz1 := hb1.size; (try simp only [World.size_alloc, World.size_setCell, World.size_drew] at hz1); have q1 : w.heap.size ≤ w1.heap.size := (by omega); (try have q1_0 : w.heap.size < w1.heap.size := (by omega)); (try have q1_1 : w.heap.size + 1 < w1.heap.size := (by omega)); (try have q1_2 : w.heap.size + 2 < w1.heap.size := (by omega)); (try have q1_3 : w.heap.size + 3 < w1.heap.size := (by omega)))
        go_wp2_with fail
        refine (l1In_is _ _ _ gb _).mono ?_
        (rintro e1 w1 ⟨rfl, rfl⟩)
        go_wp2
        (refine bodyPost_ret (by simp [results, Try.results26, go_sem, *]; try rfl) rfl ?_)
        exact ⟨ret_bbv HM.out, by (repeat' (first | (with_reducible exact Below.refl _ _) | (with_reducible assumption) | (with_reducible refine Below.alloc ?_ ?_ _) | (with_reducible refine Below.drew ?_) | (with_reducible refine below_drewN ?_ _) | (with_reducible refine Below.setCell ?_ ?_ _) | (with_reducible refine below_call ?_ ?_ (by assumption)) | go_size))⟩
      · have hm := inB_bd gb
        have HM := Lib.hid (show (fitB h m (k, a, b), true) = dfR h m (k, a, b) from by simp [dfR, isC, gd, ga, gb])
        have HF := Lib.hid (fun W => pzFits_any h m k a b hh (by omega) ga W)
        generalize fitB h m (k, a, b) = s at *
        (go_enter Try.func26, Try.ntmps26)
        go_wp2_with fail
        refine (zHours_is _ gd _).mono ?_
        (rintro e1 w1 ⟨rfl, rfl⟩)
        go_wp2_with fail
        refine (pzClue_is _ _ _ _ hh ga _).mono ?_
        (rintro e1 w1 ⟨rfl, hb1⟩; obtain ⟨hc1, hf1⟩ := bcell hb1; have hz1 := hb1.size; (try simp only [World.size_alloc, World.size_setCell, World.size_drew] at hz1); have q1 : w.heap.size ≤ w1.heap.size := (by omega); (try have q1_0 : w.heap.size < w1.heap.size := (by omega)); (try have q1_1 : w.heap.size + 1 < w1.heap.size := (by omega)); (try have q1_2 : w.heap.size + 2 < w1.heap.size := (by omega)); (try have q1_3 : w.heap.size + 3 < w1.heap.size := (by omega)))
        go_wp2_with fail
        refine (l1In_is _ _ _ gb _).mono ?_
        (rintro e1 w1 ⟨rfl, rfl⟩)
        go_wp2_with fail
        refine (HF.out _).mono ?_
        (rintro e2 w2 ⟨rfl, hb2⟩; obtain ⟨hc2, hf2⟩ := bcell hb2; have hz2 := hb2.size; (try simp only [World.size_alloc, World.size_setCell, World.size_drew] at hz2); have q2 : w.heap.size ≤ w2.heap.size := (by omega); (try have q2_0 : w.heap.size < w2.heap.size := (by omega)); (try have q2_1 : w.heap.size + 1 < w2.heap.size := (by omega)); (try have q2_2 : w.heap.size + 2 < w2.heap.size := (by omega)); (try have q2_3 : w.heap.size + 3 < w2.heap.size := (by omega)); (try have q2_1_0 : w1.heap.size < w2.heap.size := (by omega)); (try have q2_1_1 : w1.heap.size + 1 < w2.heap.size := (by omega)))
        go_wp2
        (refine bodyPost_ret (by simp [results, Try.results26, go_sem, *]; try rfl) rfl ?_)
        exact ⟨ret_bbv HM.out, by (repeat' (first | (with_reducible exact Below.refl _ _) | (with_reducible assumption) | (with_reducible refine Below.alloc ?_ ?_ _) | (with_reducible refine Below.drew ?_) | (with_reducible refine below_drewN ?_ _) | (with_reducible refine Below.setCell ?_ ?_ _) | (with_reducible refine below_call ?_ ?_ (by assumption)) | go_size))⟩
end Go.Proofs.Ytcpgjjmamclklaa
