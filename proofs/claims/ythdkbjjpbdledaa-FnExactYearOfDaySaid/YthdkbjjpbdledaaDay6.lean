/- YearOfDay: by the program and by the model. -/
import Derived.Test.YthdkbjjpbdledaaDay5
import Derived.Laws.Entries
import Derived.Laws.Shifts
set_option linter.unusedSimpArgs false
set_option linter.unusedVariables false
set_option maxRecDepth 100000
namespace Go.Proofs.Ythdkbjjpbdledaa
open Go.RowKit

def yodN (e b y day : Int) : Int := (((List.range 1000000).countP (fun (i : Nat) => !decide (day < dd e b y ((i : Int) + 1))) : Nat) : Int)
def yodR (e b y day : Int) : Int × Int × Bool := if ruleB e b y && inB day 0 365000000 then (if yodN e b y day = 1000000 then (0, 0, false) else (yodN e b y day + 1, day - dd e b y (yodN e b y day), true)) else (0, 0, false)
theorem dd_mono {e b y : Int} (h : ruleB e b y = true) {m n : Int} (hmn : m ≤ n) : dd e b y m ≤ dd e b y n := by
  have := dd_lt h m (n - m).toNat
  rw [show m + ((n - m).toNat : Int) = n by omega] at this
  omega
theorem yod_is {e b y day : Int} (h : ruleB e b y = true) (n : Nat) (hn : n ≤ 1000000) (h1 : dd e b y n ≤ day) (h2 : n = 1000000 ∨ day < dd e b y ((n : Int) + 1)) : yodN e b y day = n := by
  unfold yodN
  rw [countP_from 1000000 n (fun i => decide (day < dd e b y ((i : Int) + 1))) hn (fun i hi => ?_) (fun i hi hN => ?_)]
  · have := dd_mono h (show (i : Int) + 1 ≤ n by omega)
    exact decide_eq_false (by omega)
  · rcases h2 with h2 | h2
    · omega
    · have := dd_mono h (show (n : Int) + 1 ≤ (i : Int) + 1 by omega)
      exact decide_eq_true (by omega)
theorem dd_bd {e b y : Int} (h : ruleB e b y = true) {n : Int} (h0 : 0 ≤ n) (h1 : n ≤ 1000001) : 0 ≤ dd e b y n ∧ dd e b y n ≤ 367000000 := by
  have := lc_nonneg h n h0
  have := lc_up h n h0
  unfold dd; omega
set_option maxHeartbeats 800000 in
theorem over_any (e b y day i : Int) (h : ruleB e b y = true) (hday : 0 ≤ day ∧ day ≤ 365000000) (hi : 0 ≤ i ∧ i < 1000000) (br bd : Nat) (w : World) (hr : br < w.heap.size) (hd : bd < w.heap.size) (k0 : w.cell? ⟨br, 0, none⟩ = some (.int .i64 e)) (k1 : w.cell? ⟨br, 1, none⟩ = some (.int .i64 b)) (k2 : w.cell? ⟨br, 2, none⟩ = some (.int .i64 y)) (k3 : w.cell? ⟨bd, 0, none⟩ = some (.int .i64 day)) :
    Calls Try.prog 89 #[.int .i64 i, .pointer (some ⟨br, 0, none⟩), .pointer (some ⟨bd, 0, none⟩)] w fun e' w' => e' = .returned (.bool (decide (day < dd e b y (i + 1)))) ∧ Below w.heap.size w w' := by
  have v1 : IntKind.i64.wrap (i + 1) = i + 1 := dw64 (by omega)
  have CD := Lib.hid (fun w => ddI_any e b y (i + 1) h ⟨by omega, by omega⟩ w)
  have hbd := dd_bd h (show 0 ≤ i + 1 by omega) (by omega)
  generalize dd e b y (i + 1) = D at *
  (go_enter Try.func89, Try.ntmps89)
  go_wp2_with fail
  refine wp_region_below (by kernel_rfl) (by kernel_rfl) ?_
  (apply wpB_take (hw := rfl); (intro wq hq; obtain ⟨hcq, hfq⟩ := bcell hq; unfold atB; go_simp; exact ⟨rfl, rfl⟩); simp only [Act.put, List.setIfInBounds_toArray, List.set_cons_zero, List.set_cons_succ])
  (apply wpB_take (hw := rfl); (intro wq hq; obtain ⟨hcq, hfq⟩ := bcell hq; unfold atB; go_simp; exact ⟨rfl, rfl⟩); simp only [Act.put, List.setIfInBounds_toArray, List.set_cons_zero, List.set_cons_succ])
  (apply wpB_take (hw := rfl); (intro wq hq; obtain ⟨hcq, hfq⟩ := bcell hq; unfold atB; go_simp; exact ⟨rfl, rfl⟩); simp only [Act.put, List.setIfInBounds_toArray, List.set_cons_zero, List.set_cons_succ])
  (apply wpB_take (hw := rfl); (intro wq hq; unfold atB; go_simp; exact ⟨rfl, CD.out _⟩); simp only [Act.put, List.setIfInBounds_toArray, List.set_cons_zero, List.set_cons_succ])
  (apply wpB_take (hw := rfl); (intro wq hq; obtain ⟨hcq, hfq⟩ := bcell hq; unfold atB; go_simp; exact ⟨rfl, rfl⟩); simp only [Act.put, List.setIfInBounds_toArray, List.set_cons_zero, List.set_cons_succ])
  (apply wpB_take (hw := rfl); (intro wq hq; obtain ⟨hcq, hfq⟩ := bcell hq; unfold atB; go_simp; exact ⟨rfl, rfl⟩); simp only [Act.put, List.setIfInBounds_toArray, List.set_cons_zero, List.set_cons_succ])
  (apply wpB_take (hw := rfl); (intro wq hq; obtain ⟨hcq, hfq⟩ := bcell hq; unfold atB; go_simp; exact ⟨rfl, rfl⟩); simp only [Act.put, List.setIfInBounds_toArray, List.set_cons_zero, List.set_cons_succ])
  refine fun w1 hb1 => ?_
  (obtain ⟨hc1, hf1⟩ := bcell hb1; have hz1 := hb1.size; (try simp only [World.size_alloc, World.size_setCell, World.size_drew] at hz1); have q1 : w.heap.size ≤ w1.heap.size := (by omega); (try have q1_0 : w.heap.size < w1.heap.size := (by omega)); (try have q1_1 : w.heap.size + 1 < w1.heap.size := (by omega)); (try have q1_2 : w.heap.size + 2 < w1.heap.size := (by omega)); (try have q1_3 : w.heap.size + 3 < w1.heap.size := (by omega)); try simp only [Act.put, List.setIfInBounds_toArray, List.set_cons_zero, List.set_cons_succ])
  go_wp2
  go_ret
  exact ⟨rfl, by (repeat' (first | (with_reducible exact Below.refl _ _) | (with_reducible assumption) | (with_reducible refine Below.alloc ?_ ?_ _) | (with_reducible refine Below.drew ?_) | (with_reducible refine below_drewN ?_ _) | (with_reducible refine Below.setCell ?_ ?_ _) | (with_reducible refine below_call ?_ ?_ (by assumption)) | go_size))⟩

set_option maxHeartbeats 1600000 in
theorem search_any (e b y day : Int) (h : ruleB e b y = true) (hday : 0 ≤ day ∧ day ≤ 365000000) (br bd : Nat) (w : World) (hr : br < w.heap.size) (hd : bd < w.heap.size) (k0 : w.cell? ⟨br, 0, none⟩ = some (.int .i64 e)) (k1 : w.cell? ⟨br, 1, none⟩ = some (.int .i64 b)) (k2 : w.cell? ⟨br, 2, none⟩ = some (.int .i64 y)) (k3 : w.cell? ⟨bd, 0, none⟩ = some (.int .i64 day)) :
    Calls Try.prog 88 #[.int .i64 1000000, .func (.func 89) #[] #[.pointer (some ⟨br, 0, none⟩), .pointer (some ⟨bd, 0, none⟩)]] w fun e' w' => e' = .returned (.int .i64 (yodN e b y day)) ∧ Below w.heap.size w w' := by
  have X := Lib.hid (fun (i : Int) (hi : 0 ≤ i ∧ i < 1000000) (w' : World) (hb : Below w.heap.size w w') => over_any e b y day i h hday hi br bd w' (Nat.lt_of_lt_of_le hr hb.size) (Nat.lt_of_lt_of_le hd hb.size) ((bcell hb).1 _ _ hr |>.trans k0) ((bcell hb).1 _ _ hr |>.trans k1) ((bcell hb).1 _ _ hr |>.trans k2) ((bcell hb).1 _ _ hd |>.trans k3))
  have HY := Lib.hid (fun n hn h1 h2 => yod_is (day := day) h n hn h1 h2)
  have HZ := Lib.hid (show dd e b y ((0 : Nat) : Int) ≤ day from by unfold dd; rw [show ((0 : Nat) : Int) = 0 from rfl, lc_zero]; omega)
  clear k0 k1 k2 k3
  (go_enter Try.func88, Try.ntmps88)
  go_wp2
  go_loopw [5, 6] (fun s t wr => ∃ lo hi : Nat, s = .int .i64 lo ∧ t = .int .i64 hi ∧ lo ≤ hi ∧ hi ≤ 1000000 ∧ dd e b y lo ≤ day ∧ (hi = 1000000 ∨ day < dd e b y ((hi : Int) + 1)) ∧ Below w.heap.size w wr) (fun s t _ => (intOf t).toNat - (intOf s).toNat)
  case atStart => exact ⟨0, 1000000, rfl, rfl, by omega, by omega, HZ.out, .inl rfl, Below.refl _ _⟩
  case round =>
    obtain ⟨lo, hi, rfl, rfl, hlh, hin, h1, h2, hbr⟩ := hrel
    have H1 := Lib.hid h1
    have H2 := Lib.hid h2
    clear h1 h2
    by_cases hlt : lo < hi
    · obtain ⟨m, hm⟩ : ∃ m : Nat, m = (lo + hi) / 2 := ⟨_, rfl⟩
      have hm2 : ((lo : Int) + (hi : Int)) / 2 = (m : Int) := by omega
      have hc := X.out (m : Int) ⟨by omega, by omega⟩ wr hbr
      have M1 : lo ≤ m := by omega
      have M2 : m < hi := by omega
      have HMM := Lib.hid hm
      clear hm
      have i1 : (lo : Int) < (hi : Int) := by omega
      cases hp : decide (day < dd e b y ((m : Int) + 1)) <;> rw [hp] at hc
      · have HP := Lib.hid (of_decide_eq_false hp)
        have HC := Lib.hid hc
        clear hp hc
        go_wp2_with fail
        refine HC.out.mono ?_
        rintro e3 w3 ⟨rfl, hb3⟩
        go_wp2
        go_roundw
        case rel => exact ⟨m + 1, hi, by go_num, rfl, by omega, by omega, by have := HP.out; rw [show ((m + 1 : Nat) : Int) = (m : Int) + 1 by omega]; omega, H2.out, hbr.trans (hb3.mono hbr.size)⟩
        case measure => have := HMM.out; simp [intOf]; omega
      · have HP := Lib.hid (of_decide_eq_true hp)
        have HC := Lib.hid hc
        clear hp hc
        go_wp2_with fail
        refine HC.out.mono ?_
        rintro e3 w3 ⟨rfl, hb3⟩
        go_wp2
        go_roundw
        case rel => exact ⟨lo, m, rfl, by go_num, by omega, by omega, H1.out, .inr HP.out, hbr.trans (hb3.mono hbr.size)⟩
        case measure => have := HMM.out; simp [intOf]; omega
    · obtain rfl : hi = lo := by omega
      have HE := Lib.hid (HY.out hi hin H1.out H2.out)
      go_wp2
      go_ret
      exact ⟨dret_int HE.out.symm, hbr⟩

theorem yod_bd {e b y day : Int} (h : ruleB e b y = true) (hday : 0 ≤ day) : 0 ≤ yodN e b y day ∧ yodN e b y day ≤ 1000000 ∧ dd e b y (yodN e b y day) ≤ day := by
  obtain ⟨m, k1, k2, k3, k4⟩ := countP_prop 1000000 (fun i => decide (day < dd e b y ((i : Int) + 1))) (fun a c hac _ ha => by
    have h1 := of_decide_eq_true ha
    have := dd_mono h (show (a : Int) + 1 ≤ (c : Int) + 1 by omega)
    exact decide_eq_true (by omega))
  have e1 : yodN e b y day = m := by unfold yodN; rw [k2]
  rw [e1]
  refine ⟨by omega, by omega, ?_⟩
  rcases m with _ | m
  · rw [show ((0 : Nat) : Int) = 0 from rfl]; unfold dd; rw [lc_zero]; omega
  · have := of_decide_eq_false (k3 m (by omega))
    rw [show ((m + 1 : Nat) : Int) = (m : Int) + 1 by omega]; omega
set_option maxHeartbeats 3200000 in
theorem implYearOfDay_any (e b y day : Int) (w : World) :
    Calls Try.prog 37 #[lv e b y, .int .i64 day] w fun e' w' => e' = .returned (dnn (yodR e b y day)) ∧ Below w.heap.size w w' := by
  cases ga : ruleB e b y
  · have HM := Lib.hid (show (0, 0, false) = yodR e b y day from by simp [yodR, ga])
    (go_enter Try.func37, Try.ntmps37)
    go_wp2_with fail
    refine (isRule_is e b y ga _).mono ?_
    (rintro e1 w1 ⟨rfl, hb1⟩; obtain ⟨hc1, hf1⟩ := bcell hb1; have hz1 := hb1.size; (try simp only [World.size_alloc, World.size_setCell, World.size_drew] at hz1); have q1 : w.heap.size ≤ w1.heap.size := (by omega); (try have q1_0 : w.heap.size < w1.heap.size := (by omega)); (try have q1_1 : w.heap.size + 1 < w1.heap.size := (by omega)); (try have q1_2 : w.heap.size + 2 < w1.heap.size := (by omega)); (try have q1_3 : w.heap.size + 3 < w1.heap.size := (by omega)))
    go_wp2
    (refine bodyPost_ret (by simp [results, Try.results37, go_sem, *]; try rfl) rfl ?_)
    exact ⟨ret_dnn HM.out, by (repeat' (first | (with_reducible exact Below.refl _ _) | (with_reducible assumption) | (with_reducible refine Below.alloc ?_ ?_ _) | (with_reducible refine Below.drew ?_) | (with_reducible refine below_drewN ?_ _) | (with_reducible refine Below.setCell ?_ ?_ _) | (with_reducible refine below_call ?_ ?_ (by assumption)) | go_size))⟩
  · cases gb : inB day 0 365000000
    · have HM := Lib.hid (show (0, 0, false) = yodR e b y day from by simp [yodR, ga, gb])
      (go_enter Try.func37, Try.ntmps37)
      go_wp2_with fail
      refine (isRule_is e b y ga _).mono ?_
      (rintro e1 w1 ⟨rfl, hb1⟩; obtain ⟨hc1, hf1⟩ := bcell hb1; have hz1 := hb1.size; (try simp only [World.size_alloc, World.size_setCell, World.size_drew] at hz1); have q1 : w.heap.size ≤ w1.heap.size := (by omega); (try have q1_0 : w.heap.size < w1.heap.size := (by omega)); (try have q1_1 : w.heap.size + 1 < w1.heap.size := (by omega)); (try have q1_2 : w.heap.size + 2 < w1.heap.size := (by omega)); (try have q1_3 : w.heap.size + 3 < w1.heap.size := (by omega)))
      have c1_0_0 : w1.cell? ⟨w.heap.size, 0, none⟩ = some (.int .i64 e) := (hc1 _ _ (by first | go_size | (simp; omega) | simp)).trans (by go_simp)
      have f1_0_0 : w1.frozen? ⟨w.heap.size, 0, none⟩ = false := (hf1 _ _ (by first | go_size | (simp; omega) | simp)).trans (by go_simp)
      have c1_0_1 : w1.cell? ⟨w.heap.size, 1, none⟩ = some (.int .i64 b) := (hc1 _ _ (by first | go_size | (simp; omega) | simp)).trans (by go_simp)
      have f1_0_1 : w1.frozen? ⟨w.heap.size, 1, none⟩ = false := (hf1 _ _ (by first | go_size | (simp; omega) | simp)).trans (by go_simp)
      have c1_0_2 : w1.cell? ⟨w.heap.size, 2, none⟩ = some (.int .i64 y) := (hc1 _ _ (by first | go_size | (simp; omega) | simp)).trans (by go_simp)
      have f1_0_2 : w1.frozen? ⟨w.heap.size, 2, none⟩ = false := (hf1 _ _ (by first | go_size | (simp; omega) | simp)).trans (by go_simp)
      have c1_1_0 : w1.cell? ⟨w.heap.size + 1, 0, none⟩ = some (.int .i64 day) := (hc1 _ _ (by first | go_size | (simp; omega) | simp)).trans (by go_simp)
      have f1_1_0 : w1.frozen? ⟨w.heap.size + 1, 0, none⟩ = false := (hf1 _ _ (by first | go_size | (simp; omega) | simp)).trans (by go_simp)
      go_wp2_with fail
      refine (isWithin_is _ _ _ gb _).mono ?_
      (rintro e1 w1 ⟨rfl, rfl⟩)
      go_wp2
      (refine bodyPost_ret (by simp [results, Try.results37, go_sem, *]; try rfl) rfl ?_)
      exact ⟨ret_dnn HM.out, by (repeat' (first | (with_reducible exact Below.refl _ _) | (with_reducible assumption) | (with_reducible refine Below.alloc ?_ ?_ _) | (with_reducible refine Below.drew ?_) | (with_reducible refine below_drewN ?_ _) | (with_reducible refine Below.setCell ?_ ?_ _) | (with_reducible refine below_call ?_ ?_ (by assumption)) | go_size))⟩
    · obtain ⟨d1, d2⟩ := inBd gb
      have HS := Lib.hid (fun w' k0 k1 k2 k3 k4 k5 => search_any e b y day ga ⟨d1, d2⟩ w.heap.size (w.heap.size + 1) w' k0 k1 k2 k3 k4 k5)
      obtain ⟨n1, n2, n3⟩ := yod_bd ga d1
      have CD := Lib.hid (fun w => ddI_any e b y (yodN e b y day) ga ⟨by omega, by omega⟩ w)
      have hdd := dd_bd ga n1 (by omega)
      by_cases hN : yodN e b y day = 1000000
      · have HM := Lib.hid (show (0, 0, false) = yodR e b y day from by simp [yodR, ga, gb, hN])
        generalize dd e b y (yodN e b y day) = D at *
        generalize yodN e b y day = N at *
        (go_enter Try.func37, Try.ntmps37)
        go_wp2_with fail
        refine (isRule_is e b y ga _).mono ?_
        (rintro e1 w1 ⟨rfl, hb1⟩; obtain ⟨hc1, hf1⟩ := bcell hb1; have hz1 := hb1.size; (try simp only [World.size_alloc, World.size_setCell, World.size_drew] at hz1); have q1 : w.heap.size ≤ w1.heap.size := (by omega); (try have q1_0 : w.heap.size < w1.heap.size := (by omega)); (try have q1_1 : w.heap.size + 1 < w1.heap.size := (by omega)); (try have q1_2 : w.heap.size + 2 < w1.heap.size := (by omega)); (try have q1_3 : w.heap.size + 3 < w1.heap.size := (by omega)))
        have c1_0_0 : w1.cell? ⟨w.heap.size, 0, none⟩ = some (.int .i64 e) := (hc1 _ _ (by first | go_size | (simp; omega) | simp)).trans (by go_simp)
        have f1_0_0 : w1.frozen? ⟨w.heap.size, 0, none⟩ = false := (hf1 _ _ (by first | go_size | (simp; omega) | simp)).trans (by go_simp)
        have c1_0_1 : w1.cell? ⟨w.heap.size, 1, none⟩ = some (.int .i64 b) := (hc1 _ _ (by first | go_size | (simp; omega) | simp)).trans (by go_simp)
        have f1_0_1 : w1.frozen? ⟨w.heap.size, 1, none⟩ = false := (hf1 _ _ (by first | go_size | (simp; omega) | simp)).trans (by go_simp)
        have c1_0_2 : w1.cell? ⟨w.heap.size, 2, none⟩ = some (.int .i64 y) := (hc1 _ _ (by first | go_size | (simp; omega) | simp)).trans (by go_simp)
        have f1_0_2 : w1.frozen? ⟨w.heap.size, 2, none⟩ = false := (hf1 _ _ (by first | go_size | (simp; omega) | simp)).trans (by go_simp)
        have c1_1_0 : w1.cell? ⟨w.heap.size + 1, 0, none⟩ = some (.int .i64 day) := (hc1 _ _ (by first | go_size | (simp; omega) | simp)).trans (by go_simp)
        have f1_1_0 : w1.frozen? ⟨w.heap.size + 1, 0, none⟩ = false := (hf1 _ _ (by first | go_size | (simp; omega) | simp)).trans (by go_simp)
        go_wp2_with fail
        refine (isWithin_is _ _ _ gb _).mono ?_
        (rintro e1 w1 ⟨rfl, rfl⟩)
        go_wp2_with fail
        refine (HS.out _ (by omega) (by omega) c1_0_0 c1_0_1 c1_0_2 c1_1_0).mono ?_
        (rintro e2 w2 ⟨rfl, hb2⟩; obtain ⟨hc2, hf2⟩ := bcell hb2; have hz2 := hb2.size; (try simp only [World.size_alloc, World.size_setCell, World.size_drew] at hz2); have q2 : w.heap.size ≤ w2.heap.size := (by omega); (try have q2_0 : w.heap.size < w2.heap.size := (by omega)); (try have q2_1 : w.heap.size + 1 < w2.heap.size := (by omega)); (try have q2_2 : w.heap.size + 2 < w2.heap.size := (by omega)); (try have q2_3 : w.heap.size + 3 < w2.heap.size := (by omega)); (try have q2_1_0 : w1.heap.size < w2.heap.size := (by omega)); (try have q2_1_1 : w1.heap.size + 1 < w2.heap.size := (by omega)))
        go_wp2
        (refine bodyPost_ret (by simp [results, Try.results37, go_sem, *]; try rfl) rfl ?_)
        exact ⟨ret_dnn HM.out, by (repeat' (first | (with_reducible exact Below.refl _ _) | (with_reducible assumption) | (with_reducible refine Below.alloc ?_ ?_ _) | (with_reducible refine Below.drew ?_) | (with_reducible refine below_drewN ?_ _) | (with_reducible refine Below.setCell ?_ ?_ _) | (with_reducible refine below_call ?_ ?_ (by assumption)) | go_size))⟩
      · have HM := Lib.hid (show (yodN e b y day + 1, day - dd e b y (yodN e b y day), true) = yodR e b y day from by simp [yodR, ga, gb, hN])
        generalize dd e b y (yodN e b y day) = D at *
        generalize yodN e b y day = N at *
        have hN' : (N == 1000000) = false := by simpa using hN
        have v1 : IntKind.i64.wrap (N + 1) = N + 1 := dw64 (by omega)
        have v2 : IntKind.i64.wrap (day - D) = day - D := dw64 (by omega)
        (go_enter Try.func37, Try.ntmps37)
        go_wp2_with fail
        refine (isRule_is e b y ga _).mono ?_
        (rintro e1 w1 ⟨rfl, hb1⟩; obtain ⟨hc1, hf1⟩ := bcell hb1; have hz1 := hb1.size; (try simp only [World.size_alloc, World.size_setCell, World.size_drew] at hz1); have q1 : w.heap.size ≤ w1.heap.size := (by omega); (try have q1_0 : w.heap.size < w1.heap.size := (by omega)); (try have q1_1 : w.heap.size + 1 < w1.heap.size := (by omega)); (try have q1_2 : w.heap.size + 2 < w1.heap.size := (by omega)); (try have q1_3 : w.heap.size + 3 < w1.heap.size := (by omega)))
        have c1_0_0 : w1.cell? ⟨w.heap.size, 0, none⟩ = some (.int .i64 e) := (hc1 _ _ (by first | go_size | (simp; omega) | simp)).trans (by go_simp)
        have f1_0_0 : w1.frozen? ⟨w.heap.size, 0, none⟩ = false := (hf1 _ _ (by first | go_size | (simp; omega) | simp)).trans (by go_simp)
        have c1_0_1 : w1.cell? ⟨w.heap.size, 1, none⟩ = some (.int .i64 b) := (hc1 _ _ (by first | go_size | (simp; omega) | simp)).trans (by go_simp)
        have f1_0_1 : w1.frozen? ⟨w.heap.size, 1, none⟩ = false := (hf1 _ _ (by first | go_size | (simp; omega) | simp)).trans (by go_simp)
        have c1_0_2 : w1.cell? ⟨w.heap.size, 2, none⟩ = some (.int .i64 y) := (hc1 _ _ (by first | go_size | (simp; omega) | simp)).trans (by go_simp)
        have f1_0_2 : w1.frozen? ⟨w.heap.size, 2, none⟩ = false := (hf1 _ _ (by first | go_size | (simp; omega) | simp)).trans (by go_simp)
        have c1_1_0 : w1.cell? ⟨w.heap.size + 1, 0, none⟩ = some (.int .i64 day) := (hc1 _ _ (by first | go_size | (simp; omega) | simp)).trans (by go_simp)
        have f1_1_0 : w1.frozen? ⟨w.heap.size + 1, 0, none⟩ = false := (hf1 _ _ (by first | go_size | (simp; omega) | simp)).trans (by go_simp)
        go_wp2_with fail
        refine (isWithin_is _ _ _ gb _).mono ?_
        (rintro e1 w1 ⟨rfl, rfl⟩)
        go_wp2_with fail
        refine (HS.out _ (by omega) (by omega) c1_0_0 c1_0_1 c1_0_2 c1_1_0).mono ?_
        (rintro e2 w2 ⟨rfl, hb2⟩; obtain ⟨hc2, hf2⟩ := bcell hb2; have hz2 := hb2.size; (try simp only [World.size_alloc, World.size_setCell, World.size_drew] at hz2); have q2 : w.heap.size ≤ w2.heap.size := (by omega); (try have q2_0 : w.heap.size < w2.heap.size := (by omega)); (try have q2_1 : w.heap.size + 1 < w2.heap.size := (by omega)); (try have q2_2 : w.heap.size + 2 < w2.heap.size := (by omega)); (try have q2_3 : w.heap.size + 3 < w2.heap.size := (by omega)); (try have q2_1_0 : w1.heap.size < w2.heap.size := (by omega)); (try have q2_1_1 : w1.heap.size + 1 < w2.heap.size := (by omega)))
        have c2_0_0 : w2.cell? ⟨w.heap.size, 0, none⟩ = some (.int .i64 e) := (hc2 _ _ (by first | go_size | (simp; omega) | simp)).trans (by go_simp)
        have f2_0_0 : w2.frozen? ⟨w.heap.size, 0, none⟩ = false := (hf2 _ _ (by first | go_size | (simp; omega) | simp)).trans (by go_simp)
        have c2_0_1 : w2.cell? ⟨w.heap.size, 1, none⟩ = some (.int .i64 b) := (hc2 _ _ (by first | go_size | (simp; omega) | simp)).trans (by go_simp)
        have f2_0_1 : w2.frozen? ⟨w.heap.size, 1, none⟩ = false := (hf2 _ _ (by first | go_size | (simp; omega) | simp)).trans (by go_simp)
        have c2_0_2 : w2.cell? ⟨w.heap.size, 2, none⟩ = some (.int .i64 y) := (hc2 _ _ (by first | go_size | (simp; omega) | simp)).trans (by go_simp)
        have f2_0_2 : w2.frozen? ⟨w.heap.size, 2, none⟩ = false := (hf2 _ _ (by first | go_size | (simp; omega) | simp)).trans (by go_simp)
        have c2_1_0 : w2.cell? ⟨w.heap.size + 1, 0, none⟩ = some (.int .i64 day) := (hc2 _ _ (by first | go_size | (simp; omega) | simp)).trans (by go_simp)
        have f2_1_0 : w2.frozen? ⟨w.heap.size + 1, 0, none⟩ = false := (hf2 _ _ (by first | go_size | (simp; omega) | simp)).trans (by go_simp)
        go_wp2_with fail
        refine wp_region_below (by kernel_rfl) (by kernel_rfl) ?_
        (apply wpB_take (hw := rfl); (intro wq hq; obtain ⟨hcq, hfq⟩ := bcell hq; unfold atB; go_simp; exact ⟨rfl, rfl⟩); simp only [Act.put, List.setIfInBounds_toArray, List.set_cons_zero, List.set_cons_succ])
        (apply wpB_take (hw := rfl); (intro wq hq; obtain ⟨hcq, hfq⟩ := bcell hq; unfold atB; go_simp; exact ⟨rfl, rfl⟩); simp only [Act.put, List.setIfInBounds_toArray, List.set_cons_zero, List.set_cons_succ])
        (apply wpB_take (hw := rfl); (intro wq hq; obtain ⟨hcq, hfq⟩ := bcell hq; unfold atB; go_simp; exact ⟨rfl, rfl⟩); simp only [Act.put, List.setIfInBounds_toArray, List.set_cons_zero, List.set_cons_succ])
        (apply wpB_take (hw := rfl); (intro wq hq; obtain ⟨hcq, hfq⟩ := bcell hq; unfold atB; go_simp; exact ⟨rfl, rfl⟩); simp only [Act.put, List.setIfInBounds_toArray, List.set_cons_zero, List.set_cons_succ])
        (apply wpB_take (hw := rfl); (intro wq hq; obtain ⟨hcq, hfq⟩ := bcell hq; unfold atB; go_simp; exact ⟨rfl, rfl⟩); simp only [Act.put, List.setIfInBounds_toArray, List.set_cons_zero, List.set_cons_succ])
        (apply wpB_take (hw := rfl); (intro wq hq; unfold atB; go_simp; exact ⟨rfl, CD.out _⟩); simp only [Act.put, List.setIfInBounds_toArray, List.set_cons_zero, List.set_cons_succ])
        (apply wpB_take (hw := rfl); (intro wq hq; obtain ⟨hcq, hfq⟩ := bcell hq; unfold atB; go_simp; exact ⟨rfl, rfl⟩); simp only [Act.put, List.setIfInBounds_toArray, List.set_cons_zero, List.set_cons_succ])
        (apply wpB_take (hw := rfl); (intro wq hq; obtain ⟨hcq, hfq⟩ := bcell hq; unfold atB; go_simp; exact ⟨rfl, rfl⟩); simp only [Act.put, List.setIfInBounds_toArray, List.set_cons_zero, List.set_cons_succ])
        (apply wpB_take (hw := rfl); (intro wq hq; obtain ⟨hcq, hfq⟩ := bcell hq; unfold atB; go_simp; exact ⟨rfl, rfl⟩); simp only [Act.put, List.setIfInBounds_toArray, List.set_cons_zero, List.set_cons_succ])
        (apply wpB_take (hw := rfl); (intro wq hq; obtain ⟨hcq, hfq⟩ := bcell hq; unfold atB; go_simp; exact ⟨rfl, rfl⟩); simp only [Act.put, List.setIfInBounds_toArray, List.set_cons_zero, List.set_cons_succ])
        refine fun w3 hb3 => ?_
        (obtain ⟨hc3, hf3⟩ := bcell hb3; have hz3 := hb3.size; (try simp only [World.size_alloc, World.size_setCell, World.size_drew] at hz3); have q3 : w.heap.size ≤ w3.heap.size := (by omega); (try have q3_0 : w.heap.size < w3.heap.size := (by omega)); (try have q3_1 : w.heap.size + 1 < w3.heap.size := (by omega)); (try have q3_2 : w.heap.size + 2 < w3.heap.size := (by omega)); (try have q3_3 : w.heap.size + 3 < w3.heap.size := (by omega)); (try have p3_1 : b1 < w3.heap.size := (by omega)); (try have p3_2 : b2 < w3.heap.size := (by omega)); try simp only [Act.put, List.setIfInBounds_toArray, List.set_cons_zero, List.set_cons_succ])
        go_wp2
        (refine bodyPost_ret (by simp [results, Try.results37, go_sem, *]; try rfl) rfl ?_)
        exact ⟨ret_dnn HM.out, by (repeat' (first | (with_reducible exact Below.refl _ _) | (with_reducible assumption) | (with_reducible refine Below.alloc ?_ ?_ _) | (with_reducible refine Below.drew ?_) | (with_reducible refine below_drewN ?_ _) | (with_reducible refine Below.setCell ?_ ?_ _) | (with_reducible refine below_call ?_ ?_ (by assumption)) | go_size))⟩

end Go.Proofs.Ythdkbjjpbdledaa
