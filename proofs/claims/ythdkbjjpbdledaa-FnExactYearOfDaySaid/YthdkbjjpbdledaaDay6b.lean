/- YearOfDay by the model. -/
import Derived.Test.YthdkbjjpbdledaaDay6
set_option linter.unusedSimpArgs false
set_option linter.unusedVariables false
set_option maxRecDepth 100000
namespace Go.Proofs.Ythdkbjjpbdledaa
open Go.RowKit

set_option maxHeartbeats 3200000 in
theorem specYearOfDay_any (e b y day : Int) (w : World) :
    Calls Try.prog 36 #[lv e b y, .int .i64 day] w fun e' w' => e' = .returned (dnn (yodR e b y day)) ∧ Below w.heap.size w w' := by
  cases ga : ruleB e b y
  · have HM := Lib.hid (show (0, 0, false) = yodR e b y day from by simp [yodR, ga])
    (go_enter Try.func36, Try.ntmps36)
    go_wp2_with fail
    refine (daRule_is e b y ga _).mono ?_
    (rintro e1 w1 ⟨rfl, hb1⟩; obtain ⟨hc1, hf1⟩ := bcell hb1; have hz1 := hb1.size; (try simp only [World.size_alloc, World.size_setCell, World.size_drew] at hz1); have q1 : w.heap.size ≤ w1.heap.size := (by omega); (try have q1_0 : w.heap.size < w1.heap.size := (by omega)); (try have q1_1 : w.heap.size + 1 < w1.heap.size := (by omega)); (try have q1_2 : w.heap.size + 2 < w1.heap.size := (by omega)); (try have q1_3 : w.heap.size + 3 < w1.heap.size := (by omega)))
    go_wp2
    (refine bodyPost_ret (by simp [results, Try.results36, go_sem, *]; try rfl) rfl ?_)
    exact ⟨ret_dnn HM.out, by (repeat' (first | (with_reducible exact Below.refl _ _) | (with_reducible assumption) | (with_reducible refine Below.alloc ?_ ?_ _) | (with_reducible refine Below.drew ?_) | (with_reducible refine below_drewN ?_ _) | (with_reducible refine Below.setCell ?_ ?_ _) | (with_reducible refine below_call ?_ ?_ (by assumption)) | go_size))⟩
  · cases gb : inB day 0 365000000
    · have HM := Lib.hid (show (0, 0, false) = yodR e b y day from by simp [yodR, ga, gb])
      (go_enter Try.func36, Try.ntmps36)
      go_wp2_with fail
      refine (daRule_is e b y ga _).mono ?_
      (rintro e1 w1 ⟨rfl, hb1⟩; obtain ⟨hc1, hf1⟩ := bcell hb1; have hz1 := hb1.size; (try simp only [World.size_alloc, World.size_setCell, World.size_drew] at hz1); have q1 : w.heap.size ≤ w1.heap.size := (by omega); (try have q1_0 : w.heap.size < w1.heap.size := (by omega)); (try have q1_1 : w.heap.size + 1 < w1.heap.size := (by omega)); (try have q1_2 : w.heap.size + 2 < w1.heap.size := (by omega)); (try have q1_3 : w.heap.size + 3 < w1.heap.size := (by omega)))
      go_wp2_with fail
      refine (l1In_is _ _ _ gb _).mono ?_
      (rintro e1 w1 ⟨rfl, rfl⟩)
      go_wp2
      (refine bodyPost_ret (by simp [results, Try.results36, go_sem, *]; try rfl) rfl ?_)
      exact ⟨ret_dnn HM.out, by (repeat' (first | (with_reducible exact Below.refl _ _) | (with_reducible assumption) | (with_reducible refine Below.alloc ?_ ?_ _) | (with_reducible refine Below.drew ?_) | (with_reducible refine below_drewN ?_ _) | (with_reducible refine Below.setCell ?_ ?_ _) | (with_reducible refine below_call ?_ ?_ (by assumption)) | go_size))⟩
    · obtain ⟨d1, d2⟩ := inBd gb
      have HR := Lib.hid (show yodR e b y day = if yodN e b y day = 1000000 then (0, 0, false) else (yodN e b y day + 1, day - dd e b y (yodN e b y day), true) from by simp [yodR, ga, gb])
      have CD := Lib.hid (fun (n : Int) (h1 : 1 ≤ n ∧ n ≤ 1000000000) w => ddS_any e b y n ga h1 w)
      have HY := Lib.hid (fun n hn h1 h2 => yod_is (day := day) ga n hn h1 h2)
      have HB := Lib.hid (fun (n : Int) (h1 : 0 ≤ n) (h2 : n ≤ 1000001) => dd_bd ga h1 h2)
      have HZ := Lib.hid (show dd e b y (((1 : Nat) : Int) - 1) ≤ day from by unfold dd; rw [show ((1 : Nat) : Int) - 1 = 0 from rfl, lc_zero]; omega)
      (go_enter Try.func36, Try.ntmps36)
      go_wp2_with fail
      refine (daRule_is e b y ga _).mono ?_
      (rintro e1 w1 ⟨rfl, hb1⟩; obtain ⟨hc1, hf1⟩ := bcell hb1; have hz1 := hb1.size; (try simp only [World.size_alloc, World.size_setCell, World.size_drew] at hz1); have q1 : w.heap.size ≤ w1.heap.size := (by omega); (try have q1_0 : w.heap.size < w1.heap.size := (by omega)); (try have q1_1 : w.heap.size + 1 < w1.heap.size := (by omega)); (try have q1_2 : w.heap.size + 2 < w1.heap.size := (by omega)); (try have q1_3 : w.heap.size + 3 < w1.heap.size := (by omega)))
      have c0 : w1.cell? ⟨w.heap.size, 0, none⟩ = some (.int .i64 e) := (hc1 _ _ (by go_size)).trans (by go_simp)
      have c1 : w1.cell? ⟨w.heap.size, 1, none⟩ = some (.int .i64 b) := (hc1 _ _ (by go_size)).trans (by go_simp)
      have c2 : w1.cell? ⟨w.heap.size, 2, none⟩ = some (.int .i64 y) := (hc1 _ _ (by go_size)).trans (by go_simp)
      have hbw : Below w.heap.size w w1 := by (repeat' (first | (with_reducible exact Below.refl _ _) | (with_reducible assumption) | (with_reducible refine Below.alloc ?_ ?_ _) | (with_reducible refine Below.drew ?_) | (with_reducible refine below_drewN ?_ _) | (with_reducible refine Below.setCell ?_ ?_ _) | (with_reducible refine below_call ?_ ?_ (by assumption)) | go_size))
      have hsz : w.heap.size < w1.heap.size := by omega
      clear hc1 hf1
      go_wp2_with fail
      refine (l1In_is _ _ _ gb _).mono ?_
      (rintro e1 w1 ⟨rfl, rfl⟩)
      go_wp2
      go_loopw [7, 8] (fun s t wr => ∃ lo hi : Nat, s = .int .i64 lo ∧ t = .int .i64 hi ∧ 1 ≤ lo ∧ lo ≤ hi ∧ hi ≤ 1000001 ∧ dd e b y ((lo : Int) - 1) ≤ day ∧ (hi = 1000001 ∨ day < dd e b y (hi : Int)) ∧ Below w1.heap.size w1 wr) (fun s t _ => (intOf t).toNat - (intOf s).toNat)
      case atStart => exact ⟨1, 1000001, rfl, rfl, by omega, by omega, by omega, HZ.out, .inl rfl, Below.refl _ _⟩
      case round =>
        obtain ⟨lo, hi, rfl, rfl, hl1, hlh, hin, h1, h2, hbr⟩ := hrel
        have H1 := Lib.hid h1
        have H2 := Lib.hid h2
        clear h1 h2
        obtain ⟨hcr, hfr⟩ := bcell hbr
        have hzr := hbr.size
        have d0 : wr.cell? ⟨w.heap.size, 0, none⟩ = some (.int .i64 e) := (hcr _ _ hsz).trans c0
        have d1' : wr.cell? ⟨w.heap.size, 1, none⟩ = some (.int .i64 b) := (hcr _ _ hsz).trans c1
        have d2' : wr.cell? ⟨w.heap.size, 2, none⟩ = some (.int .i64 y) := (hcr _ _ hsz).trans c2
        have hsr : w.heap.size < wr.heap.size := by omega
        have hbwr : Below w.heap.size w wr := hbw.trans (hbr.mono (by omega))
        clear hcr hfr
        by_cases hlt : lo < hi
        · obtain ⟨m, hm⟩ : ∃ m : Nat, m = (lo + hi + 1) / 2 := ⟨_, rfl⟩
          have hm2 : ((lo : Int) + (hi : Int) + 1) / 2 = (m : Int) := by omega
          have M1 : lo + 1 ≤ m := by omega
          have M2 : m ≤ hi := by omega
          have HMM := Lib.hid hm
          clear hm
          have i1 : (lo : Int) < (hi : Int) := by omega
          have hbd := HB.out ((m : Int) - 1) (by omega) (by omega)
          by_cases hp : dd e b y ((m : Int) - 1) ≤ day
          · have HX : Hid (dd e b y ((m : Int) - 1) ≤ day) := hp
            have CM := Lib.hid (fun w => CD.out (m : Int) ⟨by omega, by omega⟩ w)
            obtain ⟨D, hD⟩ : ∃ D, dd e b y ((m : Int) - 1) = D := ⟨_, rfl⟩
            rw [hD] at hp CM hbd
            clear hD
            go_wp2_with fail
            refine (CM.out _).mono ?_
            rintro e3 w3 ⟨rfl, hb3⟩
            go_wp2
            go_roundw
            case rel => exact ⟨m, hi, by go_num, rfl, by omega, by omega, by omega, HX.out, H2.out, hbr.trans (hb3.mono hbr.size)⟩
            case measure => have := HMM.out; simp [intOf]; omega
          · have HP := Lib.hid hp
            have CM := Lib.hid (fun w => CD.out (m : Int) ⟨by omega, by omega⟩ w)
            have HX := Lib.hid (show day < dd e b y (((m - 1 : Nat)) : Int) by rw [show ((m - 1 : Nat) : Int) = (m : Int) - 1 by omega]; omega)
            obtain ⟨D, hD⟩ : ∃ D, dd e b y ((m : Int) - 1) = D := ⟨_, rfl⟩
            rw [hD] at hp CM hbd
            clear hD HP
            go_wp2_with fail
            refine (CM.out _).mono ?_
            rintro e3 w3 ⟨rfl, hb3⟩
            go_wp2
            go_roundw
            case rel => exact ⟨lo, m - 1, rfl, by go_num, by omega, by omega, by omega, H1.out, .inr HX.out, hbr.trans (hb3.mono hbr.size)⟩
            case measure => have := HMM.out; simp [intOf]; omega
        · obtain rfl : hi = lo := by omega
          have HE := HY.out (hi - 1) (by omega) (by have := H1.out; rw [show ((hi - 1 : Nat) : Int) = (hi : Int) - 1 by omega]; exact this) (by
            rcases H2.out with h | h
            · exact .inl (by omega)
            · exact .inr (by rw [show ((hi - 1 : Nat) : Int) + 1 = (hi : Int) by omega]; exact h))
          rw [show ((hi - 1 : Nat) : Int) = (hi : Int) - 1 by omega] at HE
          by_cases hN : hi = 1000001
          · have HM := Lib.hid (show (0, 0, false) = yodR e b y day from by rw [HR.out, HE, if_pos (by omega)])
            clear HE
            have i1 : (1000000 : Int) < (hi : Int) := by omega
            go_wp2
            (refine bodyPost_ret (by simp [results, Try.results36, go_sem, *]; try rfl) rfl ?_)
            exact ⟨ret_dnn HM.out, hbwr⟩
          · have HM := Lib.hid (show ((hi : Int), day - dd e b y ((hi : Int) - 1), true) = yodR e b y day from by rw [HR.out, HE, if_neg (by omega)]; simp)
            clear HE
            have CM := Lib.hid (fun w => CD.out (hi : Int) ⟨by omega, by omega⟩ w)
            have hbd := HB.out ((hi : Int) - 1) (by omega) (by omega)
            generalize dd e b y ((hi : Int) - 1) = D at *
            have i1 : ¬ (1000000 : Int) < (hi : Int) := by omega
            go_wp2_with fail
            refine (CM.out _).mono ?_
            rintro e3 w3 ⟨rfl, hb3⟩
            go_wp2
            (refine bodyPost_ret (by simp [results, Try.results36, go_sem, *]; try rfl) rfl ?_)
            exact ⟨ret_dnn HM.out, hbwr.trans (hb3.mono hbwr.size)⟩

end Go.Proofs.Ythdkbjjpbdledaa
