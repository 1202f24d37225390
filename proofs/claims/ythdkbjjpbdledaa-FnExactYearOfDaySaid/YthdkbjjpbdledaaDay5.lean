/- NextLeap: by the program and by the model. -/
import Derived.Test.YthdkbjjpbdledaaDay4
set_option linter.unusedSimpArgs false
set_option linter.unusedVariables false
set_option maxRecDepth 100000
namespace Go.Proofs.Ythdkbjjpbdledaa
open Go.RowKit

/-- The least multiple of Every behind a year. -/
def nxM (e n : Int) : Int := n / e * e + e
def nxt (e b y n : Int) : Int := if leapB e b y (nxM e n) then nxM e n else nxM e n + e
def nlR (e b y n : Int) : Int × Bool := if askY e b y n then (if nxt e b y n ≤ 1000000 then (nxt e b y n, true) else (0, false)) else (0, false)
theorem nxM_bd {e n : Int} (he : 1 ≤ e) (hn : 0 ≤ n) : n < nxM e n ∧ nxM e n ≤ n + e ∧ nxM e n % e = 0 ∧ (n / e + 1) * e = nxM e n ∧ 0 ≤ n / e * e ∧ n / e * e ≤ n := by
  have h1 := Int.mul_ediv_add_emod n e
  have h2 := Int.emod_nonneg n (show e ≠ 0 by omega)
  have h3 := Int.emod_lt_of_pos n (show 0 < e by omega)
  have h4 : n / e * e = e * (n / e) := Int.mul_comm _ _
  have h5 : 0 ≤ n / e * e := Int.mul_nonneg (Int.ediv_nonneg hn (by omega)) (by omega)
  have h6 : (n / e + 1) * e = n / e * e + e := by rw [Int.add_mul]; omega
  unfold nxM
  refine ⟨by omega, by omega, ?_, h6, h5, by omega⟩
  rw [← h6]; exact Int.mul_emod_left _ _
theorem leapX {e b y X : Int} (h : ruleB e b y = true) (hX : X % e = 0) (hno : leapB e b y X = false) : leapB e b y (X + e) = true := by
  obtain ⟨q, rfl⟩ := Int.dvd_of_emod_eq_zero hX
  have := leap_next h q (by rw [Int.mul_comm]; exact hno)
  rw [show e * q + e = (q + 1) * e by rw [Int.add_mul, Int.mul_comm]; omega]
  exact this
set_option maxHeartbeats 3200000 in
theorem implNextLeap_any (e b y n : Int) (w : World) :
    Calls Try.prog 62 #[lv e b y, .int .i64 n] w fun e' w' => e' = .returned (dn (nlR e b y n)) ∧ Below w.heap.size w w' := by
  cases ga : ruleB e b y
  · have HM := Lib.hid (show (0, false) = nlR e b y n from by simp [nlR, askY, ga])
    (go_enter Try.func62, Try.ntmps62)
    go_wp2_with fail
    refine (isRule_is e b y ga _).mono ?_
    (rintro e1 w1 ⟨rfl, hb1⟩; obtain ⟨hc1, hf1⟩ := bcell hb1; have hz1 := hb1.size; (try simp only [World.size_alloc, World.size_setCell, World.size_drew] at hz1); have q1 : w.heap.size ≤ w1.heap.size := (by omega); (try have q1_0 : w.heap.size < w1.heap.size := (by omega)); (try have q1_1 : w.heap.size + 1 < w1.heap.size := (by omega)); (try have q1_2 : w.heap.size + 2 < w1.heap.size := (by omega)); (try have q1_3 : w.heap.size + 3 < w1.heap.size := (by omega)))
    go_wp2
    go_ret2
    exact ⟨ret_dn HM.out, by (repeat' (first | (with_reducible exact Below.refl _ _) | (with_reducible assumption) | (with_reducible refine Below.alloc ?_ ?_ _) | (with_reducible refine Below.drew ?_) | (with_reducible refine below_drewN ?_ _) | (with_reducible refine Below.setCell ?_ ?_ _) | (with_reducible refine below_call ?_ ?_ (by assumption)) | go_size))⟩
  · cases gb : inB n 1 1000000
    · have HM := Lib.hid (show (0, false) = nlR e b y n from by simp [nlR, askY, ga, gb])
      (go_enter Try.func62, Try.ntmps62)
      go_wp2_with fail
      refine (isRule_is e b y ga _).mono ?_
      (rintro e1 w1 ⟨rfl, hb1⟩; obtain ⟨hc1, hf1⟩ := bcell hb1; have hz1 := hb1.size; (try simp only [World.size_alloc, World.size_setCell, World.size_drew] at hz1); have q1 : w.heap.size ≤ w1.heap.size := (by omega); (try have q1_0 : w.heap.size < w1.heap.size := (by omega)); (try have q1_1 : w.heap.size + 1 < w1.heap.size := (by omega)); (try have q1_2 : w.heap.size + 2 < w1.heap.size := (by omega)); (try have q1_3 : w.heap.size + 3 < w1.heap.size := (by omega)))
      go_wp2_with fail
      refine (isYear_is n gb _).mono ?_
      (rintro e1 w1 ⟨rfl, rfl⟩)
      go_wp2
      go_ret2
      exact ⟨ret_dn HM.out, by (repeat' (first | (with_reducible exact Below.refl _ _) | (with_reducible assumption) | (with_reducible refine Below.alloc ?_ ?_ _) | (with_reducible refine Below.drew ?_) | (with_reducible refine below_drewN ?_ _) | (with_reducible refine Below.setCell ?_ ?_ _) | (with_reducible refine below_call ?_ ?_ (by assumption)) | go_size))⟩
    · obtain ⟨n1, n2⟩ := inBd gb
      obtain ⟨⟨e1, e2⟩, ⟨b1, b2⟩, y1, y2⟩ := ruleB_bd ga
      obtain ⟨x1, x2, x3, x4, x5, x6⟩ := nxM_bd (e := e) (n := n) e1 (by omega)
      have q1 := dq64 (n := n) (g := e) (by omega) (by omega) e1
      have q2 := Int.ediv_nonneg (show 0 ≤ n by omega) (show 0 ≤ e by omega)
      have q3 := Int.ediv_le_self e (show 0 ≤ n by omega)
      have e0 : ¬ (e = 0) := by omega
      cases hl : leapB e b y (nxM e n)
      · by_cases hm : nxM e n + e ≤ 1000000
        · have HM := Lib.hid (show (nxM e n + e, true) = nlR e b y n from by simp only [nlR, askY, ga, gb, nxt, hl, Bool.and_self, if_true, Bool.false_eq_true, if_false]; rw [if_pos (by omega)])
          have gn : inB (nxM e n + e) 1 1000000 = true := by simp [inB]; omega
          have CL := Lib.hid (fun w => leapI_is e b y (nxM e n) ga ⟨by omega, by omega⟩ hl w)
          have v1 : IntKind.i64.wrap ((n / e + 1) * e) = nxM e n := by rw [x4]; exact dw64 (by omega)
          have v2 : IntKind.i64.wrap (n / e + 1) = n / e + 1 := dw64 (by omega)
          clear x4 x3 x5 x6
          generalize nxM e n = X at *
          generalize n / e = q at *
          (go_enter Try.func62, Try.ntmps62)
          go_wp2_with fail
          refine (isRule_is e b y ga _).mono ?_
          (rintro e1 w1 ⟨rfl, hb1⟩; obtain ⟨hc1, hf1⟩ := bcell hb1; have hz1 := hb1.size; (try simp only [World.size_alloc, World.size_setCell, World.size_drew] at hz1); have q1 : w.heap.size ≤ w1.heap.size := (by omega); (try have q1_0 : w.heap.size < w1.heap.size := (by omega)); (try have q1_1 : w.heap.size + 1 < w1.heap.size := (by omega)); (try have q1_2 : w.heap.size + 2 < w1.heap.size := (by omega)); (try have q1_3 : w.heap.size + 3 < w1.heap.size := (by omega)))
          go_wp2_with fail
          refine (isYear_is n gb _).mono ?_
          (rintro e1 w1 ⟨rfl, rfl⟩)
          go_wp2_with fail
          refine wp_region_below (by kernel_rfl) (by kernel_rfl) ?_
          (apply wpB_take (hw := rfl); (intro wq hq; obtain ⟨hcq, hfq⟩ := bcell hq; unfold atB; go_simp; exact ⟨rfl, rfl⟩); simp only [Act.put, List.setIfInBounds_toArray, List.set_cons_zero, List.set_cons_succ])
          (apply wpB_take (hw := rfl); (intro wq hq; obtain ⟨hcq, hfq⟩ := bcell hq; unfold atB; go_simp; exact ⟨rfl, rfl⟩); simp only [Act.put, List.setIfInBounds_toArray, List.set_cons_zero, List.set_cons_succ])
          (apply wpB_take (hw := rfl); (intro wq hq; obtain ⟨hcq, hfq⟩ := bcell hq; unfold atB; go_simp; exact ⟨rfl, rfl⟩); simp only [Act.put, List.setIfInBounds_toArray, List.set_cons_zero, List.set_cons_succ])
          (apply wpB_take (hw := rfl); (intro wq hq; obtain ⟨hcq, hfq⟩ := bcell hq; unfold atB; go_simp; exact ⟨rfl, rfl⟩); simp only [Act.put, List.setIfInBounds_toArray, List.set_cons_zero, List.set_cons_succ])
          (apply wpB_take (hw := rfl); (intro wq hq; obtain ⟨hcq, hfq⟩ := bcell hq; unfold atB; go_simp; exact ⟨rfl, rfl⟩); simp only [Act.put, List.setIfInBounds_toArray, List.set_cons_zero, List.set_cons_succ])
          (apply wpB_take (hw := rfl); (intro wq hq; obtain ⟨hcq, hfq⟩ := bcell hq; unfold atB; go_simp; exact ⟨rfl, rfl⟩); simp only [Act.put, List.setIfInBounds_toArray, List.set_cons_zero, List.set_cons_succ])
          (apply wpB_take (hw := rfl); (intro wq hq; obtain ⟨hcq, hfq⟩ := bcell hq; unfold atB; go_simp; exact ⟨rfl, rfl⟩); simp only [Act.put, List.setIfInBounds_toArray, List.set_cons_zero, List.set_cons_succ])
          (apply wpB_take (hw := rfl); (intro wq hq; obtain ⟨hcq, hfq⟩ := bcell hq; unfold atB; go_simp; exact ⟨rfl, rfl⟩); simp only [Act.put, List.setIfInBounds_toArray, List.set_cons_zero, List.set_cons_succ])
          (apply wpB_take (hw := rfl); (intro wq hq; obtain ⟨hcq, hfq⟩ := bcell hq; unfold atB; go_simp; exact ⟨rfl, rfl⟩); simp only [Act.put, List.setIfInBounds_toArray, List.set_cons_zero, List.set_cons_succ])
          refine fun w2 hb2 => ?_
          (obtain ⟨hc2, hf2⟩ := bcell hb2; have hz2 := hb2.size; (try simp only [World.size_alloc, World.size_setCell, World.size_drew] at hz2); have q2 : w.heap.size ≤ w2.heap.size := (by omega); (try have q2_0 : w.heap.size < w2.heap.size := (by omega)); (try have q2_1 : w.heap.size + 1 < w2.heap.size := (by omega)); (try have q2_2 : w.heap.size + 2 < w2.heap.size := (by omega)); (try have q2_3 : w.heap.size + 3 < w2.heap.size := (by omega)); (try have p2_1 : b1 < w2.heap.size := (by omega)); try simp only [Act.put, List.setIfInBounds_toArray, List.set_cons_zero, List.set_cons_succ])
          go_wp2_with fail
          refine (CL.out _).mono ?_
          (rintro e3 w3 ⟨rfl, hb3⟩; obtain ⟨hc3, hf3⟩ := bcell hb3; have hz3 := hb3.size; (try simp only [World.size_alloc, World.size_setCell, World.size_drew] at hz3); have q3 : w.heap.size ≤ w3.heap.size := (by omega); (try have q3_0 : w.heap.size < w3.heap.size := (by omega)); (try have q3_1 : w.heap.size + 1 < w3.heap.size := (by omega)); (try have q3_2 : w.heap.size + 2 < w3.heap.size := (by omega)); (try have q3_3 : w.heap.size + 3 < w3.heap.size := (by omega)); (try have q3_1_0 : w1.heap.size < w3.heap.size := (by omega)); (try have q3_1_1 : w1.heap.size + 1 < w3.heap.size := (by omega)); (try have q3_2_0 : w2.heap.size < w3.heap.size := (by omega)); (try have q3_2_1 : w2.heap.size + 1 < w3.heap.size := (by omega)))
          go_wp2_with fail
          refine (isYear_is _ gn _).mono ?_
          (rintro e1 w1 ⟨rfl, rfl⟩)
          go_wp2
          go_ret2
          exact ⟨ret_dn HM.out, by (repeat' (first | (with_reducible exact Below.refl _ _) | (with_reducible assumption) | (with_reducible refine Below.alloc ?_ ?_ _) | (with_reducible refine Below.drew ?_) | (with_reducible refine below_drewN ?_ _) | (with_reducible refine Below.setCell ?_ ?_ _) | (with_reducible refine below_call ?_ ?_ (by assumption)) | go_size))⟩
        · have HM := Lib.hid (show (0, false) = nlR e b y n from by simp only [nlR, askY, ga, gb, nxt, hl, Bool.and_self, if_true, Bool.false_eq_true, if_false]; rw [if_neg (by omega)])
          have gn : inB (nxM e n + e) 1 1000000 = false := by simp [inB]; omega
          have CL := Lib.hid (fun w => leapI_is e b y (nxM e n) ga ⟨by omega, by omega⟩ hl w)
          have v1 : IntKind.i64.wrap ((n / e + 1) * e) = nxM e n := by rw [x4]; exact dw64 (by omega)
          have v2 : IntKind.i64.wrap (n / e + 1) = n / e + 1 := dw64 (by omega)
          clear x4 x3 x5 x6
          generalize nxM e n = X at *
          generalize n / e = q at *
          (go_enter Try.func62, Try.ntmps62)
          go_wp2_with fail
          refine (isRule_is e b y ga _).mono ?_
          (rintro e1 w1 ⟨rfl, hb1⟩; obtain ⟨hc1, hf1⟩ := bcell hb1; have hz1 := hb1.size; (try simp only [World.size_alloc, World.size_setCell, World.size_drew] at hz1); have q1 : w.heap.size ≤ w1.heap.size := (by omega); (try have q1_0 : w.heap.size < w1.heap.size := (by omega)); (try have q1_1 : w.heap.size + 1 < w1.heap.size := (by omega)); (try have q1_2 : w.heap.size + 2 < w1.heap.size := (by omega)); (try have q1_3 : w.heap.size + 3 < w1.heap.size := (by omega)))
          go_wp2_with fail
          refine (isYear_is n gb _).mono ?_
          (rintro e1 w1 ⟨rfl, rfl⟩)
          go_wp2_with fail
          refine wp_region_below (by kernel_rfl) (by kernel_rfl) ?_
          (apply wpB_take (hw := rfl); (intro wq hq; obtain ⟨hcq, hfq⟩ := bcell hq; unfold atB; go_simp; exact ⟨rfl, rfl⟩); simp only [Act.put, List.setIfInBounds_toArray, List.set_cons_zero, List.set_cons_succ])
          (apply wpB_take (hw := rfl); (intro wq hq; obtain ⟨hcq, hfq⟩ := bcell hq; unfold atB; go_simp; exact ⟨rfl, rfl⟩); simp only [Act.put, List.setIfInBounds_toArray, List.set_cons_zero, List.set_cons_succ])
          (apply wpB_take (hw := rfl); (intro wq hq; obtain ⟨hcq, hfq⟩ := bcell hq; unfold atB; go_simp; exact ⟨rfl, rfl⟩); simp only [Act.put, List.setIfInBounds_toArray, List.set_cons_zero, List.set_cons_succ])
          (apply wpB_take (hw := rfl); (intro wq hq; obtain ⟨hcq, hfq⟩ := bcell hq; unfold atB; go_simp; exact ⟨rfl, rfl⟩); simp only [Act.put, List.setIfInBounds_toArray, List.set_cons_zero, List.set_cons_succ])
          (apply wpB_take (hw := rfl); (intro wq hq; obtain ⟨hcq, hfq⟩ := bcell hq; unfold atB; go_simp; exact ⟨rfl, rfl⟩); simp only [Act.put, List.setIfInBounds_toArray, List.set_cons_zero, List.set_cons_succ])
          (apply wpB_take (hw := rfl); (intro wq hq; obtain ⟨hcq, hfq⟩ := bcell hq; unfold atB; go_simp; exact ⟨rfl, rfl⟩); simp only [Act.put, List.setIfInBounds_toArray, List.set_cons_zero, List.set_cons_succ])
          (apply wpB_take (hw := rfl); (intro wq hq; obtain ⟨hcq, hfq⟩ := bcell hq; unfold atB; go_simp; exact ⟨rfl, rfl⟩); simp only [Act.put, List.setIfInBounds_toArray, List.set_cons_zero, List.set_cons_succ])
          (apply wpB_take (hw := rfl); (intro wq hq; obtain ⟨hcq, hfq⟩ := bcell hq; unfold atB; go_simp; exact ⟨rfl, rfl⟩); simp only [Act.put, List.setIfInBounds_toArray, List.set_cons_zero, List.set_cons_succ])
          (apply wpB_take (hw := rfl); (intro wq hq; obtain ⟨hcq, hfq⟩ := bcell hq; unfold atB; go_simp; exact ⟨rfl, rfl⟩); simp only [Act.put, List.setIfInBounds_toArray, List.set_cons_zero, List.set_cons_succ])
          refine fun w2 hb2 => ?_
          (obtain ⟨hc2, hf2⟩ := bcell hb2; have hz2 := hb2.size; (try simp only [World.size_alloc, World.size_setCell, World.size_drew] at hz2); have q2 : w.heap.size ≤ w2.heap.size := (by omega); (try have q2_0 : w.heap.size < w2.heap.size := (by omega)); (try have q2_1 : w.heap.size + 1 < w2.heap.size := (by omega)); (try have q2_2 : w.heap.size + 2 < w2.heap.size := (by omega)); (try have q2_3 : w.heap.size + 3 < w2.heap.size := (by omega)); (try have p2_1 : b1 < w2.heap.size := (by omega)); try simp only [Act.put, List.setIfInBounds_toArray, List.set_cons_zero, List.set_cons_succ])
          go_wp2_with fail
          refine (CL.out _).mono ?_
          (rintro e3 w3 ⟨rfl, hb3⟩; obtain ⟨hc3, hf3⟩ := bcell hb3; have hz3 := hb3.size; (try simp only [World.size_alloc, World.size_setCell, World.size_drew] at hz3); have q3 : w.heap.size ≤ w3.heap.size := (by omega); (try have q3_0 : w.heap.size < w3.heap.size := (by omega)); (try have q3_1 : w.heap.size + 1 < w3.heap.size := (by omega)); (try have q3_2 : w.heap.size + 2 < w3.heap.size := (by omega)); (try have q3_3 : w.heap.size + 3 < w3.heap.size := (by omega)); (try have q3_1_0 : w1.heap.size < w3.heap.size := (by omega)); (try have q3_1_1 : w1.heap.size + 1 < w3.heap.size := (by omega)); (try have q3_2_0 : w2.heap.size < w3.heap.size := (by omega)); (try have q3_2_1 : w2.heap.size + 1 < w3.heap.size := (by omega)))
          go_wp2_with fail
          refine (isYear_is _ gn _).mono ?_
          (rintro e1 w1 ⟨rfl, rfl⟩)
          go_wp2
          go_ret2
          exact ⟨ret_dn HM.out, by (repeat' (first | (with_reducible exact Below.refl _ _) | (with_reducible assumption) | (with_reducible refine Below.alloc ?_ ?_ _) | (with_reducible refine Below.drew ?_) | (with_reducible refine below_drewN ?_ _) | (with_reducible refine Below.setCell ?_ ?_ _) | (with_reducible refine below_call ?_ ?_ (by assumption)) | go_size))⟩
      · by_cases hm : nxM e n ≤ 1000000
        · have HM := Lib.hid (show (nxM e n, true) = nlR e b y n from by simp only [nlR, askY, ga, gb, nxt, hl, Bool.and_self, if_true]; rw [if_pos (by omega)])
          have gn : inB (nxM e n) 1 1000000 = true := by simp [inB]; omega
          have CL := Lib.hid (fun w => leapI_is e b y (nxM e n) ga ⟨by omega, by omega⟩ hl w)
          have v1 : IntKind.i64.wrap ((n / e + 1) * e) = nxM e n := by rw [x4]; exact dw64 (by omega)
          have v2 : IntKind.i64.wrap (n / e + 1) = n / e + 1 := dw64 (by omega)
          clear x4 x3 x5 x6
          generalize nxM e n = X at *
          generalize n / e = q at *
          (go_enter Try.func62, Try.ntmps62)
          go_wp2_with fail
          refine (isRule_is e b y ga _).mono ?_
          (rintro e1 w1 ⟨rfl, hb1⟩; obtain ⟨hc1, hf1⟩ := bcell hb1; have hz1 := hb1.size; (try simp only [World.size_alloc, World.size_setCell, World.size_drew] at hz1); have q1 : w.heap.size ≤ w1.heap.size := (by omega); (try have q1_0 : w.heap.size < w1.heap.size := (by omega)); (try have q1_1 : w.heap.size + 1 < w1.heap.size := (by omega)); (try have q1_2 : w.heap.size + 2 < w1.heap.size := (by omega)); (try have q1_3 : w.heap.size + 3 < w1.heap.size := (by omega)))
          go_wp2_with fail
          refine (isYear_is n gb _).mono ?_
          (rintro e1 w1 ⟨rfl, rfl⟩)
          go_wp2_with fail
          refine wp_region_below (by kernel_rfl) (by kernel_rfl) ?_
          (apply wpB_take (hw := rfl); (intro wq hq; obtain ⟨hcq, hfq⟩ := bcell hq; unfold atB; go_simp; exact ⟨rfl, rfl⟩); simp only [Act.put, List.setIfInBounds_toArray, List.set_cons_zero, List.set_cons_succ])
          (apply wpB_take (hw := rfl); (intro wq hq; obtain ⟨hcq, hfq⟩ := bcell hq; unfold atB; go_simp; exact ⟨rfl, rfl⟩); simp only [Act.put, List.setIfInBounds_toArray, List.set_cons_zero, List.set_cons_succ])
          (apply wpB_take (hw := rfl); (intro wq hq; obtain ⟨hcq, hfq⟩ := bcell hq; unfold atB; go_simp; exact ⟨rfl, rfl⟩); simp only [Act.put, List.setIfInBounds_toArray, List.set_cons_zero, List.set_cons_succ])
          (apply wpB_take (hw := rfl); (intro wq hq; obtain ⟨hcq, hfq⟩ := bcell hq; unfold atB; go_simp; exact ⟨rfl, rfl⟩); simp only [Act.put, List.setIfInBounds_toArray, List.set_cons_zero, List.set_cons_succ])
          (apply wpB_take (hw := rfl); (intro wq hq; obtain ⟨hcq, hfq⟩ := bcell hq; unfold atB; go_simp; exact ⟨rfl, rfl⟩); simp only [Act.put, List.setIfInBounds_toArray, List.set_cons_zero, List.set_cons_succ])
          (apply wpB_take (hw := rfl); (intro wq hq; obtain ⟨hcq, hfq⟩ := bcell hq; unfold atB; go_simp; exact ⟨rfl, rfl⟩); simp only [Act.put, List.setIfInBounds_toArray, List.set_cons_zero, List.set_cons_succ])
          (apply wpB_take (hw := rfl); (intro wq hq; obtain ⟨hcq, hfq⟩ := bcell hq; unfold atB; go_simp; exact ⟨rfl, rfl⟩); simp only [Act.put, List.setIfInBounds_toArray, List.set_cons_zero, List.set_cons_succ])
          (apply wpB_take (hw := rfl); (intro wq hq; obtain ⟨hcq, hfq⟩ := bcell hq; unfold atB; go_simp; exact ⟨rfl, rfl⟩); simp only [Act.put, List.setIfInBounds_toArray, List.set_cons_zero, List.set_cons_succ])
          (apply wpB_take (hw := rfl); (intro wq hq; obtain ⟨hcq, hfq⟩ := bcell hq; unfold atB; go_simp; exact ⟨rfl, rfl⟩); simp only [Act.put, List.setIfInBounds_toArray, List.set_cons_zero, List.set_cons_succ])
          refine fun w2 hb2 => ?_
          (obtain ⟨hc2, hf2⟩ := bcell hb2; have hz2 := hb2.size; (try simp only [World.size_alloc, World.size_setCell, World.size_drew] at hz2); have q2 : w.heap.size ≤ w2.heap.size := (by omega); (try have q2_0 : w.heap.size < w2.heap.size := (by omega)); (try have q2_1 : w.heap.size + 1 < w2.heap.size := (by omega)); (try have q2_2 : w.heap.size + 2 < w2.heap.size := (by omega)); (try have q2_3 : w.heap.size + 3 < w2.heap.size := (by omega)); (try have p2_1 : b1 < w2.heap.size := (by omega)); try simp only [Act.put, List.setIfInBounds_toArray, List.set_cons_zero, List.set_cons_succ])
          go_wp2_with fail
          refine (CL.out _).mono ?_
          (rintro e3 w3 ⟨rfl, hb3⟩; obtain ⟨hc3, hf3⟩ := bcell hb3; have hz3 := hb3.size; (try simp only [World.size_alloc, World.size_setCell, World.size_drew] at hz3); have q3 : w.heap.size ≤ w3.heap.size := (by omega); (try have q3_0 : w.heap.size < w3.heap.size := (by omega)); (try have q3_1 : w.heap.size + 1 < w3.heap.size := (by omega)); (try have q3_2 : w.heap.size + 2 < w3.heap.size := (by omega)); (try have q3_3 : w.heap.size + 3 < w3.heap.size := (by omega)); (try have q3_1_0 : w1.heap.size < w3.heap.size := (by omega)); (try have q3_1_1 : w1.heap.size + 1 < w3.heap.size := (by omega)); (try have q3_2_0 : w2.heap.size < w3.heap.size := (by omega)); (try have q3_2_1 : w2.heap.size + 1 < w3.heap.size := (by omega)))
          go_wp2_with fail
          refine (isYear_is _ gn _).mono ?_
          (rintro e1 w1 ⟨rfl, rfl⟩)
          go_wp2
          go_ret2
          exact ⟨ret_dn HM.out, by (repeat' (first | (with_reducible exact Below.refl _ _) | (with_reducible assumption) | (with_reducible refine Below.alloc ?_ ?_ _) | (with_reducible refine Below.drew ?_) | (with_reducible refine below_drewN ?_ _) | (with_reducible refine Below.setCell ?_ ?_ _) | (with_reducible refine below_call ?_ ?_ (by assumption)) | go_size))⟩
        · have HM := Lib.hid (show (0, false) = nlR e b y n from by simp only [nlR, askY, ga, gb, nxt, hl, Bool.and_self, if_true]; rw [if_neg (by omega)])
          have gn : inB (nxM e n) 1 1000000 = false := by simp [inB]; omega
          have CL := Lib.hid (fun w => leapI_is e b y (nxM e n) ga ⟨by omega, by omega⟩ hl w)
          have v1 : IntKind.i64.wrap ((n / e + 1) * e) = nxM e n := by rw [x4]; exact dw64 (by omega)
          have v2 : IntKind.i64.wrap (n / e + 1) = n / e + 1 := dw64 (by omega)
          clear x4 x3 x5 x6
          generalize nxM e n = X at *
          generalize n / e = q at *
          (go_enter Try.func62, Try.ntmps62)
          go_wp2_with fail
          refine (isRule_is e b y ga _).mono ?_
          (rintro e1 w1 ⟨rfl, hb1⟩; obtain ⟨hc1, hf1⟩ := bcell hb1; have hz1 := hb1.size; (try simp only [World.size_alloc, World.size_setCell, World.size_drew] at hz1); have q1 : w.heap.size ≤ w1.heap.size := (by omega); (try have q1_0 : w.heap.size < w1.heap.size := (by omega)); (try have q1_1 : w.heap.size + 1 < w1.heap.size := (by omega)); (try have q1_2 : w.heap.size + 2 < w1.heap.size := (by omega)); (try have q1_3 : w.heap.size + 3 < w1.heap.size := (by omega)))
          go_wp2_with fail
          refine (isYear_is n gb _).mono ?_
          (rintro e1 w1 ⟨rfl, rfl⟩)
          go_wp2_with fail
          refine wp_region_below (by kernel_rfl) (by kernel_rfl) ?_
          (apply wpB_take (hw := rfl); (intro wq hq; obtain ⟨hcq, hfq⟩ := bcell hq; unfold atB; go_simp; exact ⟨rfl, rfl⟩); simp only [Act.put, List.setIfInBounds_toArray, List.set_cons_zero, List.set_cons_succ])
          (apply wpB_take (hw := rfl); (intro wq hq; obtain ⟨hcq, hfq⟩ := bcell hq; unfold atB; go_simp; exact ⟨rfl, rfl⟩); simp only [Act.put, List.setIfInBounds_toArray, List.set_cons_zero, List.set_cons_succ])
          (apply wpB_take (hw := rfl); (intro wq hq; obtain ⟨hcq, hfq⟩ := bcell hq; unfold atB; go_simp; exact ⟨rfl, rfl⟩); simp only [Act.put, List.setIfInBounds_toArray, List.set_cons_zero, List.set_cons_succ])
          (apply wpB_take (hw := rfl); (intro wq hq; obtain ⟨hcq, hfq⟩ := bcell hq; unfold atB; go_simp; exact ⟨rfl, rfl⟩); simp only [Act.put, List.setIfInBounds_toArray, List.set_cons_zero, List.set_cons_succ])
          (apply wpB_take (hw := rfl); (intro wq hq; obtain ⟨hcq, hfq⟩ := bcell hq; unfold atB; go_simp; exact ⟨rfl, rfl⟩); simp only [Act.put, List.setIfInBounds_toArray, List.set_cons_zero, List.set_cons_succ])
          (apply wpB_take (hw := rfl); (intro wq hq; obtain ⟨hcq, hfq⟩ := bcell hq; unfold atB; go_simp; exact ⟨rfl, rfl⟩); simp only [Act.put, List.setIfInBounds_toArray, List.set_cons_zero, List.set_cons_succ])
          (apply wpB_take (hw := rfl); (intro wq hq; obtain ⟨hcq, hfq⟩ := bcell hq; unfold atB; go_simp; exact ⟨rfl, rfl⟩); simp only [Act.put, List.setIfInBounds_toArray, List.set_cons_zero, List.set_cons_succ])
          (apply wpB_take (hw := rfl); (intro wq hq; obtain ⟨hcq, hfq⟩ := bcell hq; unfold atB; go_simp; exact ⟨rfl, rfl⟩); simp only [Act.put, List.setIfInBounds_toArray, List.set_cons_zero, List.set_cons_succ])
          (apply wpB_take (hw := rfl); (intro wq hq; obtain ⟨hcq, hfq⟩ := bcell hq; unfold atB; go_simp; exact ⟨rfl, rfl⟩); simp only [Act.put, List.setIfInBounds_toArray, List.set_cons_zero, List.set_cons_succ])
          refine fun w2 hb2 => ?_
          (obtain ⟨hc2, hf2⟩ := bcell hb2; have hz2 := hb2.size; (try simp only [World.size_alloc, World.size_setCell, World.size_drew] at hz2); have q2 : w.heap.size ≤ w2.heap.size := (by omega); (try have q2_0 : w.heap.size < w2.heap.size := (by omega)); (try have q2_1 : w.heap.size + 1 < w2.heap.size := (by omega)); (try have q2_2 : w.heap.size + 2 < w2.heap.size := (by omega)); (try have q2_3 : w.heap.size + 3 < w2.heap.size := (by omega)); (try have p2_1 : b1 < w2.heap.size := (by omega)); try simp only [Act.put, List.setIfInBounds_toArray, List.set_cons_zero, List.set_cons_succ])
          go_wp2_with fail
          refine (CL.out _).mono ?_
          (rintro e3 w3 ⟨rfl, hb3⟩; obtain ⟨hc3, hf3⟩ := bcell hb3; have hz3 := hb3.size; (try simp only [World.size_alloc, World.size_setCell, World.size_drew] at hz3); have q3 : w.heap.size ≤ w3.heap.size := (by omega); (try have q3_0 : w.heap.size < w3.heap.size := (by omega)); (try have q3_1 : w.heap.size + 1 < w3.heap.size := (by omega)); (try have q3_2 : w.heap.size + 2 < w3.heap.size := (by omega)); (try have q3_3 : w.heap.size + 3 < w3.heap.size := (by omega)); (try have q3_1_0 : w1.heap.size < w3.heap.size := (by omega)); (try have q3_1_1 : w1.heap.size + 1 < w3.heap.size := (by omega)); (try have q3_2_0 : w2.heap.size < w3.heap.size := (by omega)); (try have q3_2_1 : w2.heap.size + 1 < w3.heap.size := (by omega)))
          go_wp2_with fail
          refine (isYear_is _ gn _).mono ?_
          (rintro e1 w1 ⟨rfl, rfl⟩)
          go_wp2
          go_ret2
          exact ⟨ret_dn HM.out, by (repeat' (first | (with_reducible exact Below.refl _ _) | (with_reducible assumption) | (with_reducible refine Below.alloc ?_ ?_ _) | (with_reducible refine Below.drew ?_) | (with_reducible refine below_drewN ?_ _) | (with_reducible refine Below.setCell ?_ ?_ _) | (with_reducible refine below_call ?_ ?_ (by assumption)) | go_size))⟩

set_option maxHeartbeats 3200000 in
theorem specNextLeap_any (e b y n : Int) (w : World) :
    Calls Try.prog 61 #[lv e b y, .int .i64 n] w fun e' w' => e' = .returned (dn (nlR e b y n)) ∧ Below w.heap.size w w' := by
  cases ga : askY e b y n
  · have HM := Lib.hid (show (0, false) = nlR e b y n from by simp [nlR, ga])
    (go_enter Try.func61, Try.ntmps61)
    go_wp2_with fail
    refine (daYear_is e b y n ga _).mono ?_
    (rintro e1 w1 ⟨rfl, hb1⟩; obtain ⟨hc1, hf1⟩ := bcell hb1; have hz1 := hb1.size; (try simp only [World.size_alloc, World.size_setCell, World.size_drew] at hz1); have q1 : w.heap.size ≤ w1.heap.size := (by omega); (try have q1_0 : w.heap.size < w1.heap.size := (by omega)); (try have q1_1 : w.heap.size + 1 < w1.heap.size := (by omega)); (try have q1_2 : w.heap.size + 2 < w1.heap.size := (by omega)); (try have q1_3 : w.heap.size + 3 < w1.heap.size := (by omega)))
    go_wp2
    go_ret2
    exact ⟨ret_dn HM.out, by (repeat' (first | (with_reducible exact Below.refl _ _) | (with_reducible assumption) | (with_reducible refine Below.alloc ?_ ?_ _) | (with_reducible refine Below.drew ?_) | (with_reducible refine below_drewN ?_ _) | (with_reducible refine Below.setCell ?_ ?_ _) | (with_reducible refine below_call ?_ ?_ (by assumption)) | go_size))⟩
  · obtain ⟨hr, n1, n2⟩ := askBd ga
    obtain ⟨⟨e1, e2⟩, ⟨b1, b2⟩, y1, y2⟩ := ruleB_bd hr
    obtain ⟨x1, x2, x3, x4, x5, x6⟩ := nxM_bd (e := e) (n := n) e1 (by omega)
    have q1 := dq64 (n := n) (g := e) (by omega) (by omega) e1
    have q2 := Int.ediv_nonneg (show 0 ≤ n by omega) (show 0 ≤ e by omega)
    have q3 := Int.ediv_le_self e (show 0 ≤ n by omega)
    have e0 : ¬ (e = 0) := by omega
    have HR := Lib.hid hr
    have HE := Lib.hid (show nlR e b y n = if nxt e b y n ≤ 1000000 then (nxt e b y n, true) else (0, false) from by simp [nlR, ga])
    have HX := Lib.hid (show nxt e b y n = if leapB e b y (nxM e n) then nxM e n else nxM e n + e from rfl)
    have HN := Lib.hid (fun (h : leapB e b y (nxM e n) = false) => leapX hr x3 h)
    have CL := Lib.hid (fun u (h1 : 1 ≤ u ∧ u ≤ 1000000000) r (h2 : leapB e b y u = r) w => leapS_is e b y u hr h1 h2 w)
    have v1 : IntKind.i64.wrap (n / e * e) = n / e * e := dw64 (by omega)
    have v2 : IntKind.i64.wrap (n / e * e + e) = nxM e n := dw64 (show _ ∧ nxM e n ≤ _ by omega)
    clear x4 x3 hr
    generalize nxM e n = X at *
    generalize nxt e b y n = Z at *
    generalize n / e = q at *
    (go_enter Try.func61, Try.ntmps61)
    go_wp2_with fail
    refine (daYear_is e b y n ga _).mono ?_
    (rintro e1 w1 ⟨rfl, hb1⟩; obtain ⟨hc1, hf1⟩ := bcell hb1; have hz1 := hb1.size; (try simp only [World.size_alloc, World.size_setCell, World.size_drew] at hz1); have q1 : w.heap.size ≤ w1.heap.size := (by omega); (try have q1_0 : w.heap.size < w1.heap.size := (by omega)); (try have q1_1 : w.heap.size + 1 < w1.heap.size := (by omega)); (try have q1_2 : w.heap.size + 2 < w1.heap.size := (by omega)); (try have q1_3 : w.heap.size + 3 < w1.heap.size := (by omega)))
    go_wp2_with fail
    refine wp_region_below (by kernel_rfl) (by kernel_rfl) ?_
    (apply wpB_take (hw := rfl); (intro wq hq; obtain ⟨hcq, hfq⟩ := bcell hq; unfold atB; go_simp; exact ⟨rfl, rfl⟩); simp only [Act.put, List.setIfInBounds_toArray, List.set_cons_zero, List.set_cons_succ])
    (apply wpB_take (hw := rfl); (intro wq hq; obtain ⟨hcq, hfq⟩ := bcell hq; unfold atB; go_simp; exact ⟨rfl, rfl⟩); simp only [Act.put, List.setIfInBounds_toArray, List.set_cons_zero, List.set_cons_succ])
    (apply wpB_take (hw := rfl); (intro wq hq; obtain ⟨hcq, hfq⟩ := bcell hq; unfold atB; go_simp; exact ⟨rfl, rfl⟩); simp only [Act.put, List.setIfInBounds_toArray, List.set_cons_zero, List.set_cons_succ])
    (apply wpB_take (hw := rfl); (intro wq hq; obtain ⟨hcq, hfq⟩ := bcell hq; unfold atB; go_simp; exact ⟨rfl, rfl⟩); simp only [Act.put, List.setIfInBounds_toArray, List.set_cons_zero, List.set_cons_succ])
    (apply wpB_take (hw := rfl); (intro wq hq; obtain ⟨hcq, hfq⟩ := bcell hq; unfold atB; go_simp; exact ⟨rfl, rfl⟩); simp only [Act.put, List.setIfInBounds_toArray, List.set_cons_zero, List.set_cons_succ])
    (apply wpB_take (hw := rfl); (intro wq hq; obtain ⟨hcq, hfq⟩ := bcell hq; unfold atB; go_simp; exact ⟨rfl, rfl⟩); simp only [Act.put, List.setIfInBounds_toArray, List.set_cons_zero, List.set_cons_succ])
    (apply wpB_take (hw := rfl); (intro wq hq; obtain ⟨hcq, hfq⟩ := bcell hq; unfold atB; go_simp; exact ⟨rfl, rfl⟩); simp only [Act.put, List.setIfInBounds_toArray, List.set_cons_zero, List.set_cons_succ])
    (apply wpB_take (hw := rfl); (intro wq hq; obtain ⟨hcq, hfq⟩ := bcell hq; unfold atB; go_simp; exact ⟨rfl, rfl⟩); simp only [Act.put, List.setIfInBounds_toArray, List.set_cons_zero, List.set_cons_succ])
    (apply wpB_take (hw := rfl); (intro wq hq; obtain ⟨hcq, hfq⟩ := bcell hq; unfold atB; go_simp; exact ⟨rfl, rfl⟩); simp only [Act.put, List.setIfInBounds_toArray, List.set_cons_zero, List.set_cons_succ])
    (apply wpB_take (hw := rfl); (intro wq hq; obtain ⟨hcq, hfq⟩ := bcell hq; unfold atB; go_simp; exact ⟨rfl, rfl⟩); simp only [Act.put, List.setIfInBounds_toArray, List.set_cons_zero, List.set_cons_succ])
    (apply wpB_take (hw := rfl); (intro wq hq; obtain ⟨hcq, hfq⟩ := bcell hq; unfold atB; go_simp; exact ⟨rfl, rfl⟩); simp only [Act.put, List.setIfInBounds_toArray, List.set_cons_zero, List.set_cons_succ])
    refine fun w2 hb2 => ?_
    (obtain ⟨hc2, hf2⟩ := bcell hb2; have hz2 := hb2.size; (try simp only [World.size_alloc, World.size_setCell, World.size_drew] at hz2); have q2 : w.heap.size ≤ w2.heap.size := (by omega); (try have q2_0 : w.heap.size < w2.heap.size := (by omega)); (try have q2_1 : w.heap.size + 1 < w2.heap.size := (by omega)); (try have q2_2 : w.heap.size + 2 < w2.heap.size := (by omega)); (try have q2_3 : w.heap.size + 3 < w2.heap.size := (by omega)); (try have p2_1 : b1 < w2.heap.size := (by omega)); try simp only [Act.put, List.setIfInBounds_toArray, List.set_cons_zero, List.set_cons_succ])
    have hbw : Below w.heap.size w w2 := by (repeat' (first | (with_reducible exact Below.refl _ _) | (with_reducible assumption) | (with_reducible refine Below.alloc ?_ ?_ _) | (with_reducible refine Below.drew ?_) | (with_reducible refine below_drewN ?_ _) | (with_reducible refine Below.setCell ?_ ?_ _) | (with_reducible refine below_call ?_ ?_ (by assumption)) | go_size))
    have c0 : w2.cell? ⟨w.heap.size, 0, none⟩ = some (.int .i64 e) := (hc2 _ _ (by go_size)).trans ((hc1 _ _ (by go_size)).trans (by go_simp))
    have c1 : w2.cell? ⟨w.heap.size, 1, none⟩ = some (.int .i64 b) := (hc2 _ _ (by go_size)).trans ((hc1 _ _ (by go_size)).trans (by go_simp))
    have c2 : w2.cell? ⟨w.heap.size, 2, none⟩ = some (.int .i64 y) := (hc2 _ _ (by go_size)).trans ((hc1 _ _ (by go_size)).trans (by go_simp))
    have hsz : w.heap.size < w2.heap.size := by omega
    clear hc1 hf1 hc2 hf2
    go_wp2
    go_loopw [6] (fun u wr => (u = .int .i64 X ∨ (u = .int .i64 (X + e) ∧ X ≤ 1000000 ∧ leapB e b y X = false)) ∧ Below w2.heap.size w2 wr) (fun u _ => 3000000 - (intOf u).toNat)
    case atStart => exact ⟨.inl rfl, Below.refl _ _⟩
    case round =>
      obtain ⟨hu, hbr⟩ := hrel
      obtain ⟨hcr, hfr⟩ := bcell hbr
      have hzr := hbr.size
      have d0 : wr.cell? ⟨w.heap.size, 0, none⟩ = some (.int .i64 e) := (hcr _ _ hsz).trans c0
      have d1 : wr.cell? ⟨w.heap.size, 1, none⟩ = some (.int .i64 b) := (hcr _ _ hsz).trans c1
      have d2 : wr.cell? ⟨w.heap.size, 2, none⟩ = some (.int .i64 y) := (hcr _ _ hsz).trans c2
      have hsr : w.heap.size < wr.heap.size := by omega
      have hbwr : Below w.heap.size w wr := hbw.trans (hbr.mono (by omega))
      clear hcr hfr
      rcases hu with rfl | ⟨rfl, hX, hl⟩
      · by_cases hm : X ≤ 1000000
        · cases hl : leapB e b y X
          · have HL := Lib.hid hl
            go_wp2_with fail
            refine (CL.out X ⟨by omega, by omega⟩ _ hl _).mono ?_
            rintro e3 w3 ⟨rfl, hb3⟩
            obtain ⟨hc3, hf3⟩ := bcell hb3
            have hz3 := hb3.size
            have f0 : w3.cell? ⟨w.heap.size, 0, none⟩ = some (.int .i64 e) := (hc3 _ _ hsr).trans d0
            have hs3 : w.heap.size < w3.heap.size := by omega
            clear hc3 hf3
            go_wp2
            go_roundw
            case rel => exact ⟨.inr ⟨rfl, hm, by first | exact HL.out | trivial⟩, hbr.trans (hb3.mono (by omega))⟩
            case measure => simp [intOf]; omega
          · have HM := Lib.hid (show (X, true) = nlR e b y n from by rw [HE.out, HX.out, hl]; simp [hm])
            go_wp2_with fail
            refine (CL.out X ⟨by omega, by omega⟩ _ hl _).mono ?_
            rintro e3 w3 ⟨rfl, hb3⟩
            go_wp2
            go_ret2
            exact ⟨ret_dn HM.out, hbwr.trans (hb3.mono (by omega))⟩
        · have HM := Lib.hid (show (0, false) = nlR e b y n from by rw [HE.out, if_neg (by rw [HX.out]; split <;> omega)])
          go_wp2
          go_ret2
          exact ⟨ret_dn HM.out, hbwr⟩
      · have hZ : Z = X + e := by rw [HX.out, hl]; simp
        by_cases hm : X + e ≤ 1000000
        · have hl2 := HN.out hl
          have HM := Lib.hid (show (X + e, true) = nlR e b y n from by rw [HE.out, hZ, if_pos hm])
          clear hZ
          go_wp2_with fail
          refine (CL.out (X + e) ⟨by omega, by omega⟩ _ hl2 _).mono ?_
          rintro e3 w3 ⟨rfl, hb3⟩
          go_wp2
          go_ret2
          exact ⟨ret_dn HM.out, hbwr.trans (hb3.mono (by omega))⟩
        · have HM := Lib.hid (show (0, false) = nlR e b y n from by rw [HE.out, hZ, if_neg hm])
          clear hZ
          go_wp2
          go_ret2
          exact ⟨ret_dn HM.out, hbwr⟩

end Go.Proofs.Ythdkbjjpbdledaa
