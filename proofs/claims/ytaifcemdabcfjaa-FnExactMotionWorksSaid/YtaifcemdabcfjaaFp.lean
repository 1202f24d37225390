/- What is asked of a search; the first pair of a ratio: by the program and by the model. -/
import Derived.Test.YtaifcemdabcfjaaFstP
import Derived.Test.YtaifcemdabcfjaaWlM
set_option linter.unusedSimpArgs false
set_option linter.unusedVariables false
set_option maxRecDepth 100000
namespace Go.Proofs.Ytaifcemdabcfjaa
open Go.RowKit

def askB (num den most : Int) : Bool := inB num 1 1000 && inB den 1 1000 && wheelB most
theorem askB_bd {num den most : Int} (h : askB num den most = true) : (1 ≤ num ∧ num ≤ 1000) ∧ (1 ≤ den ∧ den ≤ 1000) ∧ 6 ≤ most ∧ most ≤ 120 := by
  simp only [askB, wheelB, Bool.and_eq_true] at h
  exact ⟨inB_bd h.1.1, inB_bd h.1.2, inB_bd h.2⟩
set_option maxHeartbeats 800000 in
theorem isSearch_is {b : Bool} (num den most : Int) (h : askB num den most = b) (w : World) :
    Calls Try.prog 75 #[.int .i64 num, .int .i64 den, .int .i64 most] w fun e w' => e = .returned (.bool b) ∧ w = w' := by
  subst h
  cases h1 : inB num 1 1000
  · (go_enter Try.func75, Try.ntmps75)
    go_wp2_with fail
    refine (isWithin_is _ _ _ h1 _).mono ?_
    (rintro e1 w1 ⟨rfl, rfl⟩)
    go_wp2
    go_ret
    exact ⟨ret_bool (by simp [askB, h1]), rfl⟩
  · cases h2 : inB den 1 1000
    · (go_enter Try.func75, Try.ntmps75)
      go_wp2_with fail
      refine (isWithin_is _ _ _ h1 _).mono ?_
      (rintro e1 w1 ⟨rfl, rfl⟩)
      go_wp2_with fail
      refine (isWithin_is _ _ _ h2 _).mono ?_
      (rintro e1 w1 ⟨rfl, rfl⟩)
      go_wp2
      go_ret
      exact ⟨ret_bool (by simp [askB, h1, h2]), rfl⟩
    · (go_enter Try.func75, Try.ntmps75)
      go_wp2_with fail
      refine (isWithin_is _ _ _ h1 _).mono ?_
      (rintro e1 w1 ⟨rfl, rfl⟩)
      go_wp2_with fail
      refine (isWithin_is _ _ _ h2 _).mono ?_
      (rintro e1 w1 ⟨rfl, rfl⟩)
      go_wp2_with fail
      refine (isTeeth_is _ rfl _).mono ?_
      (rintro e1 w1 ⟨rfl, rfl⟩)
      go_wp2
      go_ret
      exact ⟨ret_bool (by simp [askB, h1, h2]), rfl⟩
set_option maxHeartbeats 800000 in
theorem geAsked_is {b : Bool} (num den most : Int) (h : askB num den most = b) (w : World) :
    Calls Try.prog 74 #[.int .i64 num, .int .i64 den, .int .i64 most] w fun e w' => e = .returned (.bool b) ∧ w = w' := by
  subst h
  cases h1 : inB num 1 1000
  · (go_enter Try.func74, Try.ntmps74)
    go_wp2_with fail
    refine (l1In_is _ _ _ h1 _).mono ?_
    (rintro e1 w1 ⟨rfl, rfl⟩)
    go_wp2
    go_ret
    exact ⟨ret_bool (by simp [askB, h1]), rfl⟩
  · cases h2 : inB den 1 1000
    · (go_enter Try.func74, Try.ntmps74)
      go_wp2_with fail
      refine (l1In_is _ _ _ h1 _).mono ?_
      (rintro e1 w1 ⟨rfl, rfl⟩)
      go_wp2_with fail
      refine (l1In_is _ _ _ h2 _).mono ?_
      (rintro e1 w1 ⟨rfl, rfl⟩)
      go_wp2
      go_ret
      exact ⟨ret_bool (by simp [askB, h1, h2]), rfl⟩
    · (go_enter Try.func74, Try.ntmps74)
      go_wp2_with fail
      refine (l1In_is _ _ _ h1 _).mono ?_
      (rintro e1 w1 ⟨rfl, rfl⟩)
      go_wp2_with fail
      refine (l1In_is _ _ _ h2 _).mono ?_
      (rintro e1 w1 ⟨rfl, rfl⟩)
      go_wp2_with fail
      refine (geWheel_is _ rfl _).mono ?_
      (rintro e1 w1 ⟨rfl, rfl⟩)
      go_wp2
      go_ret
      exact ⟨ret_bool (by simp [askB, h1, h2]), rfl⟩
def fpR (num den most : Int) : Int × Int × Bool := if askB num den most then headR (clA num den most (most - 5).toNat) else (0, 0, false)
set_option maxHeartbeats 1600000 in
theorem implFirstPair_any (num den most : Int) (w : World) :
    Calls Try.prog 42 #[.int .i64 num, .int .i64 den, .int .i64 most] w fun e w' => e = .returned (pv (fpR num den most)) ∧ Below w.heap.size w w' := by
  cases ha : askB num den most
  · have HM := Lib.hid (show (0, 0, false) = fpR num den most from by simp [fpR, ha])
    (go_enter Try.func42, Try.ntmps42)
    go_wp2_with fail
    refine (isSearch_is _ _ _ ha _).mono ?_
    (rintro e1 w1 ⟨rfl, rfl⟩)
    go_wp2
    (refine bodyPost_ret (by simp [results, Try.results42, go_sem, *]; try rfl) rfl ?_)
    exact ⟨ret_pv HM.out, by (repeat' (first | (with_reducible exact Below.refl _ _) | (with_reducible assumption) | (with_reducible refine Below.alloc ?_ ?_ _) | (with_reducible refine Below.drew ?_) | (with_reducible refine below_drewN ?_ _) | (with_reducible refine Below.setCell ?_ ?_ _) | (with_reducible refine below_call ?_ ?_ (by assumption)) | go_size))⟩
  · obtain ⟨⟨a1, a2⟩, ⟨b1, b2⟩, m1, m2⟩ := askB_bd ha
    obtain ⟨n, hn⟩ := Int.eq_ofNat_of_zero_le (show 0 ≤ most - 5 by omega)
    have hmn : most = 5 + (n : Int) := by omega
    have HM := Lib.hid (show headR (wlK (spN num den) (spD num den) (wlN (spN num den) (spD num den) most)) = fpR num den most from by
      rw [hmn, wl_eq a1 b1 (by omega), fpR, if_pos (by rw [← hmn]; exact ha), show (5 + (n : Int) - 5).toNat = n by omega])
    obtain ⟨⟨kp1, kp2⟩, kq1, kq2⟩ := sp_pos num den a1 b1
    have CL := fun w => lowestRatio_any num den (by omega) (by omega) b1 (by omega) w
    have CL := Lib.hid CL
    clear hmn hn n
    generalize spN num den = P at *
    generalize spD num den = Q at *
    (go_enter Try.func42, Try.ntmps42)
    go_wp2_with fail
    refine (isSearch_is _ _ _ ha _).mono ?_
    (rintro e1 w1 ⟨rfl, rfl⟩)
    go_wp2_with fail
    refine (CL.out _).mono ?_
    (rintro e1 w1 ⟨rfl, hb1⟩; obtain ⟨hc1, hf1⟩ := bcell hb1; have hz1 := hb1.size; (try simp only [World.size_alloc, World.size_setCell, World.size_drew] at hz1); have q1 : w.heap.size ≤ w1.heap.size := (by omega); (try have q1_0 : w.heap.size < w1.heap.size := (by omega)); (try have q1_1 : w.heap.size + 1 < w1.heap.size := (by omega)); (try have q1_2 : w.heap.size + 2 < w1.heap.size := (by omega)); (try have q1_3 : w.heap.size + 3 < w1.heap.size := (by omega)))
    go_wp2_with fail
    refine (pairsWith_makes P Q most _).mono ?_
    rintro e2 w2 ⟨rfl, rfl⟩
    have hse := pairsWith_seqs P Q most ⟨kp1, by omega⟩ ⟨kq1, by omega⟩ ⟨by omega, m2⟩ w1.heap.size (w1.heap.size + 1) ((w1.alloc (.cells #[.int .i64 P, .int .i64 Q] 63)).alloc (.cells #[.int .i64 most] 3)) (by simp; omega) (by simp) (by go_simp) (by go_simp) (by go_simp)
    have CF := fun w hb => firstOf_pair _ (enters_of Try.func102 (by kernel_rfl) rfl) hse (by rintro k (rfl | rfl) <;> simp <;> omega) w hb
    have CF := Lib.hid CF
    clear hse
    go_wp2_with fail
    refine (CF.out _ (Below.refl _ _)).mono ?_
    (rintro e3 w3 ⟨rfl, hb3⟩; obtain ⟨hc3, hf3⟩ := bcell hb3; have hz3 := hb3.size; (try simp only [World.size_alloc, World.size_setCell, World.size_drew] at hz3); have q3 : w.heap.size ≤ w3.heap.size := (by omega); (try have q3_0 : w.heap.size < w3.heap.size := (by omega)); (try have q3_1 : w.heap.size + 1 < w3.heap.size := (by omega)); (try have q3_2 : w.heap.size + 2 < w3.heap.size := (by omega)); (try have q3_3 : w.heap.size + 3 < w3.heap.size := (by omega)); (try have q3_1_0 : w1.heap.size < w3.heap.size := (by omega)); (try have q3_1_1 : w1.heap.size + 1 < w3.heap.size := (by omega)); (try have q3_2_0 : w2.heap.size < w3.heap.size := (by omega)); (try have q3_2_1 : w2.heap.size + 1 < w3.heap.size := (by omega)))
    have c3_0_0 : w3.cell? ⟨w.heap.size, 0, none⟩ = some (.int .i64 0) := (hc3 _ _ (by first | go_size | (simp; omega) | simp)).trans (by go_simp)
    have f3_0_0 : w3.frozen? ⟨w.heap.size, 0, none⟩ = false := (hf3 _ _ (by first | go_size | (simp; omega) | simp)).trans (by go_simp)
    have c3_0_1 : w3.cell? ⟨w.heap.size, 1, none⟩ = some (.int .i64 0) := (hc3 _ _ (by first | go_size | (simp; omega) | simp)).trans (by go_simp)
    have f3_0_1 : w3.frozen? ⟨w.heap.size, 1, none⟩ = false := (hf3 _ _ (by first | go_size | (simp; omega) | simp)).trans (by go_simp)
    go_wp2
    (refine bodyPost_ret (by simp [results, Try.results42, go_sem, *]; try rfl) rfl ?_)
    exact ⟨ret_pv HM.out, by (repeat' (first | (with_reducible exact Below.refl _ _) | (with_reducible assumption) | (with_reducible refine Below.alloc ?_ ?_ _) | (with_reducible refine Below.drew ?_) | (with_reducible refine below_drewN ?_ _) | (with_reducible refine Below.setCell ?_ ?_ _) | (with_reducible refine below_call ?_ ?_ (by assumption)) | go_size))⟩
theorem headR_found {N D m : Int} {k n : Nat} (hk : k < n) (h0 : clA N D m k = []) (h : candB N D m (6 + (k : Int)) = true) : headR (clA N D m n) = (6 + (k : Int), (6 + (k : Int)) * D / N, true) := by
  refine headR_pre (x := (6 + (k : Int), (6 + (k : Int)) * D / N)) ?_
  have := clA_pre N D m (k := k + 1) (K := n) (by omega)
  rwa [show clA N D m (k + 1) = [(6 + (k : Int), (6 + (k : Int)) * D / N)] by simp [clA, h0, clE, h]] at this
theorem clA_none {N D m : Int} {k : Nat} (h0 : clA N D m k = []) (h : candB N D m (6 + (k : Int)) = false) : clA N D m (k + 1) = [] := by
  simp [clA, h0, clE, h]
set_option maxHeartbeats 3200000 in
theorem specFirstPair_any (num den most : Int) (w : World) :
    Calls Try.prog 41 #[.int .i64 num, .int .i64 den, .int .i64 most] w fun e w' => e = .returned (pv (fpR num den most)) ∧ Below w.heap.size w w' := by
  cases ha : askB num den most
  · have HM := Lib.hid (show (0, 0, false) = fpR num den most from by simp [fpR, ha])
    (go_enter Try.func41, Try.ntmps41)
    go_wp2_with fail
    refine (geAsked_is _ _ _ ha _).mono ?_
    (rintro e1 w1 ⟨rfl, rfl⟩)
    go_wp2
    (refine bodyPost_ret (by simp [results, Try.results41, go_sem, *]; try rfl) rfl ?_)
    exact ⟨ret_pv HM.out, by (repeat' (first | (with_reducible exact Below.refl _ _) | (with_reducible assumption) | (with_reducible refine Below.alloc ?_ ?_ _) | (with_reducible refine Below.drew ?_) | (with_reducible refine below_drewN ?_ _) | (with_reducible refine Below.setCell ?_ ?_ _) | (with_reducible refine below_call ?_ ?_ (by assumption)) | go_size))⟩
  · obtain ⟨⟨a1, a2⟩, ⟨b1, b2⟩, m1, m2⟩ := askB_bd ha
    have HM := Lib.hid (show headR (clA num den most (most - 5).toNat) = fpR num den most from by simp [fpR, ha])
    have nne : ¬ num = 0 := by omega
    (go_enter Try.func41, Try.ntmps41)
    go_wp2_with fail
    refine (geAsked_is _ _ _ ha _).mono ?_
    (rintro e1 w1 ⟨rfl, rfl⟩)
    go_wp2
    go_loopw [8] (fun i wr => ∃ (k : Nat) (c : Int), c = 6 + (k : Int) ∧ c ≤ most + 1 ∧ i = .int .i64 c ∧ clA num den most k = [] ∧ Below w.heap.size w wr ∧ CellsAt wr [(w.heap.size, 0, .int .i64 0), (w.heap.size, 1, .int .i64 0)]) (fun i _ => (most + 1 - intOf i).toNat)
    case atStart =>
      refine ⟨0, 6, rfl, by omega, rfl, rfl, by (repeat' (first | (with_reducible exact Below.refl _ _) | (with_reducible assumption) | (with_reducible refine Below.alloc ?_ ?_ _) | (with_reducible refine Below.drew ?_) | (with_reducible refine below_drewN ?_ _) | (with_reducible refine Below.setCell ?_ ?_ _) | (with_reducible refine below_call ?_ ?_ (by assumption)) | go_size)), ?_⟩
      intro p hp
      simp only [List.mem_cons, List.not_mem_nil, or_false] at hp
      rcases hp with rfl | rfl
      all_goals exact ⟨by go_size, by go_simp, by go_simp⟩

    case round =>
      obtain ⟨k, c, hc, hc2, rfl, h0, hbel, hcell⟩ := hrel
      have hz := hbel.size
      have rc0 : wr.cell? ⟨w.heap.size, 0, none⟩ = some (.int .i64 0) := (hcell (w.heap.size, 0, .int .i64 0) (by simp)).2.1
      have rf0 : wr.frozen? ⟨w.heap.size, 0, none⟩ = false := (hcell (w.heap.size, 0, .int .i64 0) (by simp)).2.2
      have rs0 : w.heap.size < wr.heap.size := (hcell (w.heap.size, 0, .int .i64 0) (by simp)).1
      have rc1 : wr.cell? ⟨w.heap.size, 1, none⟩ = some (.int .i64 0) := (hcell (w.heap.size, 1, .int .i64 0) (by simp)).2.1
      have rf1 : wr.frozen? ⟨w.heap.size, 1, none⟩ = false := (hcell (w.heap.size, 1, .int .i64 0) (by simp)).2.2
      have c1 : 6 ≤ c := by omega
      by_cases hlt : c ≤ most
      · obtain ⟨x1, x2⟩ := mulb (show 0 ≤ c by omega) (show c ≤ 120 by omega) (show 0 ≤ den by omega) b2
        have HC := Lib.hid hc
        have H0 := Lib.hid h0
        have HCe := Lib.hid hcell
        have HI := Lib.hid (show candB num den most (6 + (k : Int)) = decide (c * den % num = 0 ∧ 6 ≤ c * den / num ∧ c * den / num ≤ most) by rw [← hc]; rfl)
        have E1 : IntKind.i64.wrap ((c * den).tdiv num) = c * den / num := q64 x1 (by omega) a1
        have y0 : 0 ≤ c * den / num := Int.ediv_nonneg x1 (by omega)
        have y1 : c * den / num ≤ c * den := Int.ediv_le_self _ x1
        clear hc h0 hcell
        by_cases hm : c * den % num = 0
        · cases hb : inB (c * den / num) 6 most
          · have HN := Lib.hid (show candB num den most (6 + (k : Int)) = false from by rw [HI.out, decide_eq_false_iff_not]; simp [inB] at hb; omega)
            go_wp2_with fail
            refine (l1In_is _ _ _ hb _).mono ?_
            (rintro e1 w1 ⟨rfl, rfl⟩)
            go_wp2
            go_roundw
            case rel => exact ⟨k + 1, c + 1, by have := HC.out; omega, by omega, rfl, clA_none H0.out HN.out, hbel, HCe.out⟩
            case measure => simp [intOf]; omega
          · have HN := Lib.hid (show (c, c * den / num, true) = fpR num den most from by
              have e := headR_found (N := num) (D := den) (m := most) (k := k) (n := (most - 5).toNat) (by have := HC.out; omega) H0.out (by rw [HI.out, decide_eq_true_eq]; have := inB_bd hb; omega)
              rw [← HM.out, e, ← HC.out])
            go_wp2_with fail
            refine (l1In_is _ _ _ hb _).mono ?_
            (rintro e1 w1 ⟨rfl, rfl⟩)
            go_wp2
            (refine bodyPost_ret (by simp [results, Try.results41, go_sem, *]; try rfl) rfl ?_)
            exact ⟨ret_pv HN.out, by (repeat' (first | (with_reducible exact Below.refl _ _) | (with_reducible assumption) | (with_reducible refine Below.alloc ?_ ?_ _) | (with_reducible refine Below.drew ?_) | (with_reducible refine below_drewN ?_ _) | (with_reducible refine Below.setCell ?_ ?_ _) | (with_reducible refine below_call ?_ ?_ (by assumption)) | go_size))⟩
        · have HN := Lib.hid (show candB num den most (6 + (k : Int)) = false from by rw [HI.out, decide_eq_false_iff_not]; omega)
          go_wp2
          go_roundw
          case rel => exact ⟨k + 1, c + 1, by have := HC.out; omega, by omega, rfl, clA_none H0.out HN.out, hbel, HCe.out⟩
          case measure => simp [intOf]; omega
      · have HN := Lib.hid (show (0, 0, false) = fpR num den most from by
          rw [← HM.out, show (most - 5).toNat = k by omega, h0]; rfl)
        clear hc h0 hcell
        go_wp2
        (refine bodyPost_ret (by simp [results, Try.results41, go_sem, *]; try rfl) rfl ?_)
        exact ⟨ret_pv HN.out, by (repeat' (first | (with_reducible exact Below.refl _ _) | (with_reducible assumption) | (with_reducible refine Below.alloc ?_ ?_ _) | (with_reducible refine Below.drew ?_) | (with_reducible refine below_drewN ?_ _) | (with_reducible refine Below.setCell ?_ ?_ _) | (with_reducible refine below_call ?_ ?_ (by assumption)) | go_size))⟩
end Go.Proofs.Ytaifcemdabcfjaa
