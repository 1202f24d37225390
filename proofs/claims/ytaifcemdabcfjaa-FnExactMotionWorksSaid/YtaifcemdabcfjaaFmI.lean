/- The first motion work with the fewest teeth: by the program. -/
import Derived.Test.YtaifcemdabcfjaaItW
set_option linter.unusedSimpArgs false
set_option linter.unusedVariables false
set_option maxRecDepth 100000
namespace Go.Proofs.Ytaifcemdabcfjaa
open Go.RowKit

set_option maxHeartbeats 400000 in
theorem isDial_is {b : Bool} (n : Int) (h : inB n 2 24 = b) (w : World) :
    Calls Try.prog 95 #[.int .i64 n] w fun e w' => e = .returned (.bool b) ∧ w = w' := by
  (go_enter Try.func95, Try.ntmps95)
  go_wp2_with fail
  refine (isWithin_is _ _ _ h _).mono ?_
  (rintro e1 w1 ⟨rfl, rfl⟩)
  go_wp2
  go_ret
  exact ⟨rfl, rfl⟩
set_option maxHeartbeats 400000 in
theorem diHours_is {b : Bool} (n : Int) (h : inB n 2 24 = b) (w : World) :
    Calls Try.prog 92 #[.int .i64 n] w fun e w' => e = .returned (.bool b) ∧ w = w' := by
  (go_enter Try.func92, Try.ntmps92)
  go_wp2_with fail
  refine (l1In_is _ _ _ h _).mono ?_
  (rintro e1 w1 ⟨rfl, rfl⟩)
  go_wp2
  go_ret
  exact ⟨rfl, rfl⟩
/-- What is asked of motion works. -/
def askW (h most : Int) : Bool := inB h 2 24 && wheelB most
theorem askW_bd {h most : Int} (hh : askW h most = true) : (2 ≤ h ∧ h ≤ 24) ∧ 6 ≤ most ∧ most ≤ 120 := by
  simp only [askW, wheelB, Bool.and_eq_true] at hh
  exact ⟨inB_bd hh.1, inB_bd hh.2⟩
def fmR (h most : Int) : Option Tr := if askW h most then bestT true (worksL h (most - 5).toNat) else none
theorem works_ok {h : Int} {n : Nat} (hn : n ≤ 115) {t : Tr} (ht : t ∈ worksL h n) : okTr t := okTr_trainsL hn (List.mem_filter.1 ht).1
theorem fm_n {h most : Int} (ha : askW h most = true) : ∃ n : Nat, most = 5 + (n : Int) ∧ n ≤ 115 ∧ (most - 5).toNat = n := by
  obtain ⟨-, h1, h2⟩ := askW_bd ha
  exact ⟨(most - 5).toNat, by omega, by omega, rfl⟩
set_option maxHeartbeats 1600000 in
theorem implFirstMotionWork_any (h most : Int) (w : World) :
    Calls Try.prog 56 #[.int .i64 h, .int .i64 most] w (TrainOut w.heap.size w (fmR h most)) := by
  cases hh : inB h 2 24
  · have HM := Lib.hid (show fmR h most = none from by simp [fmR, askW, hh])
    (go_enter Try.func56, Try.ntmps56)
    go_wp2_with fail
    refine (isDial_is _ hh _).mono ?_
    (rintro e1 w1 ⟨rfl, rfl⟩)
    go_wp2
    go_ret2
    rw [HM.out]; exact TrainOut.none (by (repeat' (first | (with_reducible exact Below.refl _ _) | (with_reducible assumption) | (with_reducible refine Below.alloc ?_ ?_ _) | (with_reducible refine Below.drew ?_) | (with_reducible refine below_drewN ?_ _) | (with_reducible refine Below.setCell ?_ ?_ _) | (with_reducible refine below_call ?_ ?_ (by assumption)) | go_size)))
  · cases hw : wheelB most
    · have HM := Lib.hid (show fmR h most = none from by simp [fmR, askW, hw])
      (go_enter Try.func56, Try.ntmps56)
      go_wp2_with fail
      refine (isDial_is _ hh _).mono ?_
      (rintro e1 w1 ⟨rfl, rfl⟩)
      go_wp2_with fail
      refine (isTeeth_is _ hw _).mono ?_
      (rintro e1 w1 ⟨rfl, rfl⟩)
      go_wp2
      go_ret2
      rw [HM.out]; exact TrainOut.none (by (repeat' (first | (with_reducible exact Below.refl _ _) | (with_reducible assumption) | (with_reducible refine Below.alloc ?_ ?_ _) | (with_reducible refine Below.drew ?_) | (with_reducible refine below_drewN ?_ _) | (with_reducible refine Below.setCell ?_ ?_ _) | (with_reducible refine below_call ?_ ?_ (by assumption)) | go_size)))
    · have ha : askW h most = true := by simp [askW, hh, hw]
      obtain ⟨⟨h1, h2⟩, m1, m2⟩ := askW_bd ha
      obtain ⟨n, rfl, hn, hn2⟩ := fm_n ha
      have HM := Lib.hid (show fmR h (5 + (n : Int)) = bestT true (worksL h n) from by rw [fmR, if_pos ha, hn2])
      (go_enter Try.func56, Try.ntmps56)
      go_wp2_with fail
      refine (isDial_is _ hh _).mono ?_
      (rintro e1 w1 ⟨rfl, rfl⟩)
      go_wp2_with fail
      refine (isTeeth_is _ hw _).mono ?_
      (rintro e1 w1 ⟨rfl, rfl⟩)
      go_wp2_with fail
      refine (worksOf_makes _ _ _).mono ?_
      rintro e2 w2 ⟨rfl, hw2⟩
      have hb2 : Below w.heap.size w w2 := by rw [hw2]; (repeat' (first | (with_reducible exact Below.refl _ _) | (with_reducible assumption) | (with_reducible refine Below.alloc ?_ ?_ _) | (with_reducible refine Below.drew ?_) | (with_reducible refine below_drewN ?_ _) | (with_reducible refine Below.setCell ?_ ?_ _) | (with_reducible refine below_call ?_ ?_ (by assumption)) | go_size))
      have hs2 : w2.heap.size = w.heap.size + 2 := by rw [hw2]; simp
      have hc2 : CellsAt w2 [(w.heap.size, 0, .int .i64 h), (w.heap.size + 1, 0, .int .i64 (5 + (n : Int)))] := by
        rw [hw2]
        intro p hp
        simp only [List.mem_cons, List.not_mem_nil, or_false] at hp
        rcases hp with rfl | rfl
        all_goals exact ⟨by simp only [World.size_alloc]; omega, by go_simp, by go_simp⟩
      have hse := worksOf_seqs h ⟨by omega, by omega⟩ n hn w.heap.size (w.heap.size + 1) w2 hc2
      have CF := leastOf_train _ (fun t ht => works_ok hn ht) (enters_of Try.func108 (by kernel_rfl) rfl) hse (by rintro k (rfl | rfl) <;> omega) w2 (Below.refl _ _)
      have CF := Lib.hid CF
      clear hse hw2 hc2
      go_wp2_with fail
      refine CF.out.mono ?_
      rintro e3 w3 ⟨v, rfl, hr, hb3⟩
      have HR := Lib.hid hr
      clear hr
      go_wp2
      go_ret2
      rw [HM.out]
      exact ⟨_, rfl, HR.out.mono (by omega), hb2.trans (hb3.mono hb2.size)⟩
end Go.Proofs.Ytaifcemdabcfjaa
