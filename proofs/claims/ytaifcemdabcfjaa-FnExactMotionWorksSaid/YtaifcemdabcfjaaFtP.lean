/- The first train with a ratio: by the program and by the model. -/
import Derived.Test.YtaifcemdabcfjaaGeT1
set_option linter.unusedSimpArgs false
set_option linter.unusedVariables false
set_option maxRecDepth 100000
namespace Go.Proofs.Ytaifcemdabcfjaa
open Go.RowKit

def ftR (fw : Bool) (num den most : Int) : Option Tr := if askB num den most then bestT fw (trainsL num den (most - 5).toNat) else none
theorem TrainOut.none {w0 w' : World} (h : Below w0.heap.size w0 w') : TrainOut w0.heap.size w0 none (.returned (.tuple #[.slice none 0 0, .bool false])) w' :=
  ⟨_, rfl, World.ownsRow_nil _ _ _ _, h⟩
theorem trL_len (r : Option Tr) : (trL r).length ≤ 2000000 := by cases r <;> simp [trL]
theorem ft_n {num den most : Int} (ha : askB num den most = true) : ∃ n : Nat, most = 5 + (n : Int) ∧ n ≤ 115 ∧ (most - 5).toNat = n := by
  obtain ⟨-, -, m1, m2⟩ := askB_bd ha
  exact ⟨(most - 5).toNat, by omega, by omega, rfl⟩
set_option maxHeartbeats 1600000 in
theorem implFirstTrain_any (num den most : Int) (w : World) :
    Calls Try.prog 45 #[.int .i64 num, .int .i64 den, .int .i64 most] w (TrainOut w.heap.size w (ftR false num den most)) := by
  cases ha : askB num den most
  · have HM := Lib.hid (show ftR false num den most = none from by simp [ftR, ha])
    (go_enter Try.func45, Try.ntmps45)
    go_wp2_with fail
    refine (isSearch_is _ _ _ ha _).mono ?_
    (rintro e1 w1 ⟨rfl, rfl⟩)
    go_wp2
    go_ret2
    rw [HM.out]
    exact TrainOut.none (by (repeat' (first | (with_reducible exact Below.refl _ _) | (with_reducible assumption) | (with_reducible refine Below.alloc ?_ ?_ _) | (with_reducible refine Below.drew ?_) | (with_reducible refine below_drewN ?_ _) | (with_reducible refine Below.setCell ?_ ?_ _) | (with_reducible refine below_call ?_ ?_ (by assumption)) | go_size)))
  · obtain ⟨⟨a1, a2⟩, ⟨b1, b2⟩, m1, m2⟩ := askB_bd ha
    obtain ⟨n, rfl, hn, hn2⟩ := ft_n ha
    have HM := Lib.hid (show ftR false num den (5 + (n : Int)) = (trainsL num den n).head? from by rw [ftR, if_pos ha, bestT_first, hn2])
    have CL := fun w => lowestRatio_any num den (by omega) (by omega) b1 (by omega) w
    have CL := Lib.hid CL
    (go_enter Try.func45, Try.ntmps45)
    go_wp2_with fail
    refine (isSearch_is _ _ _ ha _).mono ?_
    (rintro e1 w1 ⟨rfl, rfl⟩)
    go_wp2_with fail
    refine (CL.out _).mono ?_
    (rintro e1 w1 ⟨rfl, hb1⟩; obtain ⟨hc1, hf1⟩ := bcell hb1; have hz1 := hb1.size; (try simp only [World.size_alloc, World.size_setCell, World.size_drew] at hz1); have q1 : w.heap.size ≤ w1.heap.size := (by omega); (try have q1_0 : w.heap.size < w1.heap.size := (by omega)); (try have q1_1 : w.heap.size + 1 < w1.heap.size := (by omega)); (try have q1_2 : w.heap.size + 2 < w1.heap.size := (by omega)); (try have q1_3 : w.heap.size + 3 < w1.heap.size := (by omega)))
    go_wp2_with fail
    refine (trainsOfTwo_makes _ _ _ _).mono ?_
    rintro e2 w2 ⟨rfl, hw2⟩
    have hb2 : Below w1.heap.size w1 w2 := by rw [hw2]; (repeat' (first | (with_reducible exact Below.refl _ _) | (with_reducible assumption) | (with_reducible refine Below.alloc ?_ ?_ _) | (with_reducible refine Below.drew ?_) | (with_reducible refine below_drewN ?_ _) | (with_reducible refine Below.setCell ?_ ?_ _) | (with_reducible refine below_call ?_ ?_ (by assumption)) | go_size))
    have hs2 : w2.heap.size = w1.heap.size + 2 := by rw [hw2]; simp
    have hc2 : CellsAt w2 [(w1.heap.size, 0, .int .i64 (spN num den)), (w1.heap.size, 1, .int .i64 (spD num den)), (w1.heap.size + 1, 0, .int .i64 (5 + (n : Int)))] := by
      rw [hw2]
      intro p hp
      simp only [List.mem_cons, List.not_mem_nil, or_false] at hp
      rcases hp with rfl | rfl | rfl
      all_goals exact ⟨by simp only [World.size_alloc]; omega, by go_simp, by go_simp⟩
    have hse := trainsOfTwo_seqs num den ⟨a1, a2⟩ ⟨b1, b2⟩ n hn w1.heap.size (w1.heap.size + 1) w2 hc2
    have CF := firstOf_train _ (enters_of Try.func104 (by kernel_rfl) rfl) hse (by rintro k (rfl | rfl) <;> omega) w2 (Below.refl _ _)
    have CF := Lib.hid CF
    have hq1 := hb1.size
    have hbw : Below w.heap.size w w2 := hb1.trans (hb2.mono hb1.size)
    clear hse hw2 hc2
    go_wp2_with fail
    refine CF.out.mono ?_
    rintro e3 w3 ⟨v, rfl, hr, hb3⟩
    have HR := Lib.hid hr
    clear hr
    go_wp2
    go_ret2
    rw [HM.out]
    exact ⟨_, rfl, HR.out.mono (by omega), hbw.trans (hb3.mono hbw.size)⟩
set_option maxHeartbeats 1600000 in
theorem specFirstTrain_any (num den most : Int) (w : World) :
    Calls Try.prog 44 #[.int .i64 num, .int .i64 den, .int .i64 most] w (TrainOut w.heap.size w (ftR false num den most)) := by
  cases ha : askB num den most
  · have HM := Lib.hid (show ftR false num den most = none from by simp [ftR, ha])
    (go_enter Try.func44, Try.ntmps44)
    go_wp2_with fail
    refine (geAsked_is _ _ _ ha _).mono ?_
    (rintro e1 w1 ⟨rfl, rfl⟩)
    go_wp2
    go_ret2
    rw [HM.out]
    exact TrainOut.none (by (repeat' (first | (with_reducible exact Below.refl _ _) | (with_reducible assumption) | (with_reducible refine Below.alloc ?_ ?_ _) | (with_reducible refine Below.drew ?_) | (with_reducible refine below_drewN ?_ _) | (with_reducible refine Below.setCell ?_ ?_ _) | (with_reducible refine below_call ?_ ?_ (by assumption)) | go_size)))
  · obtain ⟨⟨a1, a2⟩, ⟨b1, b2⟩, m1, m2⟩ := askB_bd ha
    obtain ⟨n, rfl, hn, hn2⟩ := ft_n ha
    have HM := Lib.hid (show ftR false num den (5 + (n : Int)) = (trainsL num den n).head? from by rw [ftR, if_pos ha, bestT_first, hn2])
    have CF := fun w => geTrains_first num den n ⟨a1, a2⟩ ⟨b1, b2⟩ hn w
    rw [← HM.out] at CF
    have CF := Lib.hid CF
    clear HM
    generalize ftR false num den (5 + (n : Int)) = r at *
    (go_enter Try.func44, Try.ntmps44)
    go_wp2_with fail
    refine (geAsked_is _ _ _ ha _).mono ?_
    (rintro e1 w1 ⟨rfl, rfl⟩)
    go_wp2_with fail
    refine (CF.out _).mono ?_
    rintro e1 w1 ⟨v, rfl, hr, hb1⟩
    have HR := Lib.hid hr
    clear hr
    cases r with
    | none =>
      simp only [Option.isSome_none]
      go_wp2
      go_ret2
      exact TrainOut.none hb1
    | some t =>
      simp only [Option.isSome_some]
      go_wp2
      go_ret2
      exact ⟨_, rfl, HR.out t rfl, hb1⟩
end Go.Proofs.Ytaifcemdabcfjaa
