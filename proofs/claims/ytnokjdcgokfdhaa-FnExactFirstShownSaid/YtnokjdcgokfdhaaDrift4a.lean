/- When clocks agree, by the model. -/
import Derived.Test.YtnokjdcgokfdhaaDrift3
import Derived.BigRegion
set_option linter.unusedSimpArgs false
set_option linter.unusedVariables false
set_option maxRecDepth 100000
namespace Go.Proofs.Ytnokjdcgokfdhaa
open Go.RowKit

theorem diAdd_low (an ad bn bd : Int) (ga : 1 ≤ ad ∧ ad ≤ 1000 ∧ 0 ≤ an ∧ an ≤ 999) (gb : 1 ≤ bd ∧ bd ≤ 1000 ∧ 0 ≤ bn ∧ bn ≤ 999) (w : World) :
    Calls Try.prog 88 #[tv an ad, tv bn bd, .int .i64 (-1)] w fun e w' => e = .returned (.tuple #[tv (lowNum (an * bd - bn * ad) (ad * bd)) (lowDen (an * bd - bn * ad) (ad * bd)), .bool true]) ∧ Below w.heap.size w w' := by
  obtain ⟨a1, a2, a3, a4⟩ := ga
  obtain ⟨b1, b2, b3, b4⟩ := gb
  have h := diAdd_less an ad bn bd ⟨by omega, by omega, by omega, by omega⟩ ⟨by omega, by omega, by omega, by omega⟩ w
  obtain ⟨p1, p2⟩ := mulb (show 0 ≤ ad by omega) a2 (show 0 ≤ bd by omega) b2
  rw [low_fits _ _ (Int.mul_pos (by omega) (by omega)) (by omega)] at h
  exact h

set_option maxHeartbeats 1600000 in
theorem drApart_any (an ad ap aq bn bd bp bq : Int) (ga : clockB an ad ap aq = true) (gb : clockB bn bd bp bq = true) (w : World) :
    Calls Try.prog 78 #[cv an ad ap aq, cv bn bd bp bq] w fun e w' => e = .returned (.tuple #[tv (lowNum (an * bd - bn * ad) (ad * bd)) (lowDen (an * bd - bn * ad) (ad * bd)), .int .i64 (gainI ap aq bp bq), .int .i64 (aq * bq)]) ∧ Below w.heap.size w w' := by
  obtain ⟨⟨a1, a2, a3, a4⟩, ⟨a5, a6⟩, ⟨a7, a8⟩, a9, a10⟩ := clockB_bd ga
  obtain ⟨⟨b1, b2, b3, b4⟩, ⟨b5, b6⟩, ⟨b7, b8⟩, b9, b10⟩ := clockB_bd gb
  obtain ⟨⟨g1, g2⟩, ⟨g3, g4⟩, ⟨g5, g6⟩, g7, g8⟩ := gain_bd ⟨a5, a6⟩ ⟨a7, a8⟩ ⟨b5, b6⟩ ⟨b7, b8⟩
  unfold gainI at g7 g8
  have hw1 := w64 (n := ap * bq) (by omega)
  have hw2 := w64 (n := bp * aq) (by omega)
  have hw3 := w64 (n := ap * bq - bp * aq) (by omega)
  have hw4 := w64 (n := aq * bq) (by omega)
  (go_enter Try.func78, Try.ntmps78)
  go_wp2_with fail
  refine (diAdd_low an ad bn bd ⟨by omega, by omega, by omega, by omega⟩ ⟨by omega, by omega, by omega, by omega⟩ _).mono ?_
  (rintro e1 w1 ⟨rfl, hb1⟩; obtain ⟨hc1, hf1⟩ := bcell hb1; have hz1 := hb1.size; (try simp only [World.size_alloc, World.size_setCell, World.size_drew] at hz1); have q1 : w.heap.size ≤ w1.heap.size := (by omega); (try have q1_0 : w.heap.size < w1.heap.size := (by omega)); (try have q1_1 : w.heap.size + 1 < w1.heap.size := (by omega)); (try have q1_2 : w.heap.size + 2 < w1.heap.size := (by omega)); (try have q1_3 : w.heap.size + 3 < w1.heap.size := (by omega)))
  go_wp2
  go_region
  all_goals (go_wp2; (refine bodyPost_ret (by simp [results, Try.results78, go_sem, *]; try rfl) rfl ?_))
  all_goals exact ⟨rfl, by (repeat' (first | (with_reducible exact Below.refl _ _) | (with_reducible assumption) | (with_reducible refine Below.alloc ?_ ?_ _) | (with_reducible refine Below.drew ?_) | (with_reducible refine below_drewN ?_ _) | (with_reducible refine Below.setCell ?_ ?_ _) | (with_reducible refine below_call ?_ ?_ (by assumption)) | go_size))⟩


end Go.Proofs.Ytnokjdcgokfdhaa
