/- By how much ratios differ; the order of pairs by nearness: by the program. -/
import Derived.Test.YtaifcemdabcfjaaFew
import Derived.Test.YtaifcemdabcfjaaRel
set_option linter.unusedSimpArgs false
set_option linter.unusedVariables false
set_option maxRecDepth 100000
namespace Go.Proofs.Ytaifcemdabcfjaa
open Go.RowKit

set_option maxHeartbeats 400000 in
theorem spanOrder_nn (an ad bn bd : Int) (ga : (0 ≤ an ∧ an ≤ 1000000000) ∧ 1 ≤ ad ∧ ad ≤ 1000000000) (gb : (0 ≤ bn ∧ bn ≤ 1000000000) ∧ 1 ≤ bd ∧ bd ≤ 1000000000) (w : World) :
    Calls Try.prog 88 #[tv an ad, tv bn bd] w fun e w' => e = .returned (.int .i64 (sg (an * bd - bn * ad))) ∧ Below w.heap.size w w' := by
  obtain ⟨⟨a3, a4⟩, a1, a2⟩ := ga
  obtain ⟨⟨b3, b4⟩, b1, b2⟩ := gb
  obtain ⟨p1, p2⟩ := mulb (show 0 ≤ an by omega) a4 (show 0 ≤ bd by omega) b2
  obtain ⟨p3, p4⟩ := mulb (show 0 ≤ bn by omega) b4 (show 0 ≤ ad by omega) a2
  (go_enter Try.func88, Try.ntmps88)
  go_wp2_with fail
  refine (cmpCompare_any (an * bd) (bn * ad) _).mono ?_
  (rintro e1 w1 ⟨rfl, rfl⟩)
  go_wp2
  go_ret
  exact ⟨rfl, by (repeat' (first | (with_reducible exact Below.refl _ _) | (with_reducible assumption) | (with_reducible refine Below.alloc ?_ ?_ _) | (with_reducible refine Below.drew ?_) | (with_reducible refine below_drewN ?_ _) | (with_reducible refine Below.setCell ?_ ?_ _) | (with_reducible refine below_call ?_ ?_ (by assumption)) | go_size))⟩
/-- The distance of two ratios, in lowest terms. -/
def dsN (N D x y : Int) : Int := spN (absI (N * y - x * D)) (D * y)
def dsD (N D x y : Int) : Int := spD (absI (N * y - x * D)) (D * y)
theorem ds_bd {N D x y : Int} (hN : 1 ≤ N ∧ N ≤ 1000) (hD : 1 ≤ D ∧ D ≤ 1000) (hx : 1 ≤ x ∧ x ≤ 1000) (hy : 1 ≤ y ∧ y ≤ 1000) :
    (0 ≤ N * y ∧ N * y ≤ 1000000) ∧ (0 ≤ x * D ∧ x * D ≤ 1000000) ∧ (1 ≤ D * y ∧ D * y ≤ 1000000) ∧ 0 ≤ absI (N * y - x * D) ∧ absI (N * y - x * D) ≤ 1000000 := by
  have p1 := mulb (show 0 ≤ N by omega) hN.2 (show 0 ≤ y by omega) hy.2
  have p2 := mulb (show 0 ≤ x by omega) hx.2 (show 0 ≤ D by omega) hD.2
  have p3 := mulb (show 0 ≤ D by omega) hD.2 (show 0 ≤ y by omega) hy.2
  have p4 : 1 * 1 ≤ D * y := Int.mul_le_mul hD.1 hy.1 (by omega) (by omega)
  refine ⟨⟨p1.1, by omega⟩, ⟨p2.1, by omega⟩, ⟨by omega, by omega⟩, ?_⟩
  unfold absI
  split <;> constructor <;> omega
theorem ds_ok {N D x y : Int} (hN : 1 ≤ N ∧ N ≤ 1000) (hD : 1 ≤ D ∧ D ≤ 1000) (hx : 1 ≤ x ∧ x ≤ 1000) (hy : 1 ≤ y ∧ y ≤ 1000) :
    (0 ≤ dsN N D x y ∧ dsN N D x y ≤ 1000000) ∧ 1 ≤ dsD N D x y ∧ dsD N D x y ≤ 1000000 := by
  obtain ⟨-, -, ⟨h1, h2⟩, h3, h4⟩ := ds_bd hN hD hx hy
  obtain ⟨k1, k2, k3, k4⟩ := sp_bd (absI (N * y - x * D)) (D * y) h3 h1
  unfold dsN dsD
  exact ⟨⟨k1, by omega⟩, k3, by omega⟩
set_option maxHeartbeats 800000 in
theorem distance_any {N D x y : Int} (hN : 1 ≤ N ∧ N ≤ 1000) (hD : 1 ≤ D ∧ D ≤ 1000) (hx : 1 ≤ x ∧ x ≤ 1000) (hy : 1 ≤ y ∧ y ≤ 1000) (w : World) :
    Calls Try.prog 89 #[tv N D, tv x y] w fun e w' => e = .returned (tv (dsN N D x y) (dsD N D x y)) ∧ Below w.heap.size w w' := by
  obtain ⟨⟨p1, p2⟩, ⟨p3, p4⟩, ⟨p5, p6⟩, p7, p8⟩ := ds_bd hN hD hx hy
  have CL := fun w => lowestSpan_any (absI (N * y - x * D)) (D * y) (by omega) (by omega) (by omega) (by omega) w
  have CL := Lib.hid CL
  obtain ⟨n1, n2⟩ := hN
  obtain ⟨d1, d2⟩ := hD
  obtain ⟨x1, x2⟩ := hx
  obtain ⟨y1, y2⟩ := hy
  rcases (show 0 ≤ N * y - x * D ∨ N * y - x * D < 0 by omega) with hs | hs
  · have e1 : absI (N * y - x * D) = N * y - x * D := by unfold absI; split <;> omega
    have m1 : ¬ (N * y - x * D < -(N * y - x * D)) := by omega
    rw [e1] at CL
    have HE := Lib.hid e1
    clear e1 p7 p8
    (go_enter Try.func89, Try.ntmps89)
    go_wp2_with fail
    refine (CL.out _).mono ?_
    (rintro e1 w1 ⟨rfl, hb1⟩; obtain ⟨hc1, hf1⟩ := bcell hb1; have hz1 := hb1.size; (try simp only [World.size_alloc, World.size_setCell, World.size_drew] at hz1); have q1 : w.heap.size ≤ w1.heap.size := (by omega); (try have q1_0 : w.heap.size < w1.heap.size := (by omega)); (try have q1_1 : w.heap.size + 1 < w1.heap.size := (by omega)); (try have q1_2 : w.heap.size + 2 < w1.heap.size := (by omega)); (try have q1_3 : w.heap.size + 3 < w1.heap.size := (by omega)))
    go_wp2
    (refine bodyPost_ret (by simp [results, Try.results89, go_sem, *]; try rfl) rfl ?_)
    exact ⟨by unfold dsN dsD; rw [HE.out], by (repeat' (first | (with_reducible exact Below.refl _ _) | (with_reducible assumption) | (with_reducible refine Below.alloc ?_ ?_ _) | (with_reducible refine Below.drew ?_) | (with_reducible refine below_drewN ?_ _) | (with_reducible refine Below.setCell ?_ ?_ _) | (with_reducible refine below_call ?_ ?_ (by assumption)) | go_size))⟩
  · have e1 : absI (N * y - x * D) = -(N * y - x * D) := by unfold absI; split <;> omega
    have m1 : N * y - x * D < -(N * y - x * D) := by omega
    rw [e1] at CL
    have HE := Lib.hid e1
    clear e1 p7 p8
    (go_enter Try.func89, Try.ntmps89)
    go_wp2_with fail
    refine (CL.out _).mono ?_
    (rintro e1 w1 ⟨rfl, hb1⟩; obtain ⟨hc1, hf1⟩ := bcell hb1; have hz1 := hb1.size; (try simp only [World.size_alloc, World.size_setCell, World.size_drew] at hz1); have q1 : w.heap.size ≤ w1.heap.size := (by omega); (try have q1_0 : w.heap.size < w1.heap.size := (by omega)); (try have q1_1 : w.heap.size + 1 < w1.heap.size := (by omega)); (try have q1_2 : w.heap.size + 2 < w1.heap.size := (by omega)); (try have q1_3 : w.heap.size + 3 < w1.heap.size := (by omega)))
    go_wp2
    (refine bodyPost_ret (by simp [results, Try.results89, go_sem, *]; try rfl) rfl ?_)
    exact ⟨by unfold dsN dsD; rw [HE.out], by (repeat' (first | (with_reducible exact Below.refl _ _) | (with_reducible assumption) | (with_reducible refine Below.alloc ?_ ?_ _) | (with_reducible refine Below.drew ?_) | (with_reducible refine below_drewN ?_ _) | (with_reducible refine Below.setCell ?_ ?_ _) | (with_reducible refine below_call ?_ ?_ (by assumption)) | go_size))⟩
def orI (x y : Int) : Int := if x = 0 then y else x
set_option maxHeartbeats 1600000 in
theorem cmpOr_two (g : Nat) (x y : Int) (w : World) (hg : g < w.heap.size) (h0 : w.cell? ⟨g, 0, none⟩ = some (.int .i64 x)) (h1 : w.cell? ⟨g, 1, none⟩ = some (.int .i64 y)) :
    Calls Try.prog 87 #[.slice (some ⟨g, 0, none⟩) 2 2] w fun e w' => e = .returned (.int .i64 (orI x y)) ∧ w = w' := by
  (go_enter Try.func87, Try.ntmps87)
  go_wp2
  go_loopw [8] (fun i wr => ∃ k : Nat, k ≤ 2 ∧ i = .int .i64 k ∧ (0 < k → x = 0) ∧ (1 < k → y = 0) ∧ wr = w) (fun i _ => 2 - (intOf i).toNat)
  case atStart => exact ⟨0, by omega, rfl, by omega, by omega, rfl⟩
  case round =>
    obtain ⟨k, hk, rfl, hx, hy, rfl⟩ := hrel
    rcases (show k = 0 ∨ k = 1 ∨ k = 2 by omega) with rfl | rfl | rfl
    · by_cases hz : x = 0
      · subst hz
        go_wp2
        go_roundw
        case rel => exact ⟨1, by omega, rfl, by simp⟩
        case measure => simp [intOf]
      · go_wp2
        go_ret
        exact ⟨ret_int (by rw [orI, if_neg hz]), rfl⟩
    · have hx0 := hx (by omega)
      subst hx0
      clear hx
      by_cases hz : y = 0
      · subst hz
        go_wp2
        go_roundw
        case rel => exact ⟨2, by omega, rfl, by simp⟩
        case measure => simp [intOf]
      · go_wp2
        go_ret
        exact ⟨ret_int (by simp [orI]), rfl⟩
    · have hx0 := hx (by omega)
      have hy0 := hy (by omega)
      subst hx0 hy0
      go_wp2
      go_ret
      exact ⟨ret_int (by simp [orI]), rfl⟩
end Go.Proofs.Ytaifcemdabcfjaa
