/- The model's search for trains: the first one. -/
import Derived.Test.YtaifcemdabcfjaaTrM
set_option linter.unusedSimpArgs false
set_option linter.unusedVariables false
set_option maxRecDepth 100000
namespace Go.Proofs.Ytaifcemdabcfjaa
open Go.RowKit

/-- What the model's search hands back: nothing is told of the list where there is none. -/
def TrainGot (w0 : World) (r : Option Tr) (e : Ending) (w' : World) : Prop :=
  ∃ v, e = .returned (.tuple #[v, .bool r.isSome]) ∧ (∀ t, r = some t → RowPair w' w0.heap.size v (trL r)) ∧ Below w0.heap.size w0 w'
set_option maxRecDepth 100000 in
set_option maxHeartbeats 6400000 in
theorem geTrains_first (num den : Int) (n : Nat) (hN : 1 ≤ num ∧ num ≤ 1000) (hD : 1 ≤ den ∧ den ≤ 1000) (hn : n ≤ 115) (w : World) :
    Calls Try.prog 79 #[.int .i64 num, .int .i64 den, .int .i64 (5 + (n : Int)), .bool false] w (TrainGot w (trainsL num den n).head?) := by
  obtain ⟨hN1, hN2⟩ := hN
  obtain ⟨hD1, hD2⟩ := hD
  have n0 : (0 : Int) ≤ (n : Int) := Int.natCast_nonneg _
  have n1 : (n : Int) ≤ 115 := by omega
  (go_enter Try.func79, Try.ntmps79)
  go_wp2
  go_loopw [11, 13] (fun vf va wr => ∃ (i : Nat) (a : Int), a = 6 + (i : Int) ∧ vf = .bool false ∧ va = .int .i64 a ∧ a ≤ 6 + (n : Int) ∧ PL num den n i 0 0 = [] ∧ Below w.heap.size w wr) (fun _ va _ => (6 + n) - (intOf va).toNat)
  case atStart => exact ⟨0, 6, rfl, rfl, rfl, by omega, PL_start _ _ _, by (repeat' (first | (with_reducible exact Below.refl _ _) | (with_reducible assumption) | (with_reducible refine Below.alloc ?_ ?_ _) | (with_reducible refine Below.drew ?_) | (with_reducible refine below_drewN ?_ _) | (with_reducible refine Below.setCell ?_ ?_ _) | (with_reducible refine below_call ?_ ?_ (by assumption)) | go_size))⟩
  case round =>
    obtain ⟨i, a, ha, rfl, rfl, ha2, hP1, hb1⟩ := hrel
    obtain ⟨wa, hwa⟩ : ∃ wo : World, wo = wr := ⟨_, rfl⟩
    subst hwa
    have a1 : 6 ≤ a := by omega
    have hi2 : a ≤ 5 + (n : Int) → i < n := fun h => by omega
    have hi3 : ¬ a ≤ 5 + (n : Int) → i = n := fun h => by omega
    have HA := Lib.hid ha
    clear ha
    by_cases hlt : a ≤ 5 + (n : Int)
    · have hin := hi2 hlt
      have hd1 : decide (a ≤ 5 + (n : Int)) = true := by rw [decide_eq_true_eq]; exact hlt
      go_wp2
      go_loopw [11, 14] (fun vf vb wr => ∃ (j : Nat) (b : Int), b = 6 + (j : Int) ∧ vf = .bool false ∧ vb = .int .i64 b ∧ b ≤ 6 + (n : Int) ∧ PL num den n i j 0 = [] ∧ Below w.heap.size w wr) (fun _ vb _ => (6 + n) - (intOf vb).toNat)
      case atStart => exact ⟨0, 6, rfl, rfl, rfl, by omega, hP1, hb1⟩
      case round =>
        clear hb1
        obtain ⟨j, b, hb, rfl, rfl, hb2, hP2, hb1⟩ := hrel
        obtain ⟨wb, hwb⟩ : ∃ wo : World, wo = wr := ⟨_, rfl⟩
        subst hwb
        have b1 : 6 ≤ b := by omega
        have hj2 : b ≤ 5 + (n : Int) → j < n := fun h => by omega
        have hj3 : ¬ b ≤ 5 + (n : Int) → j = n := fun h => by omega
        have HB := Lib.hid hb
        clear hb
        by_cases hlt2 : b ≤ 5 + (n : Int)
        · have hjn := hj2 hlt2
          have hd2 : decide (b ≤ 5 + (n : Int)) = true := by rw [decide_eq_true_eq]; exact hlt2
          go_wp2
          go_loopw [11, 15] (fun vf vc wr => ∃ (k : Nat) (c : Int), c = 6 + (k : Int) ∧ vf = .bool false ∧ vc = .int .i64 c ∧ c ≤ 6 + (n : Int) ∧ PL num den n i j k = [] ∧ Below w.heap.size w wr) (fun _ vc _ => (6 + n) - (intOf vc).toNat)
          case atStart => exact ⟨0, 6, rfl, rfl, rfl, by omega, hP2, hb1⟩
          case round =>
            clear hb1
            obtain ⟨k, c, hc, rfl, rfl, hc2, hP3, hb1⟩ := hrel
            have c1 : 6 ≤ c := by omega
            have hk2 : c ≤ 5 + (n : Int) → k < n := fun h => by omega
            have hk3 : ¬ c ≤ 5 + (n : Int) → k = n := fun h => by omega
            have HC := Lib.hid hc
            clear hc
            have hz := hb1.size
            by_cases hlt3 : c ≤ 5 + (n : Int)
            · have hkn := hk2 hlt3
              obtain ⟨m1, m2⟩ := mulb (show 0 ≤ a by omega) (show a ≤ 120 by omega) (show 0 ≤ c by omega) (show c ≤ 120 by omega)
              obtain ⟨m3, m4⟩ := mulb m1 m2 (show 0 ≤ den by omega) hD2
              obtain ⟨m5, m6⟩ := mulb (show 0 ≤ b by omega) (show b ≤ 120 by omega) (show 0 ≤ num by omega) hN2
              have m7 : 1 ≤ b * num := Int.mul_pos (by omega) (by omega)
              have HI := Lib.hid (show candB (num * (6 + (j : Int))) (den * (6 + (i : Int))) (5 + (n : Int)) (6 + (k : Int)) = decide (a * c * den % (b * num) = 0 ∧ 6 ≤ a * c * den / (b * num) ∧ a * c * den / (b * num) ≤ 5 + (n : Int)) by
                rw [← HA.out, ← HB.out, ← HC.out, candB, (trial_eq (num := num) (den := den) (a := a) (b := b) (c := c)).1, (trial_eq (num := num) (den := den) (a := a) (b := b) (c := c)).2])
              have HT := Lib.hid (show (((6 + (i : Int), 6 + (j : Int)), (6 + (k : Int), (6 + (k : Int)) * (den * (6 + (i : Int))) / (num * (6 + (j : Int))))) : Tr) = ((a, b), (c, a * c * den / (b * num))) by
                rw [← HA.out, ← HB.out, ← HC.out, (trial_eq (num := num) (den := den) (a := a) (b := b) (c := c)).1, (trial_eq (num := num) (den := den) (a := a) (b := b) (c := c)).2])
              have E1 : IntKind.i64.wrap ((a * c * den).tdiv (b * num)) = a * c * den / (b * num) := q64 m3 (by omega) m7
              have y0 : 0 ≤ a * c * den / (b * num) := Int.ediv_nonneg m3 (by omega)
              have y1 : a * c * den / (b * num) ≤ a * c * den := Int.ediv_le_self _ m3
              have nne : ¬ b * num = 0 := by omega
              by_cases hm : a * c * den % (b * num) = 0
              · cases hbb : inB (a * c * den / (b * num)) 6 (5 + (n : Int))
                · have HN := Lib.hid (show PL num den n i j (k + 1) = [] by rw [PL_no (by rw [HI.out, decide_eq_false_iff_not]; simp [inB] at hbb; omega)]; exact hP3)
                  go_wp2_with fail
                  refine (l1In_is _ _ _ hbb _).mono ?_
                  (rintro e1 w1 ⟨rfl, rfl⟩)
                  go_wp2
                  go_roundw
                  case rel => exact ⟨k + 1, c + 1, by have := HC.out; omega, rfl, rfl, by omega, HN.out, hb1⟩
                  case measure => simp [intOf]; omega
                · have HE := Lib.hid (show (trainsL num den n).head? = some ((a, b), (c, a * c * den / (b * num))) by
                    refine head_pre ?_
                    have h1 := PL_pre hN1 hD1 (k := k + 1) hn hin hjn (by omega)
                    rw [PL_yes (by rw [HI.out, decide_eq_true_eq]; have := inB_bd hbb; omega), hP3, HT.out] at h1
                    exact h1)
                  generalize a * c * den / (b * num) = y at *
                  go_wp2_with fail
                  refine (l1In_is _ _ _ hbb _).mono ?_
                  (rintro e1 w1 ⟨rfl, rfl⟩)
                  go_wp2
                  go_ret2
                  rw [HE.out]
                  exact ⟨_, rfl, fun t h => by cases h; exact World.ownsRow_lit (size := 2) _ #[Value.int .i64 a, Value.int .i64 b, Value.int .i64 c, Value.int .i64 y] 2 (by simpa using hz) (by unfold maxLen; omega) rfl, by (repeat' (first | (with_reducible exact Below.refl _ _) | (with_reducible assumption) | (with_reducible refine Below.alloc ?_ ?_ _) | (with_reducible refine Below.drew ?_) | (with_reducible refine below_drewN ?_ _) | (with_reducible refine Below.setCell ?_ ?_ _) | (with_reducible refine below_call ?_ ?_ (by assumption)) | go_size))⟩
              · have HN := Lib.hid (show PL num den n i j (k + 1) = [] by rw [PL_no (by rw [HI.out, decide_eq_false_iff_not]; omega)]; exact hP3)
                go_wp2
                go_roundw
                case rel => exact ⟨k + 1, c + 1, by have := HC.out; omega, rfl, rfl, by omega, HN.out, hb1⟩
                case measure => simp [intOf]; omega
            · have hkn := hk3 hlt3
              have HP := Lib.hid (show PL num den n i (j + 1) 0 = [] by rw [← PL_col]; have h := hP3; rw [hkn] at h; exact h)
              go_wp2
              go_roundw
              case rel => exact ⟨j + 1, b + 1, by have := HB.out; omega, rfl, rfl, by omega, HP.out, hb1⟩
              case measure => simp [intOf]; omega
        · have hjn := hj3 hlt2
          have HP := Lib.hid (show PL num den n (i + 1) 0 0 = [] by rw [← PL_row]; have h := hP2; rw [hjn] at h; exact h)
          go_wp2
          go_roundw
          case rel => exact ⟨i + 1, a + 1, by have := HA.out; omega, rfl, rfl, by omega, HP.out, hb1⟩
          case measure => simp [intOf]; omega
    · have hin := hi3 hlt
      have HE := Lib.hid (show trainsL num den n = [] by rw [← PL_end hN1 hD1 hn]; have h := hP1; rw [hin] at h; exact h)
      go_wp2
      go_ret2
      rw [HE.out]
      exact ⟨_, rfl, fun t h => by simp at h, hb1⟩
end Go.Proofs.Ytaifcemdabcfjaa
