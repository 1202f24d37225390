/- The model's search for trains: the one with the fewest teeth. -/
import Derived.Test.YtaifcemdabcfjaaLstT
set_option linter.unusedSimpArgs false
set_option linter.unusedVariables false
set_option maxRecDepth 100000
namespace Go.Proofs.Ytaifcemdabcfjaa
open Go.RowKit

def SumV (r : Option Tr) (v : Value) : Prop := match r with
  | none => v = .int .i64 0
  | some t => v = .int .i64 (sumTr t)
/-- What the search knows of the best train so far. -/
def BestAt (w : World) (L : List Tr) (v f s : Value) (W : World) (r : Option Tr) : Prop :=
  bestT true L = r ∧ f = .bool r.isSome ∧ SumV r s ∧ ∀ t, r = some t → RowPair W w.heap.size v (trL r)
theorem bestT_snoc (fw : Bool) (L : List Tr) (t : Tr) : bestT fw (L ++ [t]) = stepT fw (bestT fw L) t := by simp [bestT]
set_option maxRecDepth 100000 in
set_option maxHeartbeats 12800000 in
theorem geTrains_fewest (num den : Int) (n : Nat) (hN : 1 ≤ num ∧ num ≤ 1000) (hD : 1 ≤ den ∧ den ≤ 1000) (hn : n ≤ 115) (w : World) :
    Calls Try.prog 79 #[.int .i64 num, .int .i64 den, .int .i64 (5 + (n : Int)), .bool true] w (TrainGot w (bestT true (trainsL num den n))) := by
  obtain ⟨hN1, hN2⟩ := hN
  obtain ⟨hD1, hD2⟩ := hD
  have n0 : (0 : Int) ≤ (n : Int) := Int.natCast_nonneg _
  have n1 : (n : Int) ≤ 115 := by omega
  (go_enter Try.func79, Try.ntmps79)
  go_wp2
  go_loopw [10, 11, 12, 13] (fun vv vf vs va wr => ∃ (i : Nat) (a : Int) (r : Option Tr), a = 6 + (i : Int) ∧ BestAt w (PL num den n i 0 0) vv vf vs wr r ∧ va = .int .i64 a ∧ a ≤ 6 + (n : Int) ∧ Below w.heap.size w wr) (fun _ _ _ va _ => (6 + n) - (intOf va).toNat)
  case atStart => exact ⟨0, 6, none, rfl, ⟨by rw [PL_start]; rfl, rfl, rfl, fun t h => by cases h⟩, rfl, by omega, by (repeat' (first | (with_reducible exact Below.refl _ _) | (with_reducible assumption) | (with_reducible refine Below.alloc ?_ ?_ _) | (with_reducible refine Below.drew ?_) | (with_reducible refine below_drewN ?_ _) | (with_reducible refine Below.setCell ?_ ?_ _) | (with_reducible refine below_call ?_ ?_ (by assumption)) | go_size))⟩
  case round =>
    obtain ⟨i, a, r, ha, hP1, rfl, ha2, hb1⟩ := hrel
    have HP1 := Lib.hid hP1
    obtain ⟨-, rfl, -, -⟩ := hP1
    obtain ⟨wa, hwa⟩ : ∃ wo : World, wo = wr := ⟨_, rfl⟩
    subst hwa
    have a1 : 6 ≤ a := by omega
    have hi2 : a ≤ 5 + (n : Int) → i < n := fun h => by omega
    have hi3 : ¬ a ≤ 5 + (n : Int) → i = n := fun h => by omega
    have HA := Lib.hid ha
    clear ha
    by_cases hlt : a ≤ 5 + (n : Int)
    · have hin := hi2 hlt
      have hd1 : decide (a ≤ 5 + (n : Int)) = true := by rw [decide_eq_true_eq]; exact hlt
      go_wp2
      go_loopw [10, 11, 12, 14] (fun vv vf vs vb wr => ∃ (j : Nat) (b : Int) (r : Option Tr), b = 6 + (j : Int) ∧ BestAt w (PL num den n i j 0) vv vf vs wr r ∧ vb = .int .i64 b ∧ b ≤ 6 + (n : Int) ∧ Below w.heap.size w wr) (fun _ _ _ vb _ => (6 + n) - (intOf vb).toNat)
      case atStart => exact ⟨0, 6, r, rfl, HP1.out, rfl, by omega, hb1⟩
      case round =>
        clear hb1 HP1
        obtain ⟨j, b, r, hb, hP2, rfl, hb2, hb1⟩ := hrel
        have HP2 := Lib.hid hP2
        obtain ⟨-, rfl, -, -⟩ := hP2
        obtain ⟨wb, hwb⟩ : ∃ wo : World, wo = wr := ⟨_, rfl⟩
        subst hwb
        have b1 : 6 ≤ b := by omega
        have hj2 : b ≤ 5 + (n : Int) → j < n := fun h => by omega
        have hj3 : ¬ b ≤ 5 + (n : Int) → j = n := fun h => by omega
        have HB := Lib.hid hb
        clear hb
        by_cases hlt2 : b ≤ 5 + (n : Int)
        · have hjn := hj2 hlt2
          have hd2 : decide (b ≤ 5 + (n : Int)) = true := by rw [decide_eq_true_eq]; exact hlt2
          go_wp2
          go_loopw [10, 11, 12, 15] (fun vv vf vs vc wr => ∃ (k : Nat) (c : Int) (r : Option Tr), c = 6 + (k : Int) ∧ BestAt w (PL num den n i j k) vv vf vs wr r ∧ vc = .int .i64 c ∧ c ≤ 6 + (n : Int) ∧ Below w.heap.size w wr) (fun _ _ _ vc _ => (6 + n) - (intOf vc).toNat)
          case atStart => exact ⟨0, 6, r, rfl, HP2.out, rfl, by omega, hb1⟩
          case round =>
            clear hb1 HP2
            obtain ⟨k, c, r, hc, hP3, rfl, hc2, hb1⟩ := hrel
            have HP3 := Lib.hid hP3
            obtain ⟨-, rfl, -, -⟩ := hP3
            have c1 : 6 ≤ c := by omega
            have hk2 : c ≤ 5 + (n : Int) → k < n := fun h => by omega
            have hk3 : ¬ c ≤ 5 + (n : Int) → k = n := fun h => by omega
            have HC := Lib.hid hc
            clear hc
            have hz := hb1.size
            by_cases hlt3 : c ≤ 5 + (n : Int)
            · have hkn := hk2 hlt3
              obtain ⟨m1, m2⟩ := mulb (show 0 ≤ a by omega) (show a ≤ 120 by omega) (show 0 ≤ c by omega) (show c ≤ 120 by omega)
              obtain ⟨m3, m4⟩ := mulb m1 m2 (show 0 ≤ den by omega) hD2
              obtain ⟨m5, m6⟩ := mulb (show 0 ≤ b by omega) (show b ≤ 120 by omega) (show 0 ≤ num by omega) hN2
              have m7 : 1 ≤ b * num := Int.mul_pos (by omega) (by omega)
              have HI := Lib.hid (show candB (num * (6 + (j : Int))) (den * (6 + (i : Int))) (5 + (n : Int)) (6 + (k : Int)) = decide (a * c * den % (b * num) = 0 ∧ 6 ≤ a * c * den / (b * num) ∧ a * c * den / (b * num) ≤ 5 + (n : Int)) by
                rw [← HA.out, ← HB.out, ← HC.out, candB, (trial_eq (num := num) (den := den) (a := a) (b := b) (c := c)).1, (trial_eq (num := num) (den := den) (a := a) (b := b) (c := c)).2])
              have HT := Lib.hid (show (((6 + (i : Int), 6 + (j : Int)), (6 + (k : Int), (6 + (k : Int)) * (den * (6 + (i : Int))) / (num * (6 + (j : Int))))) : Tr) = ((a, b), (c, a * c * den / (b * num))) by
                rw [← HA.out, ← HB.out, ← HC.out, (trial_eq (num := num) (den := den) (a := a) (b := b) (c := c)).1, (trial_eq (num := num) (den := den) (a := a) (b := b) (c := c)).2])
              have E1 : IntKind.i64.wrap ((a * c * den).tdiv (b * num)) = a * c * den / (b * num) := q64 m3 (by omega) m7
              have y0 : 0 ≤ a * c * den / (b * num) := Int.ediv_nonneg m3 (by omega)
              have y1 : a * c * den / (b * num) ≤ a * c * den := Int.ediv_le_self _ m3
              have nne : ¬ b * num = 0 := by omega
              by_cases hm : a * c * den % (b * num) = 0
              · cases hbb : inB (a * c * den / (b * num)) 6 (5 + (n : Int))
                · have HN := Lib.hid (show PL num den n i j k = PL num den n i j (k + 1) by rw [PL_no (by rw [HI.out, decide_eq_false_iff_not]; simp [inB] at hbb; omega)])
                  go_wp2_with fail
                  refine (l1In_is _ _ _ hbb _).mono ?_
                  (rintro e1 w1 ⟨rfl, rfl⟩)
                  go_wp2
                  go_roundw
                  case rel => exact ⟨k + 1, c + 1, r, by have := HC.out; omega, HN.out ▸ HP3.out, rfl, by omega, hb1⟩
                  case measure => simp [intOf]; omega

                · have HY := PL_yes (N := num) (D := den) (n := n) (i := i) (j := j) (k := k) (by rw [HI.out, decide_eq_true_eq]; have := inB_bd hbb; omega)
                  rw [HT.out] at HY
                  have HY := Lib.hid HY
                  obtain ⟨yb1, yb2⟩ := inB_bd hbb
                  clear HT
                  generalize a * c * den / (b * num) = y at *
                  cases r with
                  | none =>
                    have HN := Lib.hid (show bestT true (PL num den n i j (k + 1)) = some ((a, b), (c, y)) by rw [HY.out, bestT_snoc, HP3.out.1]; rfl)
                    simp only [Option.isSome_none]
                    go_wp2_with fail
                    refine (l1In_is _ _ _ hbb _).mono ?_
                    (rintro e1 w1 ⟨rfl, rfl⟩)
                    go_wp2
                    go_roundw
                    case rel =>
                      refine ⟨k + 1, c + 1, some ((a, b), (c, y)), by have := HC.out; omega, ⟨HN.out, rfl, rfl, fun t h => ?_⟩, rfl, by omega, by (repeat' (first | (with_reducible exact Below.refl _ _) | (with_reducible assumption) | (with_reducible refine Below.alloc ?_ ?_ _) | (with_reducible refine Below.drew ?_) | (with_reducible refine below_drewN ?_ _) | (with_reducible refine Below.setCell ?_ ?_ _) | (with_reducible refine below_call ?_ ?_ (by assumption)) | go_size))⟩
                      exact World.ownsRow_lit (size := 2) wr #[Value.int .i64 a, Value.int .i64 b, Value.int .i64 c, Value.int .i64 y] 2 hz (by unfold maxLen; omega) rfl
                    case measure => simp [intOf]; omega

                  | some s =>
                    have hs := HP3.out.2.2.1
                    simp only [SumV] at hs
                    subst hs
                    have HSt : sumTr ((a, b), (c, y)) = a + b + c + y := rfl
                    have HSt := Lib.hid HSt
                    generalize hS0 : sumTr s = S at *
                    have HS0 := Lib.hid hS0
                    clear hS0
                    simp only [Option.isSome_some]
                    by_cases hge : S ≤ a + b + c + y
                    · have HN := Lib.hid (show bestT true (PL num den n i j (k + 1)) = some s by
                        rw [HY.out, bestT_snoc, HP3.out.1]
                        simp only [stepT, Bool.true_and]
                        rw [if_neg (by rw [HSt.out, HS0.out]; simp; omega)])
                      go_wp2_with fail
                      refine (l1In_is _ _ _ hbb _).mono ?_
                      (rintro e1 w1 ⟨rfl, rfl⟩)
                      go_wp2
                      go_roundw
                      case rel => exact ⟨k + 1, c + 1, some s, by have := HC.out; omega, ⟨HN.out, rfl, by show _ = _; rw [HS0.out], HP3.out.2.2.2⟩, rfl, by omega, hb1⟩
                      case measure => simp [intOf]; omega
                    · have hge' : a + b + c + y < S := by omega
                      have HN := Lib.hid (show bestT true (PL num den n i j (k + 1)) = some ((a, b), (c, y)) by
                        rw [HY.out, bestT_snoc, HP3.out.1]
                        simp only [stepT, Bool.true_and]
                        rw [if_pos (by rw [HSt.out, HS0.out]; simp; omega)])
                      go_wp2_with fail
                      refine (l1In_is _ _ _ hbb _).mono ?_
                      (rintro e1 w1 ⟨rfl, rfl⟩)
                      go_wp2
                      go_roundw
                      case rel =>
                        refine ⟨k + 1, c + 1, some ((a, b), (c, y)), by have := HC.out; omega, ⟨HN.out, rfl, rfl, fun t h => ?_⟩, rfl, by omega, by (repeat' (first | (with_reducible exact Below.refl _ _) | (with_reducible assumption) | (with_reducible refine Below.alloc ?_ ?_ _) | (with_reducible refine Below.drew ?_) | (with_reducible refine below_drewN ?_ _) | (with_reducible refine Below.setCell ?_ ?_ _) | (with_reducible refine below_call ?_ ?_ (by assumption)) | go_size))⟩
                        exact World.ownsRow_lit (size := 2) wr #[Value.int .i64 a, Value.int .i64 b, Value.int .i64 c, Value.int .i64 y] 2 hz (by unfold maxLen; omega) rfl
                      case measure => simp [intOf]; omega

              · have HN := Lib.hid (show PL num den n i j k = PL num den n i j (k + 1) by rw [PL_no (by rw [HI.out, decide_eq_false_iff_not]; omega)])
                go_wp2
                go_roundw
                case rel => exact ⟨k + 1, c + 1, r, by have := HC.out; omega, HN.out ▸ HP3.out, rfl, by omega, hb1⟩
                case measure => simp [intOf]; omega


            · have hkn := hk3 hlt3
              have HP := Lib.hid (show PL num den n i j k = PL num den n i (j + 1) 0 by rw [← PL_col, hkn])
              go_wp2
              go_roundw
              case rel => exact ⟨j + 1, b + 1, r, by have := HB.out; omega, HP.out ▸ HP3.out, rfl, by omega, hb1⟩
              case measure => simp [intOf]; omega
        · have hjn := hj3 hlt2
          have HP := Lib.hid (show PL num den n i j 0 = PL num den n (i + 1) 0 0 by rw [← PL_row, hjn])
          go_wp2
          go_roundw
          case rel => exact ⟨i + 1, a + 1, r, by have := HA.out; omega, HP.out ▸ HP2.out, rfl, by omega, hb1⟩
          case measure => simp [intOf]; omega
    · have hin := hi3 hlt
      have HE := Lib.hid (show bestT true (trainsL num den n) = r by rw [← PL_end hN1 hD1 hn]; have h := HP1.out.1; rw [hin] at h; exact h)
      go_wp2
      go_ret2
      rw [HE.out]
      exact ⟨_, rfl, HP1.out.2.2.2, hb1⟩
end Go.Proofs.Ytaifcemdabcfjaa
