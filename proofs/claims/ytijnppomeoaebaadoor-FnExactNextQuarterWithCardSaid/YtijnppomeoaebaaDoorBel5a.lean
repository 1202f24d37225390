/- What is added up over phrases. -/
import Derived.Test.YtijnppomeoaebaaDoorBel6a
set_option linter.unusedSimpArgs false
set_option linter.unusedVariables false
set_option maxRecDepth 100000
namespace Go.Proofs.YtijnppomeoaebaaDoor
open Go.RowKit

theorem div_w (P n : Nat) (h : P ≤ 400000000) : IntKind.i64.wrap ((P : Int) / (n : Int)) = ((P / n : Nat) : Int) := by
  have h1 := Nat.div_le_self P n
  rw [show (P : Int) / (n : Int) = ((P / n : Nat) : Int) from by norm_cast]
  generalize P / n = d at *
  exact w64 (by omega)
/-- A list of how often each phrase is counted. -/
def tmsL (T : List (List UInt8)) (f : List UInt8 → Nat) (k : Nat) : List Int := (List.range k).map fun j => (f (T.getD j []) : Int)
theorem tmsL_len (T : List (List UInt8)) (f : List UInt8 → Nat) (k : Nat) : (tmsL T f k).length = k := by simp [tmsL]
theorem tmsL_get (T : List (List UInt8)) (f : List UInt8 → Nat) (k j : Nat) (h : j < k) : (tmsL T f k).getD j 0 = (f (T.getD j []) : Int) := by simp [tmsL, List.getD_eq_getElem?_getD, h]
theorem tmsL_snoc (T : List (List UInt8)) (f : List UInt8 → Nat) (k : Nat) : ints (tmsL T f (k + 1)) = ints (tmsL T f k) ++ [.int .i64 (f (T.getD k []) : Int)] := by simp [tmsL, ints, List.range_succ]
set_option maxHeartbeats 1600000 in
theorem beTimes_any (T : List (List UInt8)) (f : List UInt8 → Nat) (hf : ∀ j, j < T.length → f (T.getD j []) ≤ 8) (hn : 1 ≤ T.length ∧ T.length ≤ 12) (P : Nat) (hP : P ≤ 400000000) (v : Value) (B : Nat) (w : World) (r : IRow w B v (tmsL T f T.length)) :
    Calls Tryd.prog 23 #[v, .int .i64 (P : Int)] w fun e w' => e = .returned (.int .i64 (sumTm T f P T.length : Nat)) ∧ Below w.heap.size w w' := by
  obtain ⟨a1, c1, rfl, l1, m1, x1⟩ := r.cells
  rw [tmsL_len] at l1 x1 ⊢
  have X1 := Lib.hid x1
  have HF := Lib.hid hf
  clear x1 r hf
  have z1 : ¬ ((T.length : Int) = 0) := by omega
  have g4 := q64 (n := (P : Int)) (g := (T.length : Int)) (by omega) (by omega) (by omega)
  have g5 : ((P : Int)).tmod T.length = (P : Int) % T.length := Int.tmod_eq_emod_of_nonneg (by omega)
  have g9 := t64 (n := (P : Int)) (g := (T.length : Int)) (by omega) (by omega) (by omega)
  (go_enter Tryd.func23, Tryd.ntmps23)
  go_wp2
  go_loop [5, 11] (fun s i => ∃ k : Nat, k ≤ T.length ∧ i = .int .i64 k ∧ s = .int .i64 (sumTm T f P k : Nat)) (fun _ i => T.length - (intOf i).toNat)
  case atStart => exact ⟨0, Nat.zero_le _, rfl, rfl⟩
  case round =>
    obtain ⟨k, hk, rfl, rfl⟩ := hrel
    have i0 : (0 : Int) ≤ (k : Int) := Int.natCast_nonneg _
    by_cases hlt : k < T.length
    · obtain ⟨g1, rfl, e1, e2, e3⟩ := X1.out k hlt
      rw [tmsL_get _ _ _ _ hlt] at e3
      have i1 : (k : Int) < (T.length : Int) := by omega
      have hsl := sumTm_le (P := P) HF.out k hk
      have htm := tmN_le (P := P) hlt
      have hf1 := HF.out k hlt
      have hprod := Nat.mul_le_mul hf1 htm
      have HS : Hid (sumTm T f P (k + 1) = sumTm T f P k + f (T.getD k []) * tmN P T.length k) := Lib.hid rfl
      have HTM := Lib.hid (tmN_eq (P := P) hlt)
      have hm0 : 8 * (P + 1) * k ≤ 8 * (P + 1) * 12 := Nat.mul_le_mul_left _ (by omega)
      have hdl := Nat.div_le_self P T.length
      have hd : (P : Int) / T.length = ((P / T.length : Nat) : Int) := by norm_cast
      have hr : (P : Int) % T.length = ((P % T.length : Nat) : Int) := by norm_cast
      generalize f (T.getD k []) = y at *
      generalize sumTm T f P k = s at *
      rw [hd] at g4
      rw [hr] at g5 g9
      have g11 := div_w P T.length hP
      generalize P / T.length = d at *
      generalize P % T.length = m at *
      have HD := Lib.hid hd
      have HR := Lib.hid hr
      clear hd hr
      by_cases hb : k < m
      · have ht := HTM.out
        rw [if_pos hb] at ht
        generalize tmN P T.length k = t at *
        subst ht
        have i2 : (k : Int) < (m : Int) := by omega
        have hmy : ((y * (d + 1) : Nat) : Int) = (y : Int) * ((d : Int) + 1) := by push_cast; rfl
        have g6 := w64 (n := (y : Int) * ((d : Int) + 1)) (by omega)
        have g7 := w64 (n := (s : Int) + (y : Int) * ((d : Int) + 1)) (by omega)
        have g8 := w64 (n := (d : Int) + 1) (by omega)
        have g10 := w64 (n := (d : Int)) (by omega)
        go_wp2
        go_round
        case rel =>
          refine ⟨k + 1, by omega, by go_num, ?_⟩
          rw [HS.out]
          exact ret_num (by push_cast; first | rfl | omega | (simp only [g4, g6, g7, g8, g10, g11]))
        case measure => simp [intOf]; omega
      · have ht := HTM.out
        rw [if_neg hb, Nat.add_zero] at ht
        generalize tmN P T.length k = t at *
        subst ht
        have i2 : ¬ ((k : Int) < (m : Int)) := by omega
        have hmy : ((y * t : Nat) : Int) = (y : Int) * (t : Int) := by push_cast; rfl
        have g6 := w64 (n := (y : Int) * (t : Int)) (by omega)
        have g7 := w64 (n := (s : Int) + (y : Int) * (t : Int)) (by omega)
        have g10 := w64 (n := (t : Int)) (by omega)
        go_wp2
        go_round
        case rel =>
          refine ⟨k + 1, by omega, by go_num, ?_⟩
          rw [HS.out]
          exact ret_num (by push_cast; first | rfl | omega | (simp only [g4, g6, g7, g10]))
        case measure => simp [intOf]; omega
    · obtain rfl : k = T.length := by omega
      go_wp2
      go_ret
      exact ⟨rfl, Below.refl _ _⟩

end Go.Proofs.YtijnppomeoaebaaDoor
