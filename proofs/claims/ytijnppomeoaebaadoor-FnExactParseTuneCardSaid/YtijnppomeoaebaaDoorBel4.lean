/- What is played at a quarter, and where a tune stands: by the program and by the model. -/
import Derived.Test.YtijnppomeoaebaaDoorBel3
set_option linter.unusedSimpArgs false
set_option linter.unusedVariables false
set_option maxRecDepth 100000
namespace Go.Proofs.YtijnppomeoaebaaDoor
open Go.RowKit

def phR (T : List (List UInt8)) (q : Int) : List Int × Bool := if askB T q then (phL T.length q.toNat, true) else ([], false)
def plR (T : List (List UInt8)) (q : Int) : List UInt8 × Bool := if askB T q then (ntL T q.toNat, true) else ([], false)
def saR (T : List (List UInt8)) (q : Int) : Int × Bool := if askB T q then (pb q % T.length, true) else (0, false)
def hrN (n : Nat) : Int := (n : Int) / gc n 10
def huR (T : List (List UInt8)) : Int × Bool := if okT T then (hrN T.length, true) else (0, false)
theorem ntL_big {T : List (List UInt8)} (h : okT T = true) (q : Nat) : (ntL T q).length ≤ maxLen := by have := ntL_len h q; unfold maxLen; omega
theorem phR_len (T : List (List UInt8)) (q : Int) : (phR T q).1.length ≤ 2000000 := by
  unfold phR
  split
  · rw [phL_len]; omega
  · exact Nat.zero_le _
theorem gc_bd (n : Nat) (h : 1 ≤ n) : 1 ≤ gc n 10 ∧ gc n 10 ≤ 10 := ⟨gcd_pos_of _ _ (by omega), gcd_le_of _ _ (by omega)⟩
theorem hrN_bd (n : Nat) (h : 1 ≤ n ∧ n ≤ 12) : 0 ≤ hrN n ∧ hrN n ≤ 12 := hrs_bd _ (by omega) (by omega) (gc_bd n h.1).1
set_option maxHeartbeats 800000 in
theorem beHours_any (a : Option Addr) (c n : Nat) (hn : 1 ≤ n ∧ n ≤ 12) (w : World) :
    Calls Tryd.prog 32 #[.slice a n c] w fun e w' => e = .returned (.int .i64 (hrN n)) ∧ Below w.heap.size w w' := by
  have HM : Hid ((n : Int) / gc n 10 = hrN n) := Lib.hid rfl
  obtain ⟨g1, g2⟩ := gc_bd n hn.1
  have hg := q64 (n := (n : Int)) (g := gc n 10) (by omega) (by omega) g1
  have hbd := hrs_bd (gc n 10) (n := (n : Int)) (by omega) (by omega) g1
  have hw := w64 (n := (n : Int) / gc n 10) (by omega)
  have HC := Lib.hid (diCommon_any (n : Int) 10 (by omega) (by omega) w)
  generalize gc n 10 = g at *
  have z1 : ¬ (g = 0) := by omega
  (go_enter Tryd.func32, Tryd.ntmps32)
  go_wp2_with fail
  refine HC.out.mono ?_
  (rintro e1 w1 ⟨rfl, hb1⟩; obtain ⟨hc1, hf1⟩ := bcell hb1; have hz1 := hb1.size; (try simp only [World.size_alloc, World.size_setCell, World.size_drew] at hz1); have q1 : w.heap.size ≤ w1.heap.size := (by omega); (try have q1_0 : w.heap.size < w1.heap.size := (by omega)); (try have q1_1 : w.heap.size + 1 < w1.heap.size := (by omega)); (try have q1_2 : w.heap.size + 2 < w1.heap.size := (by omega)); (try have q1_3 : w.heap.size + 3 < w1.heap.size := (by omega)))
  go_wp2
  go_ret
  exact ⟨ret_int (by first | exact HM.out | exact hg.trans HM.out | exact hw.trans HM.out), by (repeat' (first | (with_reducible exact Below.refl _ _) | (with_reducible assumption) | (with_reducible refine Below.alloc ?_ ?_ _) | (with_reducible refine Below.drew ?_) | (with_reducible refine below_drewN ?_ _) | (with_reducible refine Below.setCell ?_ ?_ _) | (with_reducible refine below_call ?_ ?_ (by assumption)) | go_size))⟩
end Go.Proofs.YtijnppomeoaebaaDoor
