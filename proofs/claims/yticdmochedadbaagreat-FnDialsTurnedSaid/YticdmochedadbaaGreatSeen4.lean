/- Equal parts of a turn, by the model; all exchanged times: by the program and by the model. -/
import Derived.Test.YticdmochedadbaaGreatSeen3
import Derived.Test.YticdmochedadbaaGreatSeen2
set_option linter.unusedSimpArgs false
set_option linter.unusedVariables false
set_option maxRecDepth 100000
namespace Go.Proofs.YticdmochedadbaaGreat
open Go.RowKit
attribute [local go_sem ↓] Go.wp_at_zero Go.wp_at_succ
attribute [local go_sem ↓] run_eql_hands run_eql_turn

def exL (h : Int) : List (Int × Int) := if inB h 2 24 then evL (h * h - 1) else []
theorem exL_no {h : Int} (g : inB h 2 24 = false) : exL h = [] := by simp [exL, g]
theorem exL_yes {h : Int} (g : inB h 2 24 = true) : exL h = evL (h * h - 1) := by simp [exL, g]
theorem exL_len (h : Int) : (exL h).length ≤ 1000000 := by
  unfold exL
  split
  · rename_i g
    obtain ⟨h1, h2⟩ := inB_bd g
    obtain ⟨p1, p2⟩ := mulb (show 0 ≤ h by omega) h2 (show 0 ≤ h by omega) h2
    exact evL_len _ (by omega)
  · simp

def ownL (h : Int) : List (Int × Int) := if inB h 2 24 then evL 2 else []
theorem ownL_len (h : Int) : (ownL h).length ≤ 1000000 := by
  unfold ownL
  split
  · exact evL_len _ (by omega)
  · simp
theorem evL2 : evL 2 = [(0, 1), (1, 2)] := by decide
/-- At the top and at the bottom the same is seen in a mirror. -/
theorem own_same {h : Int} (hh : 2 ≤ h ∧ h ≤ 24) {t : Int × Int} (ht : t = (0, 1) ∨ t = (1, 2)) :
    lowNum (-t.1) t.2 = t.1 ∧ lowDen (-t.1) t.2 = t.2 ∧ lowNum (-(lowNum (t.1 * h) t.2)) (lowDen (t.1 * h) t.2) = lowNum (t.1 * h) t.2 ∧ lowDen (-(lowNum (t.1 * h) t.2)) (lowDen (t.1 * h) t.2) = lowDen (t.1 * h) t.2 := by
  have e : h = 2 ∨ h = 3 ∨ h = 4 ∨ h = 5 ∨ h = 6 ∨ h = 7 ∨ h = 8 ∨ h = 9 ∨ h = 10 ∨ h = 11 ∨ h = 12 ∨ h = 13 ∨ h = 14 ∨ h = 15 ∨ h = 16 ∨ h = 17 ∨ h = 18 ∨ h = 19 ∨ h = 20 ∨ h = 21 ∨ h = 22 ∨ h = 23 ∨ h = 24 := by omega
  rcases ht with rfl | rfl <;> rcases e with rfl | rfl | rfl | rfl | rfl | rfl | rfl | rfl | rfl | rfl | rfl | rfl | rfl | rfl | rfl | rfl | rfl | rfl | rfl | rfl | rfl | rfl | rfl <;> decide
/-- '==' between two structs of two turns. -/
theorem run_eql_seen (a b c d a' b' c' d' : Int) (w : World) : (binOp .eql 27 (sn a b c d) (sn a' b' c' d')).run Tryz.prog w = .ok (.bool (eqT a b a' b' && eqT c d c' d')) w := by
  have hu' : Tryz.prog.underlying 27 = some (.struct (Tryz.prog.fieldsOf 27)) := by kernel_rfl
  have hp' : Tryz.prog.stoodInHeld 27 = false := by kernel_rfl
  have hp : Tryz.prog.stoodInHeld 25 = false := by kernel_rfl
  have hu : Tryz.prog.underlying 25 = some (.struct (Tryz.prog.fieldsOf 25)) := by kernel_rfl
  have u3 := Tryz.underlying3
  have a3 := Tryz.isAgg3
  have z3 := Tryz.sizeOf3
  have a2 := Tryz.isAgg25
  have z2 := Tryz.sizeOf25
  have e : ∀ (x y x' y' : Int), (Op.equalIn 9999 25 (.agg #[.int .i64 x, .int .i64 y]) (.agg #[.int .i64 x', .int .i64 y'])).run Tryz.prog w = .ok (eqT x y x' y') w := fun x y x' y' => by
    rw [show (9999 : Nat) = 9998 + 1 from rfl, run_equalIn_agg w 9998 25 _ _ hu hp]
    simp only [Program.fieldsOf, Tryz.underlying25]
    go_simp
    by_cases h1 : x = x' <;> by_cases h2 : y = y' <;> simp [h1, h2, eqT]
  rw [run_eql_struct, show (10000 : Nat) = 9999 + 1 from rfl, run_equalIn_agg w 9999 27 _ _ hu' hp']
  simp only [Program.fieldsOf, Tryz.underlying27]
  clear hu hp hu' hp'
  go_simp
  by_cases h1 : a = a' <;> by_cases h2 : b = b' <;> by_cases h3 : c = c' <;> by_cases h4 : d = d' <;> simp [h1, h2, h3, h4, eqT]
attribute [local go_sem ↓] run_eql_seen
end Go.Proofs.YticdmochedadbaaGreat
