/- Lists of turns in memory: the law's comparison of two of them, and its marks. -/
import Derived.Test.YtcfiaacpofpioaaTurn
import Derived.Test.YtcfiaacpofpioaaLate
import Derived.Deep.AppendLies
import Derived.LoopTactic
set_option linter.unusedSimpArgs false
set_option linter.unusedVariables false
set_option maxRecDepth 100000
namespace Go.Proofs.Ytcfiaacpofpioaa
open Go.RowKit

/-- The cells of a list of turns. -/
def flat : List (Int × Int) → List Value
  | [] => []
  | t :: ts => .int .i64 t.1 :: .int .i64 t.2 :: flat ts
theorem flat_length (ts : List (Int × Int)) : (flat ts).length = ts.length * 2 := by
  induction ts with
  | nil => rfl
  | cons t ts ih => simp only [flat, List.length_cons, ih]; omega
theorem flat_append (ts us : List (Int × Int)) : flat (ts ++ us) = flat ts ++ flat us := by
  induction ts with
  | nil => rfl
  | cons t ts ih => simp only [List.cons_append, flat, ih]
theorem flat_get (ts : List (Int × Int)) (k : Nat) (hk : k < ts.length) : (flat ts)[k * 2]? = some (.int .i64 (ts.getD k (0, 0)).1) ∧ (flat ts)[k * 2 + 1]? = some (.int .i64 (ts.getD k (0, 0)).2) := by
  induction ts generalizing k with
  | nil => simp at hk
  | cons t ts ih =>
    cases k with
    | zero => simp [flat]
    | succ k =>
      have h := ih k (by simpa using hk)
      rw [show (k + 1) * 2 = k * 2 + 1 + 1 by omega]
      simpa [flat] using h

/-- A slice of turns that lies in memory of the call's own: nil, or a block that holds them. -/
def TRow (w : World) (base : Nat) (v : Value) (ts : List (Int × Int)) : Prop := w.ownsRow base 25 2 v ts.length (flat ts)

/-- What a slice of turns looks like: its cells. -/
theorem TRow.cells {w : World} {base : Nat} {v : Value} {ts : List (Int × Int)} (h : TRow w base v ts) :
    ∃ (a : Option Addr) (c : Nat), v = .slice a ts.length c ∧ ts.length ≤ c ∧ c ≤ maxLen ∧ ∀ k, k < ts.length → ∃ g, a = some ⟨g, 0, none⟩ ∧ base ≤ g ∧ g < w.heap.size ∧ w.cell? ⟨g, k * 2, none⟩ = some (.int .i64 (ts.getD k (0, 0)).1) ∧ w.cell? ⟨g, k * 2 + 1, none⟩ = some (.int .i64 (ts.getD k (0, 0)).2) := by
  rcases h.2 with ⟨h1, h2⟩ | ⟨g, cap, cur, h1, h2, h3, h4, h5, h6, h7⟩
  · exact ⟨none, 0, by rw [h1, h2], by omega, by unfold maxLen; omega, fun k hk => absurd hk (by omega)⟩
  · refine ⟨some ⟨g, 0, none⟩, cap, h1, h4, h5, fun k hk => ⟨g, rfl, h2, ?_, ?_, ?_⟩⟩
    · rcases Nat.lt_or_ge g w.heap.size with hlt | hge
      · exact hlt
      · rw [Array.getElem?_eq_none hge] at h3; cases h3
    · rw [h1] at h
      rw [World.ownsRow.cellAt h (k * 2) (by omega)]
      exact (flat_get ts k hk).1
    · rw [h1] at h
      rw [World.ownsRow.cellAt h (k * 2 + 1) (by omega)]
      exact (flat_get ts k hk).2

theorem TRow.below {w w' : World} {base : Nat} {v : Value} {ts : List (Int × Int)} (h : TRow w base v ts) (hb : Below w.heap.size w w') : TRow w' base v ts :=
  World.ownsRow.kept h (row := none) ⟨hb.os, hb.tape, hb.output, hb.size, fun k hk _ => hb.block k hk⟩ (by cases hv : v.ownBlock <;> simp)
theorem TRow.drewN {w : World} {base : Nat} {v : Value} {ts : List (Int × Int)} (h : TRow w base v ts) (n : Nat) : TRow (w.drewN n) base v ts := h


theorem flat_set (ts : List (Int × Int)) (k : Nat) (x y : Int) : ((flat ts).set (k * 2) (.int .i64 x)).set (k * 2 + 1) (.int .i64 y) = flat (ts.set k (x, y)) := by
  induction ts generalizing k with
  | nil => simp [flat]
  | cons t ts ih =>
    cases k with
    | zero => simp [flat]
    | succ k =>
      rw [show (k + 1) * 2 = k * 2 + 1 + 1 by omega]
      simp [flat, ih]
theorem ret_num {a b : Int} (h : a = b) : (Value.int .i64 a) = .int .i64 b := by rw [h]
theorem grownBy_refl (w : World) (row : Option Nat) : w.grownBy w row := ⟨rfl, rfl, rfl, Nat.le_refl _, fun _ _ _ => rfl⟩
theorem grownBy_trans {a b c : World} {row : Option Nat} (h : a.grownBy b row) (k : b.grownBy c row) : a.grownBy c row :=
  ⟨k.os.trans h.os, k.tape.trans h.tape, k.output.trans h.output, Nat.le_trans h.size k.size, fun i hi hne => (k.block i (Nat.lt_of_lt_of_le hi h.size) hne).trans (h.block i hi hne)⟩
/-- The list behind k rounds of the marking. -/
def marked (ts : List (Int × Int)) (m : Int) : Nat → List (Int × Int)
  | 0 => ts
  | k + 1 => (marked ts m k).set k (m + 2 * k, m + 2 * k + 1)
theorem marked_length (ts : List (Int × Int)) (m : Int) (k : Nat) : (marked ts m k).length = ts.length := by
  induction k with
  | zero => rfl
  | succ k ih => simp [marked, ih]
theorem marked_get (ts : List (Int × Int)) (m : Int) (k j : Nat) (hj : j < k) (hk : k ≤ ts.length) : (marked ts m k).getD j (0, 0) = (m + 2 * j, m + 2 * j + 1) := by
  induction k with
  | zero => omega
  | succ k ih =>
    have hl := marked_length ts m k
    by_cases h : k = j
    · subst h
      simp [marked, List.getD_eq_getElem?_getD, hl, show k < ts.length by omega]
    · have := ih (by omega) (by omega)
      rw [← this]
      simp [marked, List.getD_eq_getElem?_getD, List.getElem?_set_ne h]

theorem TRow.kept {w w' : World} {base : Nat} {v : Value} {ts : List (Int × Int)} {row : Option Nat} (h : TRow w base v ts) (hg : w.grownBy w' row) (hne : v.ownBlock = none ∨ v.ownBlock ≠ row) : TRow w' base v ts :=
  World.ownsRow.kept h hg hne
/-- Of two slices the one that was made later lies in another block. -/
theorem TRow.apart {w w' : World} {b b' : Nat} {v v' : Value} {ts us : List (Int × Int)} (h : TRow w b v ts) (h' : TRow w' b' v' us) (hb : w.heap.size ≤ b') : v.ownBlock = none ∨ v.ownBlock ≠ v'.ownBlock := by
  cases hv : v.ownBlock with
  | none => exact .inl rfl
  | some k =>
    refine .inr fun e => ?_
    have h1 := (World.ownsRow.lt h k hv).2
    have h2 := (World.ownsRow.lt h' k e.symm).1
    omega
theorem TRow.low {w : World} {b : Nat} {v : Value} {ts : List (Int × Int)} (h : TRow w b v ts) : ∀ k, v.ownBlock = some k → b ≤ k := fun k hk => (World.ownsRow.lt h k hk).1
end Go.Proofs.Ytcfiaacpofpioaa
