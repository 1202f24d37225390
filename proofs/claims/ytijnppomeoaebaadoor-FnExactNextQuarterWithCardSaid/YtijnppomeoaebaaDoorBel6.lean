/- The bells of a tune: by the program and by the model. -/
import Derived.Test.YtijnppomeoaebaaDoorBel6a
import Derived.Test.YtijnppomeoaebaaDoorBSort
import Derived.Lib.OthersKept
set_option linter.unusedSimpArgs false
set_option linter.unusedVariables false
set_option maxRecDepth 100000
namespace Go.Proofs.YtijnppomeoaebaaDoor
open Go.RowKit

/-! ### The bells -/
/-- A bell is in a tune. -/
def hasB (T : List (List UInt8)) (b : Int) : Bool := T.any fun l => decide (0 < cntN b l)
/-- The bells of a tune, up to the k-th. -/
def belK (T : List (List UInt8)) : Nat → List Int
  | 0 => []
  | k + 1 => belK T k ++ if hasB T ((k : Int) + 1) then [(k : Int) + 1] else []
theorem belK_all (T : List (List UInt8)) : ∀ k, (belK T k).Pairwise (· < ·) ∧ (∀ z, z ∈ belK T k ↔ 1 ≤ z ∧ z ≤ k ∧ hasB T z = true) ∧ (belK T k).length ≤ k
  | 0 => by simp [belK]; intro z h1 h2; omega
  | k + 1 => by
    obtain ⟨h1, h2, h3⟩ := belK_all T k
    simp only [belK]
    cases hb : hasB T ((k : Int) + 1)
    · simp only [Bool.false_eq_true, if_false, List.append_nil]
      refine ⟨h1, fun z => ?_, by omega⟩
      rw [h2]
      constructor
      · rintro ⟨a, b, c⟩; exact ⟨a, by omega, c⟩
      · rintro ⟨a, b, c⟩
        by_cases e : z = (k : Int) + 1
        · subst e; rw [hb] at c; cases c
        · exact ⟨a, by omega, c⟩
    · simp only [if_true]
      refine ⟨List.pairwise_append.2 ⟨h1, by simp, fun a ha b hb' => ?_⟩, fun z => ?_, by simp; omega⟩
      · have := (h2 a).1 ha
        simp only [List.mem_singleton] at hb'
        omega
      · rw [List.mem_append, h2, List.mem_singleton]
        constructor
        · rintro (⟨a, b, c⟩ | e)
          · exact ⟨a, by omega, c⟩
          · subst e; exact ⟨by omega, by omega, hb⟩
        · rintro ⟨a, b, c⟩
          by_cases e : z = (k : Int) + 1
          · exact .inr e
          · exact .inl ⟨a, by omega, c⟩
theorem belK_no {T : List (List UInt8)} {k : Nat} (h : hasB T ((k : Int) + 1) = false) : belK T (k + 1) = belK T k := by simp [belK, h]
theorem belK_yes {T : List (List UInt8)} {k : Nat} (h : hasB T ((k : Int) + 1) = true) : belK T (k + 1) = belK T k ++ [(k : Int) + 1] := by simp [belK, h]
def bsR (T : List (List UInt8)) : List Int × Bool := if okT T then (belK T 8, true) else ([], false)
theorem bsR_len (T : List (List UInt8)) : (bsR T).1.length ≤ 2000000 := by
  unfold bsR
  split
  · have := (belK_all T 8).2.2; simp only; omega
  · exact Nat.zero_le _
/-- None of the first phrases has it. -/
theorem any_next {T : List (List UInt8)} {p : List UInt8 → Bool} {k : Nat} (hk : k < T.length) (h : (T.take k).any p = false) (hp : p (T.getD k []) = false) : (T.take (k + 1)).any p = false := by
  rw [List.take_add_one, List.any_append, h]
  rw [List.getD_eq_getElem?_getD, List.getElem?_eq_getElem hk] at hp
  simpa [hk] using hp
theorem any_hit {T : List (List UInt8)} {p : List UInt8 → Bool} {k : Nat} (hk : k < T.length) (hp : p (T.getD k []) = true) : T.any p = true := by
  rw [List.getD_eq_getElem?_getD, List.getElem?_eq_getElem hk] at hp
  exact List.any_eq_true.2 ⟨_, List.getElem_mem hk, by simpa using hp⟩
end Go.Proofs.YtijnppomeoaebaaDoor
