/- Lists of numbers sorted, and what repeats struck out, by the library. -/
import Derived.Test.YtijnppomeoaebaaDoorBIRow
import Derived.Test.YtijnppomeoaebaaDoorShelfB
import Derived.Lib.RowBridge
import Derived.Lib.SlKeysI
set_option linter.unusedSimpArgs false
set_option linter.unusedVariables false
set_option maxRecDepth 100000
namespace Go.Proofs.YtijnppomeoaebaaDoor
open Go.ChangeShapes Go.WideShapes Go.ChangeAt Go.RowKit Go.Maps Go.Shelf Go.Sort

/-- Two rising lists with the same numbers are one. -/
theorem lt_ext {l l' : List Int} (h : l.Pairwise (· < ·)) (h' : l'.Pairwise (· < ·)) (hm : ∀ z, z ∈ l ↔ z ∈ l') : l = l' := by
  have n1 : l.Nodup := h.imp fun h => by omega
  have n2 : l'.Nodup := h'.imp fun h => by omega
  exact List.Perm.eq_of_pairwise (le := fun a b => a < b) (fun a b _ _ h1 h2 => by omega) h h' ((List.perm_ext_iff_of_nodup n1 n2).2 hm)
theorem comp_all {d : Array Int} (hs : ∀ i j, i ≤ j → j < d.size → d[i]! ≤ d[j]!) : ∀ m, m ≤ d.size → (Lib.compactUpTo d m).Pairwise (· < ·) ∧ ∀ z, z ∈ Lib.compactUpTo d m ↔ ∃ j, j < m ∧ d[j]! = z := by
  intro m
  induction m with
  | zero => intro _; simp [Lib.compactUpTo]
  | succ m ih =>
    intro hm
    obtain ⟨h1, h2⟩ := ih (by omega)
    rw [Lib.compactUpTo_succ]
    cases hk : Lib.keeps d m
    · simp only [Bool.false_eq_true, if_false, List.append_nil]
      refine ⟨h1, fun z => ?_⟩
      rw [h2]
      simp only [Lib.keeps, decide_eq_false_iff_not, not_or, Decidable.not_not] at hk
      constructor
      · rintro ⟨j, hj, e⟩; exact ⟨j, by omega, e⟩
      · rintro ⟨j, hj, e⟩
        by_cases hjm : j = m
        · subst hjm; exact ⟨j - 1, by omega, by rw [← e, hk.2]⟩
        · exact ⟨j, by omega, e⟩
    · simp only [if_true]
      simp only [Lib.keeps, decide_eq_true_eq] at hk
      refine ⟨List.pairwise_append.2 ⟨h1, by simp, fun a ha b hb => ?_⟩, fun z => ?_⟩
      · simp only [List.mem_singleton] at hb
        subst hb
        obtain ⟨j, hj, rfl⟩ := (h2 a).1 ha
        have e1 := hs j (m - 1) (by omega) (by omega)
        have e2 := hs (m - 1) m (by omega) (by omega)
        rcases hk with hk | hk
        · omega
        · omega
      · simp only [List.mem_append, List.mem_singleton, h2]
        constructor
        · rintro (⟨j, hj, e⟩ | e)
          · exact ⟨j, by omega, e⟩
          · exact ⟨m, by omega, e.symm⟩
        · rintro ⟨j, hj, e⟩
          by_cases hjm : j = m
          · subst hjm; exact .inr e.symm
          · exact .inl ⟨j, by omega, e⟩
theorem arr_get {xs : List Int} {j : Nat} (hj : j < xs.length) : xs.toArray[j]! = xs[j] := by
  simp [hj]
theorem comp_sorted (xs : List Int) : (Lib.compact (xs.mergeSort leI)).Pairwise (· < ·) ∧ ∀ z, z ∈ Lib.compact (xs.mergeSort leI) ↔ z ∈ xs := by
  have tr : ∀ a b c : Int, leI a b = true → leI b c = true → leI a c = true := fun a b c h1 h2 => by simp only [leI, decide_eq_true_eq] at *; exact Int.le_trans h1 h2
  have to : ∀ a b : Int, (leI a b || leI b a) = true := fun a b => by simp only [leI, Bool.or_eq_true, decide_eq_true_eq]; exact Int.le_total a b
  have hp := List.pairwise_mergeSort tr to xs
  have hm : ∀ z, z ∈ xs.mergeSort leI ↔ z ∈ xs := fun z => List.mem_mergeSort
  generalize xs.mergeSort leI = ys at *
  obtain ⟨h1, h2⟩ := comp_all (d := ys.toArray) (fun i j hij hj => by
    have hj' : j < ys.length := by simpa using hj
    rw [arr_get (by omega), arr_get hj']
    rcases Nat.lt_or_eq_of_le hij with h | h
    · have := List.pairwise_iff_getElem.1 hp i j (by omega) hj' h
      simpa [leI] using this
    · subst h; exact Int.le_refl _) ys.length (by simp)
  refine ⟨h1, fun z => ?_⟩
  rw [← hm z]
  refine (h2 z).trans ?_
  constructor
  · rintro ⟨j, hj, rfl⟩; rw [arr_get hj]; exact List.getElem_mem hj
  · intro hz
    obtain ⟨j, hj, rfl⟩ := List.mem_iff_getElem.1 hz
    exact ⟨j, hj, arr_get hj⟩
theorem IRow.form {w : World} {b : Nat} {v : Value} {L : List Int} (h : IRow w b v L) : (v = .slice none 0 0 ∧ L = []) ∨ ∃ g c, v = .slice (some ⟨g, 0, none⟩) L.length c := by
  rcases h.2 with ⟨h1, h2⟩ | ⟨g, cap, cur, h1, -⟩
  · exact .inl ⟨h1, List.eq_nil_of_length_eq_zero h2⟩
  · exact .inr ⟨g, cap, h1⟩
theorem row_cut {w : World} {b g n c : Nat} {xs ys : List Value} (h : w.ownsRow b 3 1 (.slice (some ⟨g, 0, none⟩) n c) n (xs ++ ys)) : w.ownsRow b 3 1 (.slice (some ⟨g, 0, none⟩) xs.length c) xs.length xs := by
  obtain ⟨h0, h⟩ := h
  rcases h with ⟨e, -⟩ | ⟨g', cap, cur, e, hb, hg, l1, l2, l3, l4⟩
  · cases e
  · simp only [Value.slice.injEq, Option.some.injEq, Addr.mk.injEq, true_and, and_true] at e
    obtain ⟨rfl, rfl⟩ := e
    rw [List.length_append] at h0
    refine ⟨by simp, .inr ⟨g, c, cur, rfl, hb, hg, by omega, l2, l3, ?_⟩⟩
    have := congrArg (List.take xs.length) l4
    rw [List.take_take, List.take_left, Nat.min_eq_left (by omega)] at this
    rw [Nat.mul_one]; exact this
theorem sort_any (g c : Nat) (zs : List Int) (b : Nat) (w : World) (r : IRow w b (.slice (some ⟨g, 0, none⟩) zs.length c) zs) (hl : zs.length ≤ 1000000) :
    Calls Tryd.prog 59 #[.slice (some ⟨g, 0, none⟩) zs.length c] w fun e w' => e = .returned (.tuple #[]) ∧ IRow w' b (.slice (some ⟨g, 0, none⟩) zs.length c) (zs.mergeSort leI) ∧ w.grownBy w' (some g) := by
  rcases r.2 with ⟨e, -⟩ | ⟨g', cap, cur, e, hb, hg, l1, l2, l3, l4⟩
  · cases e
  · simp only [Value.slice.injEq, Option.some.injEq, Addr.mk.injEq, true_and, and_true] at e
    obtain ⟨rfl, rfl⟩ := e
    have hgl : g < w.heap.size := (Array.getElem?_eq_some_iff.1 hg).1
    refine (AnyM.slices_Sort_int Tryd.sortI g 0 c zs w (holds_of_block_i hg (by rw [Nat.mul_one] at l4; exact l4)) hgl (by omega)).mono ?_
    rintro e w' ⟨rfl, n, os, rfl⟩
    refine ⟨rfl, ?_, grownBy_sorted_i _⟩
    have := ownsRow_sorted_i (n := n) (os := os) (ss := zs) (ts := zs.mergeSort leI) (by simp) hb hg l1 l2 l3
    unfold IRow
    rw [List.length_mergeSort]
    exact this
theorem sort_none (w : World) : Calls Tryd.prog 59 #[.slice none 0 0] w fun e w' => e = .returned (.tuple #[]) ∧ w = w' := by
  refine (AnyM.slices_Sort_int_none Tryd.sortI none 0 w).mono ?_
  rintro e w' ⟨rfl, rfl⟩; exact ⟨rfl, rfl⟩
theorem compact_any (g c : Nat) (zs : List Int) (n : Nat) (hn : zs.length = n) (b : Nat) (w : World) (r : IRow w b (.slice (some ⟨g, 0, none⟩) n c) zs) (hl : zs.length ≤ 1000000) :
    Calls Tryd.prog 60 #[.slice (some ⟨g, 0, none⟩) n c] w fun e w' => e = .returned (.slice (some ⟨g, 0, none⟩) (Lib.compact zs).length c) ∧ IRow w' b (.slice (some ⟨g, 0, none⟩) (Lib.compact zs).length c) (Lib.compact zs) ∧ w.grownBy w' (some g) := by
  subst hn
  rcases r.2 with ⟨e, -⟩ | ⟨g', cap, cur, e, hb, hg, l1, l2, l3, l4⟩
  · cases e
  · simp only [Value.slice.injEq, Option.some.injEq, Addr.mk.injEq, true_and, and_true] at e
    obtain ⟨rfl, rfl⟩ := e
    refine (AnyG.slices_Compact_int Tryd.compactI g 0 c zs w (holds_of_block_i hg (by rw [Nat.mul_one] at l4; exact l4)) (by omega) l1).mono ?_
    rintro e w' ⟨rfl, q, rfl⟩
    have hcl := Lib.compact_length_le zs
    have e1 := grownBy_sorted_i (w := w) (g := g) (n := q) (os := #[]) (Lib.compact zs ++ List.replicate (zs.length - (Lib.compact zs).length) 0).toArray
    rw [grow_empty] at e1
    refine ⟨rfl, ?_, e1⟩
    have := ownsRow_sorted_i (n := q) (os := #[]) (ss := zs) (ts := Lib.compact zs ++ List.replicate (zs.length - (Lib.compact zs).length) 0) (by simp; omega) hb hg l1 l2 l3
    rw [grow_empty, List.map_append] at this
    have h2 := row_cut this
    rw [List.length_map] at h2
    exact h2
theorem compact_none (w : World) : Calls Tryd.prog 60 #[.slice none 0 0] w fun e w' => e = .returned (.slice none 0 0) ∧ w = w' := by
  refine (AnyG.slices_Compact_int_empty Tryd.compactI none 0 w).mono ?_
  rintro e w' ⟨rfl, rfl⟩; exact ⟨rfl, rfl⟩
end Go.Proofs.YtijnppomeoaebaaDoor
