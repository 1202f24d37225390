/- Which numbers may come next behind a list: by the program and by the model. -/
import Derived.Test.YtmjakhnchabkaaaStr14
import Derived.Test.YtmjakhnchabkaaaIApp
import Derived.Lib.RowBridge
set_option linter.unusedSimpArgs false
set_option linter.unusedVariables false
set_option maxRecDepth 100000
namespace Go.Proofs.Ytmjakhnchabkaaa
open Go.ChangeShapes Go.WideShapes Go.ChangeAt Go.RowKit Go.Maps Go.Shelf Go.Sort

/-- The numbers behind a list, of the first of these halves. -/
def nhK (h n : Int) (M : List Int) : Nat → List Int
  | 0 => []
  | k + 1 => if stM h (M.getD k 0 + n) ∈ nhK h n M k then nhK h n M k else insI (stM h (M.getD k 0 + n)) (nhK h n M k)
theorem nhK_all (h n : Int) (M : List Int) (k : Nat) : (nhK h n M k).Pairwise (· < ·) ∧ (∀ z, z ∈ nhK h n M k ↔ ∃ j, j < k ∧ stM h (M.getD j 0 + n) = z) ∧ (nhK h n M k).length ≤ k := by
  induction k with
  | zero => simp [nhK]
  | succ k ih =>
    obtain ⟨h1, h2, h3⟩ := ih
    simp only [nhK]
    split
    · rename_i hx
      refine ⟨h1, fun z => ?_, by omega⟩
      rw [h2]
      constructor
      · rintro ⟨j, hj, e⟩; exact ⟨j, by omega, e⟩
      · rintro ⟨j, hj, e⟩
        by_cases hjk : j = k
        · subst hjk; rw [← e]; exact (h2 _).1 hx
        · exact ⟨j, by omega, e⟩
    · rename_i hx
      refine ⟨insI_lt h1 hx, fun z => ?_, by rw [insI_len]; omega⟩
      rw [mem_insI, h2]
      constructor
      · rintro (e | ⟨j, hj, e⟩)
        · exact ⟨k, by omega, e.symm⟩
        · exact ⟨j, by omega, e⟩
      · rintro ⟨j, hj, e⟩
        by_cases hjk : j = k
        · subst hjk; exact .inl e.symm
        · exact .inr ⟨j, by omega, e⟩
theorem nhK_has {h n : Int} {M : List Int} {k : Nat} (e : stM h (M.getD k 0 + n) ∈ nhK h n M k) : nhK h n M (k + 1) = nhK h n M k := by simp only [nhK]; rw [if_pos e]
theorem nhK_new {h n : Int} {M : List Int} {k : Nat} (e : stM h (M.getD k 0 + n) ∉ nhK h n M k) : nhK h n M (k + 1) = insI (stM h (M.getD k 0 + n)) (nhK h n M k) := by simp only [nhK]; rw [if_neg e]
def nhL (h : Int) (L : List Int) : List Int := if heardB h L then nhK h L.length (hvs h L) (hvs h L).length else []
theorem nhL_len (h : Int) (L : List Int) : (nhL h L).length ≤ 1000000 := by
  unfold nhL
  split
  · rename_i k
    exact Nat.le_trans (nhK_all _ _ _ _).2.2 (Nat.le_trans (hvs_len (heardB_bd k).1 L) (by omega))
  · simp
/-- Two rising lists with the same numbers are one. -/
theorem lt_ext {l l' : List Int} (h : l.Pairwise (· < ·)) (h' : l'.Pairwise (· < ·)) (hm : ∀ z, z ∈ l ↔ z ∈ l') : l = l' := by
  have n1 : l.Nodup := h.imp fun h => by omega
  have n2 : l'.Nodup := h'.imp fun h => by omega
  exact List.Perm.eq_of_pairwise (le := fun a b => a < b) (fun a b _ _ h1 h2 => by omega) h h' ((List.perm_ext_iff_of_nodup n1 n2).2 hm)
theorem comp_all {d : Array Int} (hs : ∀ i j, i ≤ j → j < d.size → d[i]! ≤ d[j]!) : ∀ m, m ≤ d.size → (Lib.compactUpTo d m).Pairwise (· < ·) ∧ ∀ z, z ∈ Lib.compactUpTo d m ↔ ∃ j, j < m ∧ d[j]! = z := by
  intro m
  induction m with
  | zero => intro _; simp [Lib.compactUpTo]
  | succ m ih =>
    intro hm
    obtain ⟨h1, h2⟩ := ih (by omega)
    rw [Lib.compactUpTo_succ]
    cases hk : Lib.keeps d m
    · simp only [Bool.false_eq_true, if_false, List.append_nil]
      refine ⟨h1, fun z => ?_⟩
      rw [h2]
      simp only [Lib.keeps, decide_eq_false_iff_not, not_or, Decidable.not_not] at hk
      constructor
      · rintro ⟨j, hj, e⟩; exact ⟨j, by omega, e⟩
      · rintro ⟨j, hj, e⟩
        by_cases hjm : j = m
        · subst hjm; exact ⟨j - 1, by omega, by rw [← e, hk.2]⟩
        · exact ⟨j, by omega, e⟩
    · simp only [if_true]
      simp only [Lib.keeps, decide_eq_true_eq] at hk
      refine ⟨List.pairwise_append.2 ⟨h1, by simp, fun a ha b hb => ?_⟩, fun z => ?_⟩
      · simp only [List.mem_singleton] at hb
        subst hb
        obtain ⟨j, hj, rfl⟩ := (h2 a).1 ha
        have e1 := hs j (m - 1) (by omega) (by omega)
        have e2 := hs (m - 1) m (by omega) (by omega)
        rcases hk with hk | hk
        · omega
        · omega
      · simp only [List.mem_append, List.mem_singleton, h2]
        constructor
        · rintro (⟨j, hj, e⟩ | e)
          · exact ⟨j, by omega, e⟩
          · exact ⟨m, by omega, e.symm⟩
        · rintro ⟨j, hj, e⟩
          by_cases hjm : j = m
          · subst hjm; exact .inr e.symm
          · exact .inl ⟨j, by omega, e⟩
theorem arr_get {xs : List Int} {j : Nat} (hj : j < xs.length) : xs.toArray[j]! = xs[j] := by
  simp [hj]
theorem comp_sorted (xs : List Int) : (Lib.compact (xs.mergeSort leI)).Pairwise (· < ·) ∧ ∀ z, z ∈ Lib.compact (xs.mergeSort leI) ↔ z ∈ xs := by
  have tr : ∀ a b c : Int, leI a b = true → leI b c = true → leI a c = true := fun a b c h1 h2 => by simp only [leI, decide_eq_true_eq] at *; exact Int.le_trans h1 h2
  have to : ∀ a b : Int, (leI a b || leI b a) = true := fun a b => by simp only [leI, Bool.or_eq_true, decide_eq_true_eq]; exact Int.le_total a b
  have hp := List.pairwise_mergeSort tr to xs
  have hm : ∀ z, z ∈ xs.mergeSort leI ↔ z ∈ xs := fun z => List.mem_mergeSort
  generalize xs.mergeSort leI = ys at *
  obtain ⟨h1, h2⟩ := comp_all (d := ys.toArray) (fun i j hij hj => by
    have hj' : j < ys.length := by simpa using hj
    rw [arr_get (by omega), arr_get hj']
    rcases Nat.lt_or_eq_of_le hij with h | h
    · have := List.pairwise_iff_getElem.1 hp i j (by omega) hj' h
      simpa [leI] using this
    · subst h; exact Int.le_refl _) ys.length (by simp)
  refine ⟨h1, fun z => ?_⟩
  rw [← hm z]
  refine (h2 z).trans ?_
  constructor
  · rintro ⟨j, hj, rfl⟩; rw [arr_get hj]; exact List.getElem_mem hj
  · intro hz
    obtain ⟨j, hj, rfl⟩ := List.mem_iff_getElem.1 hz
    exact ⟨j, hj, arr_get hj⟩
theorem next_same {h n : Int} {M ss zs : List Int} (hp : ss.Perm M) (hz : zs = ss.map fun z => stM h (z + n)) : Lib.compact (zs.mergeSort leI) = nhK h n M M.length := by
  obtain ⟨a1, a2⟩ := comp_sorted zs
  obtain ⟨b1, b2, -⟩ := nhK_all h n M M.length
  refine lt_ext a1 b1 fun z => ?_
  rw [a2, b2, hz, List.mem_map]
  constructor
  · rintro ⟨x, hx, e⟩
    obtain ⟨j, hj, rfl⟩ := List.mem_iff_getElem.1 (hp.mem_iff.1 hx)
    exact ⟨j, hj, by rw [List.getD_eq_getElem?_getD, List.getElem?_eq_getElem hj]; exact e⟩
  · rintro ⟨j, hj, e⟩
    exact ⟨M.getD j 0, hp.mem_iff.2 (getD_mem hj), e⟩

theorem nodup_len {l m : List Int} (h : l.Nodup) (hs : ∀ x ∈ l, x ∈ m) : l.length ≤ m.length := by
  induction l generalizing m with
  | nil => simp
  | cons x xs ih =>
    have hx := hs x (by simp)
    obtain ⟨n1, n2⟩ := List.nodup_cons.1 h
    have h2 := ih (m := m.erase x) n2 (fun y hy => (List.mem_erase_of_ne (show y ≠ x from fun e => n1 (by rw [← e]; exact hy))).2 (hs y (by simp [hy])))
    rw [List.length_erase_of_mem hx] at h2
    have := List.length_pos_of_mem hx
    simp only [List.length_cons]; omega
/-! ### The library's sort and what it strikes out -/
theorem IRow.form {w : World} {b : Nat} {v : Value} {L : List Int} (h : IRow w b v L) : (v = .slice none 0 0 ∧ L = []) ∨ ∃ g c, v = .slice (some ⟨g, 0, none⟩) L.length c := by
  rcases h.2 with ⟨h1, h2⟩ | ⟨g, cap, cur, h1, -⟩
  · exact .inl ⟨h1, List.eq_nil_of_length_eq_zero h2⟩
  · exact .inr ⟨g, cap, h1⟩
theorem row_cut {w : World} {b g n c : Nat} {xs ys : List Value} (h : w.ownsRow b 3 1 (.slice (some ⟨g, 0, none⟩) n c) n (xs ++ ys)) : w.ownsRow b 3 1 (.slice (some ⟨g, 0, none⟩) xs.length c) xs.length xs := by
  obtain ⟨h0, h⟩ := h
  rcases h with ⟨e, -⟩ | ⟨g', cap, cur, e, hb, hg, l1, l2, l3, l4⟩
  · cases e
  · simp only [Value.slice.injEq, Option.some.injEq, Addr.mk.injEq, true_and, and_true] at e
    obtain ⟨rfl, rfl⟩ := e
    rw [List.length_append] at h0
    refine ⟨by simp, .inr ⟨g, c, cur, rfl, hb, hg, by omega, l2, l3, ?_⟩⟩
    have := congrArg (List.take xs.length) l4
    rw [List.take_take, List.take_left, Nat.min_eq_left (by omega)] at this
    rw [Nat.mul_one]; exact this
theorem sort_any (g c : Nat) (zs : List Int) (b : Nat) (w : World) (r : IRow w b (.slice (some ⟨g, 0, none⟩) zs.length c) zs) (hl : zs.length ≤ 1000000) :
    Calls Try.prog 79 #[.slice (some ⟨g, 0, none⟩) zs.length c] w fun e w' => e = .returned (.tuple #[]) ∧ IRow w' b (.slice (some ⟨g, 0, none⟩) zs.length c) (zs.mergeSort leI) ∧ w.grownBy w' (some g) := by
  rcases r.2 with ⟨e, -⟩ | ⟨g', cap, cur, e, hb, hg, l1, l2, l3, l4⟩
  · cases e
  · simp only [Value.slice.injEq, Option.some.injEq, Addr.mk.injEq, true_and, and_true] at e
    obtain ⟨rfl, rfl⟩ := e
    have hgl : g < w.heap.size := (Array.getElem?_eq_some_iff.1 hg).1
    refine (AnyM.slices_Sort_int Try.sortI g 0 c zs w (holds_of_block_i hg (by rw [Nat.mul_one] at l4; exact l4)) hgl (by omega)).mono ?_
    rintro e w' ⟨rfl, n, os, rfl⟩
    refine ⟨rfl, ?_, grownBy_sorted_i _⟩
    have := ownsRow_sorted_i (n := n) (os := os) (ss := zs) (ts := zs.mergeSort leI) (by simp) hb hg l1 l2 l3
    unfold IRow
    rw [List.length_mergeSort]
    exact this
theorem sort_none (w : World) : Calls Try.prog 79 #[.slice none 0 0] w fun e w' => e = .returned (.tuple #[]) ∧ w = w' := by
  refine (AnyM.slices_Sort_int_none Try.sortI none 0 w).mono ?_
  rintro e w' ⟨rfl, rfl⟩; exact ⟨rfl, rfl⟩
theorem compact_any (g c : Nat) (zs : List Int) (n : Nat) (hn : zs.length = n) (b : Nat) (w : World) (r : IRow w b (.slice (some ⟨g, 0, none⟩) n c) zs) (hl : zs.length ≤ 1000000) :
    Calls Try.prog 80 #[.slice (some ⟨g, 0, none⟩) n c] w fun e w' => e = .returned (.slice (some ⟨g, 0, none⟩) (Lib.compact zs).length c) ∧ IRow w' b (.slice (some ⟨g, 0, none⟩) (Lib.compact zs).length c) (Lib.compact zs) ∧ w.grownBy w' (some g) := by
  subst hn
  rcases r.2 with ⟨e, -⟩ | ⟨g', cap, cur, e, hb, hg, l1, l2, l3, l4⟩
  · cases e
  · simp only [Value.slice.injEq, Option.some.injEq, Addr.mk.injEq, true_and, and_true] at e
    obtain ⟨rfl, rfl⟩ := e
    refine (AnyG.slices_Compact_int Try.compactI g 0 c zs w (holds_of_block_i hg (by rw [Nat.mul_one] at l4; exact l4)) (by omega) l1).mono ?_
    rintro e w' ⟨rfl, q, rfl⟩
    have hcl := Lib.compact_length_le zs
    have e1 := grownBy_sorted_i (w := w) (g := g) (n := q) (os := #[]) (Lib.compact zs ++ List.replicate (zs.length - (Lib.compact zs).length) 0).toArray
    rw [grow_empty] at e1
    refine ⟨rfl, ?_, e1⟩
    have := ownsRow_sorted_i (n := q) (os := #[]) (ss := zs) (ts := Lib.compact zs ++ List.replicate (zs.length - (Lib.compact zs).length) 0) (by simp; omega) hb hg l1 l2 l3
    rw [grow_empty, List.map_append] at this
    have h2 := row_cut this
    rw [List.length_map] at h2
    exact h2
theorem compact_none (w : World) : Calls Try.prog 80 #[.slice none 0 0] w fun e w' => e = .returned (.slice none 0 0) ∧ w = w' := by
  refine (AnyG.slices_Compact_int_empty Try.compactI none 0 w).mono ?_
  rintro e w' ⟨rfl, rfl⟩; exact ⟨rfl, rfl⟩

set_option maxHeartbeats 1600000 in
theorem specNextHeard_any (h : Int) (L : List Int) (n : Nat) (hn : L.length = n) (a : Option Addr) (c : Nat) (hle : n ≤ 2000000) (w : World) (h1 : IIn w a L) :
    Calls Try.prog 41 #[.int .i64 h, .slice a n c] w (IntsOut w (nhL h L) (heardB h L)) := by
  have X1 := Lib.hid h1
  have HN := Lib.hid hn
  clear h1 hn
  cases ga : heardB h L
  · (go_enter Try.func41, Try.ntmps41)
    go_wp2_with fail
    refine (stHeard_is h L n HN.out a c hle ga _ X1.out).mono ?_
    (rintro e1 w1 ⟨rfl, rfl⟩)
    go_wp2
    (refine bodyPost_ret (by simp [results, Try.results41, go_sem, *]; try rfl) rfl ?_)
    rw [show nhL h L = [] by simp [nhL, ga]]
    exact IntsOut.none (Below.refl _ _)
  · obtain ⟨hh, l1, l2⟩ := heardB_bd ga
    rw [HN.out] at l1 l2
    have hw2 := w64 (n := 2 * h) (by omega)
    have hz3 : ¬ (2 * h = 0) := by omega
    have HO := Lib.hid (show nhK h n (hvs h L) (hvs h L).length = nhL h L by simp [nhL, ga, HN.out])
    have HMB : Hid (∀ k, k < (hvs h L).length → 0 ≤ (hvs h L).getD k 0 ∧ (hvs h L).getD k 0 < 2 * h) := Lib.hid (fun k hk => by
      have := mem_hvs.1 (getD_mem hk)
      exact allS_bd this)
    have hm48 := hvs_len hh L
    (go_enter Try.func41, Try.ntmps41)
    go_wp2_with fail
    refine (stHeard_is h L n HN.out a c hle ga _ X1.out).mono ?_
    (rintro e1 w1 ⟨rfl, rfl⟩)
    go_wp2_with fail
    refine (stHalves_any h L n HN.out a c (by omega) hh _ X1.out).mono ?_
    rintro e1 w1 ⟨v1, rfl, hr1, hb1⟩
    obtain ⟨a1, c1, rfl, hin1, -, -⟩ := hr1.inn
    have X3 := Lib.hid hin1
    have hz1 := hb1.size
    clear hr1 hin1
    generalize hvs h L = M at *
    obtain ⟨m, hmm⟩ : ∃ m, M.length = m := ⟨_, rfl⟩
    have HMM := Lib.hid hmm
    rw [hmm] at HMB hm48 ⊢
    clear hmm
    go_wp2
    go_loopw [6, 18] (fun o i wr => ∃ k : Nat, k ≤ m ∧ i = .int .i64 k ∧ IRow wr w.heap.size o (nhK h n M k) ∧ Below w1.heap.size w1 wr) (fun _ i _ => m - (RowKit.intOf i).toNat)
    case atStart => exact ⟨0, Nat.zero_le _, rfl, IRow.nil _ _, Below.refl _ _⟩
    case round =>
      obtain ⟨k, hk, rfl, hown, hbel⟩ := hrel
      have hzr := hbel.size
      have i0' : (0 : Int) ≤ (k : Int) := Int.natCast_nonneg _
      obtain ⟨-, -, hlen⟩ := nhK_all h n M k
      by_cases hlt : k < m
      · obtain ⟨b1, o1, e0, e1, e2⟩ := X3.out k (by have := HMM.out; omega)
        obtain ⟨hcr, hfr⟩ := bcell hbel
        have f2 := (hcr b1 (o1 + k) e1).trans e2
        have u1 : b1 < wr.heap.size := by omega
        have i1 : (k : Int) < (m : Int) := by omega
        obtain ⟨x0, x1⟩ := HMB.out k hlt
        obtain ⟨t, hte⟩ : ∃ t, stM h (M.getD k 0 + n) = t := ⟨_, rfl⟩
        have HKH : Hid (t ∈ nhK h n M k → nhK h n M (k + 1) = nhK h n M k) := Lib.hid (fun e => nhK_has (by rw [hte]; exact e))
        have HKN : Hid (t ∉ nhK h n M k → nhK h n M (k + 1) = insI t (nhK h n M k)) := Lib.hid (fun e => by rw [← hte]; exact nhK_new (by rw [hte]; exact e))
        have hr := t64 (n := M.getD k 0 + n) (g := 2 * h) (by omega) (by omega) (by omega)
        obtain ⟨m1, m2⟩ := mod_bd (M.getD k 0 + n) hh
        have HT := Lib.hid hte
        clear e2 hcr hfr hte
        subst e0
        generalize M.getD k 0 = x at *
        have HOWN := Lib.hid hown
        obtain ⟨a2, c2, rfl, hin2, -, -⟩ := hown.inn
        have X4 := Lib.hid hin2
        clear hown hin2
        go_wp2_with fail
        refine (stAt_is h ((x + n) % (2 * h)) m1 (by omega) HT.out _).mono ?_
        (rintro e1 w1 ⟨rfl, rfl⟩)
        by_cases hmem : t ∈ nhK h n M k
        · have HE := Lib.hid (HKH.out hmem)
          have HD : Hid (decide (t ∈ nhK h n M k) = true) := Lib.hid (by simpa using hmem)
          clear hmem
          generalize nhK h n M k = q at *
          go_wp2_with fail
          refine (l1Has_is q q.length rfl a2 c2 t HD.out (by omega) _ X4.out).mono ?_
          (rintro e1 w1 ⟨rfl, rfl⟩)
          go_wp2
          go_roundw
          case rel => exact ⟨k + 1, by omega, by go_num, by rw [HE.out]; exact HOWN.out, hbel⟩
          case measure => simp [RowKit.intOf]; omega
        · have HE := Lib.hid (HKN.out hmem)
          have HD : Hid (decide (t ∈ nhK h n M k) = false) := Lib.hid (by simpa using hmem)
          have HX := Lib.hid hmem
          clear hmem
          generalize nhK h n M k = q at *
          go_wp2_with fail
          refine (l1Has_is q q.length rfl a2 c2 t HD.out (by omega) _ X4.out).mono ?_
          (rintro e1 w1 ⟨rfl, rfl⟩)
          go_wp2_with fail
          refine (l1Put_any q (.slice a2 q.length c2) _ t HX.out (by omega) _ HOWN.out).mono ?_
          rintro e3 w3 ⟨v3, rfl, hr3, hb3⟩
          have HR3 := Lib.hid hr3
          clear hr3
          go_wp2
          go_roundw
          case rel => exact ⟨k + 1, by omega, by go_num, by rw [HE.out]; exact IRow.mono HR3.out (by omega), hbel.trans (hb3.mono hzr)⟩
          case measure => simp [RowKit.intOf]; omega
      · obtain rfl : k = m := by omega
        go_wp2
        (refine bodyPost_ret (by simp [results, Try.results41, go_sem, *]; try rfl) rfl ?_)
        rw [← HO.out, HMM.out]
        exact ⟨_, rfl, hown, hb1.trans (hbel.mono hz1)⟩

end Go.Proofs.Ytmjakhnchabkaaa
