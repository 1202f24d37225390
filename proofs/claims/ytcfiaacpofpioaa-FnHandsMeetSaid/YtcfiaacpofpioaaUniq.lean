/- The sorted list without what stands twice is what comes of putting each turn into its place once. -/
import Derived.Test.YtcfiaacpofpioaaComp
set_option linter.unusedSimpArgs false
set_option linter.unusedVariables false
set_option maxRecDepth 100000
namespace Go.Proofs.Ytcfiaacpofpioaa
open Go.RowKit

def Strict (L : List (Int × Int)) : Prop := L.Pairwise fun a b => ltT a b = true
theorem ltT_irrefl (a : Int × Int) : ltT a a = false := by rw [ltT_not]; omega
theorem ltT_asym {a b : Int × Int} (h : ltT a b = true) : ltT b a = false := by rw [ltT_iff] at h; rw [ltT_not]; omega
theorem den_pos {a : Int × Int} (h : goodB a.1 a.2 = true) : 1 ≤ a.2 := ((goodB_iff _ _).1 h).1
theorem ltT_trans {a b c : Int × Int} (ha : goodB a.1 a.2 = true) (hb : goodB b.1 b.2 = true) (hc : goodB c.1 c.2 = true) (h1 : ltT a b = true) (h2 : ltT b c = true) : ltT a c = true := by
  rw [ltT_iff] at *
  exact chain_lt (den_pos ha) (den_pos hb) (den_pos hc) h1 h2
theorem leT_trans {a b c : Int × Int} (ha : goodB a.1 a.2 = true) (hb : goodB b.1 b.2 = true) (hc : goodB c.1 c.2 = true) (h1 : ltT b a = false) (h2 : ltT c b = false) : ltT c a = false := by
  rw [ltT_not] at *
  exact chain_le (den_pos hc) (den_pos hb) (den_pos ha) h2 h1
theorem ltT_total {a b : Int × Int} (ha : goodB a.1 a.2 = true) (hb : goodB b.1 b.2 = true) (h1 : ltT a b = false) (hne : a ≠ b) : ltT b a = true := by
  rw [ltT_not] at h1
  rw [ltT_iff]
  rcases Int.lt_or_eq_of_le h1 with h | h
  · exact h
  · exact absurd (low_eq ha hb h.symm) hne
theorem insU_spec (t : Int × Int) (ht : goodB t.1 t.2 = true) : ∀ (L : List (Int × Int)), AllGood L → Strict L → Strict (insU t L) ∧ ∀ x, x ∈ insU t L ↔ x = t ∨ x ∈ L
  | [], _, _ => ⟨by simp [insU, Strict], by simp [insU]⟩
  | x :: xs, hg, hs => by
    have hgx := hg x (List.mem_cons_self ..)
    have hgs : AllGood xs := fun y hy => hg y (List.mem_cons_of_mem _ hy)
    obtain ⟨hx, hss⟩ := List.pairwise_cons.1 hs
    unfold insU
    split
    · rename_i h
      obtain ⟨i1, i2⟩ := insU_spec t ht xs hgs hss
      refine ⟨List.pairwise_cons.2 ⟨fun y hy => ?_, i1⟩, fun y => ?_⟩
      · rcases (i2 y).1 hy with rfl | hy'
        · exact h
        · exact hx y hy'
      · rw [List.mem_cons, i2, List.mem_cons]
        constructor
        · rintro (h | h | h) <;> simp [h]
        · rintro (h | h | h) <;> simp [h]
    · rename_i h
      have h' : ltT x t = false := by simpa using h
      split
      · rename_i e
        subst e
        exact ⟨hs, fun y => by simp⟩
      · rename_i hne
        have h2 := ltT_total hgx ht h' hne
        refine ⟨List.pairwise_cons.2 ⟨fun y hy => ?_, hs⟩, fun y => by simp⟩
        rcases List.mem_cons.1 hy with rfl | hy'
        · exact h2
        · exact ltT_trans ht hgx (hgs y hy') h2 (hx y hy')
def insAll (P : List (Int × Int)) : List (Int × Int) := P.foldl (fun a t => insU t a) []
theorem insAll_snoc (P : List (Int × Int)) (t : Int × Int) : insAll (P ++ [t]) = insU t (insAll P) := by simp [insAll]
theorem insFold_spec : ∀ (P A : List (Int × Int)), AllGood P → AllGood A → Strict A → Strict (P.foldl (fun a t => insU t a) A) ∧ ∀ x, x ∈ P.foldl (fun a t => insU t a) A ↔ x ∈ P ∨ x ∈ A
  | [], A, _, _, hs => ⟨hs, by simp⟩
  | t :: P, A, hp, ha, hs => by
    have ht := hp t (List.mem_cons_self ..)
    obtain ⟨i1, i2⟩ := insU_spec t ht A ha hs
    have hg : AllGood (insU t A) := fun y hy => by
      rcases (i2 y).1 hy with rfl | h
      · exact ht
      · exact ha y h
    obtain ⟨j1, j2⟩ := insFold_spec P (insU t A) (fun y hy => hp y (List.mem_cons_of_mem _ hy)) hg i1
    refine ⟨j1, fun x => ?_⟩
    rw [List.foldl_cons, j2, i2, List.mem_cons]
    constructor
    · rintro (h | h | h) <;> simp [h]
    · rintro ((h | h) | h) <;> simp [h]
theorem insAll_good {P : List (Int × Int)} (hp : AllGood P) : AllGood (insAll P) ∧ Strict (insAll P) ∧ ∀ x, x ∈ insAll P ↔ x ∈ P := by
  obtain ⟨h1, h2⟩ := insFold_spec P [] hp (fun _ h => by simp at h) List.Pairwise.nil
  exact ⟨fun x hx => hp x (by simpa using (h2 x).1 hx), h1, fun x => by have h := h2 x; unfold insAll; simpa using h⟩
theorem insAll_len (P : List (Int × Int)) : (insAll P).length ≤ P.length := by
  have h : ∀ (P A : List (Int × Int)), (P.foldl (fun a t => insU t a) A).length ≤ P.length + A.length := by
    intro P
    induction P with
    | nil => simp
    | cons t P ih =>
      intro A
      have h1 := ih (insU t A)
      have h2 := insU_len t A
      simp only [List.foldl_cons, List.length_cons]
      omega
  simpa [insAll] using h P []
theorem strict_ext : ∀ (L M : List (Int × Int)), Strict L → Strict M → (∀ x, x ∈ L ↔ x ∈ M) → L = M
  | [], [], _, _, _ => rfl
  | [], y :: M, _, _, h => absurd ((h y).2 (List.mem_cons_self ..)) (by simp)
  | x :: L, [], _, _, h => absurd ((h x).1 (List.mem_cons_self ..)) (by simp)
  | x :: L, y :: M, hl, hm, h => by
    obtain ⟨l1, l2⟩ := List.pairwise_cons.1 hl
    obtain ⟨m1, m2⟩ := List.pairwise_cons.1 hm
    have e : x = y := by
      rcases List.mem_cons.1 ((h x).1 (List.mem_cons_self ..)) with e | hx
      · exact e
      · rcases List.mem_cons.1 ((h y).2 (List.mem_cons_self ..)) with e | hy
        · exact e.symm
        · have a := ltT_asym (m1 x hx)
          rw [l1 y hy] at a
          cases a
    subst e
    congr 1
    refine strict_ext L M l2 m2 fun z => ⟨fun hz => ?_, fun hz => ?_⟩
    · rcases List.mem_cons.1 ((h z).1 (List.mem_cons_of_mem _ hz)) with rfl | h'
      · have a := l1 z hz
        rw [ltT_irrefl] at a; cases a
      · exact h'
    · rcases List.mem_cons.1 ((h z).2 (List.mem_cons_of_mem _ hz)) with rfl | h'
      · have a := m1 z hz
        rw [ltT_irrefl] at a; cases a
      · exact h'
theorem getD_good {L : List (Int × Int)} (hg : AllGood L) {j : Nat} (hj : j < L.length) : goodB (L.getD j (0, 0)).1 (L.getD j (0, 0)).2 = true := hg _ (getD_mem hj)
theorem mem_take_getD {L : List (Int × Int)} {m : Nat} {x : Int × Int} : x ∈ L.take m ↔ ∃ t, t < m ∧ t < L.length ∧ L.getD t (0, 0) = x := by
  rw [List.mem_iff_getElem]
  constructor
  · rintro ⟨t, ht, rfl⟩
    simp only [List.length_take] at ht
    exact ⟨t, by omega, by omega, by rw [List.getElem_take, List.getD_eq_getElem?_getD, List.getElem?_eq_getElem (by omega)]; rfl⟩
  · rintro ⟨t, h1, h2, rfl⟩
    exact ⟨t, by simp; omega, by rw [List.getElem_take, List.getD_eq_getElem?_getD, List.getElem?_eq_getElem h2]; rfl⟩
theorem kept_spec {L : List (Int × Int)} (hg : AllGood L) (hw : ∀ i j, i < j → j < L.length → ltT (L.getD j (0, 0)) (L.getD i (0, 0)) = false) :
    ∀ m, m ≤ L.length → Strict (keptI (kpT L) L m) ∧ ∀ x, x ∈ keptI (kpT L) L m ↔ x ∈ L.take m
  | 0, _ => ⟨by simp [keptI, Strict], by simp [keptI]⟩
  | m + 1, hm => by
    obtain ⟨i1, i2⟩ := kept_spec hg hw m (by omega)
    rw [keptI_succ, take_snoc (by omega)]
    by_cases hk : kpT L m = true
    · rw [if_pos hk]
      refine ⟨List.pairwise_append.2 ⟨i1, by simp, fun x hx y hy => ?_⟩, fun x => by rw [List.mem_append, List.mem_append, i2]⟩
      obtain rfl : y = L.getD m (0, 0) := by simpa using hy
      obtain ⟨t, h1, h2, rfl⟩ := mem_take_getD.1 ((i2 x).1 hx)
      have gm := getD_good hg (show m < L.length by omega)
      have gt := getD_good hg h2
      have h3 := hw t m h1 (by omega)
      refine ltT_total gm gt h3 fun e => ?_
      have hk' : m = 0 ∨ L.getD m (0, 0) ≠ L.getD (m - 1) (0, 0) := by simpa [kpT] using hk
      rcases hk' with h0 | hne
      · omega
      · have gp := getD_good hg (show m - 1 < L.length by omega)
        have h4 : ltT (L.getD m (0, 0)) (L.getD (m - 1) (0, 0)) = false := hw (m - 1) m (by omega) (by omega)
        have h5 : ltT (L.getD (m - 1) (0, 0)) (L.getD t (0, 0)) = false := by
          by_cases htm : t = m - 1
          · rw [htm]; exact ltT_irrefl _
          · exact hw t (m - 1) (by omega) (by omega)
        rw [← e] at h5
        rw [ltT_not] at h4 h5
        exact hne (low_eq gm gp (Int.le_antisymm h5 h4))
    · rw [if_neg hk]
      have hk' : ¬ (m = 0 ∨ L.getD m (0, 0) ≠ L.getD (m - 1) (0, 0)) := by simpa [kpT] using hk
      have h0 : m ≠ 0 := fun h => hk' (.inl h)
      have he : L.getD m (0, 0) = L.getD (m - 1) (0, 0) := Decidable.byContradiction fun h => hk' (.inr h)
      refine ⟨by simpa using i1, fun x => ?_⟩
      rw [List.append_nil, i2, List.mem_append]
      constructor
      · exact .inl
      · rintro (h | h)
        · exact h
        · obtain rfl : x = L.getD m (0, 0) := by simpa using h
          rw [he]
          exact mem_take_getD.2 ⟨m - 1, by omega, by omega, rfl⟩
theorem sortT_spec {P : List (Int × Int)} (hp : AllGood P) : AllGood (sortT P) ∧ (∀ i j, i < j → j < (sortT P).length → ltT ((sortT P).getD j (0, 0)) ((sortT P).getD i (0, 0)) = false) ∧ ∀ x, x ∈ sortT P ↔ x ∈ P := by
  have hm : ∀ x, x ∈ sortT P ↔ x ∈ P := fun x => (List.mergeSort_perm P _).mem_iff
  refine ⟨fun x hx => hp x ((hm x).1 hx), fun i j hij hj => ?_, hm⟩
  obtain ⟨d, hd⟩ := lift_gt P hp
  have hpw : (sortGT d).Pairwise fun a b => (!(ltOf cfT) b a) = true := List.pairwise_mergeSort
    (fun a b c h1 h2 => by
      simp only [Bool.not_eq_true'] at *
      exact swoT.ntrans _ _ _ h2 h1)
    (fun a b => by
      cases h : ltOf cfT b a
      · simp
      · have h2 : ltOf cfT a b = false := by
          rw [ltOf_cfT] at *
          exact ltT_asym h
        simp [h2]) d
  have hpw2 : (sortT P).Pairwise fun a b => ltT b a = false := by
    rw [← hd, ← sortGT_map, List.pairwise_map]
    exact hpw.imp fun h => by rw [ltOf_cfT] at h; simpa using h
  have h := List.pairwise_iff_getElem.1 hpw2 i j (by omega) hj hij
  rw [List.getD_eq_getElem?_getD, List.getD_eq_getElem?_getD, List.getElem?_eq_getElem hj, List.getElem?_eq_getElem (by omega)]
  exact h
/-- The two ways to one list. -/
theorem compT_sortT {P : List (Int × Int)} (hp : AllGood P) : compT (sortT P) = insAll P := by
  obtain ⟨s1, s2, s3⟩ := sortT_spec hp
  obtain ⟨k1, k2⟩ := kept_spec s1 s2 _ (Nat.le_refl _)
  obtain ⟨i0, i1, i2⟩ := insAll_good hp
  refine strict_ext _ _ k1 i1 fun x => ?_
  rw [show compT (sortT P) = keptI (kpT (sortT P)) (sortT P) (sortT P).length from rfl, k2, List.take_of_length_le (Nat.le_refl _), s3, i2]
end Go.Proofs.Ytcfiaacpofpioaa
