/- The pairs of a ratio: found by multiples, and found by trying all first wheels: the same list. -/
import Derived.Test.YtaifcemdabcfjaaIt2w
set_option linter.unusedSimpArgs false
set_option linter.unusedVariables false
set_option maxRecDepth 100000
namespace Go.Proofs.Ytaifcemdabcfjaa
open Go.RowKit

def candB (N D m c : Int) : Bool := decide (c * D % N = 0 ∧ 6 ≤ c * D / N ∧ c * D / N ≤ m)
def clE (N D m : Int) (a : Nat) : List (Int × Int) := if candB N D m (6 + (a : Int)) then [(6 + (a : Int), (6 + (a : Int)) * D / N)] else []
/-- The pairs that are found by trying the first k numbers of teeth. -/
def clA (N D m : Int) : Nat → List (Int × Int)
  | 0 => []
  | k + 1 => clA N D m k ++ clE N D m k
theorem clA_pre (N D m : Int) {k K : Nat} (h : k ≤ K) : clA N D m k <+: clA N D m K := by
  induction K with
  | zero => obtain rfl : k = 0 := by omega
            exact List.prefix_refl _
  | succ K ih =>
    by_cases hc : k = K + 1
    · subst hc; exact List.prefix_refl _
    · exact (ih (by omega)).trans (List.prefix_append _ _)
theorem mem_clA {N D m : Int} {n : Nat} {x : Int × Int} : x ∈ clA N D m n ↔ ∃ a, a < n ∧ candB N D m (6 + (a : Int)) = true ∧ x = (6 + (a : Int), (6 + (a : Int)) * D / N) := by
  induction n with
  | zero => simp [clA]
  | succ n ih =>
    simp only [clA, List.mem_append, ih, clE]
    constructor
    · rintro (⟨a, h1, h2, h3⟩ | h)
      · exact ⟨a, by omega, h2, h3⟩
      · split at h
        · rename_i hc
          exact ⟨n, by omega, hc, by simpa using h⟩
        · simp at h
    · rintro ⟨a, h1, h2, h3⟩
      by_cases han : a = n
      · subst han
        right
        rw [if_pos h2]; simp [h3]
      · exact .inl ⟨a, by omega, h2, h3⟩
theorem clA_sorted (N D m : Int) (n : Nat) : (clA N D m n).Pairwise fun p q => p.1 < q.1 := by
  induction n with
  | zero => exact List.Pairwise.nil
  | succ n ih =>
    refine List.pairwise_append.2 ⟨ih, ?_, ?_⟩
    · unfold clE
      split
      · exact List.pairwise_singleton _ _
      · exact List.Pairwise.nil
    · intro p hp q hq
      obtain ⟨a, h1, -, rfl⟩ := mem_clA.1 hp
      unfold clE at hq
      split at hq
      · obtain rfl : q = _ := by simpa using hq
        simp only; omega
      · simp at hq
theorem mem_wlK {P Q : Int} {n : Nat} {x : Int × Int} : x ∈ wlK P Q n ↔ ∃ a : Nat, a < n ∧ pairB x = true ∧ x = (((a : Int) + 1) * P, ((a : Int) + 1) * Q) := by
  induction n with
  | zero => simp [wlK]
  | succ n ih =>
    simp only [wlK, List.mem_append, ih, wlE]
    constructor
    · rintro (⟨a, h1, h2, h3⟩ | h)
      · exact ⟨a, by omega, h2, h3⟩
      · split at h
        · rename_i hc
          obtain rfl : x = _ := by simpa using h
          exact ⟨n, by omega, hc, rfl⟩
        · simp at h
    · rintro ⟨a, h1, h2, h3⟩
      by_cases han : a = n
      · subst han
        right
        rw [← h3, if_pos h2]; simp
      · exact .inl ⟨a, by omega, h2, h3⟩
theorem wlK_sorted {P Q : Int} (hP : 1 ≤ P) (n : Nat) : (wlK P Q n).Pairwise fun p q => p.1 < q.1 := by
  induction n with
  | zero => exact List.Pairwise.nil
  | succ n ih =>
    refine List.pairwise_append.2 ⟨ih, ?_, ?_⟩
    · unfold wlE
      split
      · exact List.pairwise_singleton _ _
      · exact List.Pairwise.nil
    · intro p hp q hq
      obtain ⟨a, h1, -, rfl⟩ := mem_wlK.1 hp
      unfold wlE at hq
      split at hq
      · obtain rfl : q = _ := by simpa using hq
        exact Int.mul_lt_mul_of_pos_right (by omega) (by omega)
      · simp at hq
theorem sorted_ext : ∀ {L M : List (Int × Int)}, L.Pairwise (fun p q => p.1 < q.1) → M.Pairwise (fun p q => p.1 < q.1) → (∀ x, x ∈ L ↔ x ∈ M) → L = M
  | [], [], _, _, _ => rfl
  | [], b :: M, _, _, h => by have := (h b).2 List.mem_cons_self; simp at this
  | a :: L, [], _, _, h => by have := (h a).1 List.mem_cons_self; simp at this
  | a :: L, b :: M, hL, hM, h => by
    obtain ⟨l1, l2⟩ := List.pairwise_cons.1 hL
    obtain ⟨m1, m2⟩ := List.pairwise_cons.1 hM
    have e : a = b := by
      rcases List.mem_cons.1 ((h a).1 List.mem_cons_self) with e | ha
      · exact e
      · rcases List.mem_cons.1 ((h b).2 List.mem_cons_self) with e | hb
        · exact e.symm
        · have := m1 a ha; have := l1 b hb; omega
    subst e
    congr 1
    refine sorted_ext l2 m2 fun x => ?_
    constructor
    · intro hx
      rcases List.mem_cons.1 ((h x).1 (List.mem_cons_of_mem _ hx)) with e | hx'
      · subst e; have := l1 x hx; omega
      · exact hx'
    · intro hx
      rcases List.mem_cons.1 ((h x).2 (List.mem_cons_of_mem _ hx)) with e | hx'
      · subst e; have := m1 x hx; omega
      · exact hx'
theorem wl_eq {N D : Int} (hN : 1 ≤ N) (hD : 1 ≤ D) {n : Nat} (hn : n ≤ 115) :
    wlK (spN N D) (spD N D) (wlN (spN N D) (spD N D) (5 + (n : Int))) = clA N D (5 + (n : Int)) n := by
  obtain ⟨⟨p1, p2⟩, q1, q2⟩ := sp_pos N D hN hD
  obtain ⟨e1, e2⟩ := sp_mul N D
  have hg := gcd_pos_of N D hD
  have hc := sp_cop N D hD
  generalize spN N D = P at *
  generalize spD N D = Q at *
  generalize gc N D = g at *
  refine sorted_ext (wlK_sorted p1 _) (clA_sorted _ _ _ _) fun x => ?_
  rw [mem_wlK, mem_clA]
  have hg0 : (g : Int) ≠ 0 := by omega
  constructor
  · rintro ⟨k, h1, h2, rfl⟩
    have h3 := (wlN_iff p1 q1 k).1 h1
    obtain ⟨⟨b1, b2⟩, b3, b4⟩ := pairB_bd h2
    simp only at b1 b2 b3 b4
    have hx : ((k : Int) + 1) * P ≤ 5 + n ∧ ((k : Int) + 1) * Q ≤ 5 + n := by unfold mx at h3; split at h3 <;> omega
    have e3 : ((k : Int) + 1) * P * D = N * (((k : Int) + 1) * Q) := by rw [e1, e2]; grind
    obtain ⟨a, ha⟩ := Int.eq_ofNat_of_zero_le (show 0 ≤ ((k : Int) + 1) * P - 6 by omega)
    have ha' : ((k : Int) + 1) * P = 6 + (a : Int) := by omega
    refine ⟨a, by omega, ?_, ?_⟩
    · rw [← ha']
      simp only [candB, decide_eq_true_eq]
      rw [e3]
      refine ⟨Int.mul_emod_right _ _, ?_⟩
      rw [Int.mul_ediv_cancel_left _ (by omega)]
      omega
    · rw [← ha', e3, Int.mul_ediv_cancel_left _ (by omega)]
  · rintro ⟨a, h1, h2, rfl⟩
    simp only [candB, decide_eq_true_eq] at h2
    obtain ⟨h3, h4, h5⟩ := h2
    have e3 : (6 + (a : Int)) * D = N * ((6 + (a : Int)) * D / N) := (Int.mul_ediv_cancel' (Int.dvd_of_emod_eq_zero h3)).symm
    generalize (6 + (a : Int)) * D / N = y at *
    have e4 : (6 + (a : Int)) * Q = P * y := by
      rw [e1, e2] at e3
      refine Int.eq_of_mul_eq_mul_left hg0 ?_
      grind
    have hd : P ∣ 6 + (a : Int) := by
      refine cop_dvd (p := Q) (q := P) (by unfold gc at hc ⊢; rw [Int.gcd_comm]; exact hc) ?_
      exact ⟨y, by rw [Int.mul_comm]; exact e4⟩
    obtain ⟨k, hk⟩ := hd
    have hk0 : 1 ≤ k := by
      rcases Int.lt_or_le k 1 with h | h
      · have := Int.mul_le_mul_of_nonneg_left (show k ≤ 0 by omega) (show 0 ≤ P by omega)
        omega
      · exact h
    have hy : y = k * Q := by
      rw [hk, Int.mul_assoc] at e4
      exact (Int.eq_of_mul_eq_mul_left (show P ≠ 0 by omega) e4).symm
    obtain ⟨j, hj⟩ := Int.eq_ofNat_of_zero_le (show 0 ≤ k - 1 by omega)
    have hkj : k = (j : Int) + 1 := by omega
    subst hkj
    rw [Int.mul_comm] at hk
    refine ⟨j, (wlN_iff p1 q1 j).2 ?_, pairB_of ⟨⟨by omega, by omega⟩, by omega, by omega⟩, by rw [hk, hy]⟩
    rw [← hk, ← hy]
    unfold mx; split <;> omega
end Go.Proofs.Ytaifcemdabcfjaa
