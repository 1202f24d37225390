/- The laws' own helpers over lists of numbers: whether two are the same, whether one has a number. -/
import Derived.Test.YtloppndldnepfaaIApp
set_option linter.unusedSimpArgs false
set_option linter.unusedVariables false
set_option maxRecDepth 100000
namespace Go.Proofs.Ytloppndldnepfaa
open Go.ChangeShapes Go.WideShapes Go.ChangeAt Go.RowKit

set_option maxHeartbeats 1600000 in
theorem kSame_is {r : Bool} (L M : List Int) (n m : Nat) (hn : L.length = n) (hm : M.length = m) (a1 a2 : Option Addr) (c1 c2 : Nat) (hr : decide (L = M) = r) (hle : n ≤ 2000000 ∧ m ≤ 2000000) (w : World) (h1 : IIn w a1 L) (h2 : IIn w a2 M) :
    Calls Try.prog 17 #[.slice a1 n c1, .slice a2 m c2] w (fun e w' => e = .returned (.bool r) ∧ Below w.heap.size w w') := by
  have X1 := Lib.hid h1
  have X2 := Lib.hid h2
  have HN1 := Lib.hid hn
  have HN2 := Lib.hid hm
  obtain ⟨hl1, hl2⟩ := hle
  by_cases hnm : n = m
  · subst hnm
    have HT : Hid ((∀ j, j < n → L.getD j 0 = M.getD j 0) → r = true) := fun h => by rw [← hr, decide_eq_true_eq]; exact list_extI (by omega) (fun j hj => h j (by omega))
    have HF : Hid (∀ j, L.getD j 0 ≠ M.getD j 0 → r = false) := fun j h => by rw [← hr, decide_eq_false_iff_not]; intro e; exact h (by rw [e])
    clear h1 h2 hn hm hr
    (go_enter Try.func17, Try.ntmps17)
    go_wp2
    go_loopw [13] (fun i wr => ∃ k : Nat, k ≤ n ∧ i = .int .i64 k ∧ (∀ j, j < k → L.getD j 0 = M.getD j 0) ∧ Below w.heap.size w wr) (fun i _ => n - (RowKit.intOf i).toNat)
    case atStart => exact ⟨0, Nat.zero_le _, rfl, fun j hj => absurd hj (Nat.not_lt_zero _), Below.refl _ _⟩
    case round =>
      obtain ⟨k, hk, rfl, hall, hbel⟩ := hrel
      have HA := Lib.hid hall
      clear hall
      have i0 : (0 : Int) ≤ (k : Int) := Int.natCast_nonneg _
      by_cases hlt : k < n
      · obtain ⟨g1, o1, rfl, e1, e2⟩ := X1.out k (by have := HN1.out; omega)
        obtain ⟨g2, o2, rfl, f1, f2⟩ := X2.out k (by have := HN2.out; omega)
        obtain ⟨hc0, hf0⟩ := bcell hbel
        have hz := hbel.size
        have z1 := (hc0 g1 (o1 + k) e1).trans e2
        have z2 := (hc0 g2 (o2 + k) f1).trans f2
        have u1 : g1 < wr.heap.size := by omega
        have u2 : g2 < wr.heap.size := by omega
        have i1 : (k : Int) < (n : Int) := by omega
        clear e2 f2 hc0 hf0
        by_cases hxy : L.getD k 0 = M.getD k 0
        · have HA2 : Hid (∀ j, j < k + 1 → L.getD j 0 = M.getD j 0) := fun j hj => by
            by_cases hjk : j = k
            · subst hjk; exact hxy
            · exact HA.out j (by omega)
          rw [← hxy] at z2
          clear hxy
          generalize L.getD k 0 = x at z1 z2
          go_wp2_with fail
          refine wp_region_below (by kernel_rfl) (by kernel_rfl) ?_
          (apply wpB_take (hw := rfl); (intro wq hq; obtain ⟨hcq, hfq⟩ := bcell hq; unfold atB; go_simp; exact ⟨rfl, rfl⟩); simp only [Act.put, List.setIfInBounds_toArray, List.set_cons_zero, List.set_cons_succ])
          (apply wpB_take (hw := rfl); (intro wq hq; obtain ⟨hcq, hfq⟩ := bcell hq; unfold atB; go_simp; exact ⟨rfl, rfl⟩); simp only [Act.put, List.setIfInBounds_toArray, List.set_cons_zero, List.set_cons_succ])
          (apply wpB_take (hw := rfl); (intro wq hq; obtain ⟨hcq, hfq⟩ := bcell hq; unfold atB; go_simp; exact ⟨rfl, rfl⟩); simp only [Act.put, List.setIfInBounds_toArray, List.set_cons_zero, List.set_cons_succ])
          (apply wpB_take (hw := rfl); (intro wq hq; obtain ⟨hcq, hfq⟩ := bcell hq; unfold atB; go_simp; exact ⟨rfl, rfl⟩); simp only [Act.put, List.setIfInBounds_toArray, List.set_cons_zero, List.set_cons_succ])
          (apply wpB_take (hw := rfl); (intro wq hq; obtain ⟨hcq, hfq⟩ := bcell hq; unfold atB; go_simp; exact ⟨rfl, rfl⟩); simp only [Act.put, List.setIfInBounds_toArray, List.set_cons_zero, List.set_cons_succ])
          (apply wpB_take (hw := rfl); (intro wq hq; obtain ⟨hcq, hfq⟩ := bcell hq; unfold atB; go_simp; exact ⟨rfl, rfl⟩); simp only [Act.put, List.setIfInBounds_toArray, List.set_cons_zero, List.set_cons_succ])
          (apply wpB_take (hw := rfl); (intro wq hq; obtain ⟨hcq, hfq⟩ := bcell hq; unfold atB; go_simp; exact ⟨rfl, rfl⟩); simp only [Act.put, List.setIfInBounds_toArray, List.set_cons_zero, List.set_cons_succ])
          (apply wpB_take (hw := rfl); (intro wq hq; obtain ⟨hcq, hfq⟩ := bcell hq; unfold atB; go_simp; exact ⟨rfl, rfl⟩); simp only [Act.put, List.setIfInBounds_toArray, List.set_cons_zero, List.set_cons_succ])
          (apply wpB_take (hw := rfl); (intro wq hq; obtain ⟨hcq, hfq⟩ := bcell hq; unfold atB; go_simp; exact ⟨rfl, rfl⟩); simp only [Act.put, List.setIfInBounds_toArray, List.set_cons_zero, List.set_cons_succ])
          refine fun wn hbn => ?_
          try simp only [Act.put, List.setIfInBounds_toArray, List.set_cons_zero, List.set_cons_succ]
          go_wp2
          go_roundw
          case rel => exact ⟨k + 1, by omega, by go_num, HA2.out, hbel.trans (hbn.mono hbel.size)⟩
          case measure => simp [RowKit.intOf]; omega
        · have HR := Lib.hid (HF.out k hxy)
          have HXY := hxy
          generalize L.getD k 0 = x at z1 HXY
          generalize M.getD k 0 = y at z2 HXY
          have hne : (x != y) = true := by simpa using HXY
          clear hxy
          go_wp2_with fail
          refine wp_region_below (by kernel_rfl) (by kernel_rfl) ?_
          (apply wpB_take (hw := rfl); (intro wq hq; obtain ⟨hcq, hfq⟩ := bcell hq; unfold atB; go_simp; exact ⟨rfl, rfl⟩); simp only [Act.put, List.setIfInBounds_toArray, List.set_cons_zero, List.set_cons_succ])
          (apply wpB_take (hw := rfl); (intro wq hq; obtain ⟨hcq, hfq⟩ := bcell hq; unfold atB; go_simp; exact ⟨rfl, rfl⟩); simp only [Act.put, List.setIfInBounds_toArray, List.set_cons_zero, List.set_cons_succ])
          (apply wpB_take (hw := rfl); (intro wq hq; obtain ⟨hcq, hfq⟩ := bcell hq; unfold atB; go_simp; exact ⟨rfl, rfl⟩); simp only [Act.put, List.setIfInBounds_toArray, List.set_cons_zero, List.set_cons_succ])
          (apply wpB_take (hw := rfl); (intro wq hq; obtain ⟨hcq, hfq⟩ := bcell hq; unfold atB; go_simp; exact ⟨rfl, rfl⟩); simp only [Act.put, List.setIfInBounds_toArray, List.set_cons_zero, List.set_cons_succ])
          (apply wpB_take (hw := rfl); (intro wq hq; obtain ⟨hcq, hfq⟩ := bcell hq; unfold atB; go_simp; exact ⟨rfl, rfl⟩); simp only [Act.put, List.setIfInBounds_toArray, List.set_cons_zero, List.set_cons_succ])
          (apply wpB_take (hw := rfl); (intro wq hq; obtain ⟨hcq, hfq⟩ := bcell hq; unfold atB; go_simp; exact ⟨rfl, rfl⟩); simp only [Act.put, List.setIfInBounds_toArray, List.set_cons_zero, List.set_cons_succ])
          (apply wpB_take (hw := rfl); (intro wq hq; obtain ⟨hcq, hfq⟩ := bcell hq; unfold atB; go_simp; exact ⟨rfl, rfl⟩); simp only [Act.put, List.setIfInBounds_toArray, List.set_cons_zero, List.set_cons_succ])
          (apply wpB_take (hw := rfl); (intro wq hq; obtain ⟨hcq, hfq⟩ := bcell hq; unfold atB; go_simp; exact ⟨rfl, rfl⟩); simp only [Act.put, List.setIfInBounds_toArray, List.set_cons_zero, List.set_cons_succ])
          (apply wpB_take (hw := rfl); (intro wq hq; obtain ⟨hcq, hfq⟩ := bcell hq; unfold atB; go_simp; exact ⟨rfl, rfl⟩); simp only [Act.put, List.setIfInBounds_toArray, List.set_cons_zero, List.set_cons_succ])
          refine fun wn hbn => ?_
          try simp only [Act.put, List.setIfInBounds_toArray, List.set_cons_zero, List.set_cons_succ]
          go_wp2
          go_ret
          exact ⟨ret_bool HR.out.symm, hbel.trans (hbn.mono hbel.size)⟩
      · obtain rfl : k = n := by omega
        have HR := Lib.hid (HT.out HA.out)
        go_wp2
        go_ret
        exact ⟨ret_bool HR.out.symm, hbel⟩
  · have HR : Hid (r = false) := Lib.hid (by rw [← hr, decide_eq_false_iff_not]; intro e; exact hnm (by rw [← hn, ← hm, e]))
    have hne : ((n : Int) != (m : Int)) = true := by simp; omega
    clear h1 h2 hn hm hr
    (go_enter Try.func17, Try.ntmps17)
    go_wp2
    go_ret
    exact ⟨ret_bool HR.out.symm, Below.refl _ _⟩

set_option maxHeartbeats 1600000 in
theorem kHas_is {r : Bool} (L : List Int) (n : Nat) (hn : L.length = n) (a : Option Addr) (c : Nat) (x : Int) (hr : decide (x ∈ L) = r) (hle : n ≤ 2000000) (w : World) (h1 : IIn w a L) :
    Calls Try.prog 19 #[.slice a n c, .int .i64 x] w (fun e w' => e = .returned (.bool r) ∧ w = w') := by
  have X1 := Lib.hid h1
  have HN1 := Lib.hid hn
  have HT : Hid ((∀ j, j < n → L.getD j 0 ≠ x) → r = false) := fun h => by rw [← hr, decide_eq_false_iff_not]; exact has_of hn h
  have HF : Hid (∀ j, j < n → L.getD j 0 = x → r = true) := fun j hj h => by rw [← hr, decide_eq_true_eq, ← h]; exact getD_mem (by omega)
  clear h1 hn hr
  (go_enter Try.func19, Try.ntmps19)
  go_wp2
  go_loop [9] (fun i => ∃ k : Nat, k ≤ n ∧ i = .int .i64 k ∧ (∀ j, j < k → L.getD j 0 ≠ x)) (fun i => n - (RowKit.intOf i).toNat)
  case atStart => exact ⟨0, Nat.zero_le _, rfl, fun j hj => absurd hj (Nat.not_lt_zero _)⟩
  case round =>
    obtain ⟨k, hk, rfl, hall⟩ := hrel
    have HA := Lib.hid hall
    clear hall
    have i0 : (0 : Int) ≤ (k : Int) := Int.natCast_nonneg _
    by_cases hlt : k < n
    · obtain ⟨g1, o1, rfl, e1, e2⟩ := X1.out k (by have := HN1.out; omega)
      have i1 : (k : Int) < (n : Int) := by omega
      by_cases hxy : L.getD k 0 = x
      · have HR := Lib.hid (HF.out k hlt hxy)
        rw [hxy] at e2
        clear hxy
        go_wp2
        go_ret
        exact ⟨ret_bool HR.out.symm, rfl⟩
      · have HA2 : Hid (∀ j, j < k + 1 → L.getD j 0 ≠ x) := fun j hj => by
          by_cases hjk : j = k
          · subst hjk; exact hxy
          · exact HA.out j (by omega)
        generalize L.getD k 0 = y at e2 hxy
        have hne : (y == x) = false := by simpa using hxy
        go_wp2
        go_round
        case rel => exact ⟨k + 1, by omega, by go_num, HA2.out⟩
        case measure => simp [RowKit.intOf]; omega
    · obtain rfl : k = n := by omega
      have HR := Lib.hid (HT.out HA.out)
      go_wp2
      go_ret
      exact ⟨ret_bool HR.out.symm, rfl⟩

end Go.Proofs.Ytloppndldnepfaa
