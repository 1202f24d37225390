/- Puzzles: clues that are needed by none: by the program and by the model. -/
import Derived.Test.YtcpgjjmamclklaaPz12
import Derived.Test.YtcpgjjmamclklaaOrder
set_option linter.unusedSimpArgs false
set_option linter.unusedVariables false
set_option maxRecDepth 100000
namespace Go.Proofs.Ytcpgjjmamclklaa
open Go.RowKit

set_option maxHeartbeats 1600000 in
theorem equalI_any (S T : List Int) (a b : Option Addr) (c d : Nat) (hS : S.length ≤ 1048576) (w : World) (h1 : IIn w a S) (h2 : IIn w b T) :
    Calls Try.prog 113 #[.slice a S.length c, .slice b T.length d] w fun e w' => e = .returned (.bool (decide (S = T))) ∧ Below w.heap.size w w' := by
  have X1 := Lib.hid h1
  have X2 := Lib.hid h2
  clear h1 h2
  by_cases hl : S.length = T.length
  · have hl' : ((S.length : Int) != (T.length : Int)) = false := by simp [hl]
    have HL := Lib.hid hl
    clear hl
    (go_enter Try.func113, Try.ntmps113)
    go_wp2
    go_loopw [13] (fun i wr => ∃ k : Nat, k ≤ S.length ∧ i = .int .i64 k ∧ (∀ j, j < k → S.getD j 0 = T.getD j 0) ∧ Below w.heap.size w wr) (fun i _ => S.length - (intOf i).toNat)
    case atStart => exact ⟨0, Nat.zero_le _, rfl, fun j hj => absurd hj (Nat.not_lt_zero _), Below.refl _ _⟩
    case round =>
      obtain ⟨k, hk, rfl, hall, hbr⟩ := hrel
      have HA := Lib.hid hall
      clear hall
      have k0 : (0 : Int) ≤ (k : Int) := Int.natCast_nonneg _
      by_cases hlt : k < S.length
      · have k1 : (k : Int) < (S.length : Int) := by omega
        have k2 : (k : Int) < (T.length : Int) := by have := HL.out; omega
        obtain ⟨b1, o1, rfl, l1, y1⟩ := (X1.out.below hbr) k hlt
        obtain ⟨b2, o2, rfl, l2, y2⟩ := (X2.out.below hbr) k (by have := HL.out; omega)
        have HX : Hid (S.getD k 0 = T.getD k 0 → ∀ j, j < k + 1 → S.getD j 0 = T.getD j 0) := Lib.hid (fun e j hj => by
          by_cases hjk : j = k
          · subst hjk; exact e
          · exact HA.out j (by omega))
        have HY : Hid (S.getD k 0 ≠ T.getD k 0 → S ≠ T) := Lib.hid (fun e h => e (by rw [h]))
        generalize S.getD k 0 = x at *
        generalize T.getD k 0 = y at *
        by_cases hxy : x = y
        · have HN := Lib.hid (HX.out hxy)
          have hxy' : (x != y) = false := by simp [hxy]
          subst hxy
          clear HX HY
          go_wp2_with fail
          refine wp_region_below (by kernel_rfl) (by kernel_rfl) ?_
          repeat (first | (apply wpB_take (hw := rfl); (intro wq hq; obtain ⟨hcq, hfq⟩ := bcell hq; unfold atB; go_simp; exact ⟨rfl, rfl⟩); simp only [Act.put, List.setIfInBounds_toArray, List.set_cons_zero, List.set_cons_succ]))
          refine fun wn hbn => ?_
          try simp only [Act.put, List.setIfInBounds_toArray, List.set_cons_zero, List.set_cons_succ]
          go_wp2
          go_roundw
          case rel => exact ⟨k + 1, by omega, by go_num, HN.out, hbr.trans (hbn.mono hbr.size)⟩
          case measure => simp [intOf]; omega
        · have HN := Lib.hid (HY.out hxy)
          have hxy' : (x != y) = true := by simp [hxy]
          clear HX HY hxy
          go_wp2_with fail
          refine wp_region_below (by kernel_rfl) (by kernel_rfl) ?_
          repeat (first | (apply wpB_take (hw := rfl); (intro wq hq; obtain ⟨hcq, hfq⟩ := bcell hq; unfold atB; go_simp; exact ⟨rfl, rfl⟩); simp only [Act.put, List.setIfInBounds_toArray, List.set_cons_zero, List.set_cons_succ]))
          refine fun wn hbn => ?_
          try simp only [Act.put, List.setIfInBounds_toArray, List.set_cons_zero, List.set_cons_succ]
          go_wp2
          go_ret
          exact ⟨zret_bool (by simp [HN.out]), hbr.trans (hbn.mono hbr.size)⟩
      · have HE : Hid (S = T) := Lib.hid (list_extI HL.out (fun j hj => HA.out j (by have := HL.out; omega)))
        go_wp2
        go_ret
        exact ⟨zret_bool (by simp [HE.out]), hbr⟩
  · have hl' : ((S.length : Int) != (T.length : Int)) = true := by simp; omega
    have HN : Hid (S ≠ T) := Lib.hid (fun h => hl (by rw [h]))
    clear hl
    (go_enter Try.func113, Try.ntmps113)
    go_wp2
    go_ret
    exact ⟨zret_bool (by simp [HN.out]), Below.refl _ _⟩
set_option maxHeartbeats 1600000 in
theorem l1Same_any (S T : List Int) (a b : Option Addr) (c d : Nat) (hS : S.length ≤ 1048576) (w : World) (h1 : IIn w a S) (h2 : IIn w b T) :
    Calls Try.prog 87 #[.slice a S.length c, .slice b T.length d] w fun e w' => e = .returned (.bool (decide (S = T))) ∧ Below w.heap.size w w' := by
  have X1 := Lib.hid h1
  have X2 := Lib.hid h2
  clear h1 h2
  by_cases hl : S.length = T.length
  · have hl' : ((S.length : Int) != (T.length : Int)) = false := by simp [hl]
    have HL := Lib.hid hl
    clear hl
    (go_enter Try.func87, Try.ntmps87)
    go_wp2
    go_loopw [13] (fun i wr => ∃ k : Nat, k ≤ S.length ∧ i = .int .i64 k ∧ (∀ j, j < k → S.getD j 0 = T.getD j 0) ∧ Below w.heap.size w wr) (fun i _ => S.length - (intOf i).toNat)
    case atStart => exact ⟨0, Nat.zero_le _, rfl, fun j hj => absurd hj (Nat.not_lt_zero _), Below.refl _ _⟩
    case round =>
      obtain ⟨k, hk, rfl, hall, hbr⟩ := hrel
      have HA := Lib.hid hall
      clear hall
      have k0 : (0 : Int) ≤ (k : Int) := Int.natCast_nonneg _
      by_cases hlt : k < S.length
      · have k1 : (k : Int) < (S.length : Int) := by omega
        have k2 : (k : Int) < (T.length : Int) := by have := HL.out; omega
        obtain ⟨b1, o1, rfl, l1, y1⟩ := (X1.out.below hbr) k hlt
        obtain ⟨b2, o2, rfl, l2, y2⟩ := (X2.out.below hbr) k (by have := HL.out; omega)
        have HX : Hid (S.getD k 0 = T.getD k 0 → ∀ j, j < k + 1 → S.getD j 0 = T.getD j 0) := Lib.hid (fun e j hj => by
          by_cases hjk : j = k
          · subst hjk; exact e
          · exact HA.out j (by omega))
        have HY : Hid (S.getD k 0 ≠ T.getD k 0 → S ≠ T) := Lib.hid (fun e h => e (by rw [h]))
        generalize S.getD k 0 = x at *
        generalize T.getD k 0 = y at *
        by_cases hxy : x = y
        · have HN := Lib.hid (HX.out hxy)
          have hxy' : (x != y) = false := by simp [hxy]
          subst hxy
          clear HX HY
          go_wp2_with fail
          refine wp_region_below (by kernel_rfl) (by kernel_rfl) ?_
          repeat (first | (apply wpB_take (hw := rfl); (intro wq hq; obtain ⟨hcq, hfq⟩ := bcell hq; unfold atB; go_simp; exact ⟨rfl, rfl⟩); simp only [Act.put, List.setIfInBounds_toArray, List.set_cons_zero, List.set_cons_succ]))
          refine fun wn hbn => ?_
          try simp only [Act.put, List.setIfInBounds_toArray, List.set_cons_zero, List.set_cons_succ]
          go_wp2
          go_roundw
          case rel => exact ⟨k + 1, by omega, by go_num, HN.out, hbr.trans (hbn.mono hbr.size)⟩
          case measure => simp [intOf]; omega
        · have HN := Lib.hid (HY.out hxy)
          have hxy' : (x != y) = true := by simp [hxy]
          clear HX HY hxy
          go_wp2_with fail
          refine wp_region_below (by kernel_rfl) (by kernel_rfl) ?_
          repeat (first | (apply wpB_take (hw := rfl); (intro wq hq; obtain ⟨hcq, hfq⟩ := bcell hq; unfold atB; go_simp; exact ⟨rfl, rfl⟩); simp only [Act.put, List.setIfInBounds_toArray, List.set_cons_zero, List.set_cons_succ]))
          refine fun wn hbn => ?_
          try simp only [Act.put, List.setIfInBounds_toArray, List.set_cons_zero, List.set_cons_succ]
          go_wp2
          go_ret
          exact ⟨zret_bool (by simp [HN.out]), hbr.trans (hbn.mono hbr.size)⟩
      · have HE : Hid (S = T) := Lib.hid (list_extI HL.out (fun j hj => HA.out j (by have := HL.out; omega)))
        go_wp2
        go_ret
        exact ⟨zret_bool (by simp [HE.out]), hbr⟩
  · have hl' : ((S.length : Int) != (T.length : Int)) = true := by simp; omega
    have HN : Hid (S ≠ T) := Lib.hid (fun h => hl (by rw [h]))
    clear hl
    (go_enter Try.func87, Try.ntmps87)
    go_wp2
    go_ret
    exact ⟨zret_bool (by simp [HN.out]), Below.refl _ _⟩
end Go.Proofs.Ytcpgjjmamclklaa
