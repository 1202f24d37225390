/- All pairs of which no wheel has more than so many teeth: an iterator's contract. -/
import Derived.Test.YtaifcemdabcfjaaGe7
import Derived.Test.YtaifcemdabcfjaaRng
import Derived.Shelf.Abstract
import Derived.WalkKit
import Derived.OwnWalkIn
import Derived.TacticsInMore
import Derived.LoopNIn
import Derived.LoopIn
set_option linter.unusedSimpArgs false
set_option linter.unusedVariables false
set_option maxRecDepth 100000
namespace Go.Proofs.Ytaifcemdabcfjaa
open Go.RowKit Go.Shelf
attribute [local go_sem] Oper.semAt_some

/-! ### All pairs, in order -/
def rowP (n a : Nat) : List (Int × Int) := (List.range n).map fun b : Nat => (6 + (a : Int), 6 + (b : Int))
def partP (n a b : Nat) : List (Int × Int) := (List.range a).flatMap (rowP n) ++ (List.range b).map fun b : Nat => (6 + (a : Int), 6 + (b : Int))
def allP (n : Nat) : List (Int × Int) := (List.range n).flatMap (rowP n)
theorem partP_next (n a b : Nat) : partP n a (b + 1) = partP n a b ++ [(6 + (a : Int), 6 + (b : Int))] := by
  simp [partP, List.range_succ]
theorem partP_row (n a : Nat) : partP n a n = partP n (a + 1) 0 := by
  simp [partP, List.range_succ, rowP]
theorem partP_end (n : Nat) : partP n n 0 = allP n := by simp [partP, allP]
theorem partP_step (n a b c : Nat) (h : b ≤ c) : partP n a b <+: partP n a c := by
  induction c with
  | zero => obtain rfl : b = 0 := by omega
            exact List.prefix_refl _
  | succ c ih =>
    by_cases hc : b = c + 1
    · subst hc; exact List.prefix_refl _
    · rw [partP_next]
      exact (ih (by omega)).trans (List.prefix_append _ _)
theorem partP_rows (n a c : Nat) (h : a ≤ c) : partP n a 0 <+: partP n c 0 := by
  induction c with
  | zero => obtain rfl : a = 0 := by omega
            exact List.prefix_refl _
  | succ c ih =>
    by_cases hc : a = c + 1
    · subst hc; exact List.prefix_refl _
    · rw [← partP_row]
      exact (ih (by omega)).trans (partP_step n c 0 n (by omega))
theorem partP_pre (n a b : Nat) (ha : a < n) (hb : b ≤ n) : partP n a b <+: allP n := by
  rw [← partP_end]
  refine (partP_step n a b n hb).trans ?_
  rw [partP_row]
  exact partP_rows n (a + 1) n ha

set_option maxHeartbeats 400000 in
theorem pairsUpTo_makes (m : Int) (w : World) :
    Calls Try.prog 85 #[.int .i64 m] w fun e w' => e = .returned (.func (.func 106) #[] #[.pointer (some ⟨w.heap.size, 0, none⟩)]) ∧ w' = w.alloc (.cells #[.int .i64 m] 3) := by
  (go_enter Try.func85, Try.ntmps85)
  go_wp2
  go_ret
  exact ⟨rfl, rfl⟩

set_option maxRecDepth 100000 in
set_option maxHeartbeats 1600000 in
theorem pairsUpTo_seqs (n : Nat) (hn : n ≤ 115) (B : Nat) (w0 : World) (hB : B < w0.heap.size) (hc : w0.cell? ⟨B, 0, none⟩ = some (.int .i64 (5 + (n : Int)))) :
    Seqs Try.prog 106 #[.pointer (some ⟨B, 0, none⟩)] (fun p : Int × Int => #[tv p.1 p.2]) (fun _ _ => True) (fun _ _ => False) (fun xs => xs = allP n) (fun pre => pre <+: allP n) (fun k => k = B) w0 := by
  intro l J Jx M0 W hW hJ hJx hO hM0 hY h0
  have hBW : B < W.heap.size := Nat.lt_of_lt_of_le hB hW.size
  have hcW : W.cell? ⟨B, 0, none⟩ = some (.int .i64 (5 + (n : Int))) := (hW.cell (p := ⟨B, 0, none⟩) hB).trans hc
  have hMB : ¬ M0 B := hO B rfl
  have HY := Lib.hid hY
  clear hY hJ hJx hO hc hW
  refine (callsIn_wide (n := 0)).1 (callsIn_of_wp Try.func106 rfl trivial ?_ rfl)
  simp only [Try.ntmps106, List.size_toArray, List.length_cons, List.length_nil, Nat.reduceAdd, Nat.reduceSub, Array.replicate_succ, Array.replicate_zero, List.push_toArray, List.append_toArray, List.nil_append, List.cons_append]
  gi_wp2
  gi_loopw [3] (fun i wr => ∃ (a : Nat) (M : Nat → Prop), a ≤ n ∧ i = .int .i64 (6 + (a : Int)) ∧ J (partP n a 0) M wr ∧ ¬ M B ∧ (∀ k, M k → M0 k ∨ W.heap.size ≤ k) ∧ wr.cell? ⟨B, 0, none⟩ = some (.int .i64 (5 + (n : Int))) ∧ W.heap.size ≤ wr.heap.size) (fun i _ => (6 + n) - (intOf i).toNat)
  case atStart => exact ⟨0, M0, Nat.zero_le _, rfl, by simpa [partP] using h0, hMB, fun k h => .inl h, hcW, Nat.le_refl _⟩
  case round =>
    obtain ⟨a, M, ha, rfl, hJa, hMa, hg, hca, hsz⟩ := hrel
    obtain ⟨wo, hwo⟩ : ∃ wo : World, wo = wr := ⟨_, rfl⟩
    subst hwo
    have i0 : (0 : Int) ≤ (a : Int) := Int.natCast_nonneg _
    by_cases hlt : a < n
    · have i1 : (a : Int) < (n : Int) := by omega
      have hd1 : decide (6 + (a : Int) ≤ 5 + (n : Int)) = true := by rw [decide_eq_true_eq]; omega
      gi_wp2
      gi_loopw [4] (fun i wr => ∃ (b : Nat) (M : Nat → Prop), b ≤ n ∧ i = .int .i64 (6 + (b : Int)) ∧ J (partP n a b) M wr ∧ ¬ M B ∧ (∀ k, M k → M0 k ∨ W.heap.size ≤ k) ∧ wr.cell? ⟨B, 0, none⟩ = some (.int .i64 (5 + (n : Int))) ∧ W.heap.size ≤ wr.heap.size) (fun i _ => (6 + n) - (intOf i).toNat)
      case atStart => exact ⟨0, M, Nat.zero_le _, rfl, hJa, hMa, hg, hca, hsz⟩
      case round =>
        clear hJa hMa hg hca hsz
        obtain ⟨b, M, hb, rfl, hJb, hMb, hg, hcb, hsz⟩ := hrel
        have j0 : (0 : Int) ≤ (b : Int) := Int.natCast_nonneg _
        by_cases hlt2 : b < n
        · have j1 : (b : Int) < (n : Int) := by omega
          obtain ⟨fn, tmps, assign, body, hy, hR⟩ := HY.out (partP n a b) (6 + (a : Int), 6 + (b : Int)) M wr hJb trivial (fun _ h => h.elim) (by rw [← partP_next]; exact partP_pre n a (b + 1) hlt hlt2)
          rw [← partP_next] at hR
          gi_wp2
          refine ⟨rfl, hR.mono ?_⟩
          rintro e W3 ⟨M', hk, hg', (⟨rfl, hJ3⟩ | ⟨rfl, hJx3⟩)⟩
          · have hc3 : W3.cell? ⟨B, 0, none⟩ = some (.int .i64 (5 + (n : Int))) := (World.cell?_of_block (hk.block B (by omega) hMb)).trans hcb
            have hM3 : ¬ M' B := fun h => by
              rcases (hg' B h).1 with h | h | h
              · exact hMb h
              · exact h
              · omega
            have hs3 := hk.size
            gi_wp2
            go_roundw
            case rel => exact ⟨b + 1, M', by omega, by go_num, hJ3, hM3, fun k h => (hg' k h).1.elim (fun h => hg k h) (fun h => h.elim (fun h => h.elim) (fun h => .inr (by omega))), hc3, by omega⟩
            case measure => simp [intOf]; omega
          · have hs3 := hk.size
            gi_wp2
            refine bodyPost_ret (results_none rfl _ _ _) rfl ?_
            exact ⟨⟨_, rfl⟩, M', fun k h => (hg' k h).1.elim (fun h => hg k h) (fun h => h.elim (fun h => h.elim) (fun h => .inr (by omega))), .inr ⟨_, partP_pre n a (b + 1) hlt hlt2, hJx3⟩⟩
        · obtain rfl : b = n := by omega
          rw [partP_row] at hJb
          gi_wp2
          go_roundw
          case rel => exact ⟨a + 1, M, by omega, by go_num, hJb, hMb, hg, hcb, hsz⟩
          case measure => simp [intOf]; omega
    · obtain rfl : a = n := by omega
      rw [partP_end] at hJa
      gi_wp2
      go_end0
      exact ⟨⟨_, rfl⟩, M, hg, .inl ⟨_, rfl, hJa⟩⟩
end Go.Proofs.Ytaifcemdabcfjaa
