/- FnExactAddClue: called with any arguments, the law returns true, and its arguments read behind the call as before. Conditions: none but the row's own. -/
import Derived.Test.YtcpgjjmamclklaaFacts
import Derived.Test.YtcpgjjmamclklaaZLaw
import Derived.Test.YtcpgjjmamclklaaPz20
import Derived.Test.YtcpgjjmamclklaaCut
set_option linter.unusedSimpArgs false
set_option linter.unusedVariables false
set_option maxRecDepth 100000
namespace Go.Proofs.Ytcpgjjmamclklaa.fnExactAddClue
open Go.ChangeShapes Go.WideShapes Go.ChangeAt Go.RowKit

set_option maxHeartbeats 8000000 in
theorem walk (w : World) (h0 : Int) (a0 : Option Addr) (c0 : Nat) (L0 : List (Int × Int × Int)) (n1 d1 s1 : Int) (kh0 : I64 h0) (hin0 : CIn w a0 L0) (hi0 : AllI L0) (hm0 : L0.length ≤ maxLen) (kn1 : I64 n1) (kd1 : I64 d1) (ks1 : I64 s1) :
    Calls Try.prog 13 #[pzv h0 (.slice a0 L0.length c0), kv n1 d1 s1] w fun e w' => e = .returned (.bool true) ∧ Below w.heap.size w w' := by
  have B0 : Below w.heap.size w w := Below.refl _ _
  have y0 := B0.size
  have HIN0 := Lib.hid hin0
  clear hin0
  have hsz := fun W => szPuzzle_any h0 a0 L0.length c0 W hm0
  by_cases hl0 : L0.length ≤ 1048576
  · rw [if_neg (by omega)] at hsz
    have hn0 : ¬ ((1048576 : Int) - (L0.length : Int) < 0) := by omega
    have HSZ := Lib.hid hsz
    clear hsz
    (go_enter Try.func13, Try.ntmps13)
    go_wp2_with fail
    refine (HSZ.out _).mono ?_
    rintro e0 w0 ⟨rfl, hb0⟩
    have B0 : Below w.heap.size w w0 := by (repeat' (first | (with_reducible exact Below.refl _ _) | (with_reducible assumption) | (with_reducible refine Below.alloc ?_ ?_ _) | (with_reducible refine Below.drew ?_) | (with_reducible refine below_drewN ?_ _) | (with_reducible refine Below.setCell ?_ ?_ _) | (with_reducible refine below_call ?_ ?_ (by assumption)) | go_size))
    have y0 : w.heap.size + 2 ≤ w0.heap.size := by have := hb0.size; simp only [World.size_alloc] at this; omega
    have x0_0 : w0.cell? ⟨w.heap.size, 0, none⟩ = some (.int .i64 h0) := ((bcell hb0).1 _ _ (by go_size)).trans (by go_simp)
    have x0_1 : w0.cell? ⟨w.heap.size, 1, none⟩ = some (.slice a0 L0.length c0) := ((bcell hb0).1 _ _ (by go_size)).trans (by go_simp)
    have x0_2 : w0.cell? ⟨w.heap.size + 1, 0, none⟩ = some (.int .i64 n1) := ((bcell hb0).1 _ _ (by go_size)).trans (by go_simp)
    have x0_3 : w0.cell? ⟨w.heap.size + 1, 1, none⟩ = some (.int .i64 d1) := ((bcell hb0).1 _ _ (by go_size)).trans (by go_simp)
    have x0_4 : w0.cell? ⟨w.heap.size + 1, 2, none⟩ = some (.int .i64 s1) := ((bcell hb0).1 _ _ (by go_size)).trans (by go_simp)
    have HLEN := Lib.hid (show ((cloO h0 (L0 ++ [(n1, d1, s1)])).2.1).length ≤ 2000000 from cloO_len h0 (L0 ++ [(n1, d1, s1)]))
    go_wp2_with fail
    refine region_cut (S := fun W => Below w0.heap.size w0 W) (fun a a' W => ∃ (b : Nat) (aX : Option Addr) (cX : Nat) (aS : Option Addr) (cS : Nat), a' = ((((((((((a).put (some 22) (pzv h0 (.slice a0 L0.length c0))).put (some 23) (pzv h0 (.slice aX L0.length cX))).put (some 24) (kv n1 d1 s1)).put (some 25) (kv n1 d1 s1)).put (some 26) (.tuple #[pzv ((cloO h0 (L0 ++ [(n1, d1, s1)])).1) (.slice aS ((cloO h0 (L0 ++ [(n1, d1, s1)])).2.1).length cS), .bool ((cloO h0 (L0 ++ [(n1, d1, s1)])).2.2)])).put (some 21) (.tuple #[pzv ((cloO h0 (L0 ++ [(n1, d1, s1)])).1) (.slice aS ((cloO h0 (L0 ++ [(n1, d1, s1)])).2.1).length cS), .bool ((cloO h0 (L0 ++ [(n1, d1, s1)])).2.2)])).put (some 27) (pzv ((cloO h0 (L0 ++ [(n1, d1, s1)])).1) (.slice aS ((cloO h0 (L0 ++ [(n1, d1, s1)])).2.1).length cS))).put (some 28) (.bool ((cloO h0 (L0 ++ [(n1, d1, s1)])).2.2))).put (some 6) (.pointer (some ⟨b, 0, none⟩))).put (some 7) (.bool ((cloO h0 (L0 ++ [(n1, d1, s1)])).2.2)) ∧ Below w0.heap.size w0 W ∧ w0.heap.size ≤ b ∧ b < W.heap.size ∧ W.cell? ⟨b, 0, none⟩ = some (.int .i64 ((cloO h0 (L0 ++ [(n1, d1, s1)])).1)) ∧ W.cell? ⟨b, 1, none⟩ = some (.slice aS ((cloO h0 (L0 ++ [(n1, d1, s1)])).2.1).length cS) ∧ CRow W w0.heap.size (.slice aS ((cloO h0 (L0 ++ [(n1, d1, s1)])).2.1).length cS) ((cloO h0 (L0 ++ [(n1, d1, s1)])).2.1) ∧ (∀ k, (Value.slice aS ((cloO h0 (L0 ++ [(n1, d1, s1)])).2.1).length cS).ownBlock = some k → k ≠ b)) (by kernel_rfl) ?_ ?_
    · have hS0 : Below w0.heap.size w0 w0.drew := (Below.refl _ _).drew
      have hd0 : w0.drew.heap.size = w0.heap.size := rfl
      refine take_first (i := 0) (v := pzv h0 (.slice a0 L0.length c0)) _ rfl rfl (by kernel_rfl) (by kernel_rfl) (by kernel_rfl) (fun _ _ _ h => nomatch h.1) (by rfl) ?_ hS0 ?_
      · intro wq hq
        obtain ⟨hcq, hfq⟩ := bcell hq
        have xq_0 := (hcq _ _ (by omega)).trans x0_0
        have xq_1 := (hcq _ _ (by omega)).trans x0_1
        have xq_2 := (hcq _ _ (by omega)).trans x0_2
        have xq_3 := (hcq _ _ (by omega)).trans x0_3
        have xq_4 := (hcq _ _ (by omega)).trans x0_4
        go_simp
        try rfl
      simp only [Act.put, List.setIfInBounds_toArray, List.set_cons_zero, List.set_cons_succ]
      refine take_first (i := 2) (v := kv n1 d1 s1) _ rfl rfl (by kernel_rfl) (by kernel_rfl) (by kernel_rfl) (fun _ _ _ h => nomatch h.1) (by rfl) ?_ hS0 ?_
      · intro wq hq
        obtain ⟨hcq, hfq⟩ := bcell hq
        have xq_0 := (hcq _ _ (by omega)).trans x0_0
        have xq_1 := (hcq _ _ (by omega)).trans x0_1
        have xq_2 := (hcq _ _ (by omega)).trans x0_2
        have xq_3 := (hcq _ _ (by omega)).trans x0_3
        have xq_4 := (hcq _ _ (by omega)).trans x0_4
        go_simp
        try rfl
      simp only [Act.put, List.setIfInBounds_toArray, List.set_cons_zero, List.set_cons_succ]
      refine wpAnyH_all (rs := [1, 8]) (by kernel_rfl) (by decide) (List.forall_mem_cons.2 ⟨?_, List.forall_mem_cons.2 ⟨?_, fun _ h => absurd h List.not_mem_nil⟩⟩)
      · refine wpOp_wp rfl rfl (wp_call_at _ rfl (f := 23) (args := #[pzv h0 (.slice a0 L0.length c0)]) (by go_simp) ((toPuzzle_any h0 a0 c0 L0 _ (HIN0.out.below (B0.trans (hS0.mono B0.size))) hl0).mono ?_))
        rintro e901 E1 ⟨v901, rfl, hr1, hst1⟩
        obtain ⟨aX, cX, rfl, hiX, hcapX, hcmxX⟩ := hr1.inn
        clear hr1
        have hS1 : Below w0.heap.size w0 E1 := hS0.trans (hst1.mono hS0.size)
        have hle1 := hS0.size
        have hzz1 := hst1.size
        refine ⟨_, rfl, hS1, ?_⟩
        simp only [Act.put, List.setIfInBounds_toArray, List.set_cons_zero, List.set_cons_succ]
        refine wpAnyH_all (rs := [3, 8]) (by kernel_rfl) (by decide) (List.forall_mem_cons.2 ⟨?_, List.forall_mem_cons.2 ⟨?_, fun _ h => absurd h List.not_mem_nil⟩⟩)
        · refine wpOp_wp rfl rfl (wp_call_at _ rfl (f := 19) (args := #[kv n1 d1 s1]) (by go_simp) ((toClue_any n1 d1 s1 _).mono ?_))
          rintro e902 E2 ⟨rfl, hst2⟩
          have hS2 : Below w0.heap.size w0 E2 := hS1.trans (hst2.mono hS1.size)
          have hle2 := hS1.size
          have hzz2 := hst2.size
          have hiX_2 := CIn.below hiX hst2
          refine ⟨_, rfl, hS2, ?_⟩
          simp only [Act.put, List.setIfInBounds_toArray, List.set_cons_zero, List.set_cons_succ]
          refine wpAnyH_all (rs := [4, 8]) (by kernel_rfl) (by decide) (List.forall_mem_cons.2 ⟨?_, List.forall_mem_cons.2 ⟨?_, fun _ h => absurd h List.not_mem_nil⟩⟩)
          · refine wpOp_wp rfl rfl (wp_call_at _ rfl (f := 50) (args := #[pzv h0 (.slice aX L0.length cX), kv n1 d1 s1]) (by go_simp) ((specAddClue_any h0 aX cX L0 n1 d1 s1 hl0 hcapX hcmxX _ hiX_2).mono ?_))
            rintro e903 E3 ⟨v903, rfl, hrS, hst3⟩
            obtain ⟨aS, cS, rfl, -⟩ := hrS.inn
            have hrlow := hrS.low
            have hrtop := hrS.top
            have hS3 : Below w0.heap.size w0 E3 := hS2.trans (hst3.mono hS2.size)
            have hle3 := hS2.size
            have hzz3 := hst3.size
            refine ⟨_, rfl, hS3, ?_⟩
            simp only [Act.put, List.setIfInBounds_toArray, List.set_cons_zero, List.set_cons_succ]
            refine take_first (i := 5) (v := .tuple #[pzv ((cloO h0 (L0 ++ [(n1, d1, s1)])).1) (.slice aS ((cloO h0 (L0 ++ [(n1, d1, s1)])).2.1).length cS), .bool ((cloO h0 (L0 ++ [(n1, d1, s1)])).2.2)]) _ rfl rfl (by kernel_rfl) (by kernel_rfl) (by kernel_rfl) (fun _ _ _ h => nomatch h.1) (by rfl) ?_ hS3 ?_
            · intro wq hq
              go_simp
              try rfl
            simp only [Act.put, List.setIfInBounds_toArray, List.set_cons_zero, List.set_cons_succ]
            refine take_first (i := 6) (v := pzv ((cloO h0 (L0 ++ [(n1, d1, s1)])).1) (.slice aS ((cloO h0 (L0 ++ [(n1, d1, s1)])).2.1).length cS)) _ rfl rfl (by kernel_rfl) (by kernel_rfl) (by kernel_rfl) (fun _ _ _ h => nomatch h.1) (by rfl) ?_ hS3 ?_
            · intro wq hq
              go_simp
              try rfl
            simp only [Act.put, List.setIfInBounds_toArray, List.set_cons_zero, List.set_cons_succ]
            refine take_first (i := 7) (v := .bool ((cloO h0 (L0 ++ [(n1, d1, s1)])).2.2)) _ rfl rfl (by kernel_rfl) (by kernel_rfl) (by kernel_rfl) (fun _ _ _ h => nomatch h.1) (by rfl) ?_ hS3 ?_
            · intro wq hq
              go_simp
              try rfl
            simp only [Act.put, List.setIfInBounds_toArray, List.set_cons_zero, List.set_cons_succ]
            refine wpAnyH_all (rs := [8]) (by kernel_rfl) (by decide) (List.forall_mem_cons.2 ⟨?_, fun _ h => absurd h List.not_mem_nil⟩)
            obtain ⟨bq, hbq⟩ : ∃ bq, bq = (E3).heap.size := ⟨_, rfl⟩
            have q0 : (E3).heap.size ≤ bq := Nat.le_of_eq hbq.symm
            have hS4 : Below w0.heap.size w0 (World.alloc E3 (Obj.cells #[.int .i64 0, .slice none 0 0] 35)) := Below.alloc hS3 hS3.size _
            have hst4 : Below (E3).heap.size E3 (World.alloc E3 (Obj.cells #[.int .i64 0, .slice none 0 0] 35)) := Below.alloc (Below.refl _ _) (Nat.le_refl _) _
            have q1 : bq < (World.alloc E3 (Obj.cells #[.int .i64 0, .slice none 0 0] 35)).heap.size := by simp only [World.size_alloc]; omega
            have ca4 : ∀ j, (World.alloc E3 (Obj.cells #[.int .i64 0, .slice none 0 0] 35)).cell? ⟨bq, j, none⟩ = (#[.int .i64 0, .slice none 0 0] : Array Value)[j]? := by rw [hbq]; exact (cells_of_block (heap_alloc_new (E3) (Obj.cells #[.int .i64 0, .slice none 0 0] 35))).1
            have fa4 : ∀ j, (World.alloc E3 (Obj.cells #[.int .i64 0, .slice none 0 0] 35)).frozen? ⟨bq, j, none⟩ = false := by rw [hbq]; exact (cells_of_block (heap_alloc_new (E3) (Obj.cells #[.int .i64 0, .slice none 0 0] 35))).2
            refine wpOp_value (v := .pointer (some ⟨bq, 0, none⟩)) (w' := World.alloc E3 (Obj.cells #[.int .i64 0, .slice none 0 0] 35)) _ rfl rfl rfl (by rw [hbq]; go_simp; try rfl) ⟨hS4, ?_⟩
            clear hbq
            generalize World.alloc E3 (Obj.cells #[.int .i64 0, .slice none 0 0] 35) = E4 at *
            have hle4 := hS3.size
            have hrS4 := CRow.below hrS hst4
            simp only [Act.put, List.setIfInBounds_toArray, List.set_cons_zero, List.set_cons_succ]
            have kc0 := ca4 0
            have kc1 := ca4 1
            have kf0 := fa4 0
            have kf1 := fa4 1
            have hne : ∀ k, (Value.slice aS ((cloO h0 (L0 ++ [(n1, d1, s1)])).2.1).length cS).ownBlock = some k → k ≠ bq := fun k hk => by have e1 := hrlow k hk; have e2 := hrtop k hk; first | omega | (intro e; have e3 : k = w0.heap.size := e; omega)
            have hbb : w0.heap.size ≤ bq := by first | omega | exact Nat.le_refl _
            have hbt : bq < E4.heap.size := by first | omega | (show w0.heap.size < _; omega)
            skip
            have hSw : Below w0.heap.size w0 ((E4.setCell ⟨bq, 0, none⟩ (.int .i64 ((cloO h0 (L0 ++ [(n1, d1, s1)])).1))).setCell ⟨bq, 1, none⟩ (.slice aS ((cloO h0 (L0 ++ [(n1, d1, s1)])).2.1).length cS)) := Below.setCell (Below.setCell hS4 hbb _) hbb _
            refine wpAnyH_all (rs := [9]) (by kernel_rfl) (by decide) (List.forall_mem_cons.2 ⟨?_, fun _ h => absurd h List.not_mem_nil⟩)
            refine wpOp_store rfl rfl (w' := ((E4.setCell ⟨bq, 0, none⟩ (.int .i64 ((cloO h0 (L0 ++ [(n1, d1, s1)])).1))).setCell ⟨bq, 1, none⟩ (.slice aS ((cloO h0 (L0 ++ [(n1, d1, s1)])).2.1).length cS))) (by go_simp; try rfl) ⟨hSw, ?_⟩
            refine wpAnyH_all (rs := [10]) (by kernel_rfl) (by decide) (List.forall_mem_cons.2 ⟨?_, fun _ h => absurd h List.not_mem_nil⟩)
            refine wpOp_value (v := .bool ((cloO h0 (L0 ++ [(n1, d1, s1)])).2.2)) (w' := ((E4.setCell ⟨bq, 0, none⟩ (.int .i64 ((cloO h0 (L0 ++ [(n1, d1, s1)])).1))).setCell ⟨bq, 1, none⟩ (.slice aS ((cloO h0 (L0 ++ [(n1, d1, s1)])).2.1).length cS))) _ rfl rfl rfl (by go_simp; try rfl) ⟨hSw, ?_⟩
            simp only [Act.put, List.setIfInBounds_toArray, List.set_cons_zero, List.set_cons_succ]
            refine wpAnyH_done (by kernel_rfl) ?_ _
            refine ⟨rfl, bq, aX, cX, aS, cS, ?_, hSw, hbb, by simp; exact hbt, by go_simp, by go_simp, ((hrS4.set_other ⟨bq, 0, none⟩ hne _).set_other ⟨bq, 1, none⟩ hne _).mono ?_, hne⟩
            · first | rfl | (simp only [Act.put, List.setIfInBounds_toArray, List.set_cons_zero, List.set_cons_succ]; rfl) | simp only [Act.put, List.setIfInBounds_toArray, List.set_cons_zero, List.set_cons_succ]
            · have := hS4.size; omega
          · obtain ⟨bq, hbq⟩ : ∃ bq, bq = (E2).heap.size := ⟨_, rfl⟩
            have q0 : (E2).heap.size ≤ bq := Nat.le_of_eq hbq.symm
            have hS3 : Below w0.heap.size w0 (World.alloc E2 (Obj.cells #[.int .i64 0, .slice none 0 0] 35)) := Below.alloc hS2 hS2.size _
            have hst3 : Below (E2).heap.size E2 (World.alloc E2 (Obj.cells #[.int .i64 0, .slice none 0 0] 35)) := Below.alloc (Below.refl _ _) (Nat.le_refl _) _
            have q1 : bq < (World.alloc E2 (Obj.cells #[.int .i64 0, .slice none 0 0] 35)).heap.size := by simp only [World.size_alloc]; omega
            have ca3 : ∀ j, (World.alloc E2 (Obj.cells #[.int .i64 0, .slice none 0 0] 35)).cell? ⟨bq, j, none⟩ = (#[.int .i64 0, .slice none 0 0] : Array Value)[j]? := by rw [hbq]; exact (cells_of_block (heap_alloc_new (E2) (Obj.cells #[.int .i64 0, .slice none 0 0] 35))).1
            have fa3 : ∀ j, (World.alloc E2 (Obj.cells #[.int .i64 0, .slice none 0 0] 35)).frozen? ⟨bq, j, none⟩ = false := by rw [hbq]; exact (cells_of_block (heap_alloc_new (E2) (Obj.cells #[.int .i64 0, .slice none 0 0] 35))).2
            refine wpOp_value (v := .pointer (some ⟨bq, 0, none⟩)) (w' := World.alloc E2 (Obj.cells #[.int .i64 0, .slice none 0 0] 35)) _ rfl rfl rfl (by rw [hbq]; go_simp; try rfl) ⟨hS3, ?_⟩
            clear hbq
            generalize World.alloc E2 (Obj.cells #[.int .i64 0, .slice none 0 0] 35) = E3 at *
            have hle3 := hS2.size
            have hiX_3 := CIn.below hiX_2 hst3
            simp only [Act.put, List.setIfInBounds_toArray, List.set_cons_zero, List.set_cons_succ]
            refine wpAnyH_all (rs := [4]) (by kernel_rfl) (by decide) (List.forall_mem_cons.2 ⟨?_, fun _ h => absurd h List.not_mem_nil⟩)
            refine wpOp_wp rfl rfl (wp_call_at _ rfl (f := 50) (args := #[pzv h0 (.slice aX L0.length cX), kv n1 d1 s1]) (by go_simp) ((specAddClue_any h0 aX cX L0 n1 d1 s1 hl0 hcapX hcmxX _ hiX_3).mono ?_))
            rintro e904 E4 ⟨v904, rfl, hrS, hst4⟩
            obtain ⟨aS, cS, rfl, -⟩ := hrS.inn
            have hrlow := hrS.low
            have hrtop := hrS.top
            have hS4 : Below w0.heap.size w0 E4 := hS3.trans (hst4.mono hS3.size)
            have hle4 := hS3.size
            have hzz4 := hst4.size
            have ca4 : ∀ j, E4.cell? ⟨bq, j, none⟩ = (#[.int .i64 0, .slice none 0 0] : Array Value)[j]? := fun j => ((bcell hst4).1 _ _ (by first | omega | (show w0.heap.size < _; omega))).trans (ca3 j)
            have fa4 : ∀ j, E4.frozen? ⟨bq, j, none⟩ = false := fun j => ((bcell hst4).2 _ _ (by first | omega | (show w0.heap.size < _; omega))).trans (fa3 j)
            refine ⟨_, rfl, hS4, ?_⟩
            simp only [Act.put, List.setIfInBounds_toArray, List.set_cons_zero, List.set_cons_succ]
            refine take_first (i := 5) (v := .tuple #[pzv ((cloO h0 (L0 ++ [(n1, d1, s1)])).1) (.slice aS ((cloO h0 (L0 ++ [(n1, d1, s1)])).2.1).length cS), .bool ((cloO h0 (L0 ++ [(n1, d1, s1)])).2.2)]) _ rfl rfl (by kernel_rfl) (by kernel_rfl) (by kernel_rfl) (fun _ _ _ h => nomatch h.1) (by rfl) ?_ hS4 ?_
            · intro wq hq
              go_simp
              try rfl
            simp only [Act.put, List.setIfInBounds_toArray, List.set_cons_zero, List.set_cons_succ]
            refine take_first (i := 6) (v := pzv ((cloO h0 (L0 ++ [(n1, d1, s1)])).1) (.slice aS ((cloO h0 (L0 ++ [(n1, d1, s1)])).2.1).length cS)) _ rfl rfl (by kernel_rfl) (by kernel_rfl) (by kernel_rfl) (fun _ _ _ h => nomatch h.1) (by rfl) ?_ hS4 ?_
            · intro wq hq
              go_simp
              try rfl
            simp only [Act.put, List.setIfInBounds_toArray, List.set_cons_zero, List.set_cons_succ]
            refine take_first (i := 7) (v := .bool ((cloO h0 (L0 ++ [(n1, d1, s1)])).2.2)) _ rfl rfl (by kernel_rfl) (by kernel_rfl) (by kernel_rfl) (fun _ _ _ h => nomatch h.1) (by rfl) ?_ hS4 ?_
            · intro wq hq
              go_simp
              try rfl
            simp only [Act.put, List.setIfInBounds_toArray, List.set_cons_zero, List.set_cons_succ]
            have kc0 := ca4 0
            have kc1 := ca4 1
            have kf0 := fa4 0
            have kf1 := fa4 1
            have hne : ∀ k, (Value.slice aS ((cloO h0 (L0 ++ [(n1, d1, s1)])).2.1).length cS).ownBlock = some k → k ≠ bq := fun k hk => by have e1 := hrlow k hk; have e2 := hrtop k hk; first | omega | (intro e; have e3 : k = w0.heap.size := e; omega)
            have hbb : w0.heap.size ≤ bq := by first | omega | exact Nat.le_refl _
            have hbt : bq < E4.heap.size := by first | omega | (show w0.heap.size < _; omega)
            skip
            have hSw : Below w0.heap.size w0 ((E4.setCell ⟨bq, 0, none⟩ (.int .i64 ((cloO h0 (L0 ++ [(n1, d1, s1)])).1))).setCell ⟨bq, 1, none⟩ (.slice aS ((cloO h0 (L0 ++ [(n1, d1, s1)])).2.1).length cS)) := Below.setCell (Below.setCell hS4 hbb _) hbb _
            refine wpAnyH_all (rs := [9]) (by kernel_rfl) (by decide) (List.forall_mem_cons.2 ⟨?_, fun _ h => absurd h List.not_mem_nil⟩)
            refine wpOp_store rfl rfl (w' := ((E4.setCell ⟨bq, 0, none⟩ (.int .i64 ((cloO h0 (L0 ++ [(n1, d1, s1)])).1))).setCell ⟨bq, 1, none⟩ (.slice aS ((cloO h0 (L0 ++ [(n1, d1, s1)])).2.1).length cS))) (by go_simp; try rfl) ⟨hSw, ?_⟩
            refine wpAnyH_all (rs := [10]) (by kernel_rfl) (by decide) (List.forall_mem_cons.2 ⟨?_, fun _ h => absurd h List.not_mem_nil⟩)
            refine wpOp_value (v := .bool ((cloO h0 (L0 ++ [(n1, d1, s1)])).2.2)) (w' := ((E4.setCell ⟨bq, 0, none⟩ (.int .i64 ((cloO h0 (L0 ++ [(n1, d1, s1)])).1))).setCell ⟨bq, 1, none⟩ (.slice aS ((cloO h0 (L0 ++ [(n1, d1, s1)])).2.1).length cS))) _ rfl rfl rfl (by go_simp; try rfl) ⟨hSw, ?_⟩
            simp only [Act.put, List.setIfInBounds_toArray, List.set_cons_zero, List.set_cons_succ]
            refine wpAnyH_done (by kernel_rfl) ?_ _
            refine ⟨rfl, bq, aX, cX, aS, cS, ?_, hSw, hbb, by simp; exact hbt, by go_simp, by go_simp, ((hrS.set_other ⟨bq, 0, none⟩ hne _).set_other ⟨bq, 1, none⟩ hne _).mono ?_, hne⟩
            · first | rfl | (simp only [Act.put, List.setIfInBounds_toArray, List.set_cons_zero, List.set_cons_succ]; rfl) | simp only [Act.put, List.setIfInBounds_toArray, List.set_cons_zero, List.set_cons_succ]
            · have := hS4.size; omega
        · obtain ⟨bq, hbq⟩ : ∃ bq, bq = (E1).heap.size := ⟨_, rfl⟩
          have q0 : (E1).heap.size ≤ bq := Nat.le_of_eq hbq.symm
          have hS2 : Below w0.heap.size w0 (World.alloc E1 (Obj.cells #[.int .i64 0, .slice none 0 0] 35)) := Below.alloc hS1 hS1.size _
          have hst2 : Below (E1).heap.size E1 (World.alloc E1 (Obj.cells #[.int .i64 0, .slice none 0 0] 35)) := Below.alloc (Below.refl _ _) (Nat.le_refl _) _
          have q1 : bq < (World.alloc E1 (Obj.cells #[.int .i64 0, .slice none 0 0] 35)).heap.size := by simp only [World.size_alloc]; omega
          have ca2 : ∀ j, (World.alloc E1 (Obj.cells #[.int .i64 0, .slice none 0 0] 35)).cell? ⟨bq, j, none⟩ = (#[.int .i64 0, .slice none 0 0] : Array Value)[j]? := by rw [hbq]; exact (cells_of_block (heap_alloc_new (E1) (Obj.cells #[.int .i64 0, .slice none 0 0] 35))).1
          have fa2 : ∀ j, (World.alloc E1 (Obj.cells #[.int .i64 0, .slice none 0 0] 35)).frozen? ⟨bq, j, none⟩ = false := by rw [hbq]; exact (cells_of_block (heap_alloc_new (E1) (Obj.cells #[.int .i64 0, .slice none 0 0] 35))).2
          refine wpOp_value (v := .pointer (some ⟨bq, 0, none⟩)) (w' := World.alloc E1 (Obj.cells #[.int .i64 0, .slice none 0 0] 35)) _ rfl rfl rfl (by rw [hbq]; go_simp; try rfl) ⟨hS2, ?_⟩
          clear hbq
          generalize World.alloc E1 (Obj.cells #[.int .i64 0, .slice none 0 0] 35) = E2 at *
          have hle2 := hS1.size
          have hiX_2 := CIn.below hiX hst2
          simp only [Act.put, List.setIfInBounds_toArray, List.set_cons_zero, List.set_cons_succ]
          refine wpAnyH_all (rs := [3]) (by kernel_rfl) (by decide) (List.forall_mem_cons.2 ⟨?_, fun _ h => absurd h List.not_mem_nil⟩)
          refine wpOp_wp rfl rfl (wp_call_at _ rfl (f := 19) (args := #[kv n1 d1 s1]) (by go_simp) ((toClue_any n1 d1 s1 _).mono ?_))
          rintro e903 E3 ⟨rfl, hst3⟩
          have hS3 : Below w0.heap.size w0 E3 := hS2.trans (hst3.mono hS2.size)
          have hle3 := hS2.size
          have hzz3 := hst3.size
          have hiX_3 := CIn.below hiX_2 hst3
          have ca3 : ∀ j, E3.cell? ⟨bq, j, none⟩ = (#[.int .i64 0, .slice none 0 0] : Array Value)[j]? := fun j => ((bcell hst3).1 _ _ (by first | omega | (show w0.heap.size < _; omega))).trans (ca2 j)
          have fa3 : ∀ j, E3.frozen? ⟨bq, j, none⟩ = false := fun j => ((bcell hst3).2 _ _ (by first | omega | (show w0.heap.size < _; omega))).trans (fa2 j)
          refine ⟨_, rfl, hS3, ?_⟩
          simp only [Act.put, List.setIfInBounds_toArray, List.set_cons_zero, List.set_cons_succ]
          refine wpAnyH_all (rs := [4]) (by kernel_rfl) (by decide) (List.forall_mem_cons.2 ⟨?_, fun _ h => absurd h List.not_mem_nil⟩)
          refine wpOp_wp rfl rfl (wp_call_at _ rfl (f := 50) (args := #[pzv h0 (.slice aX L0.length cX), kv n1 d1 s1]) (by go_simp) ((specAddClue_any h0 aX cX L0 n1 d1 s1 hl0 hcapX hcmxX _ hiX_3).mono ?_))
          rintro e904 E4 ⟨v904, rfl, hrS, hst4⟩
          obtain ⟨aS, cS, rfl, -⟩ := hrS.inn
          have hrlow := hrS.low
          have hrtop := hrS.top
          have hS4 : Below w0.heap.size w0 E4 := hS3.trans (hst4.mono hS3.size)
          have hle4 := hS3.size
          have hzz4 := hst4.size
          have ca4 : ∀ j, E4.cell? ⟨bq, j, none⟩ = (#[.int .i64 0, .slice none 0 0] : Array Value)[j]? := fun j => ((bcell hst4).1 _ _ (by first | omega | (show w0.heap.size < _; omega))).trans (ca3 j)
          have fa4 : ∀ j, E4.frozen? ⟨bq, j, none⟩ = false := fun j => ((bcell hst4).2 _ _ (by first | omega | (show w0.heap.size < _; omega))).trans (fa3 j)
          refine ⟨_, rfl, hS4, ?_⟩
          simp only [Act.put, List.setIfInBounds_toArray, List.set_cons_zero, List.set_cons_succ]
          refine take_first (i := 5) (v := .tuple #[pzv ((cloO h0 (L0 ++ [(n1, d1, s1)])).1) (.slice aS ((cloO h0 (L0 ++ [(n1, d1, s1)])).2.1).length cS), .bool ((cloO h0 (L0 ++ [(n1, d1, s1)])).2.2)]) _ rfl rfl (by kernel_rfl) (by kernel_rfl) (by kernel_rfl) (fun _ _ _ h => nomatch h.1) (by rfl) ?_ hS4 ?_
          · intro wq hq
            go_simp
            try rfl
          simp only [Act.put, List.setIfInBounds_toArray, List.set_cons_zero, List.set_cons_succ]
          refine take_first (i := 6) (v := pzv ((cloO h0 (L0 ++ [(n1, d1, s1)])).1) (.slice aS ((cloO h0 (L0 ++ [(n1, d1, s1)])).2.1).length cS)) _ rfl rfl (by kernel_rfl) (by kernel_rfl) (by kernel_rfl) (fun _ _ _ h => nomatch h.1) (by rfl) ?_ hS4 ?_
          · intro wq hq
            go_simp
            try rfl
          simp only [Act.put, List.setIfInBounds_toArray, List.set_cons_zero, List.set_cons_succ]
          refine take_first (i := 7) (v := .bool ((cloO h0 (L0 ++ [(n1, d1, s1)])).2.2)) _ rfl rfl (by kernel_rfl) (by kernel_rfl) (by kernel_rfl) (fun _ _ _ h => nomatch h.1) (by rfl) ?_ hS4 ?_
          · intro wq hq
            go_simp
            try rfl
          simp only [Act.put, List.setIfInBounds_toArray, List.set_cons_zero, List.set_cons_succ]
          have kc0 := ca4 0
          have kc1 := ca4 1
          have kf0 := fa4 0
          have kf1 := fa4 1
          have hne : ∀ k, (Value.slice aS ((cloO h0 (L0 ++ [(n1, d1, s1)])).2.1).length cS).ownBlock = some k → k ≠ bq := fun k hk => by have e1 := hrlow k hk; have e2 := hrtop k hk; first | omega | (intro e; have e3 : k = w0.heap.size := e; omega)
          have hbb : w0.heap.size ≤ bq := by first | omega | exact Nat.le_refl _
          have hbt : bq < E4.heap.size := by first | omega | (show w0.heap.size < _; omega)
          skip
          have hSw : Below w0.heap.size w0 ((E4.setCell ⟨bq, 0, none⟩ (.int .i64 ((cloO h0 (L0 ++ [(n1, d1, s1)])).1))).setCell ⟨bq, 1, none⟩ (.slice aS ((cloO h0 (L0 ++ [(n1, d1, s1)])).2.1).length cS)) := Below.setCell (Below.setCell hS4 hbb _) hbb _
          refine wpAnyH_all (rs := [9]) (by kernel_rfl) (by decide) (List.forall_mem_cons.2 ⟨?_, fun _ h => absurd h List.not_mem_nil⟩)
          refine wpOp_store rfl rfl (w' := ((E4.setCell ⟨bq, 0, none⟩ (.int .i64 ((cloO h0 (L0 ++ [(n1, d1, s1)])).1))).setCell ⟨bq, 1, none⟩ (.slice aS ((cloO h0 (L0 ++ [(n1, d1, s1)])).2.1).length cS))) (by go_simp; try rfl) ⟨hSw, ?_⟩
          refine wpAnyH_all (rs := [10]) (by kernel_rfl) (by decide) (List.forall_mem_cons.2 ⟨?_, fun _ h => absurd h List.not_mem_nil⟩)
          refine wpOp_value (v := .bool ((cloO h0 (L0 ++ [(n1, d1, s1)])).2.2)) (w' := ((E4.setCell ⟨bq, 0, none⟩ (.int .i64 ((cloO h0 (L0 ++ [(n1, d1, s1)])).1))).setCell ⟨bq, 1, none⟩ (.slice aS ((cloO h0 (L0 ++ [(n1, d1, s1)])).2.1).length cS))) _ rfl rfl rfl (by go_simp; try rfl) ⟨hSw, ?_⟩
          simp only [Act.put, List.setIfInBounds_toArray, List.set_cons_zero, List.set_cons_succ]
          refine wpAnyH_done (by kernel_rfl) ?_ _
          refine ⟨rfl, bq, aX, cX, aS, cS, ?_, hSw, hbb, by simp; exact hbt, by go_simp, by go_simp, ((hrS.set_other ⟨bq, 0, none⟩ hne _).set_other ⟨bq, 1, none⟩ hne _).mono ?_, hne⟩
          · first | rfl | (simp only [Act.put, List.setIfInBounds_toArray, List.set_cons_zero, List.set_cons_succ]; rfl) | simp only [Act.put, List.setIfInBounds_toArray, List.set_cons_zero, List.set_cons_succ]
          · have := hS4.size; omega
      · obtain ⟨bq, hbq⟩ : ∃ bq, bq = (w0.drew).heap.size := ⟨_, rfl⟩
        have q0 : (w0.drew).heap.size ≤ bq := Nat.le_of_eq hbq.symm
        have hS1 : Below w0.heap.size w0 (World.alloc w0.drew (Obj.cells #[.int .i64 0, .slice none 0 0] 35)) := Below.alloc hS0 hS0.size _
        have hst1 : Below (w0.drew).heap.size w0.drew (World.alloc w0.drew (Obj.cells #[.int .i64 0, .slice none 0 0] 35)) := Below.alloc (Below.refl _ _) (Nat.le_refl _) _
        have q1 : bq < (World.alloc w0.drew (Obj.cells #[.int .i64 0, .slice none 0 0] 35)).heap.size := by simp only [World.size_alloc]; omega
        have ca1 : ∀ j, (World.alloc w0.drew (Obj.cells #[.int .i64 0, .slice none 0 0] 35)).cell? ⟨bq, j, none⟩ = (#[.int .i64 0, .slice none 0 0] : Array Value)[j]? := by rw [hbq]; exact (cells_of_block (heap_alloc_new (w0.drew) (Obj.cells #[.int .i64 0, .slice none 0 0] 35))).1
        have fa1 : ∀ j, (World.alloc w0.drew (Obj.cells #[.int .i64 0, .slice none 0 0] 35)).frozen? ⟨bq, j, none⟩ = false := by rw [hbq]; exact (cells_of_block (heap_alloc_new (w0.drew) (Obj.cells #[.int .i64 0, .slice none 0 0] 35))).2
        refine wpOp_value (v := .pointer (some ⟨bq, 0, none⟩)) (w' := World.alloc w0.drew (Obj.cells #[.int .i64 0, .slice none 0 0] 35)) _ rfl rfl rfl (by rw [hbq]; go_simp; try rfl) ⟨hS1, ?_⟩
        clear hbq
        generalize World.alloc w0.drew (Obj.cells #[.int .i64 0, .slice none 0 0] 35) = E1 at *
        have hle1 := hS0.size
        simp only [Act.put, List.setIfInBounds_toArray, List.set_cons_zero, List.set_cons_succ]
        refine wpAnyH_all (rs := [1]) (by kernel_rfl) (by decide) (List.forall_mem_cons.2 ⟨?_, fun _ h => absurd h List.not_mem_nil⟩)
        refine wpOp_wp rfl rfl (wp_call_at _ rfl (f := 23) (args := #[pzv h0 (.slice a0 L0.length c0)]) (by go_simp) ((toPuzzle_any h0 a0 c0 L0 _ (HIN0.out.below (B0.trans (hS1.mono B0.size))) hl0).mono ?_))
        rintro e902 E2 ⟨v902, rfl, hr2, hst2⟩
        obtain ⟨aX, cX, rfl, hiX, hcapX, hcmxX⟩ := hr2.inn
        clear hr2
        have hS2 : Below w0.heap.size w0 E2 := hS1.trans (hst2.mono hS1.size)
        have hle2 := hS1.size
        have hzz2 := hst2.size
        have ca2 : ∀ j, E2.cell? ⟨bq, j, none⟩ = (#[.int .i64 0, .slice none 0 0] : Array Value)[j]? := fun j => ((bcell hst2).1 _ _ (by first | omega | (show w0.heap.size < _; omega))).trans (ca1 j)
        have fa2 : ∀ j, E2.frozen? ⟨bq, j, none⟩ = false := fun j => ((bcell hst2).2 _ _ (by first | omega | (show w0.heap.size < _; omega))).trans (fa1 j)
        refine ⟨_, rfl, hS2, ?_⟩
        simp only [Act.put, List.setIfInBounds_toArray, List.set_cons_zero, List.set_cons_succ]
        refine wpAnyH_all (rs := [3]) (by kernel_rfl) (by decide) (List.forall_mem_cons.2 ⟨?_, fun _ h => absurd h List.not_mem_nil⟩)
        refine wpOp_wp rfl rfl (wp_call_at _ rfl (f := 19) (args := #[kv n1 d1 s1]) (by go_simp) ((toClue_any n1 d1 s1 _).mono ?_))
        rintro e903 E3 ⟨rfl, hst3⟩
        have hS3 : Below w0.heap.size w0 E3 := hS2.trans (hst3.mono hS2.size)
        have hle3 := hS2.size
        have hzz3 := hst3.size
        have hiX_3 := CIn.below hiX hst3
        have ca3 : ∀ j, E3.cell? ⟨bq, j, none⟩ = (#[.int .i64 0, .slice none 0 0] : Array Value)[j]? := fun j => ((bcell hst3).1 _ _ (by first | omega | (show w0.heap.size < _; omega))).trans (ca2 j)
        have fa3 : ∀ j, E3.frozen? ⟨bq, j, none⟩ = false := fun j => ((bcell hst3).2 _ _ (by first | omega | (show w0.heap.size < _; omega))).trans (fa2 j)
        refine ⟨_, rfl, hS3, ?_⟩
        simp only [Act.put, List.setIfInBounds_toArray, List.set_cons_zero, List.set_cons_succ]
        refine wpAnyH_all (rs := [4]) (by kernel_rfl) (by decide) (List.forall_mem_cons.2 ⟨?_, fun _ h => absurd h List.not_mem_nil⟩)
        refine wpOp_wp rfl rfl (wp_call_at _ rfl (f := 50) (args := #[pzv h0 (.slice aX L0.length cX), kv n1 d1 s1]) (by go_simp) ((specAddClue_any h0 aX cX L0 n1 d1 s1 hl0 hcapX hcmxX _ hiX_3).mono ?_))
        rintro e904 E4 ⟨v904, rfl, hrS, hst4⟩
        obtain ⟨aS, cS, rfl, -⟩ := hrS.inn
        have hrlow := hrS.low
        have hrtop := hrS.top
        have hS4 : Below w0.heap.size w0 E4 := hS3.trans (hst4.mono hS3.size)
        have hle4 := hS3.size
        have hzz4 := hst4.size
        have ca4 : ∀ j, E4.cell? ⟨bq, j, none⟩ = (#[.int .i64 0, .slice none 0 0] : Array Value)[j]? := fun j => ((bcell hst4).1 _ _ (by first | omega | (show w0.heap.size < _; omega))).trans (ca3 j)
        have fa4 : ∀ j, E4.frozen? ⟨bq, j, none⟩ = false := fun j => ((bcell hst4).2 _ _ (by first | omega | (show w0.heap.size < _; omega))).trans (fa3 j)
        refine ⟨_, rfl, hS4, ?_⟩
        simp only [Act.put, List.setIfInBounds_toArray, List.set_cons_zero, List.set_cons_succ]
        refine take_first (i := 5) (v := .tuple #[pzv ((cloO h0 (L0 ++ [(n1, d1, s1)])).1) (.slice aS ((cloO h0 (L0 ++ [(n1, d1, s1)])).2.1).length cS), .bool ((cloO h0 (L0 ++ [(n1, d1, s1)])).2.2)]) _ rfl rfl (by kernel_rfl) (by kernel_rfl) (by kernel_rfl) (fun _ _ _ h => nomatch h.1) (by rfl) ?_ hS4 ?_
        · intro wq hq
          go_simp
          try rfl
        simp only [Act.put, List.setIfInBounds_toArray, List.set_cons_zero, List.set_cons_succ]
        refine take_first (i := 6) (v := pzv ((cloO h0 (L0 ++ [(n1, d1, s1)])).1) (.slice aS ((cloO h0 (L0 ++ [(n1, d1, s1)])).2.1).length cS)) _ rfl rfl (by kernel_rfl) (by kernel_rfl) (by kernel_rfl) (fun _ _ _ h => nomatch h.1) (by rfl) ?_ hS4 ?_
        · intro wq hq
          go_simp
          try rfl
        simp only [Act.put, List.setIfInBounds_toArray, List.set_cons_zero, List.set_cons_succ]
        refine take_first (i := 7) (v := .bool ((cloO h0 (L0 ++ [(n1, d1, s1)])).2.2)) _ rfl rfl (by kernel_rfl) (by kernel_rfl) (by kernel_rfl) (fun _ _ _ h => nomatch h.1) (by rfl) ?_ hS4 ?_
        · intro wq hq
          go_simp
          try rfl
        simp only [Act.put, List.setIfInBounds_toArray, List.set_cons_zero, List.set_cons_succ]
        have kc0 := ca4 0
        have kc1 := ca4 1
        have kf0 := fa4 0
        have kf1 := fa4 1
        have hne : ∀ k, (Value.slice aS ((cloO h0 (L0 ++ [(n1, d1, s1)])).2.1).length cS).ownBlock = some k → k ≠ bq := fun k hk => by have e1 := hrlow k hk; have e2 := hrtop k hk; first | omega | (intro e; have e3 : k = w0.heap.size := e; omega)
        have hbb : w0.heap.size ≤ bq := by first | omega | exact Nat.le_refl _
        have hbt : bq < E4.heap.size := by first | omega | (show w0.heap.size < _; omega)
        skip
        have hSw : Below w0.heap.size w0 ((E4.setCell ⟨bq, 0, none⟩ (.int .i64 ((cloO h0 (L0 ++ [(n1, d1, s1)])).1))).setCell ⟨bq, 1, none⟩ (.slice aS ((cloO h0 (L0 ++ [(n1, d1, s1)])).2.1).length cS)) := Below.setCell (Below.setCell hS4 hbb _) hbb _
        refine wpAnyH_all (rs := [9]) (by kernel_rfl) (by decide) (List.forall_mem_cons.2 ⟨?_, fun _ h => absurd h List.not_mem_nil⟩)
        refine wpOp_store rfl rfl (w' := ((E4.setCell ⟨bq, 0, none⟩ (.int .i64 ((cloO h0 (L0 ++ [(n1, d1, s1)])).1))).setCell ⟨bq, 1, none⟩ (.slice aS ((cloO h0 (L0 ++ [(n1, d1, s1)])).2.1).length cS))) (by go_simp; try rfl) ⟨hSw, ?_⟩
        refine wpAnyH_all (rs := [10]) (by kernel_rfl) (by decide) (List.forall_mem_cons.2 ⟨?_, fun _ h => absurd h List.not_mem_nil⟩)
        refine wpOp_value (v := .bool ((cloO h0 (L0 ++ [(n1, d1, s1)])).2.2)) (w' := ((E4.setCell ⟨bq, 0, none⟩ (.int .i64 ((cloO h0 (L0 ++ [(n1, d1, s1)])).1))).setCell ⟨bq, 1, none⟩ (.slice aS ((cloO h0 (L0 ++ [(n1, d1, s1)])).2.1).length cS))) _ rfl rfl rfl (by go_simp; try rfl) ⟨hSw, ?_⟩
        simp only [Act.put, List.setIfInBounds_toArray, List.set_cons_zero, List.set_cons_succ]
        refine wpAnyH_done (by kernel_rfl) ?_ _
        refine ⟨rfl, bq, aX, cX, aS, cS, ?_, hSw, hbb, by simp; exact hbt, by go_simp, by go_simp, ((hrS.set_other ⟨bq, 0, none⟩ hne _).set_other ⟨bq, 1, none⟩ hne _).mono ?_, hne⟩
        · first | rfl | (simp only [Act.put, List.setIfInBounds_toArray, List.set_cons_zero, List.set_cons_succ]; rfl) | simp only [Act.put, List.setIfInBounds_toArray, List.set_cons_zero, List.set_cons_succ]
        · have := hS4.size; omega
    rintro a' w1 ⟨b1, aX1, cX1, a1k, c1k, rfl, hb1, hlo1, hhi1, xb1_0, xb1_1, hr1, hneS⟩
    simp only [Act.put, List.setIfInBounds_toArray, List.set_cons_zero, List.set_cons_succ]
    have B1 : Below w.heap.size w w1 := B0.trans (hb1.mono B0.size)
    have y1 := B1.size
    have z1 : w0.heap.size ≤ w1.heap.size := hb1.size
    have x1_0 : w1.cell? ⟨w.heap.size, 0, none⟩ = some (.int .i64 h0) := ((bcell hb1).1 _ _ (by omega)).trans x0_0
    have x1_1 : w1.cell? ⟨w.heap.size, 1, none⟩ = some (.slice a0 L0.length c0) := ((bcell hb1).1 _ _ (by omega)).trans x0_1
    have x1_2 : w1.cell? ⟨w.heap.size + 1, 0, none⟩ = some (.int .i64 n1) := ((bcell hb1).1 _ _ (by omega)).trans x0_2
    have x1_3 : w1.cell? ⟨w.heap.size + 1, 1, none⟩ = some (.int .i64 d1) := ((bcell hb1).1 _ _ (by omega)).trans x0_3
    have x1_4 : w1.cell? ⟨w.heap.size + 1, 2, none⟩ = some (.int .i64 s1) := ((bcell hb1).1 _ _ (by omega)).trans x0_4
    clear x0_0 x0_1 x0_2 x0_3 x0_4
    have x1_5 : w1.cell? ⟨b1, 0, none⟩ = some (.int .i64 ((cloO h0 (L0 ++ [(n1, d1, s1)])).1)) := xb1_0
    have x1_6 : w1.cell? ⟨b1, 1, none⟩ = some (.slice a1k ((cloO h0 (L0 ++ [(n1, d1, s1)])).2.1).length c1k) := xb1_1
    clear xb1_0 xb1_1
    have S_1 := Lib.hid hr1
    have S_at := Lib.hid hr1
    clear hr1
    go_wp2_with fail
    refine (toPuzzle_any h0 a0 c0 L0 _ (HIN0.out.below B1) hl0).mono ?_
    rintro e2 w2 ⟨v2, rfl, hr2, hb2⟩
    have B2 : Below w.heap.size w w2 := B1.trans (hb2.mono B1.size)
    have y2 := B2.size
    have z2 : w1.heap.size ≤ w2.heap.size := hb2.size
    have x2_0 : w2.cell? ⟨w.heap.size, 0, none⟩ = some (.int .i64 h0) := ((bcell hb2).1 _ _ (by omega)).trans x1_0
    have x2_1 : w2.cell? ⟨w.heap.size, 1, none⟩ = some (.slice a0 L0.length c0) := ((bcell hb2).1 _ _ (by omega)).trans x1_1
    have x2_2 : w2.cell? ⟨w.heap.size + 1, 0, none⟩ = some (.int .i64 n1) := ((bcell hb2).1 _ _ (by omega)).trans x1_2
    have x2_3 : w2.cell? ⟨w.heap.size + 1, 1, none⟩ = some (.int .i64 d1) := ((bcell hb2).1 _ _ (by omega)).trans x1_3
    have x2_4 : w2.cell? ⟨w.heap.size + 1, 2, none⟩ = some (.int .i64 s1) := ((bcell hb2).1 _ _ (by omega)).trans x1_4
    have x2_5 : w2.cell? ⟨b1, 0, none⟩ = some (.int .i64 ((cloO h0 (L0 ++ [(n1, d1, s1)])).1)) := ((bcell hb2).1 _ _ (by omega)).trans x1_5
    have x2_6 : w2.cell? ⟨b1, 1, none⟩ = some (.slice a1k ((cloO h0 (L0 ++ [(n1, d1, s1)])).2.1).length c1k) := ((bcell hb2).1 _ _ (by omega)).trans x1_6
    clear x1_0 x1_1 x1_2 x1_3 x1_4 x1_5 x1_6
    have S_2 := Lib.hid (CRow.below S_1.out hb2)
    clear S_1
    obtain ⟨a2k, c2k, rfl, hi2, hcap2, hcmx2⟩ := hr2.inn
    have IY_2 := Lib.hid hi2
    clear hi2
    have Y_2 := Lib.hid hr2
    have Y_at := Lib.hid hr2
    clear hr2
    have lb3_0 : w.heap.size < w2.heap.size := by omega
    have lb3_1 : w.heap.size + 1 < w2.heap.size := by omega
    have lb3_2 : b1 < w2.heap.size := by omega
    go_wp2_with fail
    generalize hw3 : (World.alloc w2 (Obj.cells #[Value.int .i64 (h0), (.slice a2k L0.length c2k)] 35)) = w3
    have hb3 : Below w2.heap.size w2 w3 := by rw [← hw3]; exact Below.alloc (Below.refl _ _) (Nat.le_refl _) _
    have zz3 : w3.heap.size = w2.heap.size + 1 := by rw [← hw3]; simp
    have B3 : Below w.heap.size w w3 := B2.trans (hb3.mono B2.size)
    have y3 := B3.size
    have z3 : w2.heap.size ≤ w3.heap.size := hb3.size
    have x3_0 : w3.cell? ⟨w.heap.size, 0, none⟩ = some (.int .i64 h0) := ((bcell hb3).1 _ _ (by omega)).trans x2_0
    have x3_1 : w3.cell? ⟨w.heap.size, 1, none⟩ = some (.slice a0 L0.length c0) := ((bcell hb3).1 _ _ (by omega)).trans x2_1
    have x3_2 : w3.cell? ⟨w.heap.size + 1, 0, none⟩ = some (.int .i64 n1) := ((bcell hb3).1 _ _ (by omega)).trans x2_2
    have x3_3 : w3.cell? ⟨w.heap.size + 1, 1, none⟩ = some (.int .i64 d1) := ((bcell hb3).1 _ _ (by omega)).trans x2_3
    have x3_4 : w3.cell? ⟨w.heap.size + 1, 2, none⟩ = some (.int .i64 s1) := ((bcell hb3).1 _ _ (by omega)).trans x2_4
    have x3_5 : w3.cell? ⟨b1, 0, none⟩ = some (.int .i64 ((cloO h0 (L0 ++ [(n1, d1, s1)])).1)) := ((bcell hb3).1 _ _ (by omega)).trans x2_5
    have x3_6 : w3.cell? ⟨b1, 1, none⟩ = some (.slice a1k ((cloO h0 (L0 ++ [(n1, d1, s1)])).2.1).length c1k) := ((bcell hb3).1 _ _ (by omega)).trans x2_6
    clear x2_0 x2_1 x2_2 x2_3 x2_4 x2_5 x2_6
    have S_3 := Lib.hid (CRow.below S_2.out hb3)
    clear S_2
    have IY_3 := Lib.hid (CIn.below IY_2.out hb3)
    clear IY_2
    have Y_3 := Lib.hid (CRow.below Y_2.out hb3)
    clear Y_2
    have x3_7 : w3.cell? ⟨w2.heap.size, 0, none⟩ = some (.int .i64 (h0)) := by rw [← hw3]; exact ((cells_of_block (heap_alloc_new w2 (Obj.cells #[Value.int .i64 (h0), (.slice a2k L0.length c2k)] 35))).1 0).trans rfl
    have x3_8 : w3.cell? ⟨w2.heap.size, 1, none⟩ = some ((.slice a2k L0.length c2k)) := by rw [← hw3]; exact ((cells_of_block (heap_alloc_new w2 (Obj.cells #[Value.int .i64 (h0), (.slice a2k L0.length c2k)] 35))).1 1).trans rfl
    clear hw3
    go_wp2_with fail
    refine region_cut (S := fun W => Below w3.heap.size w3 W) (fun a a' W => ∃ (b : Nat) (aS : Option Addr) (cS : Nat), a' = (((((((((a).put (some 32) (pzv h0 (.slice a2k L0.length c2k))).put (some 33) (kv n1 d1 s1)).put (some 34) (kv n1 d1 s1)).put (some 35) (.tuple #[pzv ((cloO h0 (L0 ++ [(n1, d1, s1)])).1) (.slice aS ((cloO h0 (L0 ++ [(n1, d1, s1)])).2.1).length cS), .bool ((cloO h0 (L0 ++ [(n1, d1, s1)])).2.2)])).put (some 31) (.tuple #[pzv ((cloO h0 (L0 ++ [(n1, d1, s1)])).1) (.slice aS ((cloO h0 (L0 ++ [(n1, d1, s1)])).2.1).length cS), .bool ((cloO h0 (L0 ++ [(n1, d1, s1)])).2.2)])).put (some 36) (pzv ((cloO h0 (L0 ++ [(n1, d1, s1)])).1) (.slice aS ((cloO h0 (L0 ++ [(n1, d1, s1)])).2.1).length cS))).put (some 37) (.bool ((cloO h0 (L0 ++ [(n1, d1, s1)])).2.2))).put (some 9) (.pointer (some ⟨b, 0, none⟩))).put (some 10) (.bool ((cloO h0 (L0 ++ [(n1, d1, s1)])).2.2)) ∧ Below w3.heap.size w3 W ∧ w3.heap.size ≤ b ∧ b < W.heap.size ∧ W.cell? ⟨b, 0, none⟩ = some (.int .i64 ((cloO h0 (L0 ++ [(n1, d1, s1)])).1)) ∧ W.cell? ⟨b, 1, none⟩ = some (.slice aS ((cloO h0 (L0 ++ [(n1, d1, s1)])).2.1).length cS) ∧ CRow W w3.heap.size (.slice aS ((cloO h0 (L0 ++ [(n1, d1, s1)])).2.1).length cS) ((cloO h0 (L0 ++ [(n1, d1, s1)])).2.1) ∧ (∀ k, (Value.slice aS ((cloO h0 (L0 ++ [(n1, d1, s1)])).2.1).length cS).ownBlock = some k → k ≠ b)) (by kernel_rfl) ?_ ?_
    · have hS0 : Below w3.heap.size w3 w3.drew := (Below.refl _ _).drew
      have hd0 : w3.drew.heap.size = w3.heap.size := rfl
      have hIX := IY_3.out
      have hIX := hIX.below hS0
      refine take_first (i := 0) (v := pzv h0 (.slice a2k L0.length c2k)) _ rfl rfl (by kernel_rfl) (by kernel_rfl) (by kernel_rfl) (fun _ _ _ h => nomatch h.1) (by rfl) ?_ hS0 ?_
      · intro wq hq
        obtain ⟨hcq, hfq⟩ := bcell hq
        have xq_0 := (hcq _ _ (by omega)).trans x3_0
        have xq_1 := (hcq _ _ (by omega)).trans x3_1
        have xq_2 := (hcq _ _ (by omega)).trans x3_2
        have xq_3 := (hcq _ _ (by omega)).trans x3_3
        have xq_4 := (hcq _ _ (by omega)).trans x3_4
        have xq_5 := (hcq _ _ (by omega)).trans x3_5
        have xq_6 := (hcq _ _ (by omega)).trans x3_6
        have xq_7 := (hcq _ _ (by omega)).trans x3_7
        have xq_8 := (hcq _ _ (by omega)).trans x3_8
        go_simp
        try rfl
      simp only [Act.put, List.setIfInBounds_toArray, List.set_cons_zero, List.set_cons_succ]
      refine take_first (i := 1) (v := kv n1 d1 s1) _ rfl rfl (by kernel_rfl) (by kernel_rfl) (by kernel_rfl) (fun _ _ _ h => nomatch h.1) (by rfl) ?_ hS0 ?_
      · intro wq hq
        obtain ⟨hcq, hfq⟩ := bcell hq
        have xq_0 := (hcq _ _ (by omega)).trans x3_0
        have xq_1 := (hcq _ _ (by omega)).trans x3_1
        have xq_2 := (hcq _ _ (by omega)).trans x3_2
        have xq_3 := (hcq _ _ (by omega)).trans x3_3
        have xq_4 := (hcq _ _ (by omega)).trans x3_4
        have xq_5 := (hcq _ _ (by omega)).trans x3_5
        have xq_6 := (hcq _ _ (by omega)).trans x3_6
        have xq_7 := (hcq _ _ (by omega)).trans x3_7
        have xq_8 := (hcq _ _ (by omega)).trans x3_8
        go_simp
        try rfl
      simp only [Act.put, List.setIfInBounds_toArray, List.set_cons_zero, List.set_cons_succ]
      refine wpAnyH_all (rs := [2, 7]) (by kernel_rfl) (by decide) (List.forall_mem_cons.2 ⟨?_, List.forall_mem_cons.2 ⟨?_, fun _ h => absurd h List.not_mem_nil⟩⟩)
      · refine wpOp_wp rfl rfl (wp_call_at _ rfl (f := 19) (args := #[kv n1 d1 s1]) (by go_simp) ((toClue_any n1 d1 s1 _).mono ?_))
        rintro e901 E1 ⟨rfl, hst1⟩
        have hS1 : Below w3.heap.size w3 E1 := hS0.trans (hst1.mono hS0.size)
        have hle1 := hS0.size
        have hzz1 := hst1.size
        have hiX_1 := CIn.below hIX hst1
        refine ⟨_, rfl, hS1, ?_⟩
        simp only [Act.put, List.setIfInBounds_toArray, List.set_cons_zero, List.set_cons_succ]
        refine wpAnyH_all (rs := [3, 7]) (by kernel_rfl) (by decide) (List.forall_mem_cons.2 ⟨?_, List.forall_mem_cons.2 ⟨?_, fun _ h => absurd h List.not_mem_nil⟩⟩)
        · refine wpOp_wp rfl rfl (wp_call_at _ rfl (f := 51) (args := #[pzv h0 (.slice a2k L0.length c2k), kv n1 d1 s1]) (by go_simp) ((implAddClue_any h0 a2k c2k L0 n1 d1 s1 hl0 hcap2 _ hiX_1).mono ?_))
          rintro e902 E2 ⟨v902, rfl, hrS, hst2⟩
          obtain ⟨aS, cS, rfl, -⟩ := hrS.inn
          have hrlow := hrS.low
          have hrtop := hrS.top
          have hS2 : Below w3.heap.size w3 E2 := hS1.trans (hst2.mono hS1.size)
          have hle2 := hS1.size
          have hzz2 := hst2.size
          refine ⟨_, rfl, hS2, ?_⟩
          simp only [Act.put, List.setIfInBounds_toArray, List.set_cons_zero, List.set_cons_succ]
          refine take_first (i := 4) (v := .tuple #[pzv ((cloO h0 (L0 ++ [(n1, d1, s1)])).1) (.slice aS ((cloO h0 (L0 ++ [(n1, d1, s1)])).2.1).length cS), .bool ((cloO h0 (L0 ++ [(n1, d1, s1)])).2.2)]) _ rfl rfl (by kernel_rfl) (by kernel_rfl) (by kernel_rfl) (fun _ _ _ h => nomatch h.1) (by rfl) ?_ hS2 ?_
          · intro wq hq
            go_simp
            try rfl
          simp only [Act.put, List.setIfInBounds_toArray, List.set_cons_zero, List.set_cons_succ]
          refine take_first (i := 5) (v := pzv ((cloO h0 (L0 ++ [(n1, d1, s1)])).1) (.slice aS ((cloO h0 (L0 ++ [(n1, d1, s1)])).2.1).length cS)) _ rfl rfl (by kernel_rfl) (by kernel_rfl) (by kernel_rfl) (fun _ _ _ h => nomatch h.1) (by rfl) ?_ hS2 ?_
          · intro wq hq
            go_simp
            try rfl
          simp only [Act.put, List.setIfInBounds_toArray, List.set_cons_zero, List.set_cons_succ]
          refine take_first (i := 6) (v := .bool ((cloO h0 (L0 ++ [(n1, d1, s1)])).2.2)) _ rfl rfl (by kernel_rfl) (by kernel_rfl) (by kernel_rfl) (fun _ _ _ h => nomatch h.1) (by rfl) ?_ hS2 ?_
          · intro wq hq
            go_simp
            try rfl
          simp only [Act.put, List.setIfInBounds_toArray, List.set_cons_zero, List.set_cons_succ]
          refine wpAnyH_all (rs := [7]) (by kernel_rfl) (by decide) (List.forall_mem_cons.2 ⟨?_, fun _ h => absurd h List.not_mem_nil⟩)
          obtain ⟨bq, hbq⟩ : ∃ bq, bq = (E2).heap.size := ⟨_, rfl⟩
          have q0 : (E2).heap.size ≤ bq := Nat.le_of_eq hbq.symm
          have hS3 : Below w3.heap.size w3 (World.alloc E2 (Obj.cells #[.int .i64 0, .slice none 0 0] 35)) := Below.alloc hS2 hS2.size _
          have hst3 : Below (E2).heap.size E2 (World.alloc E2 (Obj.cells #[.int .i64 0, .slice none 0 0] 35)) := Below.alloc (Below.refl _ _) (Nat.le_refl _) _
          have q1 : bq < (World.alloc E2 (Obj.cells #[.int .i64 0, .slice none 0 0] 35)).heap.size := by simp only [World.size_alloc]; omega
          have ca3 : ∀ j, (World.alloc E2 (Obj.cells #[.int .i64 0, .slice none 0 0] 35)).cell? ⟨bq, j, none⟩ = (#[.int .i64 0, .slice none 0 0] : Array Value)[j]? := by rw [hbq]; exact (cells_of_block (heap_alloc_new (E2) (Obj.cells #[.int .i64 0, .slice none 0 0] 35))).1
          have fa3 : ∀ j, (World.alloc E2 (Obj.cells #[.int .i64 0, .slice none 0 0] 35)).frozen? ⟨bq, j, none⟩ = false := by rw [hbq]; exact (cells_of_block (heap_alloc_new (E2) (Obj.cells #[.int .i64 0, .slice none 0 0] 35))).2
          refine wpOp_value (v := .pointer (some ⟨bq, 0, none⟩)) (w' := World.alloc E2 (Obj.cells #[.int .i64 0, .slice none 0 0] 35)) _ rfl rfl rfl (by rw [hbq]; go_simp; try rfl) ⟨hS3, ?_⟩
          clear hbq
          generalize World.alloc E2 (Obj.cells #[.int .i64 0, .slice none 0 0] 35) = E3 at *
          have hle3 := hS2.size
          have hrS3 := CRow.below hrS hst3
          simp only [Act.put, List.setIfInBounds_toArray, List.set_cons_zero, List.set_cons_succ]
          have kc0 := ca3 0
          have kc1 := ca3 1
          have kf0 := fa3 0
          have kf1 := fa3 1
          have hne : ∀ k, (Value.slice aS ((cloO h0 (L0 ++ [(n1, d1, s1)])).2.1).length cS).ownBlock = some k → k ≠ bq := fun k hk => by have e1 := hrlow k hk; have e2 := hrtop k hk; first | omega | (intro e; have e3 : k = w3.heap.size := e; omega)
          have hbb : w3.heap.size ≤ bq := by first | omega | exact Nat.le_refl _
          have hbt : bq < E3.heap.size := by first | omega | (show w3.heap.size < _; omega)
          skip
          have hSw : Below w3.heap.size w3 ((E3.setCell ⟨bq, 0, none⟩ (.int .i64 ((cloO h0 (L0 ++ [(n1, d1, s1)])).1))).setCell ⟨bq, 1, none⟩ (.slice aS ((cloO h0 (L0 ++ [(n1, d1, s1)])).2.1).length cS)) := Below.setCell (Below.setCell hS3 hbb _) hbb _
          refine wpAnyH_all (rs := [8]) (by kernel_rfl) (by decide) (List.forall_mem_cons.2 ⟨?_, fun _ h => absurd h List.not_mem_nil⟩)
          refine wpOp_store rfl rfl (w' := ((E3.setCell ⟨bq, 0, none⟩ (.int .i64 ((cloO h0 (L0 ++ [(n1, d1, s1)])).1))).setCell ⟨bq, 1, none⟩ (.slice aS ((cloO h0 (L0 ++ [(n1, d1, s1)])).2.1).length cS))) (by go_simp; try rfl) ⟨hSw, ?_⟩
          refine wpAnyH_all (rs := [9]) (by kernel_rfl) (by decide) (List.forall_mem_cons.2 ⟨?_, fun _ h => absurd h List.not_mem_nil⟩)
          refine wpOp_value (v := .bool ((cloO h0 (L0 ++ [(n1, d1, s1)])).2.2)) (w' := ((E3.setCell ⟨bq, 0, none⟩ (.int .i64 ((cloO h0 (L0 ++ [(n1, d1, s1)])).1))).setCell ⟨bq, 1, none⟩ (.slice aS ((cloO h0 (L0 ++ [(n1, d1, s1)])).2.1).length cS))) _ rfl rfl rfl (by go_simp; try rfl) ⟨hSw, ?_⟩
          simp only [Act.put, List.setIfInBounds_toArray, List.set_cons_zero, List.set_cons_succ]
          refine wpAnyH_done (by kernel_rfl) ?_ _
          refine ⟨rfl, bq, aS, cS, ?_, hSw, hbb, by simp; exact hbt, by go_simp, by go_simp, ((hrS3.set_other ⟨bq, 0, none⟩ hne _).set_other ⟨bq, 1, none⟩ hne _).mono ?_, hne⟩
          · first | rfl | (simp only [Act.put, List.setIfInBounds_toArray, List.set_cons_zero, List.set_cons_succ]; rfl) | simp only [Act.put, List.setIfInBounds_toArray, List.set_cons_zero, List.set_cons_succ]
          · have := hS3.size; omega
        · obtain ⟨bq, hbq⟩ : ∃ bq, bq = (E1).heap.size := ⟨_, rfl⟩
          have q0 : (E1).heap.size ≤ bq := Nat.le_of_eq hbq.symm
          have hS2 : Below w3.heap.size w3 (World.alloc E1 (Obj.cells #[.int .i64 0, .slice none 0 0] 35)) := Below.alloc hS1 hS1.size _
          have hst2 : Below (E1).heap.size E1 (World.alloc E1 (Obj.cells #[.int .i64 0, .slice none 0 0] 35)) := Below.alloc (Below.refl _ _) (Nat.le_refl _) _
          have q1 : bq < (World.alloc E1 (Obj.cells #[.int .i64 0, .slice none 0 0] 35)).heap.size := by simp only [World.size_alloc]; omega
          have ca2 : ∀ j, (World.alloc E1 (Obj.cells #[.int .i64 0, .slice none 0 0] 35)).cell? ⟨bq, j, none⟩ = (#[.int .i64 0, .slice none 0 0] : Array Value)[j]? := by rw [hbq]; exact (cells_of_block (heap_alloc_new (E1) (Obj.cells #[.int .i64 0, .slice none 0 0] 35))).1
          have fa2 : ∀ j, (World.alloc E1 (Obj.cells #[.int .i64 0, .slice none 0 0] 35)).frozen? ⟨bq, j, none⟩ = false := by rw [hbq]; exact (cells_of_block (heap_alloc_new (E1) (Obj.cells #[.int .i64 0, .slice none 0 0] 35))).2
          refine wpOp_value (v := .pointer (some ⟨bq, 0, none⟩)) (w' := World.alloc E1 (Obj.cells #[.int .i64 0, .slice none 0 0] 35)) _ rfl rfl rfl (by rw [hbq]; go_simp; try rfl) ⟨hS2, ?_⟩
          clear hbq
          generalize World.alloc E1 (Obj.cells #[.int .i64 0, .slice none 0 0] 35) = E2 at *
          have hle2 := hS1.size
          have hiX_2 := CIn.below hiX_1 hst2
          simp only [Act.put, List.setIfInBounds_toArray, List.set_cons_zero, List.set_cons_succ]
          refine wpAnyH_all (rs := [3]) (by kernel_rfl) (by decide) (List.forall_mem_cons.2 ⟨?_, fun _ h => absurd h List.not_mem_nil⟩)
          refine wpOp_wp rfl rfl (wp_call_at _ rfl (f := 51) (args := #[pzv h0 (.slice a2k L0.length c2k), kv n1 d1 s1]) (by go_simp) ((implAddClue_any h0 a2k c2k L0 n1 d1 s1 hl0 hcap2 _ hiX_2).mono ?_))
          rintro e903 E3 ⟨v903, rfl, hrS, hst3⟩
          obtain ⟨aS, cS, rfl, -⟩ := hrS.inn
          have hrlow := hrS.low
          have hrtop := hrS.top
          have hS3 : Below w3.heap.size w3 E3 := hS2.trans (hst3.mono hS2.size)
          have hle3 := hS2.size
          have hzz3 := hst3.size
          have ca3 : ∀ j, E3.cell? ⟨bq, j, none⟩ = (#[.int .i64 0, .slice none 0 0] : Array Value)[j]? := fun j => ((bcell hst3).1 _ _ (by first | omega | (show w3.heap.size < _; omega))).trans (ca2 j)
          have fa3 : ∀ j, E3.frozen? ⟨bq, j, none⟩ = false := fun j => ((bcell hst3).2 _ _ (by first | omega | (show w3.heap.size < _; omega))).trans (fa2 j)
          refine ⟨_, rfl, hS3, ?_⟩
          simp only [Act.put, List.setIfInBounds_toArray, List.set_cons_zero, List.set_cons_succ]
          refine take_first (i := 4) (v := .tuple #[pzv ((cloO h0 (L0 ++ [(n1, d1, s1)])).1) (.slice aS ((cloO h0 (L0 ++ [(n1, d1, s1)])).2.1).length cS), .bool ((cloO h0 (L0 ++ [(n1, d1, s1)])).2.2)]) _ rfl rfl (by kernel_rfl) (by kernel_rfl) (by kernel_rfl) (fun _ _ _ h => nomatch h.1) (by rfl) ?_ hS3 ?_
          · intro wq hq
            go_simp
            try rfl
          simp only [Act.put, List.setIfInBounds_toArray, List.set_cons_zero, List.set_cons_succ]
          refine take_first (i := 5) (v := pzv ((cloO h0 (L0 ++ [(n1, d1, s1)])).1) (.slice aS ((cloO h0 (L0 ++ [(n1, d1, s1)])).2.1).length cS)) _ rfl rfl (by kernel_rfl) (by kernel_rfl) (by kernel_rfl) (fun _ _ _ h => nomatch h.1) (by rfl) ?_ hS3 ?_
          · intro wq hq
            go_simp
            try rfl
          simp only [Act.put, List.setIfInBounds_toArray, List.set_cons_zero, List.set_cons_succ]
          refine take_first (i := 6) (v := .bool ((cloO h0 (L0 ++ [(n1, d1, s1)])).2.2)) _ rfl rfl (by kernel_rfl) (by kernel_rfl) (by kernel_rfl) (fun _ _ _ h => nomatch h.1) (by rfl) ?_ hS3 ?_
          · intro wq hq
            go_simp
            try rfl
          simp only [Act.put, List.setIfInBounds_toArray, List.set_cons_zero, List.set_cons_succ]
          have kc0 := ca3 0
          have kc1 := ca3 1
          have kf0 := fa3 0
          have kf1 := fa3 1
          have hne : ∀ k, (Value.slice aS ((cloO h0 (L0 ++ [(n1, d1, s1)])).2.1).length cS).ownBlock = some k → k ≠ bq := fun k hk => by have e1 := hrlow k hk; have e2 := hrtop k hk; first | omega | (intro e; have e3 : k = w3.heap.size := e; omega)
          have hbb : w3.heap.size ≤ bq := by first | omega | exact Nat.le_refl _
          have hbt : bq < E3.heap.size := by first | omega | (show w3.heap.size < _; omega)
          skip
          have hSw : Below w3.heap.size w3 ((E3.setCell ⟨bq, 0, none⟩ (.int .i64 ((cloO h0 (L0 ++ [(n1, d1, s1)])).1))).setCell ⟨bq, 1, none⟩ (.slice aS ((cloO h0 (L0 ++ [(n1, d1, s1)])).2.1).length cS)) := Below.setCell (Below.setCell hS3 hbb _) hbb _
          refine wpAnyH_all (rs := [8]) (by kernel_rfl) (by decide) (List.forall_mem_cons.2 ⟨?_, fun _ h => absurd h List.not_mem_nil⟩)
          refine wpOp_store rfl rfl (w' := ((E3.setCell ⟨bq, 0, none⟩ (.int .i64 ((cloO h0 (L0 ++ [(n1, d1, s1)])).1))).setCell ⟨bq, 1, none⟩ (.slice aS ((cloO h0 (L0 ++ [(n1, d1, s1)])).2.1).length cS))) (by go_simp; try rfl) ⟨hSw, ?_⟩
          refine wpAnyH_all (rs := [9]) (by kernel_rfl) (by decide) (List.forall_mem_cons.2 ⟨?_, fun _ h => absurd h List.not_mem_nil⟩)
          refine wpOp_value (v := .bool ((cloO h0 (L0 ++ [(n1, d1, s1)])).2.2)) (w' := ((E3.setCell ⟨bq, 0, none⟩ (.int .i64 ((cloO h0 (L0 ++ [(n1, d1, s1)])).1))).setCell ⟨bq, 1, none⟩ (.slice aS ((cloO h0 (L0 ++ [(n1, d1, s1)])).2.1).length cS))) _ rfl rfl rfl (by go_simp; try rfl) ⟨hSw, ?_⟩
          simp only [Act.put, List.setIfInBounds_toArray, List.set_cons_zero, List.set_cons_succ]
          refine wpAnyH_done (by kernel_rfl) ?_ _
          refine ⟨rfl, bq, aS, cS, ?_, hSw, hbb, by simp; exact hbt, by go_simp, by go_simp, ((hrS.set_other ⟨bq, 0, none⟩ hne _).set_other ⟨bq, 1, none⟩ hne _).mono ?_, hne⟩
          · first | rfl | (simp only [Act.put, List.setIfInBounds_toArray, List.set_cons_zero, List.set_cons_succ]; rfl) | simp only [Act.put, List.setIfInBounds_toArray, List.set_cons_zero, List.set_cons_succ]
          · have := hS3.size; omega
      · obtain ⟨bq, hbq⟩ : ∃ bq, bq = (w3.drew).heap.size := ⟨_, rfl⟩
        have q0 : (w3.drew).heap.size ≤ bq := Nat.le_of_eq hbq.symm
        have hS1 : Below w3.heap.size w3 (World.alloc w3.drew (Obj.cells #[.int .i64 0, .slice none 0 0] 35)) := Below.alloc hS0 hS0.size _
        have hst1 : Below (w3.drew).heap.size w3.drew (World.alloc w3.drew (Obj.cells #[.int .i64 0, .slice none 0 0] 35)) := Below.alloc (Below.refl _ _) (Nat.le_refl _) _
        have q1 : bq < (World.alloc w3.drew (Obj.cells #[.int .i64 0, .slice none 0 0] 35)).heap.size := by simp only [World.size_alloc]; omega
        have ca1 : ∀ j, (World.alloc w3.drew (Obj.cells #[.int .i64 0, .slice none 0 0] 35)).cell? ⟨bq, j, none⟩ = (#[.int .i64 0, .slice none 0 0] : Array Value)[j]? := by rw [hbq]; exact (cells_of_block (heap_alloc_new (w3.drew) (Obj.cells #[.int .i64 0, .slice none 0 0] 35))).1
        have fa1 : ∀ j, (World.alloc w3.drew (Obj.cells #[.int .i64 0, .slice none 0 0] 35)).frozen? ⟨bq, j, none⟩ = false := by rw [hbq]; exact (cells_of_block (heap_alloc_new (w3.drew) (Obj.cells #[.int .i64 0, .slice none 0 0] 35))).2
        refine wpOp_value (v := .pointer (some ⟨bq, 0, none⟩)) (w' := World.alloc w3.drew (Obj.cells #[.int .i64 0, .slice none 0 0] 35)) _ rfl rfl rfl (by rw [hbq]; go_simp; try rfl) ⟨hS1, ?_⟩
        clear hbq
        generalize World.alloc w3.drew (Obj.cells #[.int .i64 0, .slice none 0 0] 35) = E1 at *
        have hle1 := hS0.size
        have hiX_1 := CIn.below hIX hst1
        simp only [Act.put, List.setIfInBounds_toArray, List.set_cons_zero, List.set_cons_succ]
        refine wpAnyH_all (rs := [2]) (by kernel_rfl) (by decide) (List.forall_mem_cons.2 ⟨?_, fun _ h => absurd h List.not_mem_nil⟩)
        refine wpOp_wp rfl rfl (wp_call_at _ rfl (f := 19) (args := #[kv n1 d1 s1]) (by go_simp) ((toClue_any n1 d1 s1 _).mono ?_))
        rintro e902 E2 ⟨rfl, hst2⟩
        have hS2 : Below w3.heap.size w3 E2 := hS1.trans (hst2.mono hS1.size)
        have hle2 := hS1.size
        have hzz2 := hst2.size
        have hiX_2 := CIn.below hiX_1 hst2
        have ca2 : ∀ j, E2.cell? ⟨bq, j, none⟩ = (#[.int .i64 0, .slice none 0 0] : Array Value)[j]? := fun j => ((bcell hst2).1 _ _ (by first | omega | (show w3.heap.size < _; omega))).trans (ca1 j)
        have fa2 : ∀ j, E2.frozen? ⟨bq, j, none⟩ = false := fun j => ((bcell hst2).2 _ _ (by first | omega | (show w3.heap.size < _; omega))).trans (fa1 j)
        refine ⟨_, rfl, hS2, ?_⟩
        simp only [Act.put, List.setIfInBounds_toArray, List.set_cons_zero, List.set_cons_succ]
        refine wpAnyH_all (rs := [3]) (by kernel_rfl) (by decide) (List.forall_mem_cons.2 ⟨?_, fun _ h => absurd h List.not_mem_nil⟩)
        refine wpOp_wp rfl rfl (wp_call_at _ rfl (f := 51) (args := #[pzv h0 (.slice a2k L0.length c2k), kv n1 d1 s1]) (by go_simp) ((implAddClue_any h0 a2k c2k L0 n1 d1 s1 hl0 hcap2 _ hiX_2).mono ?_))
        rintro e903 E3 ⟨v903, rfl, hrS, hst3⟩
        obtain ⟨aS, cS, rfl, -⟩ := hrS.inn
        have hrlow := hrS.low
        have hrtop := hrS.top
        have hS3 : Below w3.heap.size w3 E3 := hS2.trans (hst3.mono hS2.size)
        have hle3 := hS2.size
        have hzz3 := hst3.size
        have ca3 : ∀ j, E3.cell? ⟨bq, j, none⟩ = (#[.int .i64 0, .slice none 0 0] : Array Value)[j]? := fun j => ((bcell hst3).1 _ _ (by first | omega | (show w3.heap.size < _; omega))).trans (ca2 j)
        have fa3 : ∀ j, E3.frozen? ⟨bq, j, none⟩ = false := fun j => ((bcell hst3).2 _ _ (by first | omega | (show w3.heap.size < _; omega))).trans (fa2 j)
        refine ⟨_, rfl, hS3, ?_⟩
        simp only [Act.put, List.setIfInBounds_toArray, List.set_cons_zero, List.set_cons_succ]
        refine take_first (i := 4) (v := .tuple #[pzv ((cloO h0 (L0 ++ [(n1, d1, s1)])).1) (.slice aS ((cloO h0 (L0 ++ [(n1, d1, s1)])).2.1).length cS), .bool ((cloO h0 (L0 ++ [(n1, d1, s1)])).2.2)]) _ rfl rfl (by kernel_rfl) (by kernel_rfl) (by kernel_rfl) (fun _ _ _ h => nomatch h.1) (by rfl) ?_ hS3 ?_
        · intro wq hq
          go_simp
          try rfl
        simp only [Act.put, List.setIfInBounds_toArray, List.set_cons_zero, List.set_cons_succ]
        refine take_first (i := 5) (v := pzv ((cloO h0 (L0 ++ [(n1, d1, s1)])).1) (.slice aS ((cloO h0 (L0 ++ [(n1, d1, s1)])).2.1).length cS)) _ rfl rfl (by kernel_rfl) (by kernel_rfl) (by kernel_rfl) (fun _ _ _ h => nomatch h.1) (by rfl) ?_ hS3 ?_
        · intro wq hq
          go_simp
          try rfl
        simp only [Act.put, List.setIfInBounds_toArray, List.set_cons_zero, List.set_cons_succ]
        refine take_first (i := 6) (v := .bool ((cloO h0 (L0 ++ [(n1, d1, s1)])).2.2)) _ rfl rfl (by kernel_rfl) (by kernel_rfl) (by kernel_rfl) (fun _ _ _ h => nomatch h.1) (by rfl) ?_ hS3 ?_
        · intro wq hq
          go_simp
          try rfl
        simp only [Act.put, List.setIfInBounds_toArray, List.set_cons_zero, List.set_cons_succ]
        have kc0 := ca3 0
        have kc1 := ca3 1
        have kf0 := fa3 0
        have kf1 := fa3 1
        have hne : ∀ k, (Value.slice aS ((cloO h0 (L0 ++ [(n1, d1, s1)])).2.1).length cS).ownBlock = some k → k ≠ bq := fun k hk => by have e1 := hrlow k hk; have e2 := hrtop k hk; first | omega | (intro e; have e3 : k = w3.heap.size := e; omega)
        have hbb : w3.heap.size ≤ bq := by first | omega | exact Nat.le_refl _
        have hbt : bq < E3.heap.size := by first | omega | (show w3.heap.size < _; omega)
        skip
        have hSw : Below w3.heap.size w3 ((E3.setCell ⟨bq, 0, none⟩ (.int .i64 ((cloO h0 (L0 ++ [(n1, d1, s1)])).1))).setCell ⟨bq, 1, none⟩ (.slice aS ((cloO h0 (L0 ++ [(n1, d1, s1)])).2.1).length cS)) := Below.setCell (Below.setCell hS3 hbb _) hbb _
        refine wpAnyH_all (rs := [8]) (by kernel_rfl) (by decide) (List.forall_mem_cons.2 ⟨?_, fun _ h => absurd h List.not_mem_nil⟩)
        refine wpOp_store rfl rfl (w' := ((E3.setCell ⟨bq, 0, none⟩ (.int .i64 ((cloO h0 (L0 ++ [(n1, d1, s1)])).1))).setCell ⟨bq, 1, none⟩ (.slice aS ((cloO h0 (L0 ++ [(n1, d1, s1)])).2.1).length cS))) (by go_simp; try rfl) ⟨hSw, ?_⟩
        refine wpAnyH_all (rs := [9]) (by kernel_rfl) (by decide) (List.forall_mem_cons.2 ⟨?_, fun _ h => absurd h List.not_mem_nil⟩)
        refine wpOp_value (v := .bool ((cloO h0 (L0 ++ [(n1, d1, s1)])).2.2)) (w' := ((E3.setCell ⟨bq, 0, none⟩ (.int .i64 ((cloO h0 (L0 ++ [(n1, d1, s1)])).1))).setCell ⟨bq, 1, none⟩ (.slice aS ((cloO h0 (L0 ++ [(n1, d1, s1)])).2.1).length cS))) _ rfl rfl rfl (by go_simp; try rfl) ⟨hSw, ?_⟩
        simp only [Act.put, List.setIfInBounds_toArray, List.set_cons_zero, List.set_cons_succ]
        refine wpAnyH_done (by kernel_rfl) ?_ _
        refine ⟨rfl, bq, aS, cS, ?_, hSw, hbb, by simp; exact hbt, by go_simp, by go_simp, ((hrS.set_other ⟨bq, 0, none⟩ hne _).set_other ⟨bq, 1, none⟩ hne _).mono ?_, hne⟩
        · first | rfl | (simp only [Act.put, List.setIfInBounds_toArray, List.set_cons_zero, List.set_cons_succ]; rfl) | simp only [Act.put, List.setIfInBounds_toArray, List.set_cons_zero, List.set_cons_succ]
        · have := hS3.size; omega
    rintro a' w4 ⟨b4, a4k, c4k, rfl, hb4, hlo4, hhi4, xb4_0, xb4_1, hr4, hneG⟩
    simp only [Act.put, List.setIfInBounds_toArray, List.set_cons_zero, List.set_cons_succ]
    have B4 : Below w.heap.size w w4 := B3.trans (hb4.mono B3.size)
    have y4 := B4.size
    have z4 : w3.heap.size ≤ w4.heap.size := hb4.size
    have x4_0 : w4.cell? ⟨w.heap.size, 0, none⟩ = some (.int .i64 h0) := ((bcell hb4).1 _ _ (by omega)).trans x3_0
    have x4_1 : w4.cell? ⟨w.heap.size, 1, none⟩ = some (.slice a0 L0.length c0) := ((bcell hb4).1 _ _ (by omega)).trans x3_1
    have x4_2 : w4.cell? ⟨w.heap.size + 1, 0, none⟩ = some (.int .i64 n1) := ((bcell hb4).1 _ _ (by omega)).trans x3_2
    have x4_3 : w4.cell? ⟨w.heap.size + 1, 1, none⟩ = some (.int .i64 d1) := ((bcell hb4).1 _ _ (by omega)).trans x3_3
    have x4_4 : w4.cell? ⟨w.heap.size + 1, 2, none⟩ = some (.int .i64 s1) := ((bcell hb4).1 _ _ (by omega)).trans x3_4
    have x4_5 : w4.cell? ⟨b1, 0, none⟩ = some (.int .i64 ((cloO h0 (L0 ++ [(n1, d1, s1)])).1)) := ((bcell hb4).1 _ _ (by omega)).trans x3_5
    have x4_6 : w4.cell? ⟨b1, 1, none⟩ = some (.slice a1k ((cloO h0 (L0 ++ [(n1, d1, s1)])).2.1).length c1k) := ((bcell hb4).1 _ _ (by omega)).trans x3_6
    have x4_7 : w4.cell? ⟨w2.heap.size, 0, none⟩ = some (.int .i64 (h0)) := ((bcell hb4).1 _ _ (by omega)).trans x3_7
    have x4_8 : w4.cell? ⟨w2.heap.size, 1, none⟩ = some ((.slice a2k L0.length c2k)) := ((bcell hb4).1 _ _ (by omega)).trans x3_8
    clear x3_0 x3_1 x3_2 x3_3 x3_4 x3_5 x3_6 x3_7 x3_8
    have S_4 := Lib.hid (CRow.below S_3.out hb4)
    clear S_3
    have IY_4 := Lib.hid (CIn.below IY_3.out hb4)
    clear IY_3
    have Y_4 := Lib.hid (CRow.below Y_3.out hb4)
    clear Y_3
    have x4_9 : w4.cell? ⟨b4, 0, none⟩ = some (.int .i64 ((cloO h0 (L0 ++ [(n1, d1, s1)])).1)) := xb4_0
    have x4_10 : w4.cell? ⟨b4, 1, none⟩ = some (.slice a4k ((cloO h0 (L0 ++ [(n1, d1, s1)])).2.1).length c4k) := xb4_1
    clear xb4_0 xb4_1
    have G_4 := Lib.hid hr4
    have G_at := Lib.hid hr4
    clear hr4
    go_wp2_with fail
    refine (eqPuzzle_same (cloO h0 (L0 ++ [(n1, d1, s1)])).1 (cloO h0 (L0 ++ [(n1, d1, s1)])).2.1 (.slice a4k ((cloO h0 (L0 ++ [(n1, d1, s1)])).2.1).length c4k) (.slice a1k ((cloO h0 (L0 ++ [(n1, d1, s1)])).2.1).length c1k) _ _ _ G_4.out S_4.out HLEN.out).mono ?_
    rintro e5 w5 ⟨rfl, hb5⟩
    have B5 : Below w.heap.size w w5 := B4.trans (hb5.mono B4.size)
    have y5 := B5.size
    have z5 : w4.heap.size ≤ w5.heap.size := hb5.size
    have x5_0 : w5.cell? ⟨w.heap.size, 0, none⟩ = some (.int .i64 h0) := ((bcell hb5).1 _ _ (by omega)).trans x4_0
    have x5_1 : w5.cell? ⟨w.heap.size, 1, none⟩ = some (.slice a0 L0.length c0) := ((bcell hb5).1 _ _ (by omega)).trans x4_1
    have x5_2 : w5.cell? ⟨w.heap.size + 1, 0, none⟩ = some (.int .i64 n1) := ((bcell hb5).1 _ _ (by omega)).trans x4_2
    have x5_3 : w5.cell? ⟨w.heap.size + 1, 1, none⟩ = some (.int .i64 d1) := ((bcell hb5).1 _ _ (by omega)).trans x4_3
    have x5_4 : w5.cell? ⟨w.heap.size + 1, 2, none⟩ = some (.int .i64 s1) := ((bcell hb5).1 _ _ (by omega)).trans x4_4
    have x5_5 : w5.cell? ⟨b1, 0, none⟩ = some (.int .i64 ((cloO h0 (L0 ++ [(n1, d1, s1)])).1)) := ((bcell hb5).1 _ _ (by omega)).trans x4_5
    have x5_6 : w5.cell? ⟨b1, 1, none⟩ = some (.slice a1k ((cloO h0 (L0 ++ [(n1, d1, s1)])).2.1).length c1k) := ((bcell hb5).1 _ _ (by omega)).trans x4_6
    have x5_7 : w5.cell? ⟨w2.heap.size, 0, none⟩ = some (.int .i64 (h0)) := ((bcell hb5).1 _ _ (by omega)).trans x4_7
    have x5_8 : w5.cell? ⟨w2.heap.size, 1, none⟩ = some ((.slice a2k L0.length c2k)) := ((bcell hb5).1 _ _ (by omega)).trans x4_8
    have x5_9 : w5.cell? ⟨b4, 0, none⟩ = some (.int .i64 ((cloO h0 (L0 ++ [(n1, d1, s1)])).1)) := ((bcell hb5).1 _ _ (by omega)).trans x4_9
    have x5_10 : w5.cell? ⟨b4, 1, none⟩ = some (.slice a4k ((cloO h0 (L0 ++ [(n1, d1, s1)])).2.1).length c4k) := ((bcell hb5).1 _ _ (by omega)).trans x4_10
    clear x4_0 x4_1 x4_2 x4_3 x4_4 x4_5 x4_6 x4_7 x4_8 x4_9 x4_10
    have S_5 := Lib.hid (CRow.below S_4.out hb5)
    clear S_4
    have Y_5 := Lib.hid (CRow.below Y_4.out hb5)
    clear Y_4
    have G_5 := Lib.hid (CRow.below G_4.out hb5)
    clear G_4
    go_wp2_with fail
    have hS5 : Below w5.heap.size w5 w5.drew := (Below.refl _ _).drew
    refine wp_region_held (by kernel_rfl) (S := fun W => Below w5.heap.size w5 W) ?_
    refine take_first (i := 0) (v := pzv h0 (.slice a2k L0.length c2k)) _ rfl rfl (by kernel_rfl) (by kernel_rfl) (by kernel_rfl) (fun _ _ _ h => h) (by rfl) ?_ (by assumption) ?_
    · intro wq hq
      obtain ⟨hcq, hfq⟩ := bcell hq
      have xq_0 := (hcq _ _ (by omega)).trans x5_0
      have xq_1 := (hcq _ _ (by omega)).trans x5_1
      have xq_2 := (hcq _ _ (by omega)).trans x5_2
      have xq_3 := (hcq _ _ (by omega)).trans x5_3
      have xq_4 := (hcq _ _ (by omega)).trans x5_4
      have xq_5 := (hcq _ _ (by omega)).trans x5_5
      have xq_6 := (hcq _ _ (by omega)).trans x5_6
      have xq_7 := (hcq _ _ (by omega)).trans x5_7
      have xq_8 := (hcq _ _ (by omega)).trans x5_8
      have xq_9 := (hcq _ _ (by omega)).trans x5_9
      have xq_10 := (hcq _ _ (by omega)).trans x5_10
      go_simp
      try rfl
    simp only [Act.put, List.setIfInBounds_toArray, List.set_cons_zero, List.set_cons_succ]
    refine take_first (i := 1) (v := pzv h0 (.slice a0 L0.length c0)) _ rfl rfl (by kernel_rfl) (by kernel_rfl) (by kernel_rfl) (fun _ _ _ h => h) (by rfl) ?_ (by assumption) ?_
    · intro wq hq
      obtain ⟨hcq, hfq⟩ := bcell hq
      have xq_0 := (hcq _ _ (by omega)).trans x5_0
      have xq_1 := (hcq _ _ (by omega)).trans x5_1
      have xq_2 := (hcq _ _ (by omega)).trans x5_2
      have xq_3 := (hcq _ _ (by omega)).trans x5_3
      have xq_4 := (hcq _ _ (by omega)).trans x5_4
      have xq_5 := (hcq _ _ (by omega)).trans x5_5
      have xq_6 := (hcq _ _ (by omega)).trans x5_6
      have xq_7 := (hcq _ _ (by omega)).trans x5_7
      have xq_8 := (hcq _ _ (by omega)).trans x5_8
      have xq_9 := (hcq _ _ (by omega)).trans x5_9
      have xq_10 := (hcq _ _ (by omega)).trans x5_10
      go_simp
      try rfl
    simp only [Act.put, List.setIfInBounds_toArray, List.set_cons_zero, List.set_cons_succ]
    refine wpAnyH_all (rs := [2]) (by kernel_rfl) (by decide) (List.forall_mem_cons.2 ⟨?_, fun _ h => absurd h List.not_mem_nil⟩)
    refine wpOp_wp rfl rfl (wp_call_at _ rfl (f := 23) (args := #[pzv h0 (.slice a0 L0.length c0)]) (by go_simp) ((toPuzzle_any h0 a0 c0 L0 _ (HIN0.out.below (B5.trans (hS5.mono B5.size))) hl0).mono ?_))
    rintro e6 w6 ⟨v6, rfl, hr6, hbx6⟩
    have hb6 : Below w5.heap.size w5 w6 := hS5.trans (hbx6.mono hS5.size)
    have hS6 := hb6
    have B6 : Below w.heap.size w w6 := B5.trans (hb6.mono B5.size)
    have y6 := B6.size
    have z6 : w5.heap.size ≤ w6.heap.size := hb6.size
    have x6_0 : w6.cell? ⟨w.heap.size, 0, none⟩ = some (.int .i64 h0) := ((bcell hb6).1 _ _ (by omega)).trans x5_0
    have x6_1 : w6.cell? ⟨w.heap.size, 1, none⟩ = some (.slice a0 L0.length c0) := ((bcell hb6).1 _ _ (by omega)).trans x5_1
    have x6_2 : w6.cell? ⟨w.heap.size + 1, 0, none⟩ = some (.int .i64 n1) := ((bcell hb6).1 _ _ (by omega)).trans x5_2
    have x6_3 : w6.cell? ⟨w.heap.size + 1, 1, none⟩ = some (.int .i64 d1) := ((bcell hb6).1 _ _ (by omega)).trans x5_3
    have x6_4 : w6.cell? ⟨w.heap.size + 1, 2, none⟩ = some (.int .i64 s1) := ((bcell hb6).1 _ _ (by omega)).trans x5_4
    have x6_5 : w6.cell? ⟨b1, 0, none⟩ = some (.int .i64 ((cloO h0 (L0 ++ [(n1, d1, s1)])).1)) := ((bcell hb6).1 _ _ (by omega)).trans x5_5
    have x6_6 : w6.cell? ⟨b1, 1, none⟩ = some (.slice a1k ((cloO h0 (L0 ++ [(n1, d1, s1)])).2.1).length c1k) := ((bcell hb6).1 _ _ (by omega)).trans x5_6
    have x6_7 : w6.cell? ⟨w2.heap.size, 0, none⟩ = some (.int .i64 (h0)) := ((bcell hb6).1 _ _ (by omega)).trans x5_7
    have x6_8 : w6.cell? ⟨w2.heap.size, 1, none⟩ = some ((.slice a2k L0.length c2k)) := ((bcell hb6).1 _ _ (by omega)).trans x5_8
    have x6_9 : w6.cell? ⟨b4, 0, none⟩ = some (.int .i64 ((cloO h0 (L0 ++ [(n1, d1, s1)])).1)) := ((bcell hb6).1 _ _ (by omega)).trans x5_9
    have x6_10 : w6.cell? ⟨b4, 1, none⟩ = some (.slice a4k ((cloO h0 (L0 ++ [(n1, d1, s1)])).2.1).length c4k) := ((bcell hb6).1 _ _ (by omega)).trans x5_10
    clear x5_0 x5_1 x5_2 x5_3 x5_4 x5_5 x5_6 x5_7 x5_8 x5_9 x5_10
    have S_6 := Lib.hid (CRow.below S_5.out hb6)
    clear S_5
    have Y_6 := Lib.hid (CRow.below Y_5.out hb6)
    clear Y_5
    have G_6 := Lib.hid (CRow.below G_5.out hb6)
    clear G_5
    obtain ⟨aa6, cc6, rfl, -⟩ := hr6.inn
    have V_6 := Lib.hid hr6
    clear hr6
    refine ⟨_, rfl, hS6, ?_⟩
    simp only [Act.put, List.setIfInBounds_toArray, List.set_cons_zero, List.set_cons_succ]
    refine wpAnyH_all (rs := [3]) (by kernel_rfl) (by decide) (List.forall_mem_cons.2 ⟨?_, fun _ h => absurd h List.not_mem_nil⟩)
    refine wpOp_wp rfl rfl (wp_call_at _ rfl (f := 25) (args := #[pzv h0 (.slice a2k L0.length c2k), pzv h0 (.slice aa6 L0.length cc6)]) (by go_simp) ((eqPuzzle_same h0 L0 (.slice a2k L0.length c2k) (.slice aa6 L0.length cc6) _ _ _ Y_6.out V_6.out (by omega)).mono ?_))
    rintro e7 w7 ⟨rfl, hb7⟩
    have hS7 := hS6.trans (hb7.mono hS6.size)
    have B7 : Below w.heap.size w w7 := B6.trans (hb7.mono B6.size)
    have y7 := B7.size
    have z7 : w6.heap.size ≤ w7.heap.size := hb7.size
    have x7_0 : w7.cell? ⟨w.heap.size, 0, none⟩ = some (.int .i64 h0) := ((bcell hb7).1 _ _ (by omega)).trans x6_0
    have x7_1 : w7.cell? ⟨w.heap.size, 1, none⟩ = some (.slice a0 L0.length c0) := ((bcell hb7).1 _ _ (by omega)).trans x6_1
    have x7_2 : w7.cell? ⟨w.heap.size + 1, 0, none⟩ = some (.int .i64 n1) := ((bcell hb7).1 _ _ (by omega)).trans x6_2
    have x7_3 : w7.cell? ⟨w.heap.size + 1, 1, none⟩ = some (.int .i64 d1) := ((bcell hb7).1 _ _ (by omega)).trans x6_3
    have x7_4 : w7.cell? ⟨w.heap.size + 1, 2, none⟩ = some (.int .i64 s1) := ((bcell hb7).1 _ _ (by omega)).trans x6_4
    have x7_5 : w7.cell? ⟨b1, 0, none⟩ = some (.int .i64 ((cloO h0 (L0 ++ [(n1, d1, s1)])).1)) := ((bcell hb7).1 _ _ (by omega)).trans x6_5
    have x7_6 : w7.cell? ⟨b1, 1, none⟩ = some (.slice a1k ((cloO h0 (L0 ++ [(n1, d1, s1)])).2.1).length c1k) := ((bcell hb7).1 _ _ (by omega)).trans x6_6
    have x7_7 : w7.cell? ⟨w2.heap.size, 0, none⟩ = some (.int .i64 (h0)) := ((bcell hb7).1 _ _ (by omega)).trans x6_7
    have x7_8 : w7.cell? ⟨w2.heap.size, 1, none⟩ = some ((.slice a2k L0.length c2k)) := ((bcell hb7).1 _ _ (by omega)).trans x6_8
    have x7_9 : w7.cell? ⟨b4, 0, none⟩ = some (.int .i64 ((cloO h0 (L0 ++ [(n1, d1, s1)])).1)) := ((bcell hb7).1 _ _ (by omega)).trans x6_9
    have x7_10 : w7.cell? ⟨b4, 1, none⟩ = some (.slice a4k ((cloO h0 (L0 ++ [(n1, d1, s1)])).2.1).length c4k) := ((bcell hb7).1 _ _ (by omega)).trans x6_10
    clear x6_0 x6_1 x6_2 x6_3 x6_4 x6_5 x6_6 x6_7 x6_8 x6_9 x6_10
    have S_7 := Lib.hid (CRow.below S_6.out hb7)
    clear S_6
    have Y_7 := Lib.hid (CRow.below Y_6.out hb7)
    clear Y_6
    have G_7 := Lib.hid (CRow.below G_6.out hb7)
    clear G_6
    refine ⟨_, rfl, hS7, ?_⟩
    simp only [Act.put, List.setIfInBounds_toArray, List.set_cons_zero, List.set_cons_succ]
    refine take_first (i := 4) (v := .bool false) _ rfl rfl (by kernel_rfl) (by kernel_rfl) (by kernel_rfl) (fun _ _ _ h => h) (by rfl) ?_ (by assumption) ?_
    · intro wq hq
      obtain ⟨hcq, hfq⟩ := bcell hq
      go_simp
      try rfl
    simp only [Act.put, List.setIfInBounds_toArray, List.set_cons_zero, List.set_cons_succ]
    refine wpAnyH_done (by kernel_rfl) ?_ _
    go_wp2_with fail
    refine (markPuzzle_any h0 L0 (.slice a2k L0.length c2k) _ 1 _ Y_7.out (by omega) (by omega) (by omega)).mono ?_
    rintro e8 w8 ⟨rfl, hr8, hg8⟩
    have B8 : Below w.heap.size w w8 := Below.grown (w := w7) B7 hg8 (by omega) (fun j hj => by have := CRow.low Y_at.out j hj; omega)
    have y8 := B8.size
    have z8 : w7.heap.size ≤ w8.heap.size := hg8.size
    have x8_0 : w8.cell? ⟨w.heap.size, 0, none⟩ = some (.int .i64 h0) := (cell_of_heap (hg8.block _ (by omega) (fun e => by have e1 := CRow.low Y_at.out _ e.symm; have e2 := CRow.top Y_at.out _ e.symm; omega))).trans x7_0
    have x8_1 : w8.cell? ⟨w.heap.size, 1, none⟩ = some (.slice a0 L0.length c0) := (cell_of_heap (hg8.block _ (by omega) (fun e => by have e1 := CRow.low Y_at.out _ e.symm; have e2 := CRow.top Y_at.out _ e.symm; omega))).trans x7_1
    have x8_2 : w8.cell? ⟨w.heap.size + 1, 0, none⟩ = some (.int .i64 n1) := (cell_of_heap (hg8.block _ (by omega) (fun e => by have e1 := CRow.low Y_at.out _ e.symm; have e2 := CRow.top Y_at.out _ e.symm; omega))).trans x7_2
    have x8_3 : w8.cell? ⟨w.heap.size + 1, 1, none⟩ = some (.int .i64 d1) := (cell_of_heap (hg8.block _ (by omega) (fun e => by have e1 := CRow.low Y_at.out _ e.symm; have e2 := CRow.top Y_at.out _ e.symm; omega))).trans x7_3
    have x8_4 : w8.cell? ⟨w.heap.size + 1, 2, none⟩ = some (.int .i64 s1) := (cell_of_heap (hg8.block _ (by omega) (fun e => by have e1 := CRow.low Y_at.out _ e.symm; have e2 := CRow.top Y_at.out _ e.symm; omega))).trans x7_4
    have x8_5 : w8.cell? ⟨b1, 0, none⟩ = some (.int .i64 ((cloO h0 (L0 ++ [(n1, d1, s1)])).1)) := (cell_of_heap (hg8.block _ (by omega) (fun e => by have e1 := CRow.low Y_at.out _ e.symm; have e2 := CRow.top Y_at.out _ e.symm; omega))).trans x7_5
    have x8_6 : w8.cell? ⟨b1, 1, none⟩ = some (.slice a1k ((cloO h0 (L0 ++ [(n1, d1, s1)])).2.1).length c1k) := (cell_of_heap (hg8.block _ (by omega) (fun e => by have e1 := CRow.low Y_at.out _ e.symm; have e2 := CRow.top Y_at.out _ e.symm; omega))).trans x7_6
    have x8_7 : w8.cell? ⟨w2.heap.size, 0, none⟩ = some (.int .i64 (h0)) := (cell_of_heap (hg8.block _ (by omega) (fun e => by have e1 := CRow.low Y_at.out _ e.symm; have e2 := CRow.top Y_at.out _ e.symm; omega))).trans x7_7
    have x8_8 : w8.cell? ⟨w2.heap.size, 1, none⟩ = some ((.slice a2k L0.length c2k)) := (cell_of_heap (hg8.block _ (by omega) (fun e => by have e1 := CRow.low Y_at.out _ e.symm; have e2 := CRow.top Y_at.out _ e.symm; omega))).trans x7_8
    have x8_9 : w8.cell? ⟨b4, 0, none⟩ = some (.int .i64 ((cloO h0 (L0 ++ [(n1, d1, s1)])).1)) := (cell_of_heap (hg8.block _ (by omega) (fun e => by have e1 := CRow.low Y_at.out _ e.symm; have e2 := CRow.top Y_at.out _ e.symm; omega))).trans x7_9
    have x8_10 : w8.cell? ⟨b4, 1, none⟩ = some (.slice a4k ((cloO h0 (L0 ++ [(n1, d1, s1)])).2.1).length c4k) := (cell_of_heap (hg8.block _ (by omega) (fun e => by have e1 := CRow.low Y_at.out _ e.symm; have e2 := CRow.top Y_at.out _ e.symm; omega))).trans x7_10
    clear x7_0 x7_1 x7_2 x7_3 x7_4 x7_5 x7_6 x7_7 x7_8 x7_9 x7_10
    have S_8 := Lib.hid (CRow.kept S_7.out hg8 (apart_rows (fun j hj => CRow.top S_at.out j hj) (fun j hj => CRow.low Y_at.out j hj) (by omega)))
    have G_8 := Lib.hid (CRow.kept G_7.out hg8 (apart_sym' (apart_rows (fun j hj => CRow.top Y_at.out j hj) (fun j hj => CRow.low G_at.out j hj) (by omega))))
    have Ym_8 := Lib.hid hr8
    clear hr8 hg8
    have p8 : ¬ (1 + 3 * (L0.length : Int)) < 0 := by omega
    go_wp2_with fail
    refine (eqPuzzle_same (cloO h0 (L0 ++ [(n1, d1, s1)])).1 (cloO h0 (L0 ++ [(n1, d1, s1)])).2.1 (.slice a4k ((cloO h0 (L0 ++ [(n1, d1, s1)])).2.1).length c4k) (.slice a1k ((cloO h0 (L0 ++ [(n1, d1, s1)])).2.1).length c1k) _ _ _ G_8.out S_8.out HLEN.out).mono ?_
    rintro e9 w9 ⟨rfl, hb9⟩
    have B9 : Below w.heap.size w w9 := B8.trans (hb9.mono B8.size)
    have y9 := B9.size
    have z9 : w8.heap.size ≤ w9.heap.size := hb9.size
    have x9_0 : w9.cell? ⟨w.heap.size, 0, none⟩ = some (.int .i64 h0) := ((bcell hb9).1 _ _ (by omega)).trans x8_0
    have x9_1 : w9.cell? ⟨w.heap.size, 1, none⟩ = some (.slice a0 L0.length c0) := ((bcell hb9).1 _ _ (by omega)).trans x8_1
    have x9_2 : w9.cell? ⟨w.heap.size + 1, 0, none⟩ = some (.int .i64 n1) := ((bcell hb9).1 _ _ (by omega)).trans x8_2
    have x9_3 : w9.cell? ⟨w.heap.size + 1, 1, none⟩ = some (.int .i64 d1) := ((bcell hb9).1 _ _ (by omega)).trans x8_3
    have x9_4 : w9.cell? ⟨w.heap.size + 1, 2, none⟩ = some (.int .i64 s1) := ((bcell hb9).1 _ _ (by omega)).trans x8_4
    have x9_5 : w9.cell? ⟨b1, 0, none⟩ = some (.int .i64 ((cloO h0 (L0 ++ [(n1, d1, s1)])).1)) := ((bcell hb9).1 _ _ (by omega)).trans x8_5
    have x9_6 : w9.cell? ⟨b1, 1, none⟩ = some (.slice a1k ((cloO h0 (L0 ++ [(n1, d1, s1)])).2.1).length c1k) := ((bcell hb9).1 _ _ (by omega)).trans x8_6
    have x9_7 : w9.cell? ⟨w2.heap.size, 0, none⟩ = some (.int .i64 (h0)) := ((bcell hb9).1 _ _ (by omega)).trans x8_7
    have x9_8 : w9.cell? ⟨w2.heap.size, 1, none⟩ = some ((.slice a2k L0.length c2k)) := ((bcell hb9).1 _ _ (by omega)).trans x8_8
    have x9_9 : w9.cell? ⟨b4, 0, none⟩ = some (.int .i64 ((cloO h0 (L0 ++ [(n1, d1, s1)])).1)) := ((bcell hb9).1 _ _ (by omega)).trans x8_9
    have x9_10 : w9.cell? ⟨b4, 1, none⟩ = some (.slice a4k ((cloO h0 (L0 ++ [(n1, d1, s1)])).2.1).length c4k) := ((bcell hb9).1 _ _ (by omega)).trans x8_10
    clear x8_0 x8_1 x8_2 x8_3 x8_4 x8_5 x8_6 x8_7 x8_8 x8_9 x8_10
    have S_9 := Lib.hid (CRow.below S_8.out hb9)
    clear S_8
    have G_9 := Lib.hid (CRow.below G_8.out hb9)
    clear G_8
    go_wp2_with fail
    refine (markPuzzle_any (cloO h0 (L0 ++ [(n1, d1, s1)])).1 (cloO h0 (L0 ++ [(n1, d1, s1)])).2.1 (.slice a4k ((cloO h0 (L0 ++ [(n1, d1, s1)])).2.1).length c4k) _ 1 _ G_9.out HLEN.out (by omega) (by omega)).mono ?_
    rintro e10 w10 ⟨rfl, hr10, hg10⟩
    have B10 : Below w.heap.size w w10 := Below.grown (w := w9) B9 hg10 (by omega) (fun j hj => by have := CRow.low G_at.out j hj; omega)
    have y10 := B10.size
    have z10 : w9.heap.size ≤ w10.heap.size := hg10.size
    have x10_0 : w10.cell? ⟨w.heap.size, 0, none⟩ = some (.int .i64 h0) := (cell_of_heap (hg10.block _ (by omega) (fun e => by have e1 := CRow.low G_at.out _ e.symm; have e2 := CRow.top G_at.out _ e.symm; first | omega | exact hneG _ e.symm rfl))).trans x9_0
    have x10_1 : w10.cell? ⟨w.heap.size, 1, none⟩ = some (.slice a0 L0.length c0) := (cell_of_heap (hg10.block _ (by omega) (fun e => by have e1 := CRow.low G_at.out _ e.symm; have e2 := CRow.top G_at.out _ e.symm; first | omega | exact hneG _ e.symm rfl))).trans x9_1
    have x10_2 : w10.cell? ⟨w.heap.size + 1, 0, none⟩ = some (.int .i64 n1) := (cell_of_heap (hg10.block _ (by omega) (fun e => by have e1 := CRow.low G_at.out _ e.symm; have e2 := CRow.top G_at.out _ e.symm; first | omega | exact hneG _ e.symm rfl))).trans x9_2
    have x10_3 : w10.cell? ⟨w.heap.size + 1, 1, none⟩ = some (.int .i64 d1) := (cell_of_heap (hg10.block _ (by omega) (fun e => by have e1 := CRow.low G_at.out _ e.symm; have e2 := CRow.top G_at.out _ e.symm; first | omega | exact hneG _ e.symm rfl))).trans x9_3
    have x10_4 : w10.cell? ⟨w.heap.size + 1, 2, none⟩ = some (.int .i64 s1) := (cell_of_heap (hg10.block _ (by omega) (fun e => by have e1 := CRow.low G_at.out _ e.symm; have e2 := CRow.top G_at.out _ e.symm; first | omega | exact hneG _ e.symm rfl))).trans x9_4
    have x10_5 : w10.cell? ⟨b1, 0, none⟩ = some (.int .i64 ((cloO h0 (L0 ++ [(n1, d1, s1)])).1)) := (cell_of_heap (hg10.block _ (by omega) (fun e => by have e1 := CRow.low G_at.out _ e.symm; have e2 := CRow.top G_at.out _ e.symm; first | omega | exact hneG _ e.symm rfl))).trans x9_5
    have x10_6 : w10.cell? ⟨b1, 1, none⟩ = some (.slice a1k ((cloO h0 (L0 ++ [(n1, d1, s1)])).2.1).length c1k) := (cell_of_heap (hg10.block _ (by omega) (fun e => by have e1 := CRow.low G_at.out _ e.symm; have e2 := CRow.top G_at.out _ e.symm; first | omega | exact hneG _ e.symm rfl))).trans x9_6
    have x10_7 : w10.cell? ⟨w2.heap.size, 0, none⟩ = some (.int .i64 (h0)) := (cell_of_heap (hg10.block _ (by omega) (fun e => by have e1 := CRow.low G_at.out _ e.symm; have e2 := CRow.top G_at.out _ e.symm; first | omega | exact hneG _ e.symm rfl))).trans x9_7
    have x10_8 : w10.cell? ⟨w2.heap.size, 1, none⟩ = some ((.slice a2k L0.length c2k)) := (cell_of_heap (hg10.block _ (by omega) (fun e => by have e1 := CRow.low G_at.out _ e.symm; have e2 := CRow.top G_at.out _ e.symm; first | omega | exact hneG _ e.symm rfl))).trans x9_8
    have x10_9 : w10.cell? ⟨b4, 0, none⟩ = some (.int .i64 ((cloO h0 (L0 ++ [(n1, d1, s1)])).1)) := (cell_of_heap (hg10.block _ (by omega) (fun e => by have e1 := CRow.low G_at.out _ e.symm; have e2 := CRow.top G_at.out _ e.symm; first | omega | exact hneG _ e.symm rfl))).trans x9_9
    have x10_10 : w10.cell? ⟨b4, 1, none⟩ = some (.slice a4k ((cloO h0 (L0 ++ [(n1, d1, s1)])).2.1).length c4k) := (cell_of_heap (hg10.block _ (by omega) (fun e => by have e1 := CRow.low G_at.out _ e.symm; have e2 := CRow.top G_at.out _ e.symm; first | omega | exact hneG _ e.symm rfl))).trans x9_10
    clear x9_0 x9_1 x9_2 x9_3 x9_4 x9_5 x9_6 x9_7 x9_8 x9_9 x9_10
    have S_10 := Lib.hid (CRow.kept S_9.out hg10 (apart_rows (fun j hj => CRow.top S_at.out j hj) (fun j hj => CRow.low G_at.out j hj) (by omega)))
    have Gm_10 := Lib.hid hr10
    clear hr10 hg10
    have p10 : ¬ (1 + 3 * (((cloO h0 (L0 ++ [(n1, d1, s1)])).2.1).length : Int) : Int) < 0 := by omega
    go_wp2_with fail
    refine (heldPuzzle_marked (cloO h0 (L0 ++ [(n1, d1, s1)])).1 (cloO h0 (L0 ++ [(n1, d1, s1)])).2.1 (.slice a4k ((cloO h0 (L0 ++ [(n1, d1, s1)])).2.1).length c4k) _ 1 _ Gm_10.out HLEN.out (by omega) (by omega)).mono ?_
    rintro e11 w11 ⟨rfl, hb11⟩
    have B11 : Below w.heap.size w w11 := B10.trans (hb11.mono B10.size)
    have y11 := B11.size
    have z11 : w10.heap.size ≤ w11.heap.size := hb11.size
    have x11_0 : w11.cell? ⟨w.heap.size, 0, none⟩ = some (.int .i64 h0) := ((bcell hb11).1 _ _ (by omega)).trans x10_0
    have x11_1 : w11.cell? ⟨w.heap.size, 1, none⟩ = some (.slice a0 L0.length c0) := ((bcell hb11).1 _ _ (by omega)).trans x10_1
    have x11_2 : w11.cell? ⟨w.heap.size + 1, 0, none⟩ = some (.int .i64 n1) := ((bcell hb11).1 _ _ (by omega)).trans x10_2
    have x11_3 : w11.cell? ⟨w.heap.size + 1, 1, none⟩ = some (.int .i64 d1) := ((bcell hb11).1 _ _ (by omega)).trans x10_3
    have x11_4 : w11.cell? ⟨w.heap.size + 1, 2, none⟩ = some (.int .i64 s1) := ((bcell hb11).1 _ _ (by omega)).trans x10_4
    have x11_5 : w11.cell? ⟨b1, 0, none⟩ = some (.int .i64 ((cloO h0 (L0 ++ [(n1, d1, s1)])).1)) := ((bcell hb11).1 _ _ (by omega)).trans x10_5
    have x11_6 : w11.cell? ⟨b1, 1, none⟩ = some (.slice a1k ((cloO h0 (L0 ++ [(n1, d1, s1)])).2.1).length c1k) := ((bcell hb11).1 _ _ (by omega)).trans x10_6
    have x11_7 : w11.cell? ⟨w2.heap.size, 0, none⟩ = some (.int .i64 (h0)) := ((bcell hb11).1 _ _ (by omega)).trans x10_7
    have x11_8 : w11.cell? ⟨w2.heap.size, 1, none⟩ = some ((.slice a2k L0.length c2k)) := ((bcell hb11).1 _ _ (by omega)).trans x10_8
    have x11_9 : w11.cell? ⟨b4, 0, none⟩ = some (.int .i64 ((cloO h0 (L0 ++ [(n1, d1, s1)])).1)) := ((bcell hb11).1 _ _ (by omega)).trans x10_9
    have x11_10 : w11.cell? ⟨b4, 1, none⟩ = some (.slice a4k ((cloO h0 (L0 ++ [(n1, d1, s1)])).2.1).length c4k) := ((bcell hb11).1 _ _ (by omega)).trans x10_10
    clear x10_0 x10_1 x10_2 x10_3 x10_4 x10_5 x10_6 x10_7 x10_8 x10_9 x10_10
    have S_11 := Lib.hid (CRow.below S_10.out hb11)
    clear S_10
    have Gm_11 := Lib.hid (CRow.below Gm_10.out hb11)
    clear Gm_10
    go_wp2_with fail
    refine region_cut (S := fun W => Below w11.heap.size w11 W) (fun a a' W => ∃ (b : Nat) (aX : Option Addr) (cX : Nat) (aS : Option Addr) (cS : Nat), a' = ((((((((((a).put (some 80) (pzv h0 (.slice a0 L0.length c0))).put (some 81) (pzv h0 (.slice aX L0.length cX))).put (some 82) (kv n1 d1 s1)).put (some 83) (kv n1 d1 s1)).put (some 84) (.tuple #[pzv ((cloO h0 (L0 ++ [(n1, d1, s1)])).1) (.slice aS ((cloO h0 (L0 ++ [(n1, d1, s1)])).2.1).length cS), .bool ((cloO h0 (L0 ++ [(n1, d1, s1)])).2.2)])).put (some 79) (.tuple #[pzv ((cloO h0 (L0 ++ [(n1, d1, s1)])).1) (.slice aS ((cloO h0 (L0 ++ [(n1, d1, s1)])).2.1).length cS), .bool ((cloO h0 (L0 ++ [(n1, d1, s1)])).2.2)])).put (some 85) (pzv ((cloO h0 (L0 ++ [(n1, d1, s1)])).1) (.slice aS ((cloO h0 (L0 ++ [(n1, d1, s1)])).2.1).length cS))).put (some 86) (.bool ((cloO h0 (L0 ++ [(n1, d1, s1)])).2.2))).put (some 14) (.pointer (some ⟨b, 0, none⟩))).put (some 15) (.bool ((cloO h0 (L0 ++ [(n1, d1, s1)])).2.2)) ∧ Below w11.heap.size w11 W ∧ w11.heap.size ≤ b ∧ b < W.heap.size ∧ W.cell? ⟨b, 0, none⟩ = some (.int .i64 ((cloO h0 (L0 ++ [(n1, d1, s1)])).1)) ∧ W.cell? ⟨b, 1, none⟩ = some (.slice aS ((cloO h0 (L0 ++ [(n1, d1, s1)])).2.1).length cS) ∧ CRow W w11.heap.size (.slice aS ((cloO h0 (L0 ++ [(n1, d1, s1)])).2.1).length cS) ((cloO h0 (L0 ++ [(n1, d1, s1)])).2.1) ∧ (∀ k, (Value.slice aS ((cloO h0 (L0 ++ [(n1, d1, s1)])).2.1).length cS).ownBlock = some k → k ≠ b)) (by kernel_rfl) ?_ ?_
    · have hS0 : Below w11.heap.size w11 w11.drew := (Below.refl _ _).drew
      have hd0 : w11.drew.heap.size = w11.heap.size := rfl
      refine take_first (i := 0) (v := pzv h0 (.slice a0 L0.length c0)) _ rfl rfl (by kernel_rfl) (by kernel_rfl) (by kernel_rfl) (fun _ _ _ h => nomatch h.1) (by rfl) ?_ hS0 ?_
      · intro wq hq
        obtain ⟨hcq, hfq⟩ := bcell hq
        have xq_0 := (hcq _ _ (by omega)).trans x11_0
        have xq_1 := (hcq _ _ (by omega)).trans x11_1
        have xq_2 := (hcq _ _ (by omega)).trans x11_2
        have xq_3 := (hcq _ _ (by omega)).trans x11_3
        have xq_4 := (hcq _ _ (by omega)).trans x11_4
        have xq_5 := (hcq _ _ (by omega)).trans x11_5
        have xq_6 := (hcq _ _ (by omega)).trans x11_6
        have xq_7 := (hcq _ _ (by omega)).trans x11_7
        have xq_8 := (hcq _ _ (by omega)).trans x11_8
        have xq_9 := (hcq _ _ (by omega)).trans x11_9
        have xq_10 := (hcq _ _ (by omega)).trans x11_10
        go_simp
        try rfl
      simp only [Act.put, List.setIfInBounds_toArray, List.set_cons_zero, List.set_cons_succ]
      refine take_first (i := 2) (v := kv n1 d1 s1) _ rfl rfl (by kernel_rfl) (by kernel_rfl) (by kernel_rfl) (fun _ _ _ h => nomatch h.1) (by rfl) ?_ hS0 ?_
      · intro wq hq
        obtain ⟨hcq, hfq⟩ := bcell hq
        have xq_0 := (hcq _ _ (by omega)).trans x11_0
        have xq_1 := (hcq _ _ (by omega)).trans x11_1
        have xq_2 := (hcq _ _ (by omega)).trans x11_2
        have xq_3 := (hcq _ _ (by omega)).trans x11_3
        have xq_4 := (hcq _ _ (by omega)).trans x11_4
        have xq_5 := (hcq _ _ (by omega)).trans x11_5
        have xq_6 := (hcq _ _ (by omega)).trans x11_6
        have xq_7 := (hcq _ _ (by omega)).trans x11_7
        have xq_8 := (hcq _ _ (by omega)).trans x11_8
        have xq_9 := (hcq _ _ (by omega)).trans x11_9
        have xq_10 := (hcq _ _ (by omega)).trans x11_10
        go_simp
        try rfl
      simp only [Act.put, List.setIfInBounds_toArray, List.set_cons_zero, List.set_cons_succ]
      refine wpAnyH_all (rs := [1, 8]) (by kernel_rfl) (by decide) (List.forall_mem_cons.2 ⟨?_, List.forall_mem_cons.2 ⟨?_, fun _ h => absurd h List.not_mem_nil⟩⟩)
      · refine wpOp_wp rfl rfl (wp_call_at _ rfl (f := 23) (args := #[pzv h0 (.slice a0 L0.length c0)]) (by go_simp) ((toPuzzle_any h0 a0 c0 L0 _ (HIN0.out.below (B11.trans (hS0.mono B11.size))) hl0).mono ?_))
        rintro e901 E1 ⟨v901, rfl, hr1, hst1⟩
        obtain ⟨aX, cX, rfl, hiX, hcapX, hcmxX⟩ := hr1.inn
        clear hr1
        have hS1 : Below w11.heap.size w11 E1 := hS0.trans (hst1.mono hS0.size)
        have hle1 := hS0.size
        have hzz1 := hst1.size
        refine ⟨_, rfl, hS1, ?_⟩
        simp only [Act.put, List.setIfInBounds_toArray, List.set_cons_zero, List.set_cons_succ]
        refine wpAnyH_all (rs := [3, 8]) (by kernel_rfl) (by decide) (List.forall_mem_cons.2 ⟨?_, List.forall_mem_cons.2 ⟨?_, fun _ h => absurd h List.not_mem_nil⟩⟩)
        · refine wpOp_wp rfl rfl (wp_call_at _ rfl (f := 19) (args := #[kv n1 d1 s1]) (by go_simp) ((toClue_any n1 d1 s1 _).mono ?_))
          rintro e902 E2 ⟨rfl, hst2⟩
          have hS2 : Below w11.heap.size w11 E2 := hS1.trans (hst2.mono hS1.size)
          have hle2 := hS1.size
          have hzz2 := hst2.size
          have hiX_2 := CIn.below hiX hst2
          refine ⟨_, rfl, hS2, ?_⟩
          simp only [Act.put, List.setIfInBounds_toArray, List.set_cons_zero, List.set_cons_succ]
          refine wpAnyH_all (rs := [4, 8]) (by kernel_rfl) (by decide) (List.forall_mem_cons.2 ⟨?_, List.forall_mem_cons.2 ⟨?_, fun _ h => absurd h List.not_mem_nil⟩⟩)
          · refine wpOp_wp rfl rfl (wp_call_at _ rfl (f := 51) (args := #[pzv h0 (.slice aX L0.length cX), kv n1 d1 s1]) (by go_simp) ((implAddClue_any h0 aX cX L0 n1 d1 s1 hl0 hcapX _ hiX_2).mono ?_))
            rintro e903 E3 ⟨v903, rfl, hrS, hst3⟩
            obtain ⟨aS, cS, rfl, -⟩ := hrS.inn
            have hrlow := hrS.low
            have hrtop := hrS.top
            have hS3 : Below w11.heap.size w11 E3 := hS2.trans (hst3.mono hS2.size)
            have hle3 := hS2.size
            have hzz3 := hst3.size
            refine ⟨_, rfl, hS3, ?_⟩
            simp only [Act.put, List.setIfInBounds_toArray, List.set_cons_zero, List.set_cons_succ]
            refine take_first (i := 5) (v := .tuple #[pzv ((cloO h0 (L0 ++ [(n1, d1, s1)])).1) (.slice aS ((cloO h0 (L0 ++ [(n1, d1, s1)])).2.1).length cS), .bool ((cloO h0 (L0 ++ [(n1, d1, s1)])).2.2)]) _ rfl rfl (by kernel_rfl) (by kernel_rfl) (by kernel_rfl) (fun _ _ _ h => nomatch h.1) (by rfl) ?_ hS3 ?_
            · intro wq hq
              go_simp
              try rfl
            simp only [Act.put, List.setIfInBounds_toArray, List.set_cons_zero, List.set_cons_succ]
            refine take_first (i := 6) (v := pzv ((cloO h0 (L0 ++ [(n1, d1, s1)])).1) (.slice aS ((cloO h0 (L0 ++ [(n1, d1, s1)])).2.1).length cS)) _ rfl rfl (by kernel_rfl) (by kernel_rfl) (by kernel_rfl) (fun _ _ _ h => nomatch h.1) (by rfl) ?_ hS3 ?_
            · intro wq hq
              go_simp
              try rfl
            simp only [Act.put, List.setIfInBounds_toArray, List.set_cons_zero, List.set_cons_succ]
            refine take_first (i := 7) (v := .bool ((cloO h0 (L0 ++ [(n1, d1, s1)])).2.2)) _ rfl rfl (by kernel_rfl) (by kernel_rfl) (by kernel_rfl) (fun _ _ _ h => nomatch h.1) (by rfl) ?_ hS3 ?_
            · intro wq hq
              go_simp
              try rfl
            simp only [Act.put, List.setIfInBounds_toArray, List.set_cons_zero, List.set_cons_succ]
            refine wpAnyH_all (rs := [8]) (by kernel_rfl) (by decide) (List.forall_mem_cons.2 ⟨?_, fun _ h => absurd h List.not_mem_nil⟩)
            obtain ⟨bq, hbq⟩ : ∃ bq, bq = (E3).heap.size := ⟨_, rfl⟩
            have q0 : (E3).heap.size ≤ bq := Nat.le_of_eq hbq.symm
            have hS4 : Below w11.heap.size w11 (World.alloc E3 (Obj.cells #[.int .i64 0, .slice none 0 0] 35)) := Below.alloc hS3 hS3.size _
            have hst4 : Below (E3).heap.size E3 (World.alloc E3 (Obj.cells #[.int .i64 0, .slice none 0 0] 35)) := Below.alloc (Below.refl _ _) (Nat.le_refl _) _
            have q1 : bq < (World.alloc E3 (Obj.cells #[.int .i64 0, .slice none 0 0] 35)).heap.size := by simp only [World.size_alloc]; omega
            have ca4 : ∀ j, (World.alloc E3 (Obj.cells #[.int .i64 0, .slice none 0 0] 35)).cell? ⟨bq, j, none⟩ = (#[.int .i64 0, .slice none 0 0] : Array Value)[j]? := by rw [hbq]; exact (cells_of_block (heap_alloc_new (E3) (Obj.cells #[.int .i64 0, .slice none 0 0] 35))).1
            have fa4 : ∀ j, (World.alloc E3 (Obj.cells #[.int .i64 0, .slice none 0 0] 35)).frozen? ⟨bq, j, none⟩ = false := by rw [hbq]; exact (cells_of_block (heap_alloc_new (E3) (Obj.cells #[.int .i64 0, .slice none 0 0] 35))).2
            refine wpOp_value (v := .pointer (some ⟨bq, 0, none⟩)) (w' := World.alloc E3 (Obj.cells #[.int .i64 0, .slice none 0 0] 35)) _ rfl rfl rfl (by rw [hbq]; go_simp; try rfl) ⟨hS4, ?_⟩
            clear hbq
            generalize World.alloc E3 (Obj.cells #[.int .i64 0, .slice none 0 0] 35) = E4 at *
            have hle4 := hS3.size
            have hrS4 := CRow.below hrS hst4
            simp only [Act.put, List.setIfInBounds_toArray, List.set_cons_zero, List.set_cons_succ]
            have kc0 := ca4 0
            have kc1 := ca4 1
            have kf0 := fa4 0
            have kf1 := fa4 1
            have hne : ∀ k, (Value.slice aS ((cloO h0 (L0 ++ [(n1, d1, s1)])).2.1).length cS).ownBlock = some k → k ≠ bq := fun k hk => by have e1 := hrlow k hk; have e2 := hrtop k hk; first | omega | (intro e; have e3 : k = w11.heap.size := e; omega)
            have hbb : w11.heap.size ≤ bq := by first | omega | exact Nat.le_refl _
            have hbt : bq < E4.heap.size := by first | omega | (show w11.heap.size < _; omega)
            skip
            have hSw : Below w11.heap.size w11 ((E4.setCell ⟨bq, 0, none⟩ (.int .i64 ((cloO h0 (L0 ++ [(n1, d1, s1)])).1))).setCell ⟨bq, 1, none⟩ (.slice aS ((cloO h0 (L0 ++ [(n1, d1, s1)])).2.1).length cS)) := Below.setCell (Below.setCell hS4 hbb _) hbb _
            refine wpAnyH_all (rs := [9]) (by kernel_rfl) (by decide) (List.forall_mem_cons.2 ⟨?_, fun _ h => absurd h List.not_mem_nil⟩)
            refine wpOp_store rfl rfl (w' := ((E4.setCell ⟨bq, 0, none⟩ (.int .i64 ((cloO h0 (L0 ++ [(n1, d1, s1)])).1))).setCell ⟨bq, 1, none⟩ (.slice aS ((cloO h0 (L0 ++ [(n1, d1, s1)])).2.1).length cS))) (by go_simp; try rfl) ⟨hSw, ?_⟩
            refine wpAnyH_all (rs := [10]) (by kernel_rfl) (by decide) (List.forall_mem_cons.2 ⟨?_, fun _ h => absurd h List.not_mem_nil⟩)
            refine wpOp_value (v := .bool ((cloO h0 (L0 ++ [(n1, d1, s1)])).2.2)) (w' := ((E4.setCell ⟨bq, 0, none⟩ (.int .i64 ((cloO h0 (L0 ++ [(n1, d1, s1)])).1))).setCell ⟨bq, 1, none⟩ (.slice aS ((cloO h0 (L0 ++ [(n1, d1, s1)])).2.1).length cS))) _ rfl rfl rfl (by go_simp; try rfl) ⟨hSw, ?_⟩
            simp only [Act.put, List.setIfInBounds_toArray, List.set_cons_zero, List.set_cons_succ]
            refine wpAnyH_done (by kernel_rfl) ?_ _
            refine ⟨rfl, bq, aX, cX, aS, cS, ?_, hSw, hbb, by simp; exact hbt, by go_simp, by go_simp, ((hrS4.set_other ⟨bq, 0, none⟩ hne _).set_other ⟨bq, 1, none⟩ hne _).mono ?_, hne⟩
            · first | rfl | (simp only [Act.put, List.setIfInBounds_toArray, List.set_cons_zero, List.set_cons_succ]; rfl) | simp only [Act.put, List.setIfInBounds_toArray, List.set_cons_zero, List.set_cons_succ]
            · have := hS4.size; omega
          · obtain ⟨bq, hbq⟩ : ∃ bq, bq = (E2).heap.size := ⟨_, rfl⟩
            have q0 : (E2).heap.size ≤ bq := Nat.le_of_eq hbq.symm
            have hS3 : Below w11.heap.size w11 (World.alloc E2 (Obj.cells #[.int .i64 0, .slice none 0 0] 35)) := Below.alloc hS2 hS2.size _
            have hst3 : Below (E2).heap.size E2 (World.alloc E2 (Obj.cells #[.int .i64 0, .slice none 0 0] 35)) := Below.alloc (Below.refl _ _) (Nat.le_refl _) _
            have q1 : bq < (World.alloc E2 (Obj.cells #[.int .i64 0, .slice none 0 0] 35)).heap.size := by simp only [World.size_alloc]; omega
            have ca3 : ∀ j, (World.alloc E2 (Obj.cells #[.int .i64 0, .slice none 0 0] 35)).cell? ⟨bq, j, none⟩ = (#[.int .i64 0, .slice none 0 0] : Array Value)[j]? := by rw [hbq]; exact (cells_of_block (heap_alloc_new (E2) (Obj.cells #[.int .i64 0, .slice none 0 0] 35))).1
            have fa3 : ∀ j, (World.alloc E2 (Obj.cells #[.int .i64 0, .slice none 0 0] 35)).frozen? ⟨bq, j, none⟩ = false := by rw [hbq]; exact (cells_of_block (heap_alloc_new (E2) (Obj.cells #[.int .i64 0, .slice none 0 0] 35))).2
            refine wpOp_value (v := .pointer (some ⟨bq, 0, none⟩)) (w' := World.alloc E2 (Obj.cells #[.int .i64 0, .slice none 0 0] 35)) _ rfl rfl rfl (by rw [hbq]; go_simp; try rfl) ⟨hS3, ?_⟩
            clear hbq
            generalize World.alloc E2 (Obj.cells #[.int .i64 0, .slice none 0 0] 35) = E3 at *
            have hle3 := hS2.size
            have hiX_3 := CIn.below hiX_2 hst3
            simp only [Act.put, List.setIfInBounds_toArray, List.set_cons_zero, List.set_cons_succ]
            refine wpAnyH_all (rs := [4]) (by kernel_rfl) (by decide) (List.forall_mem_cons.2 ⟨?_, fun _ h => absurd h List.not_mem_nil⟩)
            refine wpOp_wp rfl rfl (wp_call_at _ rfl (f := 51) (args := #[pzv h0 (.slice aX L0.length cX), kv n1 d1 s1]) (by go_simp) ((implAddClue_any h0 aX cX L0 n1 d1 s1 hl0 hcapX _ hiX_3).mono ?_))
            rintro e904 E4 ⟨v904, rfl, hrS, hst4⟩
            obtain ⟨aS, cS, rfl, -⟩ := hrS.inn
            have hrlow := hrS.low
            have hrtop := hrS.top
            have hS4 : Below w11.heap.size w11 E4 := hS3.trans (hst4.mono hS3.size)
            have hle4 := hS3.size
            have hzz4 := hst4.size
            have ca4 : ∀ j, E4.cell? ⟨bq, j, none⟩ = (#[.int .i64 0, .slice none 0 0] : Array Value)[j]? := fun j => ((bcell hst4).1 _ _ (by first | omega | (show w11.heap.size < _; omega))).trans (ca3 j)
            have fa4 : ∀ j, E4.frozen? ⟨bq, j, none⟩ = false := fun j => ((bcell hst4).2 _ _ (by first | omega | (show w11.heap.size < _; omega))).trans (fa3 j)
            refine ⟨_, rfl, hS4, ?_⟩
            simp only [Act.put, List.setIfInBounds_toArray, List.set_cons_zero, List.set_cons_succ]
            refine take_first (i := 5) (v := .tuple #[pzv ((cloO h0 (L0 ++ [(n1, d1, s1)])).1) (.slice aS ((cloO h0 (L0 ++ [(n1, d1, s1)])).2.1).length cS), .bool ((cloO h0 (L0 ++ [(n1, d1, s1)])).2.2)]) _ rfl rfl (by kernel_rfl) (by kernel_rfl) (by kernel_rfl) (fun _ _ _ h => nomatch h.1) (by rfl) ?_ hS4 ?_
            · intro wq hq
              go_simp
              try rfl
            simp only [Act.put, List.setIfInBounds_toArray, List.set_cons_zero, List.set_cons_succ]
            refine take_first (i := 6) (v := pzv ((cloO h0 (L0 ++ [(n1, d1, s1)])).1) (.slice aS ((cloO h0 (L0 ++ [(n1, d1, s1)])).2.1).length cS)) _ rfl rfl (by kernel_rfl) (by kernel_rfl) (by kernel_rfl) (fun _ _ _ h => nomatch h.1) (by rfl) ?_ hS4 ?_
            · intro wq hq
              go_simp
              try rfl
            simp only [Act.put, List.setIfInBounds_toArray, List.set_cons_zero, List.set_cons_succ]
            refine take_first (i := 7) (v := .bool ((cloO h0 (L0 ++ [(n1, d1, s1)])).2.2)) _ rfl rfl (by kernel_rfl) (by kernel_rfl) (by kernel_rfl) (fun _ _ _ h => nomatch h.1) (by rfl) ?_ hS4 ?_
            · intro wq hq
              go_simp
              try rfl
            simp only [Act.put, List.setIfInBounds_toArray, List.set_cons_zero, List.set_cons_succ]
            have kc0 := ca4 0
            have kc1 := ca4 1
            have kf0 := fa4 0
            have kf1 := fa4 1
            have hne : ∀ k, (Value.slice aS ((cloO h0 (L0 ++ [(n1, d1, s1)])).2.1).length cS).ownBlock = some k → k ≠ bq := fun k hk => by have e1 := hrlow k hk; have e2 := hrtop k hk; first | omega | (intro e; have e3 : k = w11.heap.size := e; omega)
            have hbb : w11.heap.size ≤ bq := by first | omega | exact Nat.le_refl _
            have hbt : bq < E4.heap.size := by first | omega | (show w11.heap.size < _; omega)
            skip
            have hSw : Below w11.heap.size w11 ((E4.setCell ⟨bq, 0, none⟩ (.int .i64 ((cloO h0 (L0 ++ [(n1, d1, s1)])).1))).setCell ⟨bq, 1, none⟩ (.slice aS ((cloO h0 (L0 ++ [(n1, d1, s1)])).2.1).length cS)) := Below.setCell (Below.setCell hS4 hbb _) hbb _
            refine wpAnyH_all (rs := [9]) (by kernel_rfl) (by decide) (List.forall_mem_cons.2 ⟨?_, fun _ h => absurd h List.not_mem_nil⟩)
            refine wpOp_store rfl rfl (w' := ((E4.setCell ⟨bq, 0, none⟩ (.int .i64 ((cloO h0 (L0 ++ [(n1, d1, s1)])).1))).setCell ⟨bq, 1, none⟩ (.slice aS ((cloO h0 (L0 ++ [(n1, d1, s1)])).2.1).length cS))) (by go_simp; try rfl) ⟨hSw, ?_⟩
            refine wpAnyH_all (rs := [10]) (by kernel_rfl) (by decide) (List.forall_mem_cons.2 ⟨?_, fun _ h => absurd h List.not_mem_nil⟩)
            refine wpOp_value (v := .bool ((cloO h0 (L0 ++ [(n1, d1, s1)])).2.2)) (w' := ((E4.setCell ⟨bq, 0, none⟩ (.int .i64 ((cloO h0 (L0 ++ [(n1, d1, s1)])).1))).setCell ⟨bq, 1, none⟩ (.slice aS ((cloO h0 (L0 ++ [(n1, d1, s1)])).2.1).length cS))) _ rfl rfl rfl (by go_simp; try rfl) ⟨hSw, ?_⟩
            simp only [Act.put, List.setIfInBounds_toArray, List.set_cons_zero, List.set_cons_succ]
            refine wpAnyH_done (by kernel_rfl) ?_ _
            refine ⟨rfl, bq, aX, cX, aS, cS, ?_, hSw, hbb, by simp; exact hbt, by go_simp, by go_simp, ((hrS.set_other ⟨bq, 0, none⟩ hne _).set_other ⟨bq, 1, none⟩ hne _).mono ?_, hne⟩
            · first | rfl | (simp only [Act.put, List.setIfInBounds_toArray, List.set_cons_zero, List.set_cons_succ]; rfl) | simp only [Act.put, List.setIfInBounds_toArray, List.set_cons_zero, List.set_cons_succ]
            · have := hS4.size; omega
        · obtain ⟨bq, hbq⟩ : ∃ bq, bq = (E1).heap.size := ⟨_, rfl⟩
          have q0 : (E1).heap.size ≤ bq := Nat.le_of_eq hbq.symm
          have hS2 : Below w11.heap.size w11 (World.alloc E1 (Obj.cells #[.int .i64 0, .slice none 0 0] 35)) := Below.alloc hS1 hS1.size _
          have hst2 : Below (E1).heap.size E1 (World.alloc E1 (Obj.cells #[.int .i64 0, .slice none 0 0] 35)) := Below.alloc (Below.refl _ _) (Nat.le_refl _) _
          have q1 : bq < (World.alloc E1 (Obj.cells #[.int .i64 0, .slice none 0 0] 35)).heap.size := by simp only [World.size_alloc]; omega
          have ca2 : ∀ j, (World.alloc E1 (Obj.cells #[.int .i64 0, .slice none 0 0] 35)).cell? ⟨bq, j, none⟩ = (#[.int .i64 0, .slice none 0 0] : Array Value)[j]? := by rw [hbq]; exact (cells_of_block (heap_alloc_new (E1) (Obj.cells #[.int .i64 0, .slice none 0 0] 35))).1
          have fa2 : ∀ j, (World.alloc E1 (Obj.cells #[.int .i64 0, .slice none 0 0] 35)).frozen? ⟨bq, j, none⟩ = false := by rw [hbq]; exact (cells_of_block (heap_alloc_new (E1) (Obj.cells #[.int .i64 0, .slice none 0 0] 35))).2
          refine wpOp_value (v := .pointer (some ⟨bq, 0, none⟩)) (w' := World.alloc E1 (Obj.cells #[.int .i64 0, .slice none 0 0] 35)) _ rfl rfl rfl (by rw [hbq]; go_simp; try rfl) ⟨hS2, ?_⟩
          clear hbq
          generalize World.alloc E1 (Obj.cells #[.int .i64 0, .slice none 0 0] 35) = E2 at *
          have hle2 := hS1.size
          have hiX_2 := CIn.below hiX hst2
          simp only [Act.put, List.setIfInBounds_toArray, List.set_cons_zero, List.set_cons_succ]
          refine wpAnyH_all (rs := [3]) (by kernel_rfl) (by decide) (List.forall_mem_cons.2 ⟨?_, fun _ h => absurd h List.not_mem_nil⟩)
          refine wpOp_wp rfl rfl (wp_call_at _ rfl (f := 19) (args := #[kv n1 d1 s1]) (by go_simp) ((toClue_any n1 d1 s1 _).mono ?_))
          rintro e903 E3 ⟨rfl, hst3⟩
          have hS3 : Below w11.heap.size w11 E3 := hS2.trans (hst3.mono hS2.size)
          have hle3 := hS2.size
          have hzz3 := hst3.size
          have hiX_3 := CIn.below hiX_2 hst3
          have ca3 : ∀ j, E3.cell? ⟨bq, j, none⟩ = (#[.int .i64 0, .slice none 0 0] : Array Value)[j]? := fun j => ((bcell hst3).1 _ _ (by first | omega | (show w11.heap.size < _; omega))).trans (ca2 j)
          have fa3 : ∀ j, E3.frozen? ⟨bq, j, none⟩ = false := fun j => ((bcell hst3).2 _ _ (by first | omega | (show w11.heap.size < _; omega))).trans (fa2 j)
          refine ⟨_, rfl, hS3, ?_⟩
          simp only [Act.put, List.setIfInBounds_toArray, List.set_cons_zero, List.set_cons_succ]
          refine wpAnyH_all (rs := [4]) (by kernel_rfl) (by decide) (List.forall_mem_cons.2 ⟨?_, fun _ h => absurd h List.not_mem_nil⟩)
          refine wpOp_wp rfl rfl (wp_call_at _ rfl (f := 51) (args := #[pzv h0 (.slice aX L0.length cX), kv n1 d1 s1]) (by go_simp) ((implAddClue_any h0 aX cX L0 n1 d1 s1 hl0 hcapX _ hiX_3).mono ?_))
          rintro e904 E4 ⟨v904, rfl, hrS, hst4⟩
          obtain ⟨aS, cS, rfl, -⟩ := hrS.inn
          have hrlow := hrS.low
          have hrtop := hrS.top
          have hS4 : Below w11.heap.size w11 E4 := hS3.trans (hst4.mono hS3.size)
          have hle4 := hS3.size
          have hzz4 := hst4.size
          have ca4 : ∀ j, E4.cell? ⟨bq, j, none⟩ = (#[.int .i64 0, .slice none 0 0] : Array Value)[j]? := fun j => ((bcell hst4).1 _ _ (by first | omega | (show w11.heap.size < _; omega))).trans (ca3 j)
          have fa4 : ∀ j, E4.frozen? ⟨bq, j, none⟩ = false := fun j => ((bcell hst4).2 _ _ (by first | omega | (show w11.heap.size < _; omega))).trans (fa3 j)
          refine ⟨_, rfl, hS4, ?_⟩
          simp only [Act.put, List.setIfInBounds_toArray, List.set_cons_zero, List.set_cons_succ]
          refine take_first (i := 5) (v := .tuple #[pzv ((cloO h0 (L0 ++ [(n1, d1, s1)])).1) (.slice aS ((cloO h0 (L0 ++ [(n1, d1, s1)])).2.1).length cS), .bool ((cloO h0 (L0 ++ [(n1, d1, s1)])).2.2)]) _ rfl rfl (by kernel_rfl) (by kernel_rfl) (by kernel_rfl) (fun _ _ _ h => nomatch h.1) (by rfl) ?_ hS4 ?_
          · intro wq hq
            go_simp
            try rfl
          simp only [Act.put, List.setIfInBounds_toArray, List.set_cons_zero, List.set_cons_succ]
          refine take_first (i := 6) (v := pzv ((cloO h0 (L0 ++ [(n1, d1, s1)])).1) (.slice aS ((cloO h0 (L0 ++ [(n1, d1, s1)])).2.1).length cS)) _ rfl rfl (by kernel_rfl) (by kernel_rfl) (by kernel_rfl) (fun _ _ _ h => nomatch h.1) (by rfl) ?_ hS4 ?_
          · intro wq hq
            go_simp
            try rfl
          simp only [Act.put, List.setIfInBounds_toArray, List.set_cons_zero, List.set_cons_succ]
          refine take_first (i := 7) (v := .bool ((cloO h0 (L0 ++ [(n1, d1, s1)])).2.2)) _ rfl rfl (by kernel_rfl) (by kernel_rfl) (by kernel_rfl) (fun _ _ _ h => nomatch h.1) (by rfl) ?_ hS4 ?_
          · intro wq hq
            go_simp
            try rfl
          simp only [Act.put, List.setIfInBounds_toArray, List.set_cons_zero, List.set_cons_succ]
          have kc0 := ca4 0
          have kc1 := ca4 1
          have kf0 := fa4 0
          have kf1 := fa4 1
          have hne : ∀ k, (Value.slice aS ((cloO h0 (L0 ++ [(n1, d1, s1)])).2.1).length cS).ownBlock = some k → k ≠ bq := fun k hk => by have e1 := hrlow k hk; have e2 := hrtop k hk; first | omega | (intro e; have e3 : k = w11.heap.size := e; omega)
          have hbb : w11.heap.size ≤ bq := by first | omega | exact Nat.le_refl _
          have hbt : bq < E4.heap.size := by first | omega | (show w11.heap.size < _; omega)
          skip
          have hSw : Below w11.heap.size w11 ((E4.setCell ⟨bq, 0, none⟩ (.int .i64 ((cloO h0 (L0 ++ [(n1, d1, s1)])).1))).setCell ⟨bq, 1, none⟩ (.slice aS ((cloO h0 (L0 ++ [(n1, d1, s1)])).2.1).length cS)) := Below.setCell (Below.setCell hS4 hbb _) hbb _
          refine wpAnyH_all (rs := [9]) (by kernel_rfl) (by decide) (List.forall_mem_cons.2 ⟨?_, fun _ h => absurd h List.not_mem_nil⟩)
          refine wpOp_store rfl rfl (w' := ((E4.setCell ⟨bq, 0, none⟩ (.int .i64 ((cloO h0 (L0 ++ [(n1, d1, s1)])).1))).setCell ⟨bq, 1, none⟩ (.slice aS ((cloO h0 (L0 ++ [(n1, d1, s1)])).2.1).length cS))) (by go_simp; try rfl) ⟨hSw, ?_⟩
          refine wpAnyH_all (rs := [10]) (by kernel_rfl) (by decide) (List.forall_mem_cons.2 ⟨?_, fun _ h => absurd h List.not_mem_nil⟩)
          refine wpOp_value (v := .bool ((cloO h0 (L0 ++ [(n1, d1, s1)])).2.2)) (w' := ((E4.setCell ⟨bq, 0, none⟩ (.int .i64 ((cloO h0 (L0 ++ [(n1, d1, s1)])).1))).setCell ⟨bq, 1, none⟩ (.slice aS ((cloO h0 (L0 ++ [(n1, d1, s1)])).2.1).length cS))) _ rfl rfl rfl (by go_simp; try rfl) ⟨hSw, ?_⟩
          simp only [Act.put, List.setIfInBounds_toArray, List.set_cons_zero, List.set_cons_succ]
          refine wpAnyH_done (by kernel_rfl) ?_ _
          refine ⟨rfl, bq, aX, cX, aS, cS, ?_, hSw, hbb, by simp; exact hbt, by go_simp, by go_simp, ((hrS.set_other ⟨bq, 0, none⟩ hne _).set_other ⟨bq, 1, none⟩ hne _).mono ?_, hne⟩
          · first | rfl | (simp only [Act.put, List.setIfInBounds_toArray, List.set_cons_zero, List.set_cons_succ]; rfl) | simp only [Act.put, List.setIfInBounds_toArray, List.set_cons_zero, List.set_cons_succ]
          · have := hS4.size; omega
      · obtain ⟨bq, hbq⟩ : ∃ bq, bq = (w11.drew).heap.size := ⟨_, rfl⟩
        have q0 : (w11.drew).heap.size ≤ bq := Nat.le_of_eq hbq.symm
        have hS1 : Below w11.heap.size w11 (World.alloc w11.drew (Obj.cells #[.int .i64 0, .slice none 0 0] 35)) := Below.alloc hS0 hS0.size _
        have hst1 : Below (w11.drew).heap.size w11.drew (World.alloc w11.drew (Obj.cells #[.int .i64 0, .slice none 0 0] 35)) := Below.alloc (Below.refl _ _) (Nat.le_refl _) _
        have q1 : bq < (World.alloc w11.drew (Obj.cells #[.int .i64 0, .slice none 0 0] 35)).heap.size := by simp only [World.size_alloc]; omega
        have ca1 : ∀ j, (World.alloc w11.drew (Obj.cells #[.int .i64 0, .slice none 0 0] 35)).cell? ⟨bq, j, none⟩ = (#[.int .i64 0, .slice none 0 0] : Array Value)[j]? := by rw [hbq]; exact (cells_of_block (heap_alloc_new (w11.drew) (Obj.cells #[.int .i64 0, .slice none 0 0] 35))).1
        have fa1 : ∀ j, (World.alloc w11.drew (Obj.cells #[.int .i64 0, .slice none 0 0] 35)).frozen? ⟨bq, j, none⟩ = false := by rw [hbq]; exact (cells_of_block (heap_alloc_new (w11.drew) (Obj.cells #[.int .i64 0, .slice none 0 0] 35))).2
        refine wpOp_value (v := .pointer (some ⟨bq, 0, none⟩)) (w' := World.alloc w11.drew (Obj.cells #[.int .i64 0, .slice none 0 0] 35)) _ rfl rfl rfl (by rw [hbq]; go_simp; try rfl) ⟨hS1, ?_⟩
        clear hbq
        generalize World.alloc w11.drew (Obj.cells #[.int .i64 0, .slice none 0 0] 35) = E1 at *
        have hle1 := hS0.size
        simp only [Act.put, List.setIfInBounds_toArray, List.set_cons_zero, List.set_cons_succ]
        refine wpAnyH_all (rs := [1]) (by kernel_rfl) (by decide) (List.forall_mem_cons.2 ⟨?_, fun _ h => absurd h List.not_mem_nil⟩)
        refine wpOp_wp rfl rfl (wp_call_at _ rfl (f := 23) (args := #[pzv h0 (.slice a0 L0.length c0)]) (by go_simp) ((toPuzzle_any h0 a0 c0 L0 _ (HIN0.out.below (B11.trans (hS1.mono B11.size))) hl0).mono ?_))
        rintro e902 E2 ⟨v902, rfl, hr2, hst2⟩
        obtain ⟨aX, cX, rfl, hiX, hcapX, hcmxX⟩ := hr2.inn
        clear hr2
        have hS2 : Below w11.heap.size w11 E2 := hS1.trans (hst2.mono hS1.size)
        have hle2 := hS1.size
        have hzz2 := hst2.size
        have ca2 : ∀ j, E2.cell? ⟨bq, j, none⟩ = (#[.int .i64 0, .slice none 0 0] : Array Value)[j]? := fun j => ((bcell hst2).1 _ _ (by first | omega | (show w11.heap.size < _; omega))).trans (ca1 j)
        have fa2 : ∀ j, E2.frozen? ⟨bq, j, none⟩ = false := fun j => ((bcell hst2).2 _ _ (by first | omega | (show w11.heap.size < _; omega))).trans (fa1 j)
        refine ⟨_, rfl, hS2, ?_⟩
        simp only [Act.put, List.setIfInBounds_toArray, List.set_cons_zero, List.set_cons_succ]
        refine wpAnyH_all (rs := [3]) (by kernel_rfl) (by decide) (List.forall_mem_cons.2 ⟨?_, fun _ h => absurd h List.not_mem_nil⟩)
        refine wpOp_wp rfl rfl (wp_call_at _ rfl (f := 19) (args := #[kv n1 d1 s1]) (by go_simp) ((toClue_any n1 d1 s1 _).mono ?_))
        rintro e903 E3 ⟨rfl, hst3⟩
        have hS3 : Below w11.heap.size w11 E3 := hS2.trans (hst3.mono hS2.size)
        have hle3 := hS2.size
        have hzz3 := hst3.size
        have hiX_3 := CIn.below hiX hst3
        have ca3 : ∀ j, E3.cell? ⟨bq, j, none⟩ = (#[.int .i64 0, .slice none 0 0] : Array Value)[j]? := fun j => ((bcell hst3).1 _ _ (by first | omega | (show w11.heap.size < _; omega))).trans (ca2 j)
        have fa3 : ∀ j, E3.frozen? ⟨bq, j, none⟩ = false := fun j => ((bcell hst3).2 _ _ (by first | omega | (show w11.heap.size < _; omega))).trans (fa2 j)
        refine ⟨_, rfl, hS3, ?_⟩
        simp only [Act.put, List.setIfInBounds_toArray, List.set_cons_zero, List.set_cons_succ]
        refine wpAnyH_all (rs := [4]) (by kernel_rfl) (by decide) (List.forall_mem_cons.2 ⟨?_, fun _ h => absurd h List.not_mem_nil⟩)
        refine wpOp_wp rfl rfl (wp_call_at _ rfl (f := 51) (args := #[pzv h0 (.slice aX L0.length cX), kv n1 d1 s1]) (by go_simp) ((implAddClue_any h0 aX cX L0 n1 d1 s1 hl0 hcapX _ hiX_3).mono ?_))
        rintro e904 E4 ⟨v904, rfl, hrS, hst4⟩
        obtain ⟨aS, cS, rfl, -⟩ := hrS.inn
        have hrlow := hrS.low
        have hrtop := hrS.top
        have hS4 : Below w11.heap.size w11 E4 := hS3.trans (hst4.mono hS3.size)
        have hle4 := hS3.size
        have hzz4 := hst4.size
        have ca4 : ∀ j, E4.cell? ⟨bq, j, none⟩ = (#[.int .i64 0, .slice none 0 0] : Array Value)[j]? := fun j => ((bcell hst4).1 _ _ (by first | omega | (show w11.heap.size < _; omega))).trans (ca3 j)
        have fa4 : ∀ j, E4.frozen? ⟨bq, j, none⟩ = false := fun j => ((bcell hst4).2 _ _ (by first | omega | (show w11.heap.size < _; omega))).trans (fa3 j)
        refine ⟨_, rfl, hS4, ?_⟩
        simp only [Act.put, List.setIfInBounds_toArray, List.set_cons_zero, List.set_cons_succ]
        refine take_first (i := 5) (v := .tuple #[pzv ((cloO h0 (L0 ++ [(n1, d1, s1)])).1) (.slice aS ((cloO h0 (L0 ++ [(n1, d1, s1)])).2.1).length cS), .bool ((cloO h0 (L0 ++ [(n1, d1, s1)])).2.2)]) _ rfl rfl (by kernel_rfl) (by kernel_rfl) (by kernel_rfl) (fun _ _ _ h => nomatch h.1) (by rfl) ?_ hS4 ?_
        · intro wq hq
          go_simp
          try rfl
        simp only [Act.put, List.setIfInBounds_toArray, List.set_cons_zero, List.set_cons_succ]
        refine take_first (i := 6) (v := pzv ((cloO h0 (L0 ++ [(n1, d1, s1)])).1) (.slice aS ((cloO h0 (L0 ++ [(n1, d1, s1)])).2.1).length cS)) _ rfl rfl (by kernel_rfl) (by kernel_rfl) (by kernel_rfl) (fun _ _ _ h => nomatch h.1) (by rfl) ?_ hS4 ?_
        · intro wq hq
          go_simp
          try rfl
        simp only [Act.put, List.setIfInBounds_toArray, List.set_cons_zero, List.set_cons_succ]
        refine take_first (i := 7) (v := .bool ((cloO h0 (L0 ++ [(n1, d1, s1)])).2.2)) _ rfl rfl (by kernel_rfl) (by kernel_rfl) (by kernel_rfl) (fun _ _ _ h => nomatch h.1) (by rfl) ?_ hS4 ?_
        · intro wq hq
          go_simp
          try rfl
        simp only [Act.put, List.setIfInBounds_toArray, List.set_cons_zero, List.set_cons_succ]
        have kc0 := ca4 0
        have kc1 := ca4 1
        have kf0 := fa4 0
        have kf1 := fa4 1
        have hne : ∀ k, (Value.slice aS ((cloO h0 (L0 ++ [(n1, d1, s1)])).2.1).length cS).ownBlock = some k → k ≠ bq := fun k hk => by have e1 := hrlow k hk; have e2 := hrtop k hk; first | omega | (intro e; have e3 : k = w11.heap.size := e; omega)
        have hbb : w11.heap.size ≤ bq := by first | omega | exact Nat.le_refl _
        have hbt : bq < E4.heap.size := by first | omega | (show w11.heap.size < _; omega)
        skip
        have hSw : Below w11.heap.size w11 ((E4.setCell ⟨bq, 0, none⟩ (.int .i64 ((cloO h0 (L0 ++ [(n1, d1, s1)])).1))).setCell ⟨bq, 1, none⟩ (.slice aS ((cloO h0 (L0 ++ [(n1, d1, s1)])).2.1).length cS)) := Below.setCell (Below.setCell hS4 hbb _) hbb _
        refine wpAnyH_all (rs := [9]) (by kernel_rfl) (by decide) (List.forall_mem_cons.2 ⟨?_, fun _ h => absurd h List.not_mem_nil⟩)
        refine wpOp_store rfl rfl (w' := ((E4.setCell ⟨bq, 0, none⟩ (.int .i64 ((cloO h0 (L0 ++ [(n1, d1, s1)])).1))).setCell ⟨bq, 1, none⟩ (.slice aS ((cloO h0 (L0 ++ [(n1, d1, s1)])).2.1).length cS))) (by go_simp; try rfl) ⟨hSw, ?_⟩
        refine wpAnyH_all (rs := [10]) (by kernel_rfl) (by decide) (List.forall_mem_cons.2 ⟨?_, fun _ h => absurd h List.not_mem_nil⟩)
        refine wpOp_value (v := .bool ((cloO h0 (L0 ++ [(n1, d1, s1)])).2.2)) (w' := ((E4.setCell ⟨bq, 0, none⟩ (.int .i64 ((cloO h0 (L0 ++ [(n1, d1, s1)])).1))).setCell ⟨bq, 1, none⟩ (.slice aS ((cloO h0 (L0 ++ [(n1, d1, s1)])).2.1).length cS))) _ rfl rfl rfl (by go_simp; try rfl) ⟨hSw, ?_⟩
        simp only [Act.put, List.setIfInBounds_toArray, List.set_cons_zero, List.set_cons_succ]
        refine wpAnyH_done (by kernel_rfl) ?_ _
        refine ⟨rfl, bq, aX, cX, aS, cS, ?_, hSw, hbb, by simp; exact hbt, by go_simp, by go_simp, ((hrS.set_other ⟨bq, 0, none⟩ hne _).set_other ⟨bq, 1, none⟩ hne _).mono ?_, hne⟩
        · first | rfl | (simp only [Act.put, List.setIfInBounds_toArray, List.set_cons_zero, List.set_cons_succ]; rfl) | simp only [Act.put, List.setIfInBounds_toArray, List.set_cons_zero, List.set_cons_succ]
        · have := hS4.size; omega
    rintro a' w12 ⟨b12, aX12, cX12, a12k, c12k, rfl, hb12, hlo12, hhi12, xb12_0, xb12_1, hr12, hneH⟩
    simp only [Act.put, List.setIfInBounds_toArray, List.set_cons_zero, List.set_cons_succ]
    have B12 : Below w.heap.size w w12 := B11.trans (hb12.mono B11.size)
    have y12 := B12.size
    have z12 : w11.heap.size ≤ w12.heap.size := hb12.size
    have x12_0 : w12.cell? ⟨w.heap.size, 0, none⟩ = some (.int .i64 h0) := ((bcell hb12).1 _ _ (by omega)).trans x11_0
    have x12_1 : w12.cell? ⟨w.heap.size, 1, none⟩ = some (.slice a0 L0.length c0) := ((bcell hb12).1 _ _ (by omega)).trans x11_1
    have x12_2 : w12.cell? ⟨w.heap.size + 1, 0, none⟩ = some (.int .i64 n1) := ((bcell hb12).1 _ _ (by omega)).trans x11_2
    have x12_3 : w12.cell? ⟨w.heap.size + 1, 1, none⟩ = some (.int .i64 d1) := ((bcell hb12).1 _ _ (by omega)).trans x11_3
    have x12_4 : w12.cell? ⟨w.heap.size + 1, 2, none⟩ = some (.int .i64 s1) := ((bcell hb12).1 _ _ (by omega)).trans x11_4
    have x12_5 : w12.cell? ⟨b1, 0, none⟩ = some (.int .i64 ((cloO h0 (L0 ++ [(n1, d1, s1)])).1)) := ((bcell hb12).1 _ _ (by omega)).trans x11_5
    have x12_6 : w12.cell? ⟨b1, 1, none⟩ = some (.slice a1k ((cloO h0 (L0 ++ [(n1, d1, s1)])).2.1).length c1k) := ((bcell hb12).1 _ _ (by omega)).trans x11_6
    have x12_7 : w12.cell? ⟨w2.heap.size, 0, none⟩ = some (.int .i64 (h0)) := ((bcell hb12).1 _ _ (by omega)).trans x11_7
    have x12_8 : w12.cell? ⟨w2.heap.size, 1, none⟩ = some ((.slice a2k L0.length c2k)) := ((bcell hb12).1 _ _ (by omega)).trans x11_8
    have x12_9 : w12.cell? ⟨b4, 0, none⟩ = some (.int .i64 ((cloO h0 (L0 ++ [(n1, d1, s1)])).1)) := ((bcell hb12).1 _ _ (by omega)).trans x11_9
    have x12_10 : w12.cell? ⟨b4, 1, none⟩ = some (.slice a4k ((cloO h0 (L0 ++ [(n1, d1, s1)])).2.1).length c4k) := ((bcell hb12).1 _ _ (by omega)).trans x11_10
    clear x11_0 x11_1 x11_2 x11_3 x11_4 x11_5 x11_6 x11_7 x11_8 x11_9 x11_10
    have S_12 := Lib.hid (CRow.below S_11.out hb12)
    clear S_11
    have Gm_12 := Lib.hid (CRow.below Gm_11.out hb12)
    clear Gm_11
    have x12_11 : w12.cell? ⟨b12, 0, none⟩ = some (.int .i64 ((cloO h0 (L0 ++ [(n1, d1, s1)])).1)) := xb12_0
    have x12_12 : w12.cell? ⟨b12, 1, none⟩ = some (.slice a12k ((cloO h0 (L0 ++ [(n1, d1, s1)])).2.1).length c12k) := xb12_1
    clear xb12_0 xb12_1
    have H_12 := Lib.hid hr12
    have H_at := Lib.hid hr12
    clear hr12
    go_wp2_with fail
    refine (eqPuzzle_same (cloO h0 (L0 ++ [(n1, d1, s1)])).1 (cloO h0 (L0 ++ [(n1, d1, s1)])).2.1 (.slice a12k ((cloO h0 (L0 ++ [(n1, d1, s1)])).2.1).length c12k) (.slice a1k ((cloO h0 (L0 ++ [(n1, d1, s1)])).2.1).length c1k) _ _ _ H_12.out S_12.out HLEN.out).mono ?_
    rintro e13 w13 ⟨rfl, hb13⟩
    have B13 : Below w.heap.size w w13 := B12.trans (hb13.mono B12.size)
    have y13 := B13.size
    have z13 : w12.heap.size ≤ w13.heap.size := hb13.size
    have x13_0 : w13.cell? ⟨w.heap.size, 0, none⟩ = some (.int .i64 h0) := ((bcell hb13).1 _ _ (by omega)).trans x12_0
    have x13_1 : w13.cell? ⟨w.heap.size, 1, none⟩ = some (.slice a0 L0.length c0) := ((bcell hb13).1 _ _ (by omega)).trans x12_1
    have x13_2 : w13.cell? ⟨w.heap.size + 1, 0, none⟩ = some (.int .i64 n1) := ((bcell hb13).1 _ _ (by omega)).trans x12_2
    have x13_3 : w13.cell? ⟨w.heap.size + 1, 1, none⟩ = some (.int .i64 d1) := ((bcell hb13).1 _ _ (by omega)).trans x12_3
    have x13_4 : w13.cell? ⟨w.heap.size + 1, 2, none⟩ = some (.int .i64 s1) := ((bcell hb13).1 _ _ (by omega)).trans x12_4
    have x13_5 : w13.cell? ⟨b1, 0, none⟩ = some (.int .i64 ((cloO h0 (L0 ++ [(n1, d1, s1)])).1)) := ((bcell hb13).1 _ _ (by omega)).trans x12_5
    have x13_6 : w13.cell? ⟨b1, 1, none⟩ = some (.slice a1k ((cloO h0 (L0 ++ [(n1, d1, s1)])).2.1).length c1k) := ((bcell hb13).1 _ _ (by omega)).trans x12_6
    have x13_7 : w13.cell? ⟨w2.heap.size, 0, none⟩ = some (.int .i64 (h0)) := ((bcell hb13).1 _ _ (by omega)).trans x12_7
    have x13_8 : w13.cell? ⟨w2.heap.size, 1, none⟩ = some ((.slice a2k L0.length c2k)) := ((bcell hb13).1 _ _ (by omega)).trans x12_8
    have x13_9 : w13.cell? ⟨b4, 0, none⟩ = some (.int .i64 ((cloO h0 (L0 ++ [(n1, d1, s1)])).1)) := ((bcell hb13).1 _ _ (by omega)).trans x12_9
    have x13_10 : w13.cell? ⟨b4, 1, none⟩ = some (.slice a4k ((cloO h0 (L0 ++ [(n1, d1, s1)])).2.1).length c4k) := ((bcell hb13).1 _ _ (by omega)).trans x12_10
    have x13_11 : w13.cell? ⟨b12, 0, none⟩ = some (.int .i64 ((cloO h0 (L0 ++ [(n1, d1, s1)])).1)) := ((bcell hb13).1 _ _ (by omega)).trans x12_11
    have x13_12 : w13.cell? ⟨b12, 1, none⟩ = some (.slice a12k ((cloO h0 (L0 ++ [(n1, d1, s1)])).2.1).length c12k) := ((bcell hb13).1 _ _ (by omega)).trans x12_12
    clear x12_0 x12_1 x12_2 x12_3 x12_4 x12_5 x12_6 x12_7 x12_8 x12_9 x12_10 x12_11 x12_12
    have S_13 := Lib.hid (CRow.below S_12.out hb13)
    clear S_12
    have Gm_13 := Lib.hid (CRow.below Gm_12.out hb13)
    clear Gm_12
    have H_13 := Lib.hid (CRow.below H_12.out hb13)
    clear H_12
    go_wp2_with fail
    refine (heldPuzzle_marked (cloO h0 (L0 ++ [(n1, d1, s1)])).1 (cloO h0 (L0 ++ [(n1, d1, s1)])).2.1 (.slice a4k ((cloO h0 (L0 ++ [(n1, d1, s1)])).2.1).length c4k) _ 1 _ Gm_13.out HLEN.out (by omega) (by omega)).mono ?_
    rintro e14 w14 ⟨rfl, hb14⟩
    have B14 : Below w.heap.size w w14 := B13.trans (hb14.mono B13.size)
    have y14 := B14.size
    have z14 : w13.heap.size ≤ w14.heap.size := hb14.size
    have x14_0 : w14.cell? ⟨w.heap.size, 0, none⟩ = some (.int .i64 h0) := ((bcell hb14).1 _ _ (by omega)).trans x13_0
    have x14_1 : w14.cell? ⟨w.heap.size, 1, none⟩ = some (.slice a0 L0.length c0) := ((bcell hb14).1 _ _ (by omega)).trans x13_1
    have x14_2 : w14.cell? ⟨w.heap.size + 1, 0, none⟩ = some (.int .i64 n1) := ((bcell hb14).1 _ _ (by omega)).trans x13_2
    have x14_3 : w14.cell? ⟨w.heap.size + 1, 1, none⟩ = some (.int .i64 d1) := ((bcell hb14).1 _ _ (by omega)).trans x13_3
    have x14_4 : w14.cell? ⟨w.heap.size + 1, 2, none⟩ = some (.int .i64 s1) := ((bcell hb14).1 _ _ (by omega)).trans x13_4
    have x14_5 : w14.cell? ⟨b1, 0, none⟩ = some (.int .i64 ((cloO h0 (L0 ++ [(n1, d1, s1)])).1)) := ((bcell hb14).1 _ _ (by omega)).trans x13_5
    have x14_6 : w14.cell? ⟨b1, 1, none⟩ = some (.slice a1k ((cloO h0 (L0 ++ [(n1, d1, s1)])).2.1).length c1k) := ((bcell hb14).1 _ _ (by omega)).trans x13_6
    have x14_7 : w14.cell? ⟨w2.heap.size, 0, none⟩ = some (.int .i64 (h0)) := ((bcell hb14).1 _ _ (by omega)).trans x13_7
    have x14_8 : w14.cell? ⟨w2.heap.size, 1, none⟩ = some ((.slice a2k L0.length c2k)) := ((bcell hb14).1 _ _ (by omega)).trans x13_8
    have x14_9 : w14.cell? ⟨b4, 0, none⟩ = some (.int .i64 ((cloO h0 (L0 ++ [(n1, d1, s1)])).1)) := ((bcell hb14).1 _ _ (by omega)).trans x13_9
    have x14_10 : w14.cell? ⟨b4, 1, none⟩ = some (.slice a4k ((cloO h0 (L0 ++ [(n1, d1, s1)])).2.1).length c4k) := ((bcell hb14).1 _ _ (by omega)).trans x13_10
    have x14_11 : w14.cell? ⟨b12, 0, none⟩ = some (.int .i64 ((cloO h0 (L0 ++ [(n1, d1, s1)])).1)) := ((bcell hb14).1 _ _ (by omega)).trans x13_11
    have x14_12 : w14.cell? ⟨b12, 1, none⟩ = some (.slice a12k ((cloO h0 (L0 ++ [(n1, d1, s1)])).2.1).length c12k) := ((bcell hb14).1 _ _ (by omega)).trans x13_12
    clear x13_0 x13_1 x13_2 x13_3 x13_4 x13_5 x13_6 x13_7 x13_8 x13_9 x13_10 x13_11 x13_12
    have Gm_14 := Lib.hid (CRow.below Gm_13.out hb14)
    clear Gm_13
    go_wp2
    go_ret
    exact ⟨rfl, B14⟩
  · rw [if_pos (by omega)] at hsz
    have HSZ := Lib.hid hsz
    clear hsz
    (go_enter Try.func13, Try.ntmps13)
    go_wp2_with fail
    refine (HSZ.out _).mono ?_
    rintro e0 w0 ⟨rfl, hb0⟩
    go_wp2
    go_ret
    exact ⟨rfl, by (repeat' (first | (with_reducible exact Below.refl _ _) | (with_reducible assumption) | (with_reducible refine Below.alloc ?_ ?_ _) | (with_reducible refine Below.drew ?_) | (with_reducible refine below_drewN ?_ _) | (with_reducible refine Below.setCell ?_ ?_ _) | (with_reducible refine below_call ?_ ?_ (by assumption)) | go_size))⟩

set_option maxRecDepth 100000 in
theorem lifted (os : Os) (started : os.Started) (H : Type) (enc : TypeId × Value → H) :
    ReturnsInHanded {} Try.checked os 13 .any (Rows.fnExactAddClueSpec.pre6 enc Try.prog Try.f13 Rows.fnExactAddClueRow.domain false) (Rows.fnExactAddClueSpec.post enc Try.prog Try.f13 false true false false) := by
  refine returnsInHanded_of_change (C := Try.checked) Try.own started (by kernel_rfl) Try.func13
    (ChangeSpec.witness6 (enc := enc) (C := Try.checked) false ⟨#[], #[.agg #[.int .i64 0, .slice none 0 0], .agg #[.int .i64 0, .int .i64 0, .int .i64 0]], []⟩ 8 (by kernel_rfl) (by kernel_rfl) (by kernel_rfl) (by kernel_rfl)) ?_
  intro W base args ds gs before hval0 hW hcnd _
  have hval : ∀ (j : Nat) t v, Try.f13.params[j]? = some t → args[j]? = some v → Value.okWide Try.prog W .any base t v := hval0
  have hW' := hW
  obtain ⟨p, q, hA0, hV, rfl, hfz, hnd⟩ := hW
  have hA : DataW.TrodAll enc Try.prog W 0 (fun _ => true) true Try.f13.params.toList args.toList ds p := hA0
  rw [Try.params13] at hA hval
  obtain ⟨v0, vs0, d_0, ds0, p0, q0, hargs, rfl, rfl, h0_, r0⟩ := trodAll_cons hA
  obtain ⟨v1, vs1, d_1, ds1, p1, q1, rfl, rfl, rfl, h1_, r1⟩ := trodAll_cons r0
  obtain ⟨rfl, rfl, rfl⟩ := trodAll_nil r1
  obtain rfl : args = #[v0, v1] := by cases args; simp_all
  obtain ⟨rfl, rfl⟩ := trodVars_none hV
  have h0k := h0_
  obtain ⟨h0, a0, c0, L0, rfl, kh0, hin0, hi0, hm0⟩ := open_puzzle (hval 0 30 v0 rfl rfl) h0_
  obtain ⟨n1, d1, s1, rfl, rfl, rfl, wn1, wd1, ws1⟩ := open_clue (hval 1 23 v1 rfl rfl) h1_
  clear hA0 hval0
  simp only [List.append_nil, List.nil_append] at hW'
  have hlt0 : ∀ y ∈ p0, y.block < W.heap.size := fun y hy => by simpa using hW'.lt y (by simp [hy])
  refine (walk W h0 a0 c0 L0 n1 d1 s1 kh0 hin0 hi0 hm0 (i64_of_wf wn1) (i64_of_wf wd1) (i64_of_wf ws1)).mono fun e W' ⟨he, bel⟩ => ?_
  subst he
  have harg0 : DataW.Trod enc Try.prog W' 0 (fun b => decide (b < W.heap.size)) true 30 (pzv h0 (.slice a0 L0.length c0)) d_0 p0 :=
    Below.trod Try.laidOut (by kernel_rfl) (of_decide_eq_true (by kernel_rfl)) h0k bel hlt0
  exact ⟨_, rfl, _, _, _, [], _, [], hW', trodAll_mk1 (shut_bool Try.underlying4 _), (trodAll_cons_mk harg0 (trodAll_cons_mk (shut_clue wn1 wd1 ws1) trodAll_mk0)), rfl, bel.frame _, fun h => by cases h⟩

theorem closed : joinedFacts Try.prog 13 Try.f13 Rows.fnExactAddClueSpec Rows.fnExactAddClueRow = true := by
  unfold joinedFacts
  rw [Try.fMake, Try.fEnter, Try.fLifts, Try.fMaps, Try.fLaid, Try.fHeard, Try.fKeys]
  kernel_rfl
theorem over : Rows.fnExactAddClueRow.holds Try.pinned (OpenSpec.ofChange Rows.fnExactAddClueSpec) :=
  OpenClaim.holds_of_wide 13 Try.f13 rfl rfl rfl rfl rfl rfl rfl ⟨rfl, rfl, rfl, rfl, rfl⟩ rfl rfl rfl rfl rfl (by kernel_rfl) Try.func13
    closed (of_decide_eq_true (by kernel_rfl)) (by unfold Func.isWrapper; first | (rw [if_pos (by decide +kernel)]; kernel_rfl) | (rw [if_neg (by decide +kernel)]; exact ⟨rfl, rfl⟩))
    (fun os started H enc _ => lifted os started H enc)

end Go.Proofs.Ytcpgjjmamclklaa.fnExactAddClue
namespace Go.Proofs.Ytcpgjjmamclklaa
/-- The statement. -/
theorem fnExactAddClue_proved : Rows.FnExactAddClueSaid := fnExactAddClue.over
#print axioms fnExactAddClue_proved
end Go.Proofs.Ytcpgjjmamclklaa