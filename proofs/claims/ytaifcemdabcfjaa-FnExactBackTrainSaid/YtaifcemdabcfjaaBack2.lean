/- A train driven from its other end: by the model. -/
import Derived.Test.YtaifcemdabcfjaaBack
import Derived.Test.YtaifcemdabcfjaaOrder
set_option linter.unusedSimpArgs false
set_option linter.unusedVariables false
set_option maxRecDepth 100000
namespace Go.Proofs.Ytaifcemdabcfjaa
open Go.RowKit

set_option maxHeartbeats 3200000 in
theorem specBackTrain_any (a : Option Addr) (c : Nat) (L : List (Int × Int)) (w : World) (hin : PIn w a L) (hm : L.length ≤ maxLen) :
    Calls Try.prog 33 #[.slice a L.length c] w (PairsOut w (backR L)) := by
  have X1 := Lib.hid hin
  clear hin
  cases ht : trainB L
  · have HM := Lib.hid (show backR L = ([], false) from by simp [backR, ht])
    (go_enter Try.func33, Try.ntmps33)
    go_wp2_with fail
    refine (geTrain_is a c L ht _ X1.out hm).mono ?_
    (rintro e1 w1 ⟨rfl, hb1⟩; obtain ⟨hc1, hf1⟩ := bcell hb1; have hz1 := hb1.size; (try simp only [World.size_alloc, World.size_setCell, World.size_drew] at hz1); have q1 : w.heap.size ≤ w1.heap.size := (by omega); (try have q1_0 : w.heap.size < w1.heap.size := (by omega)); (try have q1_1 : w.heap.size + 1 < w1.heap.size := (by omega)); (try have q1_2 : w.heap.size + 2 < w1.heap.size := (by omega)); (try have q1_3 : w.heap.size + 3 < w1.heap.size := (by omega)))
    go_wp2
    go_ret2
    rw [HM.out]
    exact ⟨_, rfl, World.ownsRow_nil _ _ _ _, hb1⟩
  · have HM := Lib.hid (show backR L = (backK L L.length, true) from by simp [backR, ht])
    have h4 := (trainB_bd ht).1
    obtain ⟨i0, hi0, hz0, hz1, hz2⟩ := info_parts Try.infoPair
    have I0 := Lib.hid hi0
    have Z0 := Lib.hid hz0
    have Z1 := Lib.hid hz1
    have Z2 := Lib.hid hz2
    clear hi0 hz0 hz1 hz2
    (go_enter Try.func33, Try.ntmps33)
    go_wp2_with fail
    refine (geTrain_is a c L ht _ X1.out hm).mono ?_
    (rintro e1 w1 ⟨rfl, hb1⟩; obtain ⟨hc1, hf1⟩ := bcell hb1; have hz1 := hb1.size; (try simp only [World.size_alloc, World.size_setCell, World.size_drew] at hz1); have q1 : w.heap.size ≤ w1.heap.size := (by omega); (try have q1_0 : w.heap.size < w1.heap.size := (by omega)); (try have q1_1 : w.heap.size + 1 < w1.heap.size := (by omega)); (try have q1_2 : w.heap.size + 2 < w1.heap.size := (by omega)); (try have q1_3 : w.heap.size + 3 < w1.heap.size := (by omega)))
    go_wp2
    go_loopw [4, 5] (fun v i wr => ∃ (k : Nat) (x : Int), x = (L.length : Int) - 1 - (k : Int) ∧ k ≤ L.length ∧ i = .int .i64 x ∧ wr.ownsRow w.heap.size 25 2 v k (flatPair (backK L k)) ∧ Below w.heap.size w wr) (fun _ i _ => (intOf i + 1).toNat)
    case atStart => exact ⟨0, (L.length : Int) - 1, by omega, Nat.zero_le _, rfl, World.ownsRow_nil _ _ _ _, hb1⟩
    case round =>
      obtain ⟨k, x, hx, hk, rfl, hown, hbel⟩ := hrel
      have HO := Lib.hid hown
      have hz := hbel.size
      have HX := Lib.hid hx
      by_cases hlt : 0 ≤ x
      · have hk2 : k < L.length := by omega
        obtain ⟨p, q, hpq⟩ : ∃ p q, L.getD (L.length - 1 - k) (0, 0) = (p, q) := ⟨_, _, rfl⟩
        obtain ⟨b, off, rfl, u1, f2, f3⟩ := X1.out.at (k := L.length - 1 - k) (by omega) (Below.refl _ _) hpq
        have hix : ((L.length - 1 - k : Nat) : Int) = x := by omega
        have HP := Lib.hid (show flatPair (backK L k) ++ [.int .i64 q, .int .i64 p] = flatPair (backK L (k + 1)) by rw [backK, hpq, flatPair_append]; rfl)
        obtain ⟨j, hj⟩ : ∃ j : Nat, j = L.length - 1 - k := ⟨_, rfl⟩
        rw [← hj] at f2 f3 hix
        have j1 : (j : Int) < (L.length : Int) := by omega
        have HK := Lib.hid hk2
        have hk3 : k ≤ 4 := by omega
        clear hx hpq hj hown hk2
        subst hix
        go_wp2_with fail
        refine wp_region_held (by kernel_rfl) (S := fun W => Below w.heap.size w W) ?_
        have hb0 : Below w.heap.size w wr.drew := hbel.drew
        refine take_first (i := 0) (v := u4) 16 rfl rfl (by kernel_rfl) (by kernel_rfl) (by kernel_rfl) (fun _ _ _ h => h) (by rfl) ?_ (by assumption) ?_
        · intro wq hq
          obtain ⟨hcq, hfq⟩ := bcell hq
          go_simp
          try rfl
        simp only [Act.put, List.setIfInBounds_toArray, List.set_cons_zero, List.set_cons_succ]
        refine take_first (i := 1) (v := .slice (some ⟨b, off, none⟩) L.length c) 17 rfl rfl (by kernel_rfl) (by kernel_rfl) (by kernel_rfl) (fun _ _ _ h => h) (by rfl) ?_ (by assumption) ?_
        · intro wq hq
          obtain ⟨hcq, hfq⟩ := bcell hq
          go_simp
          try rfl
        simp only [Act.put, List.setIfInBounds_toArray, List.set_cons_zero, List.set_cons_succ]
        refine take_first (i := 2) (v := .int .i64 (j : Int)) 18 rfl rfl (by kernel_rfl) (by kernel_rfl) (by kernel_rfl) (fun _ _ _ h => h) (by rfl) ?_ (by assumption) ?_
        · intro wq hq
          obtain ⟨hcq, hfq⟩ := bcell hq
          go_simp
          try rfl
        simp only [Act.put, List.setIfInBounds_toArray, List.set_cons_zero, List.set_cons_succ]
        refine take_first (i := 3) (v := .pointer (some ⟨b, off + j * 2, none⟩)) 19 rfl rfl (by kernel_rfl) (by kernel_rfl) (by kernel_rfl) (fun _ _ _ h => h) (by rfl) ?_ (by assumption) ?_
        · intro wq hq
          obtain ⟨hcq, hfq⟩ := bcell hq
          go_simp
          try rfl
        simp only [Act.put, List.setIfInBounds_toArray, List.set_cons_zero, List.set_cons_succ]
        refine take_first (i := 4) (v := .pointer (some ⟨b, off + j * 2 + 1, none⟩)) 20 rfl rfl (by kernel_rfl) (by kernel_rfl) (by kernel_rfl) (fun _ _ _ h => h) (by rfl) ?_ (by assumption) ?_
        · intro wq hq
          obtain ⟨hcq, hfq⟩ := bcell hq
          go_simp
          try rfl
        simp only [Act.put, List.setIfInBounds_toArray, List.set_cons_zero, List.set_cons_succ]
        refine take_first (i := 5) (v := .int .i64 q) 21 rfl rfl (by kernel_rfl) (by kernel_rfl) (by kernel_rfl) (fun _ _ _ h => h) (by rfl) ?_ (by assumption) ?_
        · intro wq hq
          obtain ⟨hcq, hfq⟩ := bcell hq
          go_simp
          try rfl
        simp only [Act.put, List.setIfInBounds_toArray, List.set_cons_zero, List.set_cons_succ]
        refine take_first (i := 6) (v := .slice (some ⟨b, off, none⟩) L.length c) 22 rfl rfl (by kernel_rfl) (by kernel_rfl) (by kernel_rfl) (fun _ _ _ h => h) (by rfl) ?_ (by assumption) ?_
        · intro wq hq
          obtain ⟨hcq, hfq⟩ := bcell hq
          go_simp
          try rfl
        simp only [Act.put, List.setIfInBounds_toArray, List.set_cons_zero, List.set_cons_succ]
        refine take_first (i := 7) (v := .int .i64 (j : Int)) 23 rfl rfl (by kernel_rfl) (by kernel_rfl) (by kernel_rfl) (fun _ _ _ h => h) (by rfl) ?_ (by assumption) ?_
        · intro wq hq
          obtain ⟨hcq, hfq⟩ := bcell hq
          go_simp
          try rfl
        simp only [Act.put, List.setIfInBounds_toArray, List.set_cons_zero, List.set_cons_succ]
        refine take_first (i := 8) (v := .pointer (some ⟨b, off + j * 2, none⟩)) 24 rfl rfl (by kernel_rfl) (by kernel_rfl) (by kernel_rfl) (fun _ _ _ h => h) (by rfl) ?_ (by assumption) ?_
        · intro wq hq
          obtain ⟨hcq, hfq⟩ := bcell hq
          go_simp
          try rfl
        simp only [Act.put, List.setIfInBounds_toArray, List.set_cons_zero, List.set_cons_succ]
        refine take_first (i := 9) (v := .pointer (some ⟨b, off + j * 2, none⟩)) 25 rfl rfl (by kernel_rfl) (by kernel_rfl) (by kernel_rfl) (fun _ _ _ h => h) (by rfl) ?_ (by assumption) ?_
        · intro wq hq
          obtain ⟨hcq, hfq⟩ := bcell hq
          go_simp
          try rfl
        simp only [Act.put, List.setIfInBounds_toArray, List.set_cons_zero, List.set_cons_succ]
        refine take_first (i := 10) (v := .int .i64 p) 26 rfl rfl (by kernel_rfl) (by kernel_rfl) (by kernel_rfl) (fun _ _ _ h => h) (by rfl) ?_ (by assumption) ?_
        · intro wq hq
          obtain ⟨hcq, hfq⟩ := bcell hq
          go_simp
          try rfl
        simp only [Act.put, List.setIfInBounds_toArray, List.set_cons_zero, List.set_cons_succ]
        refine take_first (i := 11) (v := .agg #[.int .i64 q, .int .i64 p]) 27 rfl rfl (by kernel_rfl) (by kernel_rfl) (by kernel_rfl) (fun _ _ _ h => h) (by rfl) ?_ (by assumption) ?_
        · intro wq hq
          obtain ⟨hcq, hfq⟩ := bcell hq
          go_simp
          try rfl
        simp only [Act.put, List.setIfInBounds_toArray, List.set_cons_zero, List.set_cons_succ]
        refine wpAnyH_all (rs := [12]) (by kernel_rfl) (by decide) (List.forall_mem_cons.2 ⟨?_, fun _ h => absurd h List.not_mem_nil⟩)
        have hbn : Below w.heap.size w (wr.drew.alloc (.cells #[.int .i64 q, .int .i64 p] 25)) := by (repeat' (first | (with_reducible exact Below.refl _ _) | (with_reducible assumption) | (with_reducible refine Below.alloc ?_ ?_ _) | (with_reducible refine Below.drew ?_) | (with_reducible refine below_drewN ?_ _) | (with_reducible refine Below.setCell ?_ ?_ _) | (with_reducible refine below_call ?_ ?_ (by assumption)) | go_size))
        refine wpOp_value (v := .slice (some ⟨wr.heap.size, 0, none⟩) 1 1) (w' := wr.drew.alloc (.cells #[.int .i64 q, .int .i64 p] 25)) 28 rfl rfl rfl (by go_simp; try rfl) ⟨hbn, ?_⟩
        simp only [Act.put, List.setIfInBounds_toArray, List.set_cons_zero, List.set_cons_succ]
        have HLT : ∀ k, (u4 : Value).ownBlock = some k → w.heap.size ≤ k := fun k hk => (World.ownsRow.lt HO.out k hk).1
        have HON : wr.drew.ownsRow w.heap.size 25 2 u4 k (flatPair (backK L k)) := World.ownsRow.kept HO.out (row := none) ⟨rfl, rfl, rfl, Nat.le_refl _, fun _ _ _ => rfl⟩ (by generalize (u4 : Value).ownBlock = z; cases z <;> simp)
        refine wpAnyH_all (rs := [13]) (by kernel_rfl) (by decide) (List.forall_mem_cons.2 ⟨?_, fun _ h => absurd h List.not_mem_nil⟩)
        refine wpOp_wp rfl rfl ?_
        refine wp_append_lies _ _ _ _ rfl w.heap.size 25 i0 _ 2 16 Try.underlying31 I0.out Z0.out Z1.out Z2.out rfl (by omega) u4 k _ rfl (HON.alloc _) ⟨wr.heap.size, 0, none⟩ 1 1 [.int .i64 q, .int .i64 p] rfl rfl (World.news_of_block (cs := #[.int .i64 q, .int .i64 p]) (t := 25) (fr := (0, 0)) (by simpa using heap_alloc_new wr.drew _)) (by simp [Value.oneCell']) (by omega) (by unfold maxLen; omega) (by omega) hbn.size (wr.heap.size + 1) (by simp) fun g cap w4 hown3 hgrow hat hlt3 => ?_
        have hb4 : Below w.heap.size w w4 := Below.grown hbn hgrow (by simp; omega) HLT
        refine ⟨hb4, ?_⟩
        simp only [Act.put, List.getElem_toArray, List.getElem_cons_succ, List.getElem_cons_zero, List.setIfInBounds_toArray, List.set_cons_zero, List.set_cons_succ]
        refine wpAnyH_all (rs := [14]) (by kernel_rfl) (by decide) (List.forall_mem_cons.2 ⟨?_, fun _ h => absurd h List.not_mem_nil⟩)
        refine wpOp_value (v := .slice (some ⟨g, 0, none⟩) (k + 1) cap) (w' := w4) 4 rfl rfl rfl (by go_simp; try rfl) ⟨hb4, ?_⟩
        simp only [Act.put, List.setIfInBounds_toArray, List.set_cons_zero, List.set_cons_succ]
        refine wpAnyH_done (by kernel_rfl) ?_ _
        go_wp2
        go_roundw
        case rel =>
          refine ⟨k + 1, (j : Int) - 1, by have := HX.out; omega, HK.out, rfl, ?_, ?_⟩
          · rw [← HP.out]; exact hown3
          · exact hb4
        case measure => simp [intOf]
      · have hke : k = L.length := by omega
        have HE := Lib.hid hke
        clear hx
        go_wp2
        go_ret2
        rw [HM.out]
        refine ⟨_, rfl, ?_, hbel⟩
        show World.ownsRow _ _ _ _ _ _ _
        rw [backK_len]
        have := HO.out
        rw [HE.out] at this
        exact this
end Go.Proofs.Ytaifcemdabcfjaa
