/- Puzzles: MakePuzzle: by the program and by the model. -/
import Derived.Test.YtcpgjjmamclklaaPz20
import Derived.Test.YtcpgjjmamclklaaPz21
set_option linter.unusedSimpArgs false
set_option linter.unusedVariables false
set_option maxRecDepth 100000
namespace Go.Proofs.Ytcpgjjmamclklaa
open Go.RowKit

def makR (h m n seed : Int) : PzR := if minB h m && inB n 0 6 && inB seed 0 9999 then (h, (mkS h m seed n.toNat).1, true) else (0, [], false)
theorem mkS_more (h m seed : Int) (k : Nat) : mkS h m seed (k + 1) = ((mkS h m seed k).1 ++ [(mkC h m (mkS h m seed k).2).1], (mkC h m (mkS h m seed k).2).2) := rfl
theorem minB_bd {h m : Int} (g : minB h m = true) : (2 ≤ h ∧ h ≤ 24) ∧ (0 ≤ m ∧ m < 60 * h) := by
  simp only [minB, Bool.and_eq_true] at g
  have a := inB_bd g.1
  have b := inB_bd g.2
  omega
theorem makR_len (h m n seed : Int) : (makR h m n seed).2.1.length ≤ 2000000 := by
  unfold makR
  split
  · rename_i hx
    simp only [Bool.and_eq_true] at hx
    have := inB_bd hx.1.2
    show (mkS h m seed n.toNat).1.length ≤ _
    rw [mkS_len]
    omega
  · simp
set_option maxHeartbeats 3200000 in
theorem implMake_any (h m n seed : Int) (w : World) :
    Calls Try.prog 59 #[.int .i64 h, .int .i64 m, .int .i64 n, .int .i64 seed] w fun e w' => ∃ v, e = .returned (.tuple #[pzv (makR h m n seed).1 v, .bool (makR h m n seed).2.2]) ∧ CRow w' w.heap.size v (makR h m n seed).2.1 ∧ Below w.heap.size w w' := by
  obtain ⟨i0, hi0, hz0, hz1, hz2⟩ := info_parts Try.infoParts
  have I0 := Lib.hid hi0
  have Z0 := Lib.hid hz0
  have Z1 := Lib.hid hz1
  have Z2 := Lib.hid hz2
  clear hi0 hz0 hz1 hz2
  cases ga : minB h m
  · have HM := Lib.hid (show makR h m n seed = (0, [], false) from by simp [makR, ga])
    (go_enter Try.func59, Try.ntmps59)
    go_wp2_with fail
    refine (isMinute_is h m ga _).mono ?_
    (rintro e1 w1 ⟨rfl, rfl⟩)
    go_wp2
    (refine bodyPost_ret (by simp [results, Try.results59, go_sem, *]; try rfl) rfl ?_)
    rw [HM.out]
    exact ⟨_, rfl, CRow.nil _ _, by (repeat' (first | (with_reducible exact Below.refl _ _) | (with_reducible assumption) | (with_reducible refine Below.alloc ?_ ?_ _) | (with_reducible refine Below.drew ?_) | (with_reducible refine below_drewN ?_ _) | (with_reducible refine Below.setCell ?_ ?_ _) | (with_reducible refine below_call ?_ ?_ (by assumption)) | go_size))⟩

  cases gb : inB n 0 6
  · have HM := Lib.hid (show makR h m n seed = (0, [], false) from by simp [makR, gb])
    (go_enter Try.func59, Try.ntmps59)
    go_wp2_with fail
    refine (isMinute_is h m ga _).mono ?_
    (rintro e1 w1 ⟨rfl, rfl⟩)
    go_wp2_with fail
    refine (isWithin_is n 0 6 gb _).mono ?_
    (rintro e1 w1 ⟨rfl, rfl⟩)
    go_wp2
    (refine bodyPost_ret (by simp [results, Try.results59, go_sem, *]; try rfl) rfl ?_)
    rw [HM.out]
    exact ⟨_, rfl, CRow.nil _ _, by (repeat' (first | (with_reducible exact Below.refl _ _) | (with_reducible assumption) | (with_reducible refine Below.alloc ?_ ?_ _) | (with_reducible refine Below.drew ?_) | (with_reducible refine below_drewN ?_ _) | (with_reducible refine Below.setCell ?_ ?_ _) | (with_reducible refine below_call ?_ ?_ (by assumption)) | go_size))⟩

  cases gc : inB seed 0 9999
  · have HM := Lib.hid (show makR h m n seed = (0, [], false) from by simp [makR, gc])
    (go_enter Try.func59, Try.ntmps59)
    go_wp2_with fail
    refine (isMinute_is h m ga _).mono ?_
    (rintro e1 w1 ⟨rfl, rfl⟩)
    go_wp2_with fail
    refine (isWithin_is n 0 6 gb _).mono ?_
    (rintro e1 w1 ⟨rfl, rfl⟩)
    go_wp2_with fail
    refine (isWithin_is seed 0 9999 gc _).mono ?_
    (rintro e1 w1 ⟨rfl, rfl⟩)
    go_wp2
    (refine bodyPost_ret (by simp [results, Try.results59, go_sem, *]; try rfl) rfl ?_)
    rw [HM.out]
    exact ⟨_, rfl, CRow.nil _ _, by (repeat' (first | (with_reducible exact Below.refl _ _) | (with_reducible assumption) | (with_reducible refine Below.alloc ?_ ?_ _) | (with_reducible refine Below.drew ?_) | (with_reducible refine below_drewN ?_ _) | (with_reducible refine Below.setCell ?_ ?_ _) | (with_reducible refine below_call ?_ ?_ (by assumption)) | go_size))⟩

  obtain ⟨hh, hm⟩ := minB_bd ga
  have hn := inB_bd gb
  have hs := inB_bd gc
  (go_enter Try.func59, Try.ntmps59)
  go_wp2_with fail
  refine (isMinute_is h m ga _).mono ?_
  (rintro e1 w1 ⟨rfl, rfl⟩)
  go_wp2_with fail
  refine (isWithin_is n 0 6 gb _).mono ?_
  (rintro e1 w1 ⟨rfl, rfl⟩)
  go_wp2_with fail
  refine (isWithin_is seed 0 9999 gc _).mono ?_
  (rintro e1 w1 ⟨rfl, rfl⟩)
  go_wp2_with fail
  refine (numbersBehind_any seed _).mono ?_
  rintro e1 w1 ⟨rfl, rfl⟩
  go_wp2
  go_loopw [32] (fun i wr => ∃ (k : Nat) (v : Value), (k : Int) ≤ n ∧ i = .int .i64 k ∧ ARow wr (w.heap.size + 3) v (mkS h m seed k).1 ∧ wr.cell? ⟨w.heap.size, 0, none⟩ = some (.int .i64 0) ∧ wr.cell? ⟨w.heap.size, 1, none⟩ = some (.slice none 0 0) ∧ wr.cell? ⟨w.heap.size + 1, 0, none⟩ = some (.int .i64 h) ∧ wr.cell? ⟨w.heap.size + 1, 1, none⟩ = some (v) ∧ wr.cell? ⟨w.heap.size + 1 + 1, 0, none⟩ = some (.int .i64 (mkS h m seed k).2) ∧ wr.frozen? ⟨w.heap.size, 0, none⟩ = false ∧ wr.frozen? ⟨w.heap.size, 1, none⟩ = false ∧ wr.frozen? ⟨w.heap.size + 1, 0, none⟩ = false ∧ wr.frozen? ⟨w.heap.size + 1, 1, none⟩ = false ∧ wr.frozen? ⟨w.heap.size + 1 + 1, 0, none⟩ = false ∧ w.heap.size + 3 ≤ wr.heap.size ∧ Below w.heap.size w wr) (fun i _ => n.toNat - (intOf i).toNat)
  case atStart => exact ⟨0, .slice none 0 0, by omega, rfl, ARow.nil _ _, by go_simp, by go_simp, by go_simp, by go_simp, by show _ = some (Value.int .i64 seed); go_simp, by go_simp, by go_simp, by go_simp, by go_simp, by go_simp, by go_size, by (repeat' (first | (with_reducible exact Below.refl _ _) | (with_reducible assumption) | (with_reducible refine Below.alloc ?_ ?_ _) | (with_reducible refine Below.drew ?_) | (with_reducible refine below_drewN ?_ _) | (with_reducible refine Below.setCell ?_ ?_ _) | (with_reducible refine below_call ?_ ?_ (by assumption)) | go_size))⟩
  case round =>
    obtain ⟨k, v, hk, rfl, hrow, c0, c1, c2, c3, c4, z0, z1, z2, z3, z4, hz3, hbr⟩ := hrel
    have HR := Lib.hid hrow
    clear hrow
    have k0' : (0 : Int) ≤ (k : Int) := Int.natCast_nonneg _
    have p0 : w.heap.size < wr.heap.size := by omega
    have p1 : w.heap.size + 1 < wr.heap.size := by omega
    have p2 : w.heap.size + 1 + 1 < wr.heap.size := by omega
    have HS0 := Lib.hid (mkS_more h m seed k)
    have HLN := Lib.hid (mkS_len h m seed k)
    have HMK : Hid ((k : Int) = n → makR h m n seed = (h, (mkS h m seed k).1, true)) := Lib.hid (fun e => by have ht : n.toNat = k := (by omega); simp [makR, ga, gb, gc, ht])
    have hz := mkS_bd h m seed hs k
    generalize hq1 : (mkS h m seed k).1 = L at *
    generalize hq2 : (mkS h m seed k).2 = zz at *
    clear hq1 hq2

    by_cases hlt : (k : Int) < n
    · have HC := Lib.hid (fun W => makeClue_any h m zz (w.heap.size + 1 + 1) hh hm hz W)
      have hbq := mkC_bd h m zz
      clear HMK
      generalize mkC h m zz = q at *
      obtain ⟨⟨x, y, z⟩, zq⟩ := q
      simp only at HC HS0 hbq
      have HS := HS0
      clear HS0
      go_wp2_with fail
      refine wp_region_held (by kernel_rfl) (S := fun _ => True) ?_
      refine take_first (i := 0) (v := .pointer (some ⟨w.heap.size + 1, 1, none⟩)) _ rfl rfl (by kernel_rfl) (by kernel_rfl) (by kernel_rfl) (fun _ _ _ h => h) (by rfl) ?_ trivial ?_
      · intro wq _
        go_simp
        try rfl
      simp only [Act.put, List.setIfInBounds_toArray, List.set_cons_zero, List.set_cons_succ]
      refine take_first (i := 2) (v := .int .i64 h) _ rfl rfl (by kernel_rfl) (by kernel_rfl) (by kernel_rfl) (fun _ _ _ h => h) (by rfl) ?_ trivial ?_
      · intro wq _
        go_simp
        try rfl
      simp only [Act.put, List.setIfInBounds_toArray, List.set_cons_zero, List.set_cons_succ]
      refine take_first (i := 3) (v := .int .i64 m) _ rfl rfl (by kernel_rfl) (by kernel_rfl) (by kernel_rfl) (fun _ _ _ h => h) (by rfl) ?_ trivial ?_
      · intro wq _
        go_simp
        try rfl
      simp only [Act.put, List.setIfInBounds_toArray, List.set_cons_zero, List.set_cons_succ]
      refine take_first (i := 4) (v := .func (.func 117) #[] #[.pointer (some ⟨w.heap.size + 1 + 1, 0, none⟩)]) _ rfl rfl (by kernel_rfl) (by kernel_rfl) (by kernel_rfl) (fun _ _ _ h => h) (by rfl) ?_ trivial ?_
      · intro wq _
        go_simp
        try rfl
      simp only [Act.put, List.setIfInBounds_toArray, List.set_cons_zero, List.set_cons_succ]
      refine wpAnyH_all (rs := [1, 5]) (by kernel_rfl) (by decide) (List.forall_mem_cons.2 ⟨?_, List.forall_mem_cons.2 ⟨?_, fun _ h => absurd h List.not_mem_nil⟩⟩)
      · have yl : (wr.drew).cell? ⟨w.heap.size + 1, 1, none⟩ = some v := c3
        refine wpOp_value (v := v) (w' := wr.drew) _ rfl rfl rfl (by go_simp; try rfl) ⟨trivial, ?_⟩
        clear yl
        simp only [Act.put, List.setIfInBounds_toArray, List.set_cons_zero, List.set_cons_succ]
        refine wpAnyH_all (rs := [5]) (by kernel_rfl) (by decide) (List.forall_mem_cons.2 ⟨?_, fun _ h => absurd h List.not_mem_nil⟩)
        refine wpOp_wp rfl rfl (wp_call_at _ rfl (f := 101) (args := #[.int .i64 h, .int .i64 m, .func (.func 117) #[] #[.pointer (some ⟨w.heap.size + 1 + 1, 0, none⟩)]]) (by go_simp) ((HC.out wr.drew c4 z4 (show w.heap.size + 1 + 1 < wr.heap.size by omega)).mono ?_))
        rintro e2 w2 ⟨rfl, hg2, yz, fz⟩
        have qc : ∀ b o, b < w.heap.size + 1 + 1 → w2.cell? ⟨b, o, none⟩ = wr.cell? ⟨b, o, none⟩ := fun b o hb => cell_of_heap (hg2.block b (show b < wr.heap.size by omega) (fun e => by injection e with e'; omega))
        have qf : ∀ b o, b < w.heap.size + 1 + 1 → w2.frozen? ⟨b, o, none⟩ = wr.frozen? ⟨b, o, none⟩ := fun b o hb => frozen_of_heap (hg2.block b (show b < wr.heap.size by omega) (fun e => by injection e with e'; omega))
        have hw2 : Below w.heap.size w w2 := Below.grown (w := wr.drew) hbr.drew hg2 hbr.size (fun j hj => by injection hj with hj'; omega)
        have hz2 : wr.heap.size ≤ w2.heap.size := hg2.size
        have y0 := (qc (w.heap.size) 0 (by omega)).trans c0
        have f0 := (qf (w.heap.size) 0 (by omega)).trans z0
        have y1 := (qc (w.heap.size) 1 (by omega)).trans c1
        have f1 := (qf (w.heap.size) 1 (by omega)).trans z1
        have y2 := (qc (w.heap.size + 1) 0 (by omega)).trans c2
        have f2 := (qf (w.heap.size + 1) 0 (by omega)).trans z2
        have y3 := (qc (w.heap.size + 1) 1 (by omega)).trans c3
        have f3 := (qf (w.heap.size + 1) 1 (by omega)).trans z3
        have y4 := yz
        have f4 := fz
        have hap : v.ownBlock = none ∨ v.ownBlock ≠ some (w.heap.size + 1 + 1) := by
          cases hv : v.ownBlock with
          | none => exact .inl rfl
          | some j => exact .inr (fun e => by injection e with e'; have := (World.ownsRow.lt HR.out j hv).1; omega)
        have HO2 := World.ownsRow.kept (w := wr.drew) HR.out hg2 hap
        rw [HLN.out] at HO2
        clear qc qf hg2 hap yz fz
        refine ⟨_, rfl, trivial, ?_⟩
        simp only [Act.put, List.setIfInBounds_toArray, List.set_cons_zero, List.set_cons_succ]
        refine wpAnyH_all (rs := [6]) (by kernel_rfl) (by decide) (List.forall_mem_cons.2 ⟨?_, fun _ h => absurd h List.not_mem_nil⟩)
        refine wpOp_value (v := .slice (some ⟨w2.heap.size, 0, none⟩) 1 1) (w' := w2.alloc (.cells #[.int .i64 x, .int .i64 y, .int .i64 z] 66)) _ rfl rfl rfl (by go_simp; try rfl) ⟨trivial, ?_⟩
        simp only [Act.put, List.setIfInBounds_toArray, List.set_cons_zero, List.set_cons_succ]
        refine wpAnyH_all (rs := [7]) (by kernel_rfl) (by decide) (List.forall_mem_cons.2 ⟨?_, fun _ h => absurd h List.not_mem_nil⟩)
        refine wpOp_wp rfl rfl ?_
        refine wp_append_lies _ _ _ _ rfl (w.heap.size + 3) 66 i0 _ 3 24 Try.underlying70 I0.out Z0.out Z1.out Z2.out rfl (by omega) v k _ rfl (HO2.alloc _) ⟨w2.heap.size, 0, none⟩ 1 1 [.int .i64 x, .int .i64 y, .int .i64 z] rfl rfl (World.news_of_block (cs := #[.int .i64 x, .int .i64 y, .int .i64 z]) (t := 66) (fr := (0, 0)) (by simpa using heap_alloc_new w2 _)) (by simp [Value.oneCell']) (by omega) (by unfold maxLen; omega) (by omega) (by simp; omega) (w2.heap.size + 1) (by simp) fun g cap w4 hown3 hgrow hat hlt3 => ?_
        have hb4 : Below w.heap.size w w4 := Below.grown (w := w2.alloc (.cells #[.int .i64 x, .int .i64 y, .int .i64 z] 66)) (Below.alloc hw2 hw2.size _) hgrow (by simp; omega) (fun j hj => by have := (World.ownsRow.lt HO2 j hj).1; omega)
        have hz4 := hgrow.size
        simp only [World.size_alloc] at hz4
        have kc : ∀ b o, b < w.heap.size + 3 → w4.cell? ⟨b, o, none⟩ = w2.cell? ⟨b, o, none⟩ := fun b o hb => (cell_of_heap (hgrow.block b (by simp; omega) (fun e => by have := (World.ownsRow.lt HO2 b e.symm).1; omega))).trans (World.cell?_alloc_past _ _ _ (show b < w2.heap.size by omega))
        have kf : ∀ b o, b < w.heap.size + 3 → w4.frozen? ⟨b, o, none⟩ = w2.frozen? ⟨b, o, none⟩ := fun b o hb => (frozen_of_heap (hgrow.block b (by simp; omega) (fun e => by have := (World.ownsRow.lt HO2 b e.symm).1; omega))).trans ((bcell (Below.alloc (Below.refl w2.heap.size w2) (Nat.le_refl _) _)).2 _ _ (show b < w2.heap.size by omega))
        have v0 := (kc (w.heap.size) 0 (by omega)).trans y0
        have u0 := (kf (w.heap.size) 0 (by omega)).trans f0
        have v1 := (kc (w.heap.size) 1 (by omega)).trans y1
        have u1 := (kf (w.heap.size) 1 (by omega)).trans f1
        have v2 := (kc (w.heap.size + 1) 0 (by omega)).trans y2
        have u2 := (kf (w.heap.size + 1) 0 (by omega)).trans f2
        have v3 := (kc (w.heap.size + 1) 1 (by omega)).trans y3
        have u3 := (kf (w.heap.size + 1) 1 (by omega)).trans f3
        have v4 := (kc (w.heap.size + 1 + 1) 0 (by omega)).trans y4
        have u4 := (kf (w.heap.size + 1 + 1) 0 (by omega)).trans f4
        have OWN := Lib.hid hown3
        clear kc kf hown3 hgrow hat HO2
        refine ⟨trivial, ?_⟩
        simp only [Act.put, List.getElem_toArray, List.getElem_cons_succ, List.getElem_cons_zero, List.setIfInBounds_toArray, List.set_cons_zero, List.set_cons_succ]
        refine wpAnyH_all (rs := [8]) (by kernel_rfl) (by decide) (List.forall_mem_cons.2 ⟨?_, fun _ h => absurd h List.not_mem_nil⟩)
        refine wpOp_value (v := .pointer (some ⟨w.heap.size + 1, 1, none⟩)) (w' := w4) _ rfl rfl rfl (by go_simp; try rfl) ⟨trivial, ?_⟩
        simp only [Act.put, List.setIfInBounds_toArray, List.set_cons_zero, List.set_cons_succ]
        refine wpAnyH_all (rs := [9]) (by kernel_rfl) (by decide) (List.forall_mem_cons.2 ⟨?_, fun _ h => absurd h List.not_mem_nil⟩)
        refine wpOp_store rfl rfl (w' := w4.setCell ⟨w.heap.size + 1, 1, none⟩ (.slice (some ⟨g, 0, none⟩) (k + 1) cap)) (by go_simp; try rfl) ⟨trivial, ?_⟩
        refine wpAnyH_done (by kernel_rfl) ?_ _
        go_wp2
        go_roundw
        case rel =>
          refine ⟨k + 1, .slice (some ⟨g, 0, none⟩) (k + 1) cap, by omega, by go_num, ?_, by go_simp, by go_simp, by go_simp, by go_simp, by rw [HS.out]; go_simp, by go_simp, by go_simp, by go_simp, by go_simp, by go_simp, by first | omega | (simp; done) | (simp; omega), by (repeat' (first | (with_reducible exact Below.refl _ _) | (with_reducible assumption) | (with_reducible refine Below.alloc ?_ ?_ _) | (with_reducible refine Below.drew ?_) | (with_reducible refine below_drewN ?_ _) | (with_reducible refine Below.setCell ?_ ?_ _) | (with_reducible refine below_call ?_ ?_ (by assumption)) | go_size))⟩
          rw [HS.out]
          refine ARow.set ?_ (by first | omega | (simp; done) | (simp; omega)) _
          show World.ownsRow _ _ _ _ _ _ _
          rw [flat3_append, List.length_append, HLN.out]
          exact OWN.out
        case measure => simp [intOf]; omega

      · refine wpOp_wp rfl rfl (wp_call_at _ rfl (f := 101) (args := #[.int .i64 h, .int .i64 m, .func (.func 117) #[] #[.pointer (some ⟨w.heap.size + 1 + 1, 0, none⟩)]]) (by go_simp) ((HC.out wr.drew c4 z4 (show w.heap.size + 1 + 1 < wr.heap.size by omega)).mono ?_))
        rintro e2 w2 ⟨rfl, hg2, yz, fz⟩
        have qc : ∀ b o, b < w.heap.size + 1 + 1 → w2.cell? ⟨b, o, none⟩ = wr.cell? ⟨b, o, none⟩ := fun b o hb => cell_of_heap (hg2.block b (show b < wr.heap.size by omega) (fun e => by injection e with e'; omega))
        have qf : ∀ b o, b < w.heap.size + 1 + 1 → w2.frozen? ⟨b, o, none⟩ = wr.frozen? ⟨b, o, none⟩ := fun b o hb => frozen_of_heap (hg2.block b (show b < wr.heap.size by omega) (fun e => by injection e with e'; omega))
        have hw2 : Below w.heap.size w w2 := Below.grown (w := wr.drew) hbr.drew hg2 hbr.size (fun j hj => by injection hj with hj'; omega)
        have hz2 : wr.heap.size ≤ w2.heap.size := hg2.size
        have y0 := (qc (w.heap.size) 0 (by omega)).trans c0
        have f0 := (qf (w.heap.size) 0 (by omega)).trans z0
        have y1 := (qc (w.heap.size) 1 (by omega)).trans c1
        have f1 := (qf (w.heap.size) 1 (by omega)).trans z1
        have y2 := (qc (w.heap.size + 1) 0 (by omega)).trans c2
        have f2 := (qf (w.heap.size + 1) 0 (by omega)).trans z2
        have y3 := (qc (w.heap.size + 1) 1 (by omega)).trans c3
        have f3 := (qf (w.heap.size + 1) 1 (by omega)).trans z3
        have y4 := yz
        have f4 := fz
        have hap : v.ownBlock = none ∨ v.ownBlock ≠ some (w.heap.size + 1 + 1) := by
          cases hv : v.ownBlock with
          | none => exact .inl rfl
          | some j => exact .inr (fun e => by injection e with e'; have := (World.ownsRow.lt HR.out j hv).1; omega)
        have HO2 := World.ownsRow.kept (w := wr.drew) HR.out hg2 hap
        rw [HLN.out] at HO2
        clear qc qf hg2 hap yz fz
        refine ⟨_, rfl, trivial, ?_⟩
        simp only [Act.put, List.setIfInBounds_toArray, List.set_cons_zero, List.set_cons_succ]
        refine wpAnyH_all (rs := [1, 6]) (by kernel_rfl) (by decide) (List.forall_mem_cons.2 ⟨?_, List.forall_mem_cons.2 ⟨?_, fun _ h => absurd h List.not_mem_nil⟩⟩)
        · have yl : (w2).cell? ⟨w.heap.size + 1, 1, none⟩ = some v := y3
          refine wpOp_value (v := v) (w' := w2) _ rfl rfl rfl (by go_simp; try rfl) ⟨trivial, ?_⟩
          clear yl
          simp only [Act.put, List.setIfInBounds_toArray, List.set_cons_zero, List.set_cons_succ]
          refine wpAnyH_all (rs := [6]) (by kernel_rfl) (by decide) (List.forall_mem_cons.2 ⟨?_, fun _ h => absurd h List.not_mem_nil⟩)
          refine wpOp_value (v := .slice (some ⟨w2.heap.size, 0, none⟩) 1 1) (w' := w2.alloc (.cells #[.int .i64 x, .int .i64 y, .int .i64 z] 66)) _ rfl rfl rfl (by go_simp; try rfl) ⟨trivial, ?_⟩
          simp only [Act.put, List.setIfInBounds_toArray, List.set_cons_zero, List.set_cons_succ]
          refine wpAnyH_all (rs := [7]) (by kernel_rfl) (by decide) (List.forall_mem_cons.2 ⟨?_, fun _ h => absurd h List.not_mem_nil⟩)
          refine wpOp_wp rfl rfl ?_
          refine wp_append_lies _ _ _ _ rfl (w.heap.size + 3) 66 i0 _ 3 24 Try.underlying70 I0.out Z0.out Z1.out Z2.out rfl (by omega) v k _ rfl (HO2.alloc _) ⟨w2.heap.size, 0, none⟩ 1 1 [.int .i64 x, .int .i64 y, .int .i64 z] rfl rfl (World.news_of_block (cs := #[.int .i64 x, .int .i64 y, .int .i64 z]) (t := 66) (fr := (0, 0)) (by simpa using heap_alloc_new w2 _)) (by simp [Value.oneCell']) (by omega) (by unfold maxLen; omega) (by omega) (by simp; omega) (w2.heap.size + 1) (by simp) fun g cap w4 hown3 hgrow hat hlt3 => ?_
          have hb4 : Below w.heap.size w w4 := Below.grown (w := w2.alloc (.cells #[.int .i64 x, .int .i64 y, .int .i64 z] 66)) (Below.alloc hw2 hw2.size _) hgrow (by simp; omega) (fun j hj => by have := (World.ownsRow.lt HO2 j hj).1; omega)
          have hz4 := hgrow.size
          simp only [World.size_alloc] at hz4
          have kc : ∀ b o, b < w.heap.size + 3 → w4.cell? ⟨b, o, none⟩ = w2.cell? ⟨b, o, none⟩ := fun b o hb => (cell_of_heap (hgrow.block b (by simp; omega) (fun e => by have := (World.ownsRow.lt HO2 b e.symm).1; omega))).trans (World.cell?_alloc_past _ _ _ (show b < w2.heap.size by omega))
          have kf : ∀ b o, b < w.heap.size + 3 → w4.frozen? ⟨b, o, none⟩ = w2.frozen? ⟨b, o, none⟩ := fun b o hb => (frozen_of_heap (hgrow.block b (by simp; omega) (fun e => by have := (World.ownsRow.lt HO2 b e.symm).1; omega))).trans ((bcell (Below.alloc (Below.refl w2.heap.size w2) (Nat.le_refl _) _)).2 _ _ (show b < w2.heap.size by omega))
          have v0 := (kc (w.heap.size) 0 (by omega)).trans y0
          have u0 := (kf (w.heap.size) 0 (by omega)).trans f0
          have v1 := (kc (w.heap.size) 1 (by omega)).trans y1
          have u1 := (kf (w.heap.size) 1 (by omega)).trans f1
          have v2 := (kc (w.heap.size + 1) 0 (by omega)).trans y2
          have u2 := (kf (w.heap.size + 1) 0 (by omega)).trans f2
          have v3 := (kc (w.heap.size + 1) 1 (by omega)).trans y3
          have u3 := (kf (w.heap.size + 1) 1 (by omega)).trans f3
          have v4 := (kc (w.heap.size + 1 + 1) 0 (by omega)).trans y4
          have u4 := (kf (w.heap.size + 1 + 1) 0 (by omega)).trans f4
          have OWN := Lib.hid hown3
          clear kc kf hown3 hgrow hat HO2
          refine ⟨trivial, ?_⟩
          simp only [Act.put, List.getElem_toArray, List.getElem_cons_succ, List.getElem_cons_zero, List.setIfInBounds_toArray, List.set_cons_zero, List.set_cons_succ]
          refine wpAnyH_all (rs := [8]) (by kernel_rfl) (by decide) (List.forall_mem_cons.2 ⟨?_, fun _ h => absurd h List.not_mem_nil⟩)
          refine wpOp_value (v := .pointer (some ⟨w.heap.size + 1, 1, none⟩)) (w' := w4) _ rfl rfl rfl (by go_simp; try rfl) ⟨trivial, ?_⟩
          simp only [Act.put, List.setIfInBounds_toArray, List.set_cons_zero, List.set_cons_succ]
          refine wpAnyH_all (rs := [9]) (by kernel_rfl) (by decide) (List.forall_mem_cons.2 ⟨?_, fun _ h => absurd h List.not_mem_nil⟩)
          refine wpOp_store rfl rfl (w' := w4.setCell ⟨w.heap.size + 1, 1, none⟩ (.slice (some ⟨g, 0, none⟩) (k + 1) cap)) (by go_simp; try rfl) ⟨trivial, ?_⟩
          refine wpAnyH_done (by kernel_rfl) ?_ _
          go_wp2
          go_roundw
          case rel =>
            refine ⟨k + 1, .slice (some ⟨g, 0, none⟩) (k + 1) cap, by omega, by go_num, ?_, by go_simp, by go_simp, by go_simp, by go_simp, by rw [HS.out]; go_simp, by go_simp, by go_simp, by go_simp, by go_simp, by go_simp, by first | omega | (simp; done) | (simp; omega), by (repeat' (first | (with_reducible exact Below.refl _ _) | (with_reducible assumption) | (with_reducible refine Below.alloc ?_ ?_ _) | (with_reducible refine Below.drew ?_) | (with_reducible refine below_drewN ?_ _) | (with_reducible refine Below.setCell ?_ ?_ _) | (with_reducible refine below_call ?_ ?_ (by assumption)) | go_size))⟩
            rw [HS.out]
            refine ARow.set ?_ (by first | omega | (simp; done) | (simp; omega)) _
            show World.ownsRow _ _ _ _ _ _ _
            rw [flat3_append, List.length_append, HLN.out]
            exact OWN.out
          case measure => simp [intOf]; omega

        · refine wpOp_value (v := .slice (some ⟨w2.heap.size, 0, none⟩) 1 1) (w' := w2.alloc (.cells #[.int .i64 x, .int .i64 y, .int .i64 z] 66)) _ rfl rfl rfl (by go_simp; try rfl) ⟨trivial, ?_⟩
          simp only [Act.put, List.setIfInBounds_toArray, List.set_cons_zero, List.set_cons_succ]
          refine wpAnyH_all (rs := [1]) (by kernel_rfl) (by decide) (List.forall_mem_cons.2 ⟨?_, fun _ h => absurd h List.not_mem_nil⟩)
          have yl : (w2.alloc (.cells #[.int .i64 x, .int .i64 y, .int .i64 z] 66)).cell? ⟨w.heap.size + 1, 1, none⟩ = some v := (World.cell?_alloc_past _ _ _ (show w.heap.size + 1 < w2.heap.size by omega)).trans y3
          refine wpOp_value (v := v) (w' := w2.alloc (.cells #[.int .i64 x, .int .i64 y, .int .i64 z] 66)) _ rfl rfl rfl (by go_simp; try rfl) ⟨trivial, ?_⟩
          clear yl
          simp only [Act.put, List.setIfInBounds_toArray, List.set_cons_zero, List.set_cons_succ]
          refine wpAnyH_all (rs := [7]) (by kernel_rfl) (by decide) (List.forall_mem_cons.2 ⟨?_, fun _ h => absurd h List.not_mem_nil⟩)
          refine wpOp_wp rfl rfl ?_
          refine wp_append_lies _ _ _ _ rfl (w.heap.size + 3) 66 i0 _ 3 24 Try.underlying70 I0.out Z0.out Z1.out Z2.out rfl (by omega) v k _ rfl (HO2.alloc _) ⟨w2.heap.size, 0, none⟩ 1 1 [.int .i64 x, .int .i64 y, .int .i64 z] rfl rfl (World.news_of_block (cs := #[.int .i64 x, .int .i64 y, .int .i64 z]) (t := 66) (fr := (0, 0)) (by simpa using heap_alloc_new w2 _)) (by simp [Value.oneCell']) (by omega) (by unfold maxLen; omega) (by omega) (by simp; omega) (w2.heap.size + 1) (by simp) fun g cap w4 hown3 hgrow hat hlt3 => ?_
          have hb4 : Below w.heap.size w w4 := Below.grown (w := w2.alloc (.cells #[.int .i64 x, .int .i64 y, .int .i64 z] 66)) (Below.alloc hw2 hw2.size _) hgrow (by simp; omega) (fun j hj => by have := (World.ownsRow.lt HO2 j hj).1; omega)
          have hz4 := hgrow.size
          simp only [World.size_alloc] at hz4
          have kc : ∀ b o, b < w.heap.size + 3 → w4.cell? ⟨b, o, none⟩ = w2.cell? ⟨b, o, none⟩ := fun b o hb => (cell_of_heap (hgrow.block b (by simp; omega) (fun e => by have := (World.ownsRow.lt HO2 b e.symm).1; omega))).trans (World.cell?_alloc_past _ _ _ (show b < w2.heap.size by omega))
          have kf : ∀ b o, b < w.heap.size + 3 → w4.frozen? ⟨b, o, none⟩ = w2.frozen? ⟨b, o, none⟩ := fun b o hb => (frozen_of_heap (hgrow.block b (by simp; omega) (fun e => by have := (World.ownsRow.lt HO2 b e.symm).1; omega))).trans ((bcell (Below.alloc (Below.refl w2.heap.size w2) (Nat.le_refl _) _)).2 _ _ (show b < w2.heap.size by omega))
          have v0 := (kc (w.heap.size) 0 (by omega)).trans y0
          have u0 := (kf (w.heap.size) 0 (by omega)).trans f0
          have v1 := (kc (w.heap.size) 1 (by omega)).trans y1
          have u1 := (kf (w.heap.size) 1 (by omega)).trans f1
          have v2 := (kc (w.heap.size + 1) 0 (by omega)).trans y2
          have u2 := (kf (w.heap.size + 1) 0 (by omega)).trans f2
          have v3 := (kc (w.heap.size + 1) 1 (by omega)).trans y3
          have u3 := (kf (w.heap.size + 1) 1 (by omega)).trans f3
          have v4 := (kc (w.heap.size + 1 + 1) 0 (by omega)).trans y4
          have u4 := (kf (w.heap.size + 1 + 1) 0 (by omega)).trans f4
          have OWN := Lib.hid hown3
          clear kc kf hown3 hgrow hat HO2
          refine ⟨trivial, ?_⟩
          simp only [Act.put, List.getElem_toArray, List.getElem_cons_succ, List.getElem_cons_zero, List.setIfInBounds_toArray, List.set_cons_zero, List.set_cons_succ]
          refine wpAnyH_all (rs := [8]) (by kernel_rfl) (by decide) (List.forall_mem_cons.2 ⟨?_, fun _ h => absurd h List.not_mem_nil⟩)
          refine wpOp_value (v := .pointer (some ⟨w.heap.size + 1, 1, none⟩)) (w' := w4) _ rfl rfl rfl (by go_simp; try rfl) ⟨trivial, ?_⟩
          simp only [Act.put, List.setIfInBounds_toArray, List.set_cons_zero, List.set_cons_succ]
          refine wpAnyH_all (rs := [9]) (by kernel_rfl) (by decide) (List.forall_mem_cons.2 ⟨?_, fun _ h => absurd h List.not_mem_nil⟩)
          refine wpOp_store rfl rfl (w' := w4.setCell ⟨w.heap.size + 1, 1, none⟩ (.slice (some ⟨g, 0, none⟩) (k + 1) cap)) (by go_simp; try rfl) ⟨trivial, ?_⟩
          refine wpAnyH_done (by kernel_rfl) ?_ _
          go_wp2
          go_roundw
          case rel =>
            refine ⟨k + 1, .slice (some ⟨g, 0, none⟩) (k + 1) cap, by omega, by go_num, ?_, by go_simp, by go_simp, by go_simp, by go_simp, by rw [HS.out]; go_simp, by go_simp, by go_simp, by go_simp, by go_simp, by go_simp, by first | omega | (simp; done) | (simp; omega), by (repeat' (first | (with_reducible exact Below.refl _ _) | (with_reducible assumption) | (with_reducible refine Below.alloc ?_ ?_ _) | (with_reducible refine Below.drew ?_) | (with_reducible refine below_drewN ?_ _) | (with_reducible refine Below.setCell ?_ ?_ _) | (with_reducible refine below_call ?_ ?_ (by assumption)) | go_size))⟩
            rw [HS.out]
            refine ARow.set ?_ (by first | omega | (simp; done) | (simp; omega)) _
            show World.ownsRow _ _ _ _ _ _ _
            rw [flat3_append, List.length_append, HLN.out]
            exact OWN.out
          case measure => simp [intOf]; omega


    · have hkn : (k : Int) = n := by omega
      obtain ⟨a1, cc, rfl, hi1, -⟩ := HR.out.inn
      have HI := Lib.hid hi1
      have hL6 : L.length ≤ 1048576 := by have := HLN.out; omega
      clear hi1
      have HMR := Lib.hid (HMK.out hkn)
      clear HMK HS0 hkn
      go_wp2_with fail
      refine (closed_any h a1 cc L hL6 _ HI.out).mono ?_
      rintro e2 w2 ⟨v2, rfl, hr2, hb2⟩
      obtain ⟨a2, c2, rfl, -⟩ := hr2.inn
      obtain ⟨hc2, hf2⟩ := bcell hb2
      have hz2 := hb2.size
      have ud0 := (hc2 (w.heap.size) 0 (by omega)).trans c0
      have ud1 := (hc2 (w.heap.size) 1 (by omega)).trans c1
      have ue0 := (hf2 (w.heap.size) 0 (by omega)).trans z0
      have ue1 := (hf2 (w.heap.size) 1 (by omega)).trans z1
      have hbw : Below w.heap.size w w2 := hbr.trans (hb2.mono hbr.size)
      have HR2 := Lib.hid (hr2.mono (show w.heap.size + 3 ≤ _ by omega))
      clear hr2 hc2 hf2
      go_wp2
      (refine bodyPost_ret (by simp [results, Try.results59, go_sem, *]; try rfl) rfl ?_)
      rw [HMR.out]
      exact ⟨_, rfl, ((HR2.out.set (a := ⟨w.heap.size, 0, none⟩) (by show w.heap.size < _; omega) _).set (a := ⟨w.heap.size, 1, none⟩) (by show w.heap.size < _; omega) _).mono (by omega), by (repeat' (first | (with_reducible exact Below.refl _ _) | (with_reducible assumption) | (with_reducible refine Below.alloc ?_ ?_ _) | (with_reducible refine Below.drew ?_) | (with_reducible refine below_drewN ?_ _) | (with_reducible refine Below.setCell ?_ ?_ _) | (with_reducible refine below_call ?_ ?_ (by assumption)) | go_size))⟩
end Go.Proofs.Ytcpgjjmamclklaa
