/- Puzzles: MakePuzzle: by the model. -/
import Derived.Test.YtcpgjjmamclklaaPz22
set_option linter.unusedSimpArgs false
set_option linter.unusedVariables false
set_option maxRecDepth 100000
namespace Go.Proofs.Ytcpgjjmamclklaa
open Go.RowKit

set_option maxHeartbeats 3200000 in
theorem specMake_any (h m n seed : Int) (w : World) :
    Calls Try.prog 58 #[.int .i64 h, .int .i64 m, .int .i64 n, .int .i64 seed] w fun e w' => ∃ v, e = .returned (.tuple #[pzv (makR h m n seed).1 v, .bool (makR h m n seed).2.2]) ∧ CRow w' w.heap.size v (makR h m n seed).2.1 ∧ Below w.heap.size w w' := by
  obtain ⟨i0, hi0, hz0, hz1, hz2⟩ := info_parts Try.infoClue
  have I0 := Lib.hid hi0
  have Z0 := Lib.hid hz0
  have Z1 := Lib.hid hz1
  have Z2 := Lib.hid hz2
  clear hi0 hz0 hz1 hz2
  cases ga : inB h 2 24
  · have HM := Lib.hid (show makR h m n seed = (0, [], false) from by simp [makR, minB, ga])
    (go_enter Try.func58, Try.ntmps58)
    go_wp2_with fail
    refine (zHours_is h ga _).mono ?_
    (rintro e1 w1 ⟨rfl, rfl⟩)
    go_wp2
    (refine bodyPost_ret (by simp [results, Try.results58, go_sem, *]; try rfl) rfl ?_)
    rw [HM.out]
    exact ⟨_, rfl, CRow.nil _ _, by (repeat' (first | (with_reducible exact Below.refl _ _) | (with_reducible assumption) | (with_reducible refine Below.alloc ?_ ?_ _) | (with_reducible refine Below.drew ?_) | (with_reducible refine below_drewN ?_ _) | (with_reducible refine Below.setCell ?_ ?_ _) | (with_reducible refine below_call ?_ ?_ (by assumption)) | go_size))⟩

  have hh := inB_bd ga
  have g1 := zw64 (n := 60 * h) (by omega)
  have g2 := zw64 (n := 60 * h - 1) (by omega)
  cases gm : inB m 0 (60 * h - 1)
  · have HM := Lib.hid (show makR h m n seed = (0, [], false) from by simp [makR, minB, gm])
    (go_enter Try.func58, Try.ntmps58)
    go_wp2_with fail
    refine (zHours_is h ga _).mono ?_
    (rintro e1 w1 ⟨rfl, rfl⟩)
    go_wp2_with fail
    refine (l1In_is m 0 (60 * h - 1) gm _).mono ?_
    (rintro e1 w1 ⟨rfl, rfl⟩)
    go_wp2
    (refine bodyPost_ret (by simp [results, Try.results58, go_sem, *]; try rfl) rfl ?_)
    rw [HM.out]
    exact ⟨_, rfl, CRow.nil _ _, by (repeat' (first | (with_reducible exact Below.refl _ _) | (with_reducible assumption) | (with_reducible refine Below.alloc ?_ ?_ _) | (with_reducible refine Below.drew ?_) | (with_reducible refine below_drewN ?_ _) | (with_reducible refine Below.setCell ?_ ?_ _) | (with_reducible refine below_call ?_ ?_ (by assumption)) | go_size))⟩

  cases gb : inB n 0 6
  · have HM := Lib.hid (show makR h m n seed = (0, [], false) from by simp [makR, minB, gb])
    (go_enter Try.func58, Try.ntmps58)
    go_wp2_with fail
    refine (zHours_is h ga _).mono ?_
    (rintro e1 w1 ⟨rfl, rfl⟩)
    go_wp2_with fail
    refine (l1In_is m 0 (60 * h - 1) gm _).mono ?_
    (rintro e1 w1 ⟨rfl, rfl⟩)
    go_wp2_with fail
    refine (l1In_is n 0 6 gb _).mono ?_
    (rintro e1 w1 ⟨rfl, rfl⟩)
    go_wp2
    (refine bodyPost_ret (by simp [results, Try.results58, go_sem, *]; try rfl) rfl ?_)
    rw [HM.out]
    exact ⟨_, rfl, CRow.nil _ _, by (repeat' (first | (with_reducible exact Below.refl _ _) | (with_reducible assumption) | (with_reducible refine Below.alloc ?_ ?_ _) | (with_reducible refine Below.drew ?_) | (with_reducible refine below_drewN ?_ _) | (with_reducible refine Below.setCell ?_ ?_ _) | (with_reducible refine below_call ?_ ?_ (by assumption)) | go_size))⟩

  cases gc : inB seed 0 9999
  · have HM := Lib.hid (show makR h m n seed = (0, [], false) from by simp [makR, minB, gc])
    (go_enter Try.func58, Try.ntmps58)
    go_wp2_with fail
    refine (zHours_is h ga _).mono ?_
    (rintro e1 w1 ⟨rfl, rfl⟩)
    go_wp2_with fail
    refine (l1In_is m 0 (60 * h - 1) gm _).mono ?_
    (rintro e1 w1 ⟨rfl, rfl⟩)
    go_wp2_with fail
    refine (l1In_is n 0 6 gb _).mono ?_
    (rintro e1 w1 ⟨rfl, rfl⟩)
    go_wp2_with fail
    refine (l1In_is seed 0 9999 gc _).mono ?_
    (rintro e1 w1 ⟨rfl, rfl⟩)
    go_wp2
    (refine bodyPost_ret (by simp [results, Try.results58, go_sem, *]; try rfl) rfl ?_)
    rw [HM.out]
    exact ⟨_, rfl, CRow.nil _ _, by (repeat' (first | (with_reducible exact Below.refl _ _) | (with_reducible assumption) | (with_reducible refine Below.alloc ?_ ?_ _) | (with_reducible refine Below.drew ?_) | (with_reducible refine below_drewN ?_ _) | (with_reducible refine Below.setCell ?_ ?_ _) | (with_reducible refine below_call ?_ ?_ (by assumption)) | go_size))⟩

  have hm : 0 ≤ m ∧ m < 60 * h := by have := inB_bd gm; omega
  have hn := inB_bd gb
  have hs := inB_bd gc
  have gq : minB h m = true := by simp [minB, ga, gm]
  (go_enter Try.func58, Try.ntmps58)
  go_wp2_with fail
  refine (zHours_is h ga _).mono ?_
  (rintro e1 w1 ⟨rfl, rfl⟩)
  go_wp2_with fail
  refine (l1In_is m 0 (60 * h - 1) gm _).mono ?_
  (rintro e1 w1 ⟨rfl, rfl⟩)
  go_wp2_with fail
  refine (l1In_is n 0 6 gb _).mono ?_
  (rintro e1 w1 ⟨rfl, rfl⟩)
  go_wp2_with fail
  refine (l1In_is seed 0 9999 gc _).mono ?_
  (rintro e1 w1 ⟨rfl, rfl⟩)
  go_wp2
  go_loopw [2, 11] (fun a b wr => ∃ (k : Nat) (v : Value) (t : Int), t + (k : Int) = n ∧ 0 ≤ t ∧ a = .int .i64 t ∧ b = .int .i64 (mkS h m seed k).2 ∧ CRow wr (w.heap.size + 2) v (mkS h m seed k).1 ∧ wr.cell? ⟨w.heap.size, 0, none⟩ = some (.int .i64 0) ∧ wr.cell? ⟨w.heap.size, 1, none⟩ = some (.slice none 0 0) ∧ wr.cell? ⟨w.heap.size + 1, 0, none⟩ = some (.int .i64 h) ∧ wr.cell? ⟨w.heap.size + 1, 1, none⟩ = some (v) ∧ wr.frozen? ⟨w.heap.size, 0, none⟩ = false ∧ wr.frozen? ⟨w.heap.size, 1, none⟩ = false ∧ wr.frozen? ⟨w.heap.size + 1, 0, none⟩ = false ∧ wr.frozen? ⟨w.heap.size + 1, 1, none⟩ = false ∧ w.heap.size + 2 ≤ wr.heap.size ∧ Below w.heap.size w wr) (fun a _ _ => (intOf a).toNat)
  case atStart => exact ⟨0, .slice none 0 0, n, by omega, by omega, rfl, rfl, CRow.nil _ _, by go_simp, by go_simp, by go_simp, by go_simp, by go_simp, by go_simp, by go_simp, by go_simp, by go_size, by (repeat' (first | (with_reducible exact Below.refl _ _) | (with_reducible assumption) | (with_reducible refine Below.alloc ?_ ?_ _) | (with_reducible refine Below.drew ?_) | (with_reducible refine below_drewN ?_ _) | (with_reducible refine Below.setCell ?_ ?_ _) | (with_reducible refine below_call ?_ ?_ (by assumption)) | go_size))⟩
  case round =>
    obtain ⟨k, v, t, hk, ht, rfl, rfl, hrow, c0, c1, c2, c3, z0, z1, z2, z3, hz3, hbr⟩ := hrel
    have HR := Lib.hid hrow
    have HK := Lib.hid hk
    clear hrow hk
    have k0' : (0 : Int) ≤ (k : Int) := Int.natCast_nonneg _
    have hk6 : (k : Int) ≤ 6 := by have := HK.out; omega
    have ht6 : t ≤ 6 := by have := HK.out; omega
    have p0 : w.heap.size < wr.heap.size := by omega
    have p1 : w.heap.size + 1 < wr.heap.size := by omega
    have HS0 := Lib.hid (mkS_more h m seed k)
    have HLN := Lib.hid (mkS_len h m seed k)
    have HMK : Hid ((k : Int) = n → makR h m n seed = (h, (mkS h m seed k).1, true)) := Lib.hid (fun e => by have ht : n.toNat = k := (by omega); simp [makR, gq, gb, gc, ht])
    have hz := mkS_bd h m seed hs k
    generalize hq1 : (mkS h m seed k).1 = L at *
    generalize hq2 : (mkS h m seed k).2 = zz at *
    clear hq1 hq2

    by_cases hlt : 0 < t
    · have hb1 := zn_bd zz
      have hb2' := zn_bd (zn zz)
      have HM : Hid (mkC h m zz = if zn zz % 6 = 1 then (ofM h m 1 (zn (zn zz) % 59 + 2), zn (zn zz)) else (ofM h m (zn zz % 6) 0, zn zz)) := Lib.hid rfl
      have f1 := zw64 (n := 163 * zz) (by omega)
      have f2 := zw64 (n := 163 * zz + 2917) (by omega)
      have f3 : (163 * zz + 2917).tmod 10009 = zn zz := by rw [Int.tmod_eq_emod_of_nonneg (by omega)]; unfold zn; omega
      have f4 := zw64 (n := zn zz) (by omega)
      have f5 := zw64 (n := 163 * zn zz) (by omega)
      have f6 := zw64 (n := 163 * zn zz + 2917) (by omega)
      have f7 : (163 * zn zz + 2917).tmod 10009 = zn (zn zz) := by rw [Int.tmod_eq_emod_of_nonneg (by omega)]; generalize zn zz = q; unfold zn; omega
      have f8 := zw64 (n := zn (zn zz)) (by omega)
      have f9 := zw64 (n := t - 1) (by omega)
      clear HMK
      generalize zn (zn zz) = q2 at *
      generalize zn zz = q1 at *
      have f10 : q1.tmod 6 = q1 % 6 := Int.tmod_eq_emod_of_nonneg hb1.1
      have f11 := zw64 (n := q1 % 6) (by omega)
      by_cases hkd : q1 % 6 = 1
      · have f12 : q2.tmod 59 = q2 % 59 := Int.tmod_eq_emod_of_nonneg hb2'.1
        have f13 := zw64 (n := q2 % 59) (by omega)
        have f14 := zw64 (n := q2 % 59 + 2) (by omega)
        have HM2 : Hid (mkC h m zz = (ofM h m 1 (q2 % 59 + 2), q2)) := Lib.hid (by rw [HM.out, if_pos hkd])
        have HC := Lib.hid (fun W => pzOf_any h 1 m (q2 % 59 + 2) hh hm (by omega) (fun _ => by omega) W)
        have HS1 := Lib.hid (HS0.out.trans (by rw [HM2.out]))
        rw [hkd] at f10 f11
        clear HM HM2 hkd HS0
        generalize ofM h m 1 (q2 % 59 + 2) = q at *
        obtain ⟨x, y, z⟩ := q
        simp only at HC HS1
        have HS := HS1
        clear HS1
        go_wp2_with fail
        refine wp_region_held (by kernel_rfl) (S := fun _ => True) ?_
        refine take_first (i := 0) (v := .pointer (some ⟨w.heap.size + 1, 1, none⟩)) _ rfl rfl (by kernel_rfl) (by kernel_rfl) (by kernel_rfl) (fun _ _ _ h => h) (by rfl) ?_ trivial ?_
        · intro wq _
          go_simp
          try rfl
        simp only [Act.put, List.setIfInBounds_toArray, List.set_cons_zero, List.set_cons_succ]
        refine take_first (i := 2) (v := .int .i64 h) _ rfl rfl (by kernel_rfl) (by kernel_rfl) (by kernel_rfl) (fun _ _ _ h => h) (by rfl) ?_ trivial ?_
        · intro wq _
          go_simp
          try rfl
        simp only [Act.put, List.setIfInBounds_toArray, List.set_cons_zero, List.set_cons_succ]
        refine take_first (i := 3) (v := .int .i64 (1)) _ rfl rfl (by kernel_rfl) (by kernel_rfl) (by kernel_rfl) (fun _ _ _ h => h) (by rfl) ?_ trivial ?_
        · intro wq _
          go_simp
          try rfl
        simp only [Act.put, List.setIfInBounds_toArray, List.set_cons_zero, List.set_cons_succ]
        refine take_first (i := 4) (v := .int .i64 (q2 % 59 + 2)) _ rfl rfl (by kernel_rfl) (by kernel_rfl) (by kernel_rfl) (fun _ _ _ h => h) (by rfl) ?_ trivial ?_
        · intro wq _
          go_simp
          try rfl
        simp only [Act.put, List.setIfInBounds_toArray, List.set_cons_zero, List.set_cons_succ]
        refine take_first (i := 5) (v := .int .i64 m) _ rfl rfl (by kernel_rfl) (by kernel_rfl) (by kernel_rfl) (fun _ _ _ h => h) (by rfl) ?_ trivial ?_
        · intro wq _
          go_simp
          try rfl
        simp only [Act.put, List.setIfInBounds_toArray, List.set_cons_zero, List.set_cons_succ]
        refine wpAnyH_all (rs := [1, 6]) (by kernel_rfl) (by decide) (List.forall_mem_cons.2 ⟨?_, List.forall_mem_cons.2 ⟨?_, fun _ h => absurd h List.not_mem_nil⟩⟩)
        · have yl : (wr.drew).cell? ⟨w.heap.size + 1, 1, none⟩ = some v := c3
          refine wpOp_value (v := v) (w' := wr.drew) _ rfl rfl rfl (by go_simp; try rfl) ⟨trivial, ?_⟩
          clear yl
          simp only [Act.put, List.setIfInBounds_toArray, List.set_cons_zero, List.set_cons_succ]
          refine wpAnyH_all (rs := [6]) (by kernel_rfl) (by decide) (List.forall_mem_cons.2 ⟨?_, fun _ h => absurd h List.not_mem_nil⟩)
          refine wpOp_wp rfl rfl (wp_call_at _ rfl (f := 99) (args := #[.int .i64 h, .int .i64 (1), .int .i64 (q2 % 59 + 2), .int .i64 m]) (by go_simp) ((HC.out wr.drew).mono ?_))
          rintro e2 w2 ⟨rfl, hb2⟩
          have qc : ∀ b o, b < wr.heap.size → w2.cell? ⟨b, o, none⟩ = wr.cell? ⟨b, o, none⟩ := fun b o hb => (bcell hb2).1 _ _ hb
          have qf : ∀ b o, b < wr.heap.size → w2.frozen? ⟨b, o, none⟩ = wr.frozen? ⟨b, o, none⟩ := fun b o hb => (bcell hb2).2 _ _ hb
          have hw2 : Below w.heap.size w w2 := hbr.drew.trans (hb2.mono hbr.size)
          have hz2 : wr.heap.size ≤ w2.heap.size := hb2.size
          have y0 := (qc (w.heap.size) 0 (by omega)).trans c0
          have f0 := (qf (w.heap.size) 0 (by omega)).trans z0
          have y1 := (qc (w.heap.size) 1 (by omega)).trans c1
          have f1 := (qf (w.heap.size) 1 (by omega)).trans z1
          have y2 := (qc (w.heap.size + 1) 0 (by omega)).trans c2
          have f2 := (qf (w.heap.size + 1) 0 (by omega)).trans z2
          have y3 := (qc (w.heap.size + 1) 1 (by omega)).trans c3
          have f3 := (qf (w.heap.size + 1) 1 (by omega)).trans z3
          have HO2 := CRow.below (w := wr.drew) HR.out hb2
          unfold CRow at HO2
          rw [HLN.out] at HO2
          clear qc qf
          refine ⟨_, rfl, trivial, ?_⟩
          simp only [Act.put, List.setIfInBounds_toArray, List.set_cons_zero, List.set_cons_succ]
          refine wpAnyH_all (rs := [7]) (by kernel_rfl) (by decide) (List.forall_mem_cons.2 ⟨?_, fun _ h => absurd h List.not_mem_nil⟩)
          refine wpOp_value (v := .slice (some ⟨w2.heap.size, 0, none⟩) 1 1) (w' := w2.alloc (.cells #[.int .i64 x, .int .i64 y, .int .i64 z] 25)) _ rfl rfl rfl (by go_simp; try rfl) ⟨trivial, ?_⟩
          simp only [Act.put, List.setIfInBounds_toArray, List.set_cons_zero, List.set_cons_succ]
          refine wpAnyH_all (rs := [8]) (by kernel_rfl) (by decide) (List.forall_mem_cons.2 ⟨?_, fun _ h => absurd h List.not_mem_nil⟩)
          refine wpOp_wp rfl rfl ?_
          refine wp_append_lies _ _ _ _ rfl (w.heap.size + 2) 25 i0 _ 3 24 Try.underlying33 I0.out Z0.out Z1.out Z2.out rfl (by omega) v k _ rfl (HO2.alloc _) ⟨w2.heap.size, 0, none⟩ 1 1 [.int .i64 x, .int .i64 y, .int .i64 z] rfl rfl (World.news_of_block (cs := #[.int .i64 x, .int .i64 y, .int .i64 z]) (t := 25) (fr := (0, 0)) (by simpa using heap_alloc_new w2 _)) (by simp [Value.oneCell']) (by omega) (by unfold maxLen; omega) (by omega) (by simp; omega) (w2.heap.size + 1) (by simp) fun g cap w4 hown3 hgrow hat hlt3 => ?_
          have hb4 : Below w.heap.size w w4 := Below.grown (w := w2.alloc (.cells #[.int .i64 x, .int .i64 y, .int .i64 z] 25)) (Below.alloc hw2 hw2.size _) hgrow (by simp; omega) (fun j hj => by have := (World.ownsRow.lt HO2 j hj).1; omega)
          have hz4 := hgrow.size
          simp only [World.size_alloc] at hz4
          have kc : ∀ b o, b < w.heap.size + 2 → w4.cell? ⟨b, o, none⟩ = w2.cell? ⟨b, o, none⟩ := fun b o hb => (cell_of_heap (hgrow.block b (by simp; omega) (fun e => by have := (World.ownsRow.lt HO2 b e.symm).1; omega))).trans (World.cell?_alloc_past _ _ _ (show b < w2.heap.size by omega))
          have kf : ∀ b o, b < w.heap.size + 2 → w4.frozen? ⟨b, o, none⟩ = w2.frozen? ⟨b, o, none⟩ := fun b o hb => (frozen_of_heap (hgrow.block b (by simp; omega) (fun e => by have := (World.ownsRow.lt HO2 b e.symm).1; omega))).trans ((bcell (Below.alloc (Below.refl w2.heap.size w2) (Nat.le_refl _) _)).2 _ _ (show b < w2.heap.size by omega))
          have v0 := (kc (w.heap.size) 0 (by omega)).trans y0
          have u0 := (kf (w.heap.size) 0 (by omega)).trans f0
          have v1 := (kc (w.heap.size) 1 (by omega)).trans y1
          have u1 := (kf (w.heap.size) 1 (by omega)).trans f1
          have v2 := (kc (w.heap.size + 1) 0 (by omega)).trans y2
          have u2 := (kf (w.heap.size + 1) 0 (by omega)).trans f2
          have v3 := (kc (w.heap.size + 1) 1 (by omega)).trans y3
          have u3 := (kf (w.heap.size + 1) 1 (by omega)).trans f3
          have OWN := Lib.hid hown3
          clear kc kf hown3 hgrow hat HO2
          refine ⟨trivial, ?_⟩
          simp only [Act.put, List.getElem_toArray, List.getElem_cons_succ, List.getElem_cons_zero, List.setIfInBounds_toArray, List.set_cons_zero, List.set_cons_succ]
          refine wpAnyH_all (rs := [9]) (by kernel_rfl) (by decide) (List.forall_mem_cons.2 ⟨?_, fun _ h => absurd h List.not_mem_nil⟩)
          refine wpOp_value (v := .pointer (some ⟨w.heap.size + 1, 1, none⟩)) (w' := w4) _ rfl rfl rfl (by go_simp; try rfl) ⟨trivial, ?_⟩
          simp only [Act.put, List.setIfInBounds_toArray, List.set_cons_zero, List.set_cons_succ]
          refine wpAnyH_all (rs := [10]) (by kernel_rfl) (by decide) (List.forall_mem_cons.2 ⟨?_, fun _ h => absurd h List.not_mem_nil⟩)
          refine wpOp_store rfl rfl (w' := w4.setCell ⟨w.heap.size + 1, 1, none⟩ (.slice (some ⟨g, 0, none⟩) (k + 1) cap)) (by go_simp; try rfl) ⟨trivial, ?_⟩
          refine wpAnyH_done (by kernel_rfl) ?_ _
          go_wp2
          go_roundw
          case rel =>
            refine ⟨k + 1, .slice (some ⟨g, 0, none⟩) (k + 1) cap, t - 1, by have := HK.out; omega, by omega, rfl, by simp only [HS.out], ?_, by go_simp, by go_simp, by go_simp, by go_simp, by go_simp, by go_simp, by go_simp, by go_simp, by first | omega | (simp; done) | (simp; omega), by (repeat' (first | (with_reducible exact Below.refl _ _) | (with_reducible assumption) | (with_reducible refine Below.alloc ?_ ?_ _) | (with_reducible refine Below.drew ?_) | (with_reducible refine below_drewN ?_ _) | (with_reducible refine Below.setCell ?_ ?_ _) | (with_reducible refine below_call ?_ ?_ (by assumption)) | go_size))⟩
            rw [HS.out]
            refine CRow.set ?_ (by first | omega | (simp; done) | (simp; omega)) _
            show World.ownsRow _ _ _ _ _ _ _
            rw [flat3_append, List.length_append, HLN.out]
            exact OWN.out
          case measure => simp [intOf]; omega

        · refine wpOp_wp rfl rfl (wp_call_at _ rfl (f := 99) (args := #[.int .i64 h, .int .i64 (1), .int .i64 (q2 % 59 + 2), .int .i64 m]) (by go_simp) ((HC.out wr.drew).mono ?_))
          rintro e2 w2 ⟨rfl, hb2⟩
          have qc : ∀ b o, b < wr.heap.size → w2.cell? ⟨b, o, none⟩ = wr.cell? ⟨b, o, none⟩ := fun b o hb => (bcell hb2).1 _ _ hb
          have qf : ∀ b o, b < wr.heap.size → w2.frozen? ⟨b, o, none⟩ = wr.frozen? ⟨b, o, none⟩ := fun b o hb => (bcell hb2).2 _ _ hb
          have hw2 : Below w.heap.size w w2 := hbr.drew.trans (hb2.mono hbr.size)
          have hz2 : wr.heap.size ≤ w2.heap.size := hb2.size
          have y0 := (qc (w.heap.size) 0 (by omega)).trans c0
          have f0 := (qf (w.heap.size) 0 (by omega)).trans z0
          have y1 := (qc (w.heap.size) 1 (by omega)).trans c1
          have f1 := (qf (w.heap.size) 1 (by omega)).trans z1
          have y2 := (qc (w.heap.size + 1) 0 (by omega)).trans c2
          have f2 := (qf (w.heap.size + 1) 0 (by omega)).trans z2
          have y3 := (qc (w.heap.size + 1) 1 (by omega)).trans c3
          have f3 := (qf (w.heap.size + 1) 1 (by omega)).trans z3
          have HO2 := CRow.below (w := wr.drew) HR.out hb2
          unfold CRow at HO2
          rw [HLN.out] at HO2
          clear qc qf
          refine ⟨_, rfl, trivial, ?_⟩
          simp only [Act.put, List.setIfInBounds_toArray, List.set_cons_zero, List.set_cons_succ]
          refine wpAnyH_all (rs := [1, 7]) (by kernel_rfl) (by decide) (List.forall_mem_cons.2 ⟨?_, List.forall_mem_cons.2 ⟨?_, fun _ h => absurd h List.not_mem_nil⟩⟩)
          · have yl : (w2).cell? ⟨w.heap.size + 1, 1, none⟩ = some v := y3
            refine wpOp_value (v := v) (w' := w2) _ rfl rfl rfl (by go_simp; try rfl) ⟨trivial, ?_⟩
            clear yl
            simp only [Act.put, List.setIfInBounds_toArray, List.set_cons_zero, List.set_cons_succ]
            refine wpAnyH_all (rs := [7]) (by kernel_rfl) (by decide) (List.forall_mem_cons.2 ⟨?_, fun _ h => absurd h List.not_mem_nil⟩)
            refine wpOp_value (v := .slice (some ⟨w2.heap.size, 0, none⟩) 1 1) (w' := w2.alloc (.cells #[.int .i64 x, .int .i64 y, .int .i64 z] 25)) _ rfl rfl rfl (by go_simp; try rfl) ⟨trivial, ?_⟩
            simp only [Act.put, List.setIfInBounds_toArray, List.set_cons_zero, List.set_cons_succ]
            refine wpAnyH_all (rs := [8]) (by kernel_rfl) (by decide) (List.forall_mem_cons.2 ⟨?_, fun _ h => absurd h List.not_mem_nil⟩)
            refine wpOp_wp rfl rfl ?_
            refine wp_append_lies _ _ _ _ rfl (w.heap.size + 2) 25 i0 _ 3 24 Try.underlying33 I0.out Z0.out Z1.out Z2.out rfl (by omega) v k _ rfl (HO2.alloc _) ⟨w2.heap.size, 0, none⟩ 1 1 [.int .i64 x, .int .i64 y, .int .i64 z] rfl rfl (World.news_of_block (cs := #[.int .i64 x, .int .i64 y, .int .i64 z]) (t := 25) (fr := (0, 0)) (by simpa using heap_alloc_new w2 _)) (by simp [Value.oneCell']) (by omega) (by unfold maxLen; omega) (by omega) (by simp; omega) (w2.heap.size + 1) (by simp) fun g cap w4 hown3 hgrow hat hlt3 => ?_
            have hb4 : Below w.heap.size w w4 := Below.grown (w := w2.alloc (.cells #[.int .i64 x, .int .i64 y, .int .i64 z] 25)) (Below.alloc hw2 hw2.size _) hgrow (by simp; omega) (fun j hj => by have := (World.ownsRow.lt HO2 j hj).1; omega)
            have hz4 := hgrow.size
            simp only [World.size_alloc] at hz4
            have kc : ∀ b o, b < w.heap.size + 2 → w4.cell? ⟨b, o, none⟩ = w2.cell? ⟨b, o, none⟩ := fun b o hb => (cell_of_heap (hgrow.block b (by simp; omega) (fun e => by have := (World.ownsRow.lt HO2 b e.symm).1; omega))).trans (World.cell?_alloc_past _ _ _ (show b < w2.heap.size by omega))
            have kf : ∀ b o, b < w.heap.size + 2 → w4.frozen? ⟨b, o, none⟩ = w2.frozen? ⟨b, o, none⟩ := fun b o hb => (frozen_of_heap (hgrow.block b (by simp; omega) (fun e => by have := (World.ownsRow.lt HO2 b e.symm).1; omega))).trans ((bcell (Below.alloc (Below.refl w2.heap.size w2) (Nat.le_refl _) _)).2 _ _ (show b < w2.heap.size by omega))
            have v0 := (kc (w.heap.size) 0 (by omega)).trans y0
            have u0 := (kf (w.heap.size) 0 (by omega)).trans f0
            have v1 := (kc (w.heap.size) 1 (by omega)).trans y1
            have u1 := (kf (w.heap.size) 1 (by omega)).trans f1
            have v2 := (kc (w.heap.size + 1) 0 (by omega)).trans y2
            have u2 := (kf (w.heap.size + 1) 0 (by omega)).trans f2
            have v3 := (kc (w.heap.size + 1) 1 (by omega)).trans y3
            have u3 := (kf (w.heap.size + 1) 1 (by omega)).trans f3
            have OWN := Lib.hid hown3
            clear kc kf hown3 hgrow hat HO2
            refine ⟨trivial, ?_⟩
            simp only [Act.put, List.getElem_toArray, List.getElem_cons_succ, List.getElem_cons_zero, List.setIfInBounds_toArray, List.set_cons_zero, List.set_cons_succ]
            refine wpAnyH_all (rs := [9]) (by kernel_rfl) (by decide) (List.forall_mem_cons.2 ⟨?_, fun _ h => absurd h List.not_mem_nil⟩)
            refine wpOp_value (v := .pointer (some ⟨w.heap.size + 1, 1, none⟩)) (w' := w4) _ rfl rfl rfl (by go_simp; try rfl) ⟨trivial, ?_⟩
            simp only [Act.put, List.setIfInBounds_toArray, List.set_cons_zero, List.set_cons_succ]
            refine wpAnyH_all (rs := [10]) (by kernel_rfl) (by decide) (List.forall_mem_cons.2 ⟨?_, fun _ h => absurd h List.not_mem_nil⟩)
            refine wpOp_store rfl rfl (w' := w4.setCell ⟨w.heap.size + 1, 1, none⟩ (.slice (some ⟨g, 0, none⟩) (k + 1) cap)) (by go_simp; try rfl) ⟨trivial, ?_⟩
            refine wpAnyH_done (by kernel_rfl) ?_ _
            go_wp2
            go_roundw
            case rel =>
              refine ⟨k + 1, .slice (some ⟨g, 0, none⟩) (k + 1) cap, t - 1, by have := HK.out; omega, by omega, rfl, by simp only [HS.out], ?_, by go_simp, by go_simp, by go_simp, by go_simp, by go_simp, by go_simp, by go_simp, by go_simp, by first | omega | (simp; done) | (simp; omega), by (repeat' (first | (with_reducible exact Below.refl _ _) | (with_reducible assumption) | (with_reducible refine Below.alloc ?_ ?_ _) | (with_reducible refine Below.drew ?_) | (with_reducible refine below_drewN ?_ _) | (with_reducible refine Below.setCell ?_ ?_ _) | (with_reducible refine below_call ?_ ?_ (by assumption)) | go_size))⟩
              rw [HS.out]
              refine CRow.set ?_ (by first | omega | (simp; done) | (simp; omega)) _
              show World.ownsRow _ _ _ _ _ _ _
              rw [flat3_append, List.length_append, HLN.out]
              exact OWN.out
            case measure => simp [intOf]; omega

          · refine wpOp_value (v := .slice (some ⟨w2.heap.size, 0, none⟩) 1 1) (w' := w2.alloc (.cells #[.int .i64 x, .int .i64 y, .int .i64 z] 25)) _ rfl rfl rfl (by go_simp; try rfl) ⟨trivial, ?_⟩
            simp only [Act.put, List.setIfInBounds_toArray, List.set_cons_zero, List.set_cons_succ]
            refine wpAnyH_all (rs := [1]) (by kernel_rfl) (by decide) (List.forall_mem_cons.2 ⟨?_, fun _ h => absurd h List.not_mem_nil⟩)
            have yl : (w2.alloc (.cells #[.int .i64 x, .int .i64 y, .int .i64 z] 25)).cell? ⟨w.heap.size + 1, 1, none⟩ = some v := (World.cell?_alloc_past _ _ _ (show w.heap.size + 1 < w2.heap.size by omega)).trans y3
            refine wpOp_value (v := v) (w' := w2.alloc (.cells #[.int .i64 x, .int .i64 y, .int .i64 z] 25)) _ rfl rfl rfl (by go_simp; try rfl) ⟨trivial, ?_⟩
            clear yl
            simp only [Act.put, List.setIfInBounds_toArray, List.set_cons_zero, List.set_cons_succ]
            refine wpAnyH_all (rs := [8]) (by kernel_rfl) (by decide) (List.forall_mem_cons.2 ⟨?_, fun _ h => absurd h List.not_mem_nil⟩)
            refine wpOp_wp rfl rfl ?_
            refine wp_append_lies _ _ _ _ rfl (w.heap.size + 2) 25 i0 _ 3 24 Try.underlying33 I0.out Z0.out Z1.out Z2.out rfl (by omega) v k _ rfl (HO2.alloc _) ⟨w2.heap.size, 0, none⟩ 1 1 [.int .i64 x, .int .i64 y, .int .i64 z] rfl rfl (World.news_of_block (cs := #[.int .i64 x, .int .i64 y, .int .i64 z]) (t := 25) (fr := (0, 0)) (by simpa using heap_alloc_new w2 _)) (by simp [Value.oneCell']) (by omega) (by unfold maxLen; omega) (by omega) (by simp; omega) (w2.heap.size + 1) (by simp) fun g cap w4 hown3 hgrow hat hlt3 => ?_
            have hb4 : Below w.heap.size w w4 := Below.grown (w := w2.alloc (.cells #[.int .i64 x, .int .i64 y, .int .i64 z] 25)) (Below.alloc hw2 hw2.size _) hgrow (by simp; omega) (fun j hj => by have := (World.ownsRow.lt HO2 j hj).1; omega)
            have hz4 := hgrow.size
            simp only [World.size_alloc] at hz4
            have kc : ∀ b o, b < w.heap.size + 2 → w4.cell? ⟨b, o, none⟩ = w2.cell? ⟨b, o, none⟩ := fun b o hb => (cell_of_heap (hgrow.block b (by simp; omega) (fun e => by have := (World.ownsRow.lt HO2 b e.symm).1; omega))).trans (World.cell?_alloc_past _ _ _ (show b < w2.heap.size by omega))
            have kf : ∀ b o, b < w.heap.size + 2 → w4.frozen? ⟨b, o, none⟩ = w2.frozen? ⟨b, o, none⟩ := fun b o hb => (frozen_of_heap (hgrow.block b (by simp; omega) (fun e => by have := (World.ownsRow.lt HO2 b e.symm).1; omega))).trans ((bcell (Below.alloc (Below.refl w2.heap.size w2) (Nat.le_refl _) _)).2 _ _ (show b < w2.heap.size by omega))
            have v0 := (kc (w.heap.size) 0 (by omega)).trans y0
            have u0 := (kf (w.heap.size) 0 (by omega)).trans f0
            have v1 := (kc (w.heap.size) 1 (by omega)).trans y1
            have u1 := (kf (w.heap.size) 1 (by omega)).trans f1
            have v2 := (kc (w.heap.size + 1) 0 (by omega)).trans y2
            have u2 := (kf (w.heap.size + 1) 0 (by omega)).trans f2
            have v3 := (kc (w.heap.size + 1) 1 (by omega)).trans y3
            have u3 := (kf (w.heap.size + 1) 1 (by omega)).trans f3
            have OWN := Lib.hid hown3
            clear kc kf hown3 hgrow hat HO2
            refine ⟨trivial, ?_⟩
            simp only [Act.put, List.getElem_toArray, List.getElem_cons_succ, List.getElem_cons_zero, List.setIfInBounds_toArray, List.set_cons_zero, List.set_cons_succ]
            refine wpAnyH_all (rs := [9]) (by kernel_rfl) (by decide) (List.forall_mem_cons.2 ⟨?_, fun _ h => absurd h List.not_mem_nil⟩)
            refine wpOp_value (v := .pointer (some ⟨w.heap.size + 1, 1, none⟩)) (w' := w4) _ rfl rfl rfl (by go_simp; try rfl) ⟨trivial, ?_⟩
            simp only [Act.put, List.setIfInBounds_toArray, List.set_cons_zero, List.set_cons_succ]
            refine wpAnyH_all (rs := [10]) (by kernel_rfl) (by decide) (List.forall_mem_cons.2 ⟨?_, fun _ h => absurd h List.not_mem_nil⟩)
            refine wpOp_store rfl rfl (w' := w4.setCell ⟨w.heap.size + 1, 1, none⟩ (.slice (some ⟨g, 0, none⟩) (k + 1) cap)) (by go_simp; try rfl) ⟨trivial, ?_⟩
            refine wpAnyH_done (by kernel_rfl) ?_ _
            go_wp2
            go_roundw
            case rel =>
              refine ⟨k + 1, .slice (some ⟨g, 0, none⟩) (k + 1) cap, t - 1, by have := HK.out; omega, by omega, rfl, by simp only [HS.out], ?_, by go_simp, by go_simp, by go_simp, by go_simp, by go_simp, by go_simp, by go_simp, by go_simp, by first | omega | (simp; done) | (simp; omega), by (repeat' (first | (with_reducible exact Below.refl _ _) | (with_reducible assumption) | (with_reducible refine Below.alloc ?_ ?_ _) | (with_reducible refine Below.drew ?_) | (with_reducible refine below_drewN ?_ _) | (with_reducible refine Below.setCell ?_ ?_ _) | (with_reducible refine below_call ?_ ?_ (by assumption)) | go_size))⟩
              rw [HS.out]
              refine CRow.set ?_ (by first | omega | (simp; done) | (simp; omega)) _
              show World.ownsRow _ _ _ _ _ _ _
              rw [flat3_append, List.length_append, HLN.out]
              exact OWN.out
            case measure => simp [intOf]; omega


      · have hk' : (q1 % 6 == 1) = false := by rw [beq_eq_false_iff_ne]; exact hkd
        have HM2 : Hid (mkC h m zz = (ofM h m (q1 % 6) 2, q1)) := Lib.hid (by rw [HM.out, if_neg hkd, ofM_other hkd])
        have HC := Lib.hid (fun W => pzOf_any h (q1 % 6) m 2 hh hm (by omega) (fun e => absurd e hkd) W)
        have HS1 := Lib.hid (HS0.out.trans (by rw [HM2.out]))
        clear HM HM2 HS0
        generalize ofM h m (q1 % 6) 2 = q at *
        obtain ⟨x, y, z⟩ := q
        simp only at HC HS1
        have HS := HS1
        clear HS1
        go_wp2_with fail
        refine wp_region_held (by kernel_rfl) (S := fun _ => True) ?_
        refine take_first (i := 0) (v := .pointer (some ⟨w.heap.size + 1, 1, none⟩)) _ rfl rfl (by kernel_rfl) (by kernel_rfl) (by kernel_rfl) (fun _ _ _ h => h) (by rfl) ?_ trivial ?_
        · intro wq _
          go_simp
          try rfl
        simp only [Act.put, List.setIfInBounds_toArray, List.set_cons_zero, List.set_cons_succ]
        refine take_first (i := 2) (v := .int .i64 h) _ rfl rfl (by kernel_rfl) (by kernel_rfl) (by kernel_rfl) (fun _ _ _ h => h) (by rfl) ?_ trivial ?_
        · intro wq _
          go_simp
          try rfl
        simp only [Act.put, List.setIfInBounds_toArray, List.set_cons_zero, List.set_cons_succ]
        refine take_first (i := 3) (v := .int .i64 (q1 % 6)) _ rfl rfl (by kernel_rfl) (by kernel_rfl) (by kernel_rfl) (fun _ _ _ h => h) (by rfl) ?_ trivial ?_
        · intro wq _
          go_simp
          try rfl
        simp only [Act.put, List.setIfInBounds_toArray, List.set_cons_zero, List.set_cons_succ]
        refine take_first (i := 4) (v := .int .i64 (2)) _ rfl rfl (by kernel_rfl) (by kernel_rfl) (by kernel_rfl) (fun _ _ _ h => h) (by rfl) ?_ trivial ?_
        · intro wq _
          go_simp
          try rfl
        simp only [Act.put, List.setIfInBounds_toArray, List.set_cons_zero, List.set_cons_succ]
        refine take_first (i := 5) (v := .int .i64 m) _ rfl rfl (by kernel_rfl) (by kernel_rfl) (by kernel_rfl) (fun _ _ _ h => h) (by rfl) ?_ trivial ?_
        · intro wq _
          go_simp
          try rfl
        simp only [Act.put, List.setIfInBounds_toArray, List.set_cons_zero, List.set_cons_succ]
        refine wpAnyH_all (rs := [1, 6]) (by kernel_rfl) (by decide) (List.forall_mem_cons.2 ⟨?_, List.forall_mem_cons.2 ⟨?_, fun _ h => absurd h List.not_mem_nil⟩⟩)
        · have yl : (wr.drew).cell? ⟨w.heap.size + 1, 1, none⟩ = some v := c3
          refine wpOp_value (v := v) (w' := wr.drew) _ rfl rfl rfl (by go_simp; try rfl) ⟨trivial, ?_⟩
          clear yl
          simp only [Act.put, List.setIfInBounds_toArray, List.set_cons_zero, List.set_cons_succ]
          refine wpAnyH_all (rs := [6]) (by kernel_rfl) (by decide) (List.forall_mem_cons.2 ⟨?_, fun _ h => absurd h List.not_mem_nil⟩)
          refine wpOp_wp rfl rfl (wp_call_at _ rfl (f := 99) (args := #[.int .i64 h, .int .i64 (q1 % 6), .int .i64 (2), .int .i64 m]) (by go_simp) ((HC.out wr.drew).mono ?_))
          rintro e2 w2 ⟨rfl, hb2⟩
          have qc : ∀ b o, b < wr.heap.size → w2.cell? ⟨b, o, none⟩ = wr.cell? ⟨b, o, none⟩ := fun b o hb => (bcell hb2).1 _ _ hb
          have qf : ∀ b o, b < wr.heap.size → w2.frozen? ⟨b, o, none⟩ = wr.frozen? ⟨b, o, none⟩ := fun b o hb => (bcell hb2).2 _ _ hb
          have hw2 : Below w.heap.size w w2 := hbr.drew.trans (hb2.mono hbr.size)
          have hz2 : wr.heap.size ≤ w2.heap.size := hb2.size
          have y0 := (qc (w.heap.size) 0 (by omega)).trans c0
          have f0 := (qf (w.heap.size) 0 (by omega)).trans z0
          have y1 := (qc (w.heap.size) 1 (by omega)).trans c1
          have f1 := (qf (w.heap.size) 1 (by omega)).trans z1
          have y2 := (qc (w.heap.size + 1) 0 (by omega)).trans c2
          have f2 := (qf (w.heap.size + 1) 0 (by omega)).trans z2
          have y3 := (qc (w.heap.size + 1) 1 (by omega)).trans c3
          have f3 := (qf (w.heap.size + 1) 1 (by omega)).trans z3
          have HO2 := CRow.below (w := wr.drew) HR.out hb2
          unfold CRow at HO2
          rw [HLN.out] at HO2
          clear qc qf
          refine ⟨_, rfl, trivial, ?_⟩
          simp only [Act.put, List.setIfInBounds_toArray, List.set_cons_zero, List.set_cons_succ]
          refine wpAnyH_all (rs := [7]) (by kernel_rfl) (by decide) (List.forall_mem_cons.2 ⟨?_, fun _ h => absurd h List.not_mem_nil⟩)
          refine wpOp_value (v := .slice (some ⟨w2.heap.size, 0, none⟩) 1 1) (w' := w2.alloc (.cells #[.int .i64 x, .int .i64 y, .int .i64 z] 25)) _ rfl rfl rfl (by go_simp; try rfl) ⟨trivial, ?_⟩
          simp only [Act.put, List.setIfInBounds_toArray, List.set_cons_zero, List.set_cons_succ]
          refine wpAnyH_all (rs := [8]) (by kernel_rfl) (by decide) (List.forall_mem_cons.2 ⟨?_, fun _ h => absurd h List.not_mem_nil⟩)
          refine wpOp_wp rfl rfl ?_
          refine wp_append_lies _ _ _ _ rfl (w.heap.size + 2) 25 i0 _ 3 24 Try.underlying33 I0.out Z0.out Z1.out Z2.out rfl (by omega) v k _ rfl (HO2.alloc _) ⟨w2.heap.size, 0, none⟩ 1 1 [.int .i64 x, .int .i64 y, .int .i64 z] rfl rfl (World.news_of_block (cs := #[.int .i64 x, .int .i64 y, .int .i64 z]) (t := 25) (fr := (0, 0)) (by simpa using heap_alloc_new w2 _)) (by simp [Value.oneCell']) (by omega) (by unfold maxLen; omega) (by omega) (by simp; omega) (w2.heap.size + 1) (by simp) fun g cap w4 hown3 hgrow hat hlt3 => ?_
          have hb4 : Below w.heap.size w w4 := Below.grown (w := w2.alloc (.cells #[.int .i64 x, .int .i64 y, .int .i64 z] 25)) (Below.alloc hw2 hw2.size _) hgrow (by simp; omega) (fun j hj => by have := (World.ownsRow.lt HO2 j hj).1; omega)
          have hz4 := hgrow.size
          simp only [World.size_alloc] at hz4
          have kc : ∀ b o, b < w.heap.size + 2 → w4.cell? ⟨b, o, none⟩ = w2.cell? ⟨b, o, none⟩ := fun b o hb => (cell_of_heap (hgrow.block b (by simp; omega) (fun e => by have := (World.ownsRow.lt HO2 b e.symm).1; omega))).trans (World.cell?_alloc_past _ _ _ (show b < w2.heap.size by omega))
          have kf : ∀ b o, b < w.heap.size + 2 → w4.frozen? ⟨b, o, none⟩ = w2.frozen? ⟨b, o, none⟩ := fun b o hb => (frozen_of_heap (hgrow.block b (by simp; omega) (fun e => by have := (World.ownsRow.lt HO2 b e.symm).1; omega))).trans ((bcell (Below.alloc (Below.refl w2.heap.size w2) (Nat.le_refl _) _)).2 _ _ (show b < w2.heap.size by omega))
          have v0 := (kc (w.heap.size) 0 (by omega)).trans y0
          have u0 := (kf (w.heap.size) 0 (by omega)).trans f0
          have v1 := (kc (w.heap.size) 1 (by omega)).trans y1
          have u1 := (kf (w.heap.size) 1 (by omega)).trans f1
          have v2 := (kc (w.heap.size + 1) 0 (by omega)).trans y2
          have u2 := (kf (w.heap.size + 1) 0 (by omega)).trans f2
          have v3 := (kc (w.heap.size + 1) 1 (by omega)).trans y3
          have u3 := (kf (w.heap.size + 1) 1 (by omega)).trans f3
          have OWN := Lib.hid hown3
          clear kc kf hown3 hgrow hat HO2
          refine ⟨trivial, ?_⟩
          simp only [Act.put, List.getElem_toArray, List.getElem_cons_succ, List.getElem_cons_zero, List.setIfInBounds_toArray, List.set_cons_zero, List.set_cons_succ]
          refine wpAnyH_all (rs := [9]) (by kernel_rfl) (by decide) (List.forall_mem_cons.2 ⟨?_, fun _ h => absurd h List.not_mem_nil⟩)
          refine wpOp_value (v := .pointer (some ⟨w.heap.size + 1, 1, none⟩)) (w' := w4) _ rfl rfl rfl (by go_simp; try rfl) ⟨trivial, ?_⟩
          simp only [Act.put, List.setIfInBounds_toArray, List.set_cons_zero, List.set_cons_succ]
          refine wpAnyH_all (rs := [10]) (by kernel_rfl) (by decide) (List.forall_mem_cons.2 ⟨?_, fun _ h => absurd h List.not_mem_nil⟩)
          refine wpOp_store rfl rfl (w' := w4.setCell ⟨w.heap.size + 1, 1, none⟩ (.slice (some ⟨g, 0, none⟩) (k + 1) cap)) (by go_simp; try rfl) ⟨trivial, ?_⟩
          refine wpAnyH_done (by kernel_rfl) ?_ _
          go_wp2
          go_roundw
          case rel =>
            refine ⟨k + 1, .slice (some ⟨g, 0, none⟩) (k + 1) cap, t - 1, by have := HK.out; omega, by omega, rfl, by simp only [HS.out], ?_, by go_simp, by go_simp, by go_simp, by go_simp, by go_simp, by go_simp, by go_simp, by go_simp, by first | omega | (simp; done) | (simp; omega), by (repeat' (first | (with_reducible exact Below.refl _ _) | (with_reducible assumption) | (with_reducible refine Below.alloc ?_ ?_ _) | (with_reducible refine Below.drew ?_) | (with_reducible refine below_drewN ?_ _) | (with_reducible refine Below.setCell ?_ ?_ _) | (with_reducible refine below_call ?_ ?_ (by assumption)) | go_size))⟩
            rw [HS.out]
            refine CRow.set ?_ (by first | omega | (simp; done) | (simp; omega)) _
            show World.ownsRow _ _ _ _ _ _ _
            rw [flat3_append, List.length_append, HLN.out]
            exact OWN.out
          case measure => simp [intOf]; omega

        · refine wpOp_wp rfl rfl (wp_call_at _ rfl (f := 99) (args := #[.int .i64 h, .int .i64 (q1 % 6), .int .i64 (2), .int .i64 m]) (by go_simp) ((HC.out wr.drew).mono ?_))
          rintro e2 w2 ⟨rfl, hb2⟩
          have qc : ∀ b o, b < wr.heap.size → w2.cell? ⟨b, o, none⟩ = wr.cell? ⟨b, o, none⟩ := fun b o hb => (bcell hb2).1 _ _ hb
          have qf : ∀ b o, b < wr.heap.size → w2.frozen? ⟨b, o, none⟩ = wr.frozen? ⟨b, o, none⟩ := fun b o hb => (bcell hb2).2 _ _ hb
          have hw2 : Below w.heap.size w w2 := hbr.drew.trans (hb2.mono hbr.size)
          have hz2 : wr.heap.size ≤ w2.heap.size := hb2.size
          have y0 := (qc (w.heap.size) 0 (by omega)).trans c0
          have f0 := (qf (w.heap.size) 0 (by omega)).trans z0
          have y1 := (qc (w.heap.size) 1 (by omega)).trans c1
          have f1 := (qf (w.heap.size) 1 (by omega)).trans z1
          have y2 := (qc (w.heap.size + 1) 0 (by omega)).trans c2
          have f2 := (qf (w.heap.size + 1) 0 (by omega)).trans z2
          have y3 := (qc (w.heap.size + 1) 1 (by omega)).trans c3
          have f3 := (qf (w.heap.size + 1) 1 (by omega)).trans z3
          have HO2 := CRow.below (w := wr.drew) HR.out hb2
          unfold CRow at HO2
          rw [HLN.out] at HO2
          clear qc qf
          refine ⟨_, rfl, trivial, ?_⟩
          simp only [Act.put, List.setIfInBounds_toArray, List.set_cons_zero, List.set_cons_succ]
          refine wpAnyH_all (rs := [1, 7]) (by kernel_rfl) (by decide) (List.forall_mem_cons.2 ⟨?_, List.forall_mem_cons.2 ⟨?_, fun _ h => absurd h List.not_mem_nil⟩⟩)
          · have yl : (w2).cell? ⟨w.heap.size + 1, 1, none⟩ = some v := y3
            refine wpOp_value (v := v) (w' := w2) _ rfl rfl rfl (by go_simp; try rfl) ⟨trivial, ?_⟩
            clear yl
            simp only [Act.put, List.setIfInBounds_toArray, List.set_cons_zero, List.set_cons_succ]
            refine wpAnyH_all (rs := [7]) (by kernel_rfl) (by decide) (List.forall_mem_cons.2 ⟨?_, fun _ h => absurd h List.not_mem_nil⟩)
            refine wpOp_value (v := .slice (some ⟨w2.heap.size, 0, none⟩) 1 1) (w' := w2.alloc (.cells #[.int .i64 x, .int .i64 y, .int .i64 z] 25)) _ rfl rfl rfl (by go_simp; try rfl) ⟨trivial, ?_⟩
            simp only [Act.put, List.setIfInBounds_toArray, List.set_cons_zero, List.set_cons_succ]
            refine wpAnyH_all (rs := [8]) (by kernel_rfl) (by decide) (List.forall_mem_cons.2 ⟨?_, fun _ h => absurd h List.not_mem_nil⟩)
            refine wpOp_wp rfl rfl ?_
            refine wp_append_lies _ _ _ _ rfl (w.heap.size + 2) 25 i0 _ 3 24 Try.underlying33 I0.out Z0.out Z1.out Z2.out rfl (by omega) v k _ rfl (HO2.alloc _) ⟨w2.heap.size, 0, none⟩ 1 1 [.int .i64 x, .int .i64 y, .int .i64 z] rfl rfl (World.news_of_block (cs := #[.int .i64 x, .int .i64 y, .int .i64 z]) (t := 25) (fr := (0, 0)) (by simpa using heap_alloc_new w2 _)) (by simp [Value.oneCell']) (by omega) (by unfold maxLen; omega) (by omega) (by simp; omega) (w2.heap.size + 1) (by simp) fun g cap w4 hown3 hgrow hat hlt3 => ?_
            have hb4 : Below w.heap.size w w4 := Below.grown (w := w2.alloc (.cells #[.int .i64 x, .int .i64 y, .int .i64 z] 25)) (Below.alloc hw2 hw2.size _) hgrow (by simp; omega) (fun j hj => by have := (World.ownsRow.lt HO2 j hj).1; omega)
            have hz4 := hgrow.size
            simp only [World.size_alloc] at hz4
            have kc : ∀ b o, b < w.heap.size + 2 → w4.cell? ⟨b, o, none⟩ = w2.cell? ⟨b, o, none⟩ := fun b o hb => (cell_of_heap (hgrow.block b (by simp; omega) (fun e => by have := (World.ownsRow.lt HO2 b e.symm).1; omega))).trans (World.cell?_alloc_past _ _ _ (show b < w2.heap.size by omega))
            have kf : ∀ b o, b < w.heap.size + 2 → w4.frozen? ⟨b, o, none⟩ = w2.frozen? ⟨b, o, none⟩ := fun b o hb => (frozen_of_heap (hgrow.block b (by simp; omega) (fun e => by have := (World.ownsRow.lt HO2 b e.symm).1; omega))).trans ((bcell (Below.alloc (Below.refl w2.heap.size w2) (Nat.le_refl _) _)).2 _ _ (show b < w2.heap.size by omega))
            have v0 := (kc (w.heap.size) 0 (by omega)).trans y0
            have u0 := (kf (w.heap.size) 0 (by omega)).trans f0
            have v1 := (kc (w.heap.size) 1 (by omega)).trans y1
            have u1 := (kf (w.heap.size) 1 (by omega)).trans f1
            have v2 := (kc (w.heap.size + 1) 0 (by omega)).trans y2
            have u2 := (kf (w.heap.size + 1) 0 (by omega)).trans f2
            have v3 := (kc (w.heap.size + 1) 1 (by omega)).trans y3
            have u3 := (kf (w.heap.size + 1) 1 (by omega)).trans f3
            have OWN := Lib.hid hown3
            clear kc kf hown3 hgrow hat HO2
            refine ⟨trivial, ?_⟩
            simp only [Act.put, List.getElem_toArray, List.getElem_cons_succ, List.getElem_cons_zero, List.setIfInBounds_toArray, List.set_cons_zero, List.set_cons_succ]
            refine wpAnyH_all (rs := [9]) (by kernel_rfl) (by decide) (List.forall_mem_cons.2 ⟨?_, fun _ h => absurd h List.not_mem_nil⟩)
            refine wpOp_value (v := .pointer (some ⟨w.heap.size + 1, 1, none⟩)) (w' := w4) _ rfl rfl rfl (by go_simp; try rfl) ⟨trivial, ?_⟩
            simp only [Act.put, List.setIfInBounds_toArray, List.set_cons_zero, List.set_cons_succ]
            refine wpAnyH_all (rs := [10]) (by kernel_rfl) (by decide) (List.forall_mem_cons.2 ⟨?_, fun _ h => absurd h List.not_mem_nil⟩)
            refine wpOp_store rfl rfl (w' := w4.setCell ⟨w.heap.size + 1, 1, none⟩ (.slice (some ⟨g, 0, none⟩) (k + 1) cap)) (by go_simp; try rfl) ⟨trivial, ?_⟩
            refine wpAnyH_done (by kernel_rfl) ?_ _
            go_wp2
            go_roundw
            case rel =>
              refine ⟨k + 1, .slice (some ⟨g, 0, none⟩) (k + 1) cap, t - 1, by have := HK.out; omega, by omega, rfl, by simp only [HS.out], ?_, by go_simp, by go_simp, by go_simp, by go_simp, by go_simp, by go_simp, by go_simp, by go_simp, by first | omega | (simp; done) | (simp; omega), by (repeat' (first | (with_reducible exact Below.refl _ _) | (with_reducible assumption) | (with_reducible refine Below.alloc ?_ ?_ _) | (with_reducible refine Below.drew ?_) | (with_reducible refine below_drewN ?_ _) | (with_reducible refine Below.setCell ?_ ?_ _) | (with_reducible refine below_call ?_ ?_ (by assumption)) | go_size))⟩
              rw [HS.out]
              refine CRow.set ?_ (by first | omega | (simp; done) | (simp; omega)) _
              show World.ownsRow _ _ _ _ _ _ _
              rw [flat3_append, List.length_append, HLN.out]
              exact OWN.out
            case measure => simp [intOf]; omega

          · refine wpOp_value (v := .slice (some ⟨w2.heap.size, 0, none⟩) 1 1) (w' := w2.alloc (.cells #[.int .i64 x, .int .i64 y, .int .i64 z] 25)) _ rfl rfl rfl (by go_simp; try rfl) ⟨trivial, ?_⟩
            simp only [Act.put, List.setIfInBounds_toArray, List.set_cons_zero, List.set_cons_succ]
            refine wpAnyH_all (rs := [1]) (by kernel_rfl) (by decide) (List.forall_mem_cons.2 ⟨?_, fun _ h => absurd h List.not_mem_nil⟩)
            have yl : (w2.alloc (.cells #[.int .i64 x, .int .i64 y, .int .i64 z] 25)).cell? ⟨w.heap.size + 1, 1, none⟩ = some v := (World.cell?_alloc_past _ _ _ (show w.heap.size + 1 < w2.heap.size by omega)).trans y3
            refine wpOp_value (v := v) (w' := w2.alloc (.cells #[.int .i64 x, .int .i64 y, .int .i64 z] 25)) _ rfl rfl rfl (by go_simp; try rfl) ⟨trivial, ?_⟩
            clear yl
            simp only [Act.put, List.setIfInBounds_toArray, List.set_cons_zero, List.set_cons_succ]
            refine wpAnyH_all (rs := [8]) (by kernel_rfl) (by decide) (List.forall_mem_cons.2 ⟨?_, fun _ h => absurd h List.not_mem_nil⟩)
            refine wpOp_wp rfl rfl ?_
            refine wp_append_lies _ _ _ _ rfl (w.heap.size + 2) 25 i0 _ 3 24 Try.underlying33 I0.out Z0.out Z1.out Z2.out rfl (by omega) v k _ rfl (HO2.alloc _) ⟨w2.heap.size, 0, none⟩ 1 1 [.int .i64 x, .int .i64 y, .int .i64 z] rfl rfl (World.news_of_block (cs := #[.int .i64 x, .int .i64 y, .int .i64 z]) (t := 25) (fr := (0, 0)) (by simpa using heap_alloc_new w2 _)) (by simp [Value.oneCell']) (by omega) (by unfold maxLen; omega) (by omega) (by simp; omega) (w2.heap.size + 1) (by simp) fun g cap w4 hown3 hgrow hat hlt3 => ?_
            have hb4 : Below w.heap.size w w4 := Below.grown (w := w2.alloc (.cells #[.int .i64 x, .int .i64 y, .int .i64 z] 25)) (Below.alloc hw2 hw2.size _) hgrow (by simp; omega) (fun j hj => by have := (World.ownsRow.lt HO2 j hj).1; omega)
            have hz4 := hgrow.size
            simp only [World.size_alloc] at hz4
            have kc : ∀ b o, b < w.heap.size + 2 → w4.cell? ⟨b, o, none⟩ = w2.cell? ⟨b, o, none⟩ := fun b o hb => (cell_of_heap (hgrow.block b (by simp; omega) (fun e => by have := (World.ownsRow.lt HO2 b e.symm).1; omega))).trans (World.cell?_alloc_past _ _ _ (show b < w2.heap.size by omega))
            have kf : ∀ b o, b < w.heap.size + 2 → w4.frozen? ⟨b, o, none⟩ = w2.frozen? ⟨b, o, none⟩ := fun b o hb => (frozen_of_heap (hgrow.block b (by simp; omega) (fun e => by have := (World.ownsRow.lt HO2 b e.symm).1; omega))).trans ((bcell (Below.alloc (Below.refl w2.heap.size w2) (Nat.le_refl _) _)).2 _ _ (show b < w2.heap.size by omega))
            have v0 := (kc (w.heap.size) 0 (by omega)).trans y0
            have u0 := (kf (w.heap.size) 0 (by omega)).trans f0
            have v1 := (kc (w.heap.size) 1 (by omega)).trans y1
            have u1 := (kf (w.heap.size) 1 (by omega)).trans f1
            have v2 := (kc (w.heap.size + 1) 0 (by omega)).trans y2
            have u2 := (kf (w.heap.size + 1) 0 (by omega)).trans f2
            have v3 := (kc (w.heap.size + 1) 1 (by omega)).trans y3
            have u3 := (kf (w.heap.size + 1) 1 (by omega)).trans f3
            have OWN := Lib.hid hown3
            clear kc kf hown3 hgrow hat HO2
            refine ⟨trivial, ?_⟩
            simp only [Act.put, List.getElem_toArray, List.getElem_cons_succ, List.getElem_cons_zero, List.setIfInBounds_toArray, List.set_cons_zero, List.set_cons_succ]
            refine wpAnyH_all (rs := [9]) (by kernel_rfl) (by decide) (List.forall_mem_cons.2 ⟨?_, fun _ h => absurd h List.not_mem_nil⟩)
            refine wpOp_value (v := .pointer (some ⟨w.heap.size + 1, 1, none⟩)) (w' := w4) _ rfl rfl rfl (by go_simp; try rfl) ⟨trivial, ?_⟩
            simp only [Act.put, List.setIfInBounds_toArray, List.set_cons_zero, List.set_cons_succ]
            refine wpAnyH_all (rs := [10]) (by kernel_rfl) (by decide) (List.forall_mem_cons.2 ⟨?_, fun _ h => absurd h List.not_mem_nil⟩)
            refine wpOp_store rfl rfl (w' := w4.setCell ⟨w.heap.size + 1, 1, none⟩ (.slice (some ⟨g, 0, none⟩) (k + 1) cap)) (by go_simp; try rfl) ⟨trivial, ?_⟩
            refine wpAnyH_done (by kernel_rfl) ?_ _
            go_wp2
            go_roundw
            case rel =>
              refine ⟨k + 1, .slice (some ⟨g, 0, none⟩) (k + 1) cap, t - 1, by have := HK.out; omega, by omega, rfl, by simp only [HS.out], ?_, by go_simp, by go_simp, by go_simp, by go_simp, by go_simp, by go_simp, by go_simp, by go_simp, by first | omega | (simp; done) | (simp; omega), by (repeat' (first | (with_reducible exact Below.refl _ _) | (with_reducible assumption) | (with_reducible refine Below.alloc ?_ ?_ _) | (with_reducible refine Below.drew ?_) | (with_reducible refine below_drewN ?_ _) | (with_reducible refine Below.setCell ?_ ?_ _) | (with_reducible refine below_call ?_ ?_ (by assumption)) | go_size))⟩
              rw [HS.out]
              refine CRow.set ?_ (by first | omega | (simp; done) | (simp; omega)) _
              show World.ownsRow _ _ _ _ _ _ _
              rw [flat3_append, List.length_append, HLN.out]
              exact OWN.out
            case measure => simp [intOf]; omega


    · have hkn : (k : Int) = n := by have := HK.out; omega
      obtain ⟨a1, cc, rfl, -⟩ := HR.out.inn
      have HMR := Lib.hid (HMK.out hkn)
      clear HMK HS0 hkn
      go_wp2
      (refine bodyPost_ret (by simp [results, Try.results58, go_sem, *]; try rfl) rfl ?_)
      rw [HMR.out]
      exact ⟨_, rfl, ((HR.out.set (a := ⟨w.heap.size, 0, none⟩) (by show w.heap.size < _; omega) _).set (a := ⟨w.heap.size, 1, none⟩) (by show w.heap.size < _; omega) _).mono (by omega), by (repeat' (first | (with_reducible exact Below.refl _ _) | (with_reducible assumption) | (with_reducible refine Below.alloc ?_ ?_ _) | (with_reducible refine Below.drew ?_) | (with_reducible refine below_drewN ?_ _) | (with_reducible refine Below.setCell ?_ ?_ _) | (with_reducible refine below_call ?_ ?_ (by assumption)) | go_size))⟩
end Go.Proofs.Ytcpgjjmamclklaa
