/- Puzzles: DropClue: by the program and by the model. -/
import Derived.Test.YtcpgjjmamclklaaPz12
set_option linter.unusedSimpArgs false
set_option linter.unusedVariables false
set_option maxRecDepth 100000
namespace Go.Proofs.Ytcpgjjmamclklaa
open Go.RowKit

theorem ret_pz {R R' : PzR} {v : Value} (h : R = R') : Ending.returned (.tuple #[pzv R.1 v, .bool R.2.2]) = .returned (.tuple #[pzv R'.1 v, .bool R'.2.2]) := by rw [h]
set_option maxHeartbeats 1600000 in
theorem implDropClue_any (h : Int) (a : Option Addr) (c : Nat) (L : List (Int × Int × Int)) (t : Int) (kt : I64 t) (hm : L.length ≤ maxLen) (w : World) (hin : CIn w a L) :
    Calls Try.prog 48 #[pzv h (.slice a L.length c), .int .i64 t] w fun e w' => ∃ v, e = .returned (.tuple #[pzv (drpR h L t).1 v, .bool (drpR h L t).2.2]) ∧ CRow w' w.heap.size v (drpR h L t).2.1 ∧ Below w.heap.size w w' := by
  have hmf : ∀ (fn : Fn) (first cap : Array Value) (w : World), (Instr.makeFunc fn first cap).run Try.prog w = .ok (.func fn first cap) w := fun _ _ _ _ => rfl
  have hlm := hm
  unfold maxLen at hlm
  have f1 := zw64 (n := (L.length : Int) - 1) (by omega)
  cases gb : inB t 0 ((L.length : Int) - 1)
  · have HM := Lib.hid (show drpR h L t = (0, [], false) from by simp [drpR, gb])
    clear hin
    (go_enter Try.func48, Try.ntmps48)
    go_wp2_with fail
    refine (isWithin_is _ _ _ gb _).mono ?_
    (rintro e1 w1 ⟨rfl, rfl⟩)
    go_wp2
    (refine bodyPost_ret (by simp [results, Try.results48, go_sem, *]; try rfl) rfl ?_)
    rw [HM.out]
    exact ⟨_, rfl, CRow.nil _ _, by (repeat' (first | (with_reducible exact Below.refl _ _) | (with_reducible assumption) | (with_reducible refine Below.alloc ?_ ?_ _) | (with_reducible refine Below.drew ?_) | (with_reducible refine below_drewN ?_ _) | (with_reducible refine Below.setCell ?_ ?_ _) | (with_reducible refine below_call ?_ ?_ (by assumption)) | go_size))⟩
  · have hb := inB_bd gb
    obtain ⟨n, rfl⟩ : ∃ n : Nat, t = n := ⟨t.toNat, by omega⟩
    have HM := Lib.hid (show drpR h L (n : Int) = drpO h L n from by simp [drpR, drpO, gb])
    have HC := Lib.hid (fun W (hb : Below w.heap.size w W) => tellDrop_any h a c L hm n (by omega) (w.heap.size + 1) W (hin.below hb))
    clear hin
    (go_enter Try.func48, Try.ntmps48)
    go_wp2_with fail
    refine (isWithin_is _ _ _ gb _).mono ?_
    (rintro e1 w1 ⟨rfl, rfl⟩)
    go_wp2_with fail
    refine (HC.out _ (by (repeat' (first | (with_reducible exact Below.refl _ _) | (with_reducible assumption) | (with_reducible refine Below.alloc ?_ ?_ _) | (with_reducible refine Below.drew ?_) | (with_reducible refine below_drewN ?_ _) | (with_reducible refine Below.setCell ?_ ?_ _) | (with_reducible refine below_call ?_ ?_ (by assumption)) | go_size))) (by go_simp) (by go_size)).mono ?_
    rintro e1 w1 ⟨v1, rfl, hr1, hb1⟩
    have HR := Lib.hid (hr1.mono (show w.heap.size + 3 ≤ _ by simp))
    obtain ⟨a1, c1, rfl, -⟩ := hr1.inn
    have hz1 := hb1.size
    simp only [World.size_alloc] at hz1
    obtain ⟨hc1, hf1⟩ := bcell hb1
    have tc0 : w1.cell? ⟨w.heap.size + 1 + 1, 0, none⟩ = some (.int .i64 0) := ((hc1 _ _ (by go_size)).trans (by go_simp))
    have tf0 : w1.frozen? ⟨w.heap.size + 1 + 1, 0, none⟩ = false := ((hf1 _ _ (by go_size)).trans (by go_simp))
    have tc1 : w1.cell? ⟨w.heap.size + 1 + 1, 1, none⟩ = some (.slice none 0 0) := ((hc1 _ _ (by go_size)).trans (by go_simp))
    have tf1 : w1.frozen? ⟨w.heap.size + 1 + 1, 1, none⟩ = false := ((hf1 _ _ (by go_size)).trans (by go_simp))
    clear hr1 hc1 hf1
    go_wp2
    (refine bodyPost_ret (by simp [results, Try.results48, go_sem, *]; try rfl) rfl ?_)
    rw [HM.out]
    exact ⟨_, rfl, ((HR.out.set (a := ⟨w.heap.size + 1 + 1, 0, none⟩) (by show w.heap.size + 1 + 1 < _; omega) _).set (a := ⟨w.heap.size + 1 + 1, 1, none⟩) (by show w.heap.size + 1 + 1 < _; omega) _).mono (by omega), by (repeat' (first | (with_reducible exact Below.refl _ _) | (with_reducible assumption) | (with_reducible refine Below.alloc ?_ ?_ _) | (with_reducible refine Below.drew ?_) | (with_reducible refine below_drewN ?_ _) | (with_reducible refine Below.setCell ?_ ?_ _) | (with_reducible refine below_call ?_ ?_ (by assumption)) | go_size))⟩
set_option maxHeartbeats 1600000 in
theorem specDropClue_any (h : Int) (a : Option Addr) (c : Nat) (L : List (Int × Int × Int)) (t : Int) (kt : I64 t) (hm : L.length ≤ maxLen) (hc : L.length ≤ c) (hcm : c ≤ maxLen) (w : World) (hin : CIn w a L) :
    Calls Try.prog 47 #[pzv h (.slice a L.length c), .int .i64 t] w fun e w' => ∃ v, e = .returned (.tuple #[pzv (drpR h L t).1 v, .bool (drpR h L t).2.2]) ∧ CRow w' w.heap.size v (drpR h L t).2.1 ∧ Below w.heap.size w w' := by
  have HX := Lib.hid (fun W (hb : Below w.heap.size w W) => hin.below hb)
  cases hok : okZ h L
  · have HC := Lib.hid (fun W (hb : Below w.heap.size w W) => pzGood_is h a c L hm hok W (hin.below hb))
    have HM := Lib.hid hok
    clear hin hok
    (go_enter Try.func47, Try.ntmps47)
    go_wp2_with fail
    refine (HC.out _ (by (repeat' (first | (with_reducible exact Below.refl _ _) | (with_reducible assumption) | (with_reducible refine Below.alloc ?_ ?_ _) | (with_reducible refine Below.drew ?_) | (with_reducible refine below_drewN ?_ _) | (with_reducible refine Below.setCell ?_ ?_ _) | (with_reducible refine below_call ?_ ?_ (by assumption)) | go_size)))).mono ?_
    (rintro e1 w1 ⟨rfl, hb1⟩; obtain ⟨hc1, hf1⟩ := bcell hb1; have hz1 := hb1.size; (try simp only [World.size_alloc, World.size_setCell, World.size_drew] at hz1); have q1 : w.heap.size ≤ w1.heap.size := (by omega); (try have q1_0 : w.heap.size < w1.heap.size := (by omega)); (try have q1_1 : w.heap.size + 1 < w1.heap.size := (by omega)); (try have q1_2 : w.heap.size + 2 < w1.heap.size := (by omega)); (try have q1_3 : w.heap.size + 3 < w1.heap.size := (by omega)))
    go_wp2
    (refine bodyPost_ret (by simp [results, Try.results47, go_sem, *]; try rfl) rfl ?_)
    rw [show drpR h L t = (0, [], false) from by simp [drpR, HM.out]]
    exact ⟨_, rfl, CRow.nil _ _, by (repeat' (first | (with_reducible exact Below.refl _ _) | (with_reducible assumption) | (with_reducible refine Below.alloc ?_ ?_ _) | (with_reducible refine Below.drew ?_) | (with_reducible refine below_drewN ?_ _) | (with_reducible refine Below.setCell ?_ ?_ _) | (with_reducible refine below_call ?_ ?_ (by assumption)) | go_size))⟩
  · have HC := Lib.hid (fun W (hb : Below w.heap.size w W) => pzGood_is h a c L hm hok W (hin.below hb))
    have HM := Lib.hid hok
    obtain ⟨hh, hl6, hall⟩ := okZ_bd hok
    clear hin hok
    (go_enter Try.func47, Try.ntmps47)
    go_wp2_with fail
    refine (HC.out _ (by (repeat' (first | (with_reducible exact Below.refl _ _) | (with_reducible assumption) | (with_reducible refine Below.alloc ?_ ?_ _) | (with_reducible refine Below.drew ?_) | (with_reducible refine below_drewN ?_ _) | (with_reducible refine Below.setCell ?_ ?_ _) | (with_reducible refine below_call ?_ ?_ (by assumption)) | go_size)))).mono ?_
    (rintro e1 w1 ⟨rfl, hb1⟩; obtain ⟨hc1, hf1⟩ := bcell hb1; have hz1 := hb1.size; (try simp only [World.size_alloc, World.size_setCell, World.size_drew] at hz1); have q1 : w.heap.size ≤ w1.heap.size := (by omega); (try have q1_0 : w.heap.size < w1.heap.size := (by omega)); (try have q1_1 : w.heap.size + 1 < w1.heap.size := (by omega)); (try have q1_2 : w.heap.size + 2 < w1.heap.size := (by omega)); (try have q1_3 : w.heap.size + 3 < w1.heap.size := (by omega)))
    have f1 := zw64 (n := (L.length : Int) - 1) (by omega)
    cases gb : inB t 0 ((L.length : Int) - 1)
    · have HM2 := Lib.hid (show drpR h L t = (0, [], false) from by simp [drpR, gb])
      go_wp2_with fail
      refine (l1In_is _ _ _ gb _).mono ?_
      (rintro e1 w1 ⟨rfl, rfl⟩)
      go_wp2
      (refine bodyPost_ret (by simp [results, Try.results47, go_sem, *]; try rfl) rfl ?_)
      rw [HM2.out]
      exact ⟨_, rfl, CRow.nil _ _, by (repeat' (first | (with_reducible exact Below.refl _ _) | (with_reducible assumption) | (with_reducible refine Below.alloc ?_ ?_ _) | (with_reducible refine Below.drew ?_) | (with_reducible refine below_drewN ?_ _) | (with_reducible refine Below.setCell ?_ ?_ _) | (with_reducible refine below_call ?_ ?_ (by assumption)) | go_size))⟩
    · have hb := inB_bd gb
      obtain ⟨n, rfl⟩ : ∃ n : Nat, t = n := ⟨t.toNat, by omega⟩
      have HM2 := Lib.hid (show drpR h L (n : Int) = (h, L.eraseIdx n, true) from by simp [drpR, gb, HM.out])
      have HP := Lib.hid (fun W hW => pzWithout_any a c L n (by omega) hc hcm (by omega) W hW)
      have x0 : w1.cell? ⟨w.heap.size, 0, none⟩ = some (.int .i64 h) := (hc1 _ _ (by go_size)).trans (by go_simp)
      have x1 : w1.cell? ⟨w.heap.size, 1, none⟩ = some (.slice a L.length c) := (hc1 _ _ (by go_size)).trans (by go_simp)
      have tc0 : w1.cell? ⟨w.heap.size + 1, 0, none⟩ = some (.int .i64 0) := ((hc1 _ _ (by go_size)).trans (by go_simp))
      have tf0 : w1.frozen? ⟨w.heap.size + 1, 0, none⟩ = false := ((hf1 _ _ (by go_size)).trans (by go_simp))
      have tc1 : w1.cell? ⟨w.heap.size + 1, 1, none⟩ = some (.slice none 0 0) := ((hc1 _ _ (by go_size)).trans (by go_simp))
      have tf1 : w1.frozen? ⟨w.heap.size + 1, 1, none⟩ = false := ((hf1 _ _ (by go_size)).trans (by go_simp))
      have hbw1 : Below w.heap.size w w1 := by (repeat' (first | (with_reducible exact Below.refl _ _) | (with_reducible assumption) | (with_reducible refine Below.alloc ?_ ?_ _) | (with_reducible refine Below.drew ?_) | (with_reducible refine below_drewN ?_ _) | (with_reducible refine Below.setCell ?_ ?_ _) | (with_reducible refine below_call ?_ ?_ (by assumption)) | go_size))
      go_wp2_with fail
      refine (l1In_is _ _ _ gb _).mono ?_
      (rintro e1 w1 ⟨rfl, rfl⟩)
      go_wp2_with fail
      have hS1 : w1.drew.cell? ⟨w.heap.size, 0, none⟩ = some (.int .i64 h) ∧ w1.drew.cell? ⟨w.heap.size, 1, none⟩ = some (.slice a L.length c) := ⟨x0, x1⟩
      refine wp_region_held (by kernel_rfl) (S := fun W => W.cell? ⟨w.heap.size, 0, none⟩ = some (.int .i64 h) ∧ W.cell? ⟨w.heap.size, 1, none⟩ = some (.slice a L.length c)) ?_
      refine take_first (i := 0) (v := .pointer (some ⟨w.heap.size, 0, none⟩)) _ rfl rfl (by kernel_rfl) (by kernel_rfl) (by kernel_rfl) (fun _ _ _ h => h) (by rfl) ?_ (by assumption) ?_
      · intro wq hq
        obtain ⟨s0, s1⟩ := hq
        go_simp
        try rfl
      simp only [Act.put, List.setIfInBounds_toArray, List.set_cons_zero, List.set_cons_succ]
      refine take_first (i := 1) (v := .int .i64 h) _ rfl rfl (by kernel_rfl) (by kernel_rfl) (by kernel_rfl) (fun _ _ _ h => h) (by rfl) ?_ (by assumption) ?_
      · intro wq hq
        obtain ⟨s0, s1⟩ := hq
        go_simp
        try rfl
      simp only [Act.put, List.setIfInBounds_toArray, List.set_cons_zero, List.set_cons_succ]
      refine take_first (i := 2) (v := .pointer (some ⟨w.heap.size, 1, none⟩)) _ rfl rfl (by kernel_rfl) (by kernel_rfl) (by kernel_rfl) (fun _ _ _ h => h) (by rfl) ?_ (by assumption) ?_
      · intro wq hq
        obtain ⟨s0, s1⟩ := hq
        go_simp
        try rfl
      simp only [Act.put, List.setIfInBounds_toArray, List.set_cons_zero, List.set_cons_succ]
      refine take_first (i := 3) (v := .slice a L.length c) _ rfl rfl (by kernel_rfl) (by kernel_rfl) (by kernel_rfl) (fun _ _ _ h => h) (by rfl) ?_ (by assumption) ?_
      · intro wq hq
        obtain ⟨s0, s1⟩ := hq
        go_simp
        try rfl
      simp only [Act.put, List.setIfInBounds_toArray, List.set_cons_zero, List.set_cons_succ]
      refine take_first (i := 4) (v := .int .i64 n) _ rfl rfl (by kernel_rfl) (by kernel_rfl) (by kernel_rfl) (fun _ _ _ h => h) (by rfl) ?_ (by assumption) ?_
      · intro wq hq
        obtain ⟨s0, s1⟩ := hq
        go_simp
        try rfl
      simp only [Act.put, List.setIfInBounds_toArray, List.set_cons_zero, List.set_cons_succ]
      refine wpAnyH_all (rs := [5]) (by kernel_rfl) (by decide) (List.forall_mem_cons.2 ⟨?_, fun _ h => absurd h List.not_mem_nil⟩)
      refine wpOp_wp rfl rfl (wp_call_at _ rfl (f := 88) (args := #[.slice a L.length c, .int .i64 n]) (by go_simp) ((HP.out _ (HX.out _ hbw1.drew)).mono ?_))
      rintro e2 w2 ⟨v2, rfl, hr2, hb2⟩
      obtain ⟨a2, c2, rfl, -⟩ := hr2.inn
      have HR := Lib.hid (hr2.mono (show w.heap.size + 2 ≤ w1.drew.heap.size by show w.heap.size + 2 ≤ w1.heap.size; omega))
      have hE2 : Below w1.heap.size w1 w2 := (Below.refl _ _).drew.trans hb2
      have hz2 := hE2.size
      obtain ⟨hc2, hf2⟩ := bcell hE2
      have s0 := (hc2 _ _ (show w.heap.size < _ by omega)).trans x0
      have s1 := (hc2 _ _ (show w.heap.size < _ by omega)).trans x1
      have ud0 := (hc2 (w.heap.size + 1) 0 (by omega)).trans tc0
      have ud1 := (hc2 (w.heap.size + 1) 1 (by omega)).trans tc1
      have ue0 := (hf2 (w.heap.size + 1) 0 (by omega)).trans tf0
      have ue1 := (hf2 (w.heap.size + 1) 1 (by omega)).trans tf1
      clear hr2 hc2 hf2
      refine ⟨_, rfl, ⟨s0, s1⟩, ?_⟩
      simp only [Act.put, List.setIfInBounds_toArray, List.set_cons_zero, List.set_cons_succ]
      refine wpAnyH_all (rs := [6]) (by kernel_rfl) (by decide) (List.forall_mem_cons.2 ⟨?_, fun _ h => absurd h List.not_mem_nil⟩)
      refine wpOp_value (v := .agg #[.int .i64 h, .slice a2 (L.eraseIdx n).length c2]) (w' := w2) _ rfl rfl rfl (by go_simp; try rfl) ⟨⟨s0, s1⟩, ?_⟩
      simp only [Act.put, List.setIfInBounds_toArray, List.set_cons_zero, List.set_cons_succ]
      refine wpAnyH_all (rs := [7]) (by kernel_rfl) (by decide) (List.forall_mem_cons.2 ⟨?_, fun _ h => absurd h List.not_mem_nil⟩)
      refine wpOp_store rfl rfl (w' := (w2.setCell ⟨w.heap.size + 1, 0, none⟩ (.int .i64 (h))).setCell ⟨w.heap.size + 1, 1, none⟩ (.slice a2 (L.eraseIdx n).length c2)) (by go_simp; try rfl) ⟨⟨by go_simp, by go_simp⟩, ?_⟩
      refine wpAnyH_all (rs := [8]) (by kernel_rfl) (by decide) (List.forall_mem_cons.2 ⟨?_, fun _ h => absurd h List.not_mem_nil⟩)
      refine wpOp_value (v := .bool true) (w' := (w2.setCell ⟨w.heap.size + 1, 0, none⟩ (.int .i64 h)).setCell ⟨w.heap.size + 1, 1, none⟩ (.slice a2 (L.eraseIdx n).length c2)) _ rfl rfl rfl (by go_simp; try rfl) ⟨⟨by go_simp, by go_simp⟩, ?_⟩
      simp only [Act.put, List.setIfInBounds_toArray, List.set_cons_zero, List.set_cons_succ]
      refine wpAnyH_done (by kernel_rfl) ?_ _
      have hbw : Below w.heap.size w w2 := hbw1.trans (hE2.mono hbw1.size)
      go_wp2
      (refine bodyPost_ret (by simp [results, Try.results47, go_sem, *]; try rfl) rfl ?_)
      rw [HM2.out]
      exact ⟨_, rfl, ((HR.out.set (a := ⟨w.heap.size + 1, 0, none⟩) (by show w.heap.size + 1 < _; omega) _).set (a := ⟨w.heap.size + 1, 1, none⟩) (by show w.heap.size + 1 < _; omega) _).mono (by omega), by (repeat' (first | (with_reducible exact Below.refl _ _) | (with_reducible assumption) | (with_reducible refine Below.alloc ?_ ?_ _) | (with_reducible refine Below.drew ?_) | (with_reducible refine below_drewN ?_ _) | (with_reducible refine Below.setCell ?_ ?_ _) | (with_reducible refine below_call ?_ ?_ (by assumption)) | go_size))⟩

end Go.Proofs.Ytcpgjjmamclklaa
