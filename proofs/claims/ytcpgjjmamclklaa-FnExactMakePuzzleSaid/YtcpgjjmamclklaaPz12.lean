/- Puzzles: one without a clue: by the program and by the model. -/
import Derived.Test.YtcpgjjmamclklaaPz11
set_option linter.unusedSimpArgs false
set_option linter.unusedVariables false
set_option maxRecDepth 100000
namespace Go.Proofs.Ytcpgjjmamclklaa
open Go.RowKit

/-- What is handed back where a puzzle is: its hours, its clues, and whether there is one. -/
abbrev PzR : Type := Int × List (Int × Int × Int) × Bool
theorem pz_len {R : PzR} {n : Nat} (h : R.2.1.length ≤ n) (hn : n ≤ 2000000) : R.2.1.length ≤ 2000000 := by omega
set_option maxHeartbeats 3200000 in
theorem pzWithout_any (a : Option Addr) (c : Nat) (L : List (Int × Int × Int)) (k : Nat) (hk : k < L.length) (hc : L.length ≤ c) (hcm : c ≤ maxLen) (hl : L.length ≤ 1048576) (w : World) (hin : CIn w a L) :
    Calls Try.prog 88 #[.slice a L.length c, .int .i64 k] w fun e w' => ∃ v, e = .returned v ∧ CRow w' w.heap.size v (L.eraseIdx k) ∧ Below w.heap.size w w' := by
  obtain ⟨i0, hi0, hz0, hz1, hz2⟩ := info_parts Try.infoClue
  have I0 := Lib.hid hi0
  have Z0 := Lib.hid hz0
  have Z1 := Lib.hid hz1
  have Z2 := Lib.hid hz2
  clear hi0 hz0 hz1 hz2
  have HSL : ∀ W : World, (Instr.slice 33 (.slice a L.length c) (some (.int .i64 ((k : Int) + 1))) none none).run Try.prog W = .ok (.slice (cutA a (k + 1) c) (L.length - (k + 1)) (c - (k + 1))) W := fun W => by
    have := run_cutL Try.underlying33 I0.out Z1.out a L.length c (k + 1) (by omega) W
    rwa [show (((k + 1 : Nat)) : Int) = (k : Int) + 1 from by omega] at this
  have HSH := run_cutH Try.underlying33 I0.out Z1.out a L.length c k (by omega)
  obtain ⟨b, off, rfl, hbl, -⟩ := hin k hk
  have hel : (L.eraseIdx k).length = L.length - 1 := by rw [List.length_eraseIdx]; simp [hk]
  have X1 := Lib.hid (fun W (hb : Below w.heap.size w W) => ((hin.below hb).cut 0 k k (Nat.le_refl _)))
  have X2 := Lib.hid (fun W (hb : Below w.heap.size w W) => ((hin.below hb).cut (k + 1) L.length c hc))
  have HE := Lib.hid (erase_cut (L := L) (k := k))
  have k0 : (0 : Int) ≤ (k : Int) := Int.natCast_nonneg _
  have hlm := hcm
  unfold maxLen at hlm
  have f1 := zw64 (n := (k : Int) + 1) (by omega)
  obtain ⟨off2, ho2, -⟩ := cutA_some b off (k + 1) c
  rw [ho2] at HSL X2
  rw [cutA_zero] at X1
  have hl1 : Hid (((L.take k).drop 0).length = k) := Lib.hid (by rw [List.drop_zero, List.length_take]; omega)
  have hl2 : Hid (((L.take L.length).drop (k + 1)).length = L.length - (k + 1)) := Lib.hid (by rw [List.take_length, List.length_drop])
  have HEL := Lib.hid hel
  clear hin hel
  (go_enter Try.func88, Try.ntmps88)
  go_wp2_with fail
  refine wp_region_held (by kernel_rfl) (S := fun _ => True) ?_
  refine take_first (i := 1) (v := .slice (some ⟨b, off, none⟩) L.length c) _ rfl rfl (by kernel_rfl) (by kernel_rfl) (by kernel_rfl) (fun _ _ _ h => h) (by rfl) ?_ trivial ?_
  · intro wq _
    go_simp
    try rfl
  simp only [Act.put, List.setIfInBounds_toArray, List.set_cons_zero, List.set_cons_succ]
  refine take_first (i := 2) (v := .int .i64 k) _ rfl rfl (by kernel_rfl) (by kernel_rfl) (by kernel_rfl) (fun _ _ _ h => h) (by rfl) ?_ trivial ?_
  · intro wq _
    go_simp
    try rfl
  simp only [Act.put, List.setIfInBounds_toArray, List.set_cons_zero, List.set_cons_succ]
  refine take_first (i := 3) (v := .slice (some ⟨b, off, none⟩) k c) _ rfl rfl (by kernel_rfl) (by kernel_rfl) (by kernel_rfl) (fun _ _ _ h => h) (by rfl) ?_ trivial ?_
  · intro wq _
    go_simp
    try rfl
  simp only [Act.put, List.setIfInBounds_toArray, List.set_cons_zero, List.set_cons_succ]
  refine take_first (i := 5) (v := .slice (some ⟨b, off, none⟩) L.length c) _ rfl rfl (by kernel_rfl) (by kernel_rfl) (by kernel_rfl) (fun _ _ _ h => h) (by rfl) ?_ trivial ?_
  · intro wq _
    go_simp
    try rfl
  simp only [Act.put, List.setIfInBounds_toArray, List.set_cons_zero, List.set_cons_succ]
  refine take_first (i := 6) (v := .int .i64 k) _ rfl rfl (by kernel_rfl) (by kernel_rfl) (by kernel_rfl) (fun _ _ _ h => h) (by rfl) ?_ trivial ?_
  · intro wq _
    go_simp
    try rfl
  simp only [Act.put, List.setIfInBounds_toArray, List.set_cons_zero, List.set_cons_succ]
  refine take_first (i := 7) (v := .int .i64 ((k : Int) + 1)) _ rfl rfl (by kernel_rfl) (by kernel_rfl) (by kernel_rfl) (fun _ _ _ h => h) (by rfl) ?_ trivial ?_
  · intro wq _
    go_simp
    try rfl
  simp only [Act.put, List.setIfInBounds_toArray, List.set_cons_zero, List.set_cons_succ]
  refine take_first (i := 8) (v := .slice (some ⟨b, off2, none⟩) (L.length - (k + 1)) (c - (k + 1))) _ rfl rfl (by kernel_rfl) (by kernel_rfl) (by kernel_rfl) (fun _ _ _ h => h) (by rfl) ?_ trivial ?_
  · intro wq _
    go_simp
    try rfl
  simp only [Act.put, List.setIfInBounds_toArray, List.set_cons_zero, List.set_cons_succ]
  refine wpAnyH_all (rs := [0]) (by kernel_rfl) (by decide) (List.forall_mem_cons.2 ⟨?_, fun _ h => absurd h List.not_mem_nil⟩)
  refine wpOp_value (v := .slice (some ⟨w.drew.heap.size, 0, none⟩) 0 0) (w' := w.drew.alloc (.cells #[] 25)) _ rfl rfl rfl (by go_simp; try rfl) ⟨trivial, ?_⟩
  have O1 := Lib.hid (World.ownsRow_made (base := w.heap.size) (e := 25) (size := 3) w.drew #[] 0 (by go_size) (by unfold maxLen; omega) rfl)
  simp only [Act.put, List.setIfInBounds_toArray, List.set_cons_zero, List.set_cons_succ]
  have hT1 : Below w.heap.size w (w.drew.alloc (.cells #[] 25)) := by (repeat' (first | (with_reducible exact Below.refl _ _) | (with_reducible assumption) | (with_reducible refine Below.alloc ?_ ?_ _) | (with_reducible refine Below.drew ?_) | (with_reducible refine below_drewN ?_ _) | (with_reducible refine Below.setCell ?_ ?_ _) | (with_reducible refine below_call ?_ ?_ (by assumption)) | go_size))
  refine wpAnyH_all (rs := [4]) (by kernel_rfl) (by decide) (List.forall_mem_cons.2 ⟨?_, fun _ h => absurd h List.not_mem_nil⟩)
  refine wpOp_wp rfl rfl (wp_append_own _ _ _ _ rfl w.heap.size 25 i0 _ 3 24 Try.underlying33 I0.out Z0.out Z1.out Z2.out rfl (by omega) (.slice (some ⟨w.drew.heap.size, 0, none⟩) 0 0) 0 [] rfl O1.out
    ⟨b, off, none⟩ k c (flat3 ((L.take k).drop 0)) rfl (by rw [flat3_length, hl1.out]) ((X1.out _ hT1).news) (flat3_one _) (by unfold maxLen; omega) (by omega) (by go_size) ?_)
  intro v4 w4 own4 grow4 _
  have hb4 : Below w.heap.size w w4 := Below.grown (w := w.drew.alloc (.cells #[] 25)) hT1 grow4 (by go_size) (fun j hj => (World.ownsRow.lt O1.out j hj).1)
  have hz4 := hb4.size
  have OWN := Lib.hid own4
  clear own4 grow4
  refine ⟨trivial, ?_⟩
  simp only [Act.put, List.getElem_toArray, List.getElem_cons_succ, List.getElem_cons_zero, List.setIfInBounds_toArray, List.set_cons_zero, List.set_cons_succ]
  refine wpAnyH_all (rs := [9]) (by kernel_rfl) (by decide) (List.forall_mem_cons.2 ⟨?_, fun _ h => absurd h List.not_mem_nil⟩)
  refine wpOp_wp rfl rfl (wp_append_own _ _ _ _ rfl w.heap.size 25 i0 _ 3 24 Try.underlying33 I0.out Z0.out Z1.out Z2.out rfl (by omega) v4 (0 + k) _ rfl OWN.out
    ⟨b, off2, none⟩ (L.length - (k + 1)) (c - (k + 1)) (flat3 ((L.take L.length).drop (k + 1))) rfl (by rw [flat3_length, hl2.out]) ((X2.out _ hb4).news) (flat3_one _) (by unfold maxLen; omega) (by omega) (by omega) ?_)
  intro v5 w5 own5 grow5 _
  have hb5 : Below w.heap.size w w5 := Below.grown (w := w4) hb4 grow5 (by omega) (fun j hj => (World.ownsRow.lt OWN.out j hj).1)
  have HR5 : Hid (CRow w5 w.heap.size v5 (L.eraseIdx k)) := Lib.hid (by
    unfold CRow
    rw [List.nil_append, ← flat3_append, HE.out, show 0 + k + (L.length - (k + 1)) = (L.eraseIdx k).length from by have := HEL.out; omega] at own5
    exact own5)
  clear own5 grow5
  refine ⟨trivial, ?_⟩
  simp only [Act.put, List.getElem_toArray, List.getElem_cons_succ, List.getElem_cons_zero, List.setIfInBounds_toArray, List.set_cons_zero, List.set_cons_succ]
  refine wpAnyH_all (rs := [10]) (by kernel_rfl) (by decide) (List.forall_mem_cons.2 ⟨?_, fun _ h => absurd h List.not_mem_nil⟩)
  refine wpOp_value (v := v5) (w' := w5) _ rfl rfl rfl (by go_simp; try rfl) ⟨trivial, ?_⟩
  simp only [Act.put, List.setIfInBounds_toArray, List.set_cons_zero, List.set_cons_succ]
  refine wpAnyH_done (by kernel_rfl) ?_ _
  go_wp2
  go_ret
  exact ⟨_, rfl, HR5.out, hb5⟩
/-- What DropClue hands back. -/
def drpR (h : Int) (L : List (Int × Int × Int)) (k : Int) : PzR := if okZ h L && inB k 0 ((L.length : Int) - 1) then (h, L.eraseIdx k.toNat, true) else (0, [], false)
theorem drpR_len (h : Int) (L : List (Int × Int × Int)) (k : Int) : (drpR h L k).2.1.length ≤ 2000000 := by
  unfold drpR
  split
  · rename_i hok
    rw [Bool.and_eq_true] at hok
    have h6 := (okZ_bd hok.1).2.1
    have := List.length_eraseIdx_le L k.toNat
    show (L.eraseIdx k.toNat).length ≤ _
    omega
  · simp
set_option maxHeartbeats 800000 in
theorem dropFn_any (h : Int) (a : Option Addr) (c : Nat) (L : List (Int × Int × Int)) (k : Nat) (g : Nat) (hk : k < L.length) (hc : L.length ≤ c) (hcm : c ≤ maxLen) (hl : L.length ≤ 1048576) (w : World) (hin : CIn w a L) (hg : w.cell? ⟨g, 0, none⟩ = some (.int .i64 k)) (hgl : g < w.heap.size) :
    Calls Try.prog 92 #[pzv h (.slice a L.length c), .pointer (some ⟨g, 0, none⟩)] w fun e w' => ∃ v', e = .returned (pzv h v') ∧ CRow w' w.heap.size v' (L.eraseIdx k) ∧ Below w.heap.size w w' := by
  have HC := Lib.hid (fun W (hb : Below w.heap.size w W) => without_any h a c L k hk hc hcm hl W (hin.below hb))
  have hel : (L.eraseIdx k).length ≤ L.length := List.length_eraseIdx_le L k
  clear hin
  (go_enter Try.func92, Try.ntmps92)
  go_wp2_with fail
  refine (HC.out _ (by (repeat' (first | (with_reducible exact Below.refl _ _) | (with_reducible assumption) | (with_reducible refine Below.alloc ?_ ?_ _) | (with_reducible refine Below.drew ?_) | (with_reducible refine below_drewN ?_ _) | (with_reducible refine Below.setCell ?_ ?_ _) | (with_reducible refine below_call ?_ ?_ (by assumption)) | go_size)))).mono ?_
  rintro e1 w1 ⟨a1, c1, rfl, hi1, hc1', hm1, hb1⟩
  have HI := Lib.hid hi1
  have hz1 := hb1.size
  simp only [World.size_alloc] at hz1
  obtain ⟨hc1, hf1⟩ := bcell hb1
  clear hi1
  go_wp2_with fail
  refine (closed_any h a1 c1 (L.eraseIdx k) (by omega) _ HI.out).mono ?_
  rintro e2 w2 ⟨v2, rfl, hr2, hb2⟩
  have HR := Lib.hid (hr2.mono (show w.heap.size + 2 ≤ _ by omega))
  obtain ⟨a2, c2, rfl, -⟩ := hr2.inn
  have hz2 := hb2.size
  obtain ⟨hc2, hf2⟩ := bcell hb2
  clear hr2
  have tc0 : w2.cell? ⟨w.heap.size + 1, 0, none⟩ = some (.int .i64 0) := ((hc2 _ _ (by omega)).trans ((hc1 _ _ (by go_size)).trans (by go_simp)))
  have tf0 : w2.frozen? ⟨w.heap.size + 1, 0, none⟩ = false := ((hf2 _ _ (by omega)).trans ((hf1 _ _ (by go_size)).trans (by go_simp)))
  have tc1 : w2.cell? ⟨w.heap.size + 1, 1, none⟩ = some (.slice none 0 0) := ((hc2 _ _ (by omega)).trans ((hc1 _ _ (by go_size)).trans (by go_simp)))
  have tf1 : w2.frozen? ⟨w.heap.size + 1, 1, none⟩ = false := ((hf2 _ _ (by omega)).trans ((hf1 _ _ (by go_size)).trans (by go_simp)))
  go_wp2
  (refine bodyPost_ret (by simp [results, Try.results92, go_sem, *]; try rfl) rfl ?_)
  exact ⟨_, rfl, ((HR.out.set (a := ⟨w.heap.size + 1, 0, none⟩) (by show w.heap.size + 1 < _; omega) _).set (a := ⟨w.heap.size + 1, 1, none⟩) (by show w.heap.size + 1 < _; omega) _).mono (by omega), by (repeat' (first | (with_reducible exact Below.refl _ _) | (with_reducible assumption) | (with_reducible refine Below.alloc ?_ ?_ _) | (with_reducible refine Below.drew ?_) | (with_reducible refine below_drewN ?_ _) | (with_reducible refine Below.setCell ?_ ?_ _) | (with_reducible refine below_call ?_ ?_ (by assumption)) | go_size))⟩
def drpO (h : Int) (L : List (Int × Int × Int)) (k : Nat) : PzR := if okZ h L then (h, L.eraseIdx k, true) else (0, [], false)
set_option maxHeartbeats 1600000 in
theorem tellDrop_any (h : Int) (a : Option Addr) (c : Nat) (L : List (Int × Int × Int)) (hm : L.length ≤ maxLen) (k : Nat) (hk : k < L.length) (g : Nat) (w : World) (hin : CIn w a L) (hg : w.cell? ⟨g, 0, none⟩ = some (.int .i64 k)) (hgl : g < w.heap.size) :
    Calls Try.prog 91 #[pzv h (.slice a L.length c), .func (.func 92) #[] #[.pointer (some ⟨g, 0, none⟩)]] w fun e w' => ∃ v, e = .returned (.tuple #[pzv (drpO h L k).1 v, .bool (drpO h L k).2.2]) ∧ CRow w' w.heap.size v (drpO h L k).2.1 ∧ Below w.heap.size w w' := by
  have UG := Lib.hid (fun W (hb : Below w.heap.size w W) => ((bcell hb).1 _ _ hgl).trans hg)
  have HC := Lib.hid (fun W (hb : Below w.heap.size w W) => openPuzzle_any h a c L hm W (hin.below hb))
  clear hin
  (go_enter Try.func91, Try.ntmps91)
  go_wp2_with fail
  refine (HC.out _ (by (repeat' (first | (with_reducible exact Below.refl _ _) | (with_reducible assumption) | (with_reducible refine Below.alloc ?_ ?_ _) | (with_reducible refine Below.drew ?_) | (with_reducible refine below_drewN ?_ _) | (with_reducible refine Below.setCell ?_ ?_ _) | (with_reducible refine below_call ?_ ?_ (by assumption)) | go_size)))).mono ?_
  rintro e1 w1 ⟨hb1, ⟨hok, v, rfl, hr⟩ | ⟨hok, rfl⟩⟩
  · obtain ⟨hh, hl6, hall⟩ := okZ_bd hok
    obtain ⟨a1, c1, rfl, hi1, hcap, hcmx⟩ := hr.inn
    have HM := Lib.hid hok
    have HI := Lib.hid hi1
    have hz1 := hb1.size
    simp only [World.size_alloc] at hz1
    obtain ⟨hc1, hf1⟩ := bcell hb1
    have hw1 : w.heap.size + 1 < w1.heap.size := by omega
    have hw2 : w.heap.size + 1 < w1.heap.size + 1 := by omega
    have hw3 : w.heap.size < w1.heap.size := by omega
    have tc0 : w1.cell? ⟨w.heap.size + 1, 0, none⟩ = some (.int .i64 0) := ((hc1 _ _ (by go_size)).trans (by go_simp))
    have tf0 : w1.frozen? ⟨w.heap.size + 1, 0, none⟩ = false := ((hf1 _ _ (by go_size)).trans (by go_simp))
    have tc1 : w1.cell? ⟨w.heap.size + 1, 1, none⟩ = some (.slice none 0 0) := ((hc1 _ _ (by go_size)).trans (by go_simp))
    have tf1 : w1.frozen? ⟨w.heap.size + 1, 1, none⟩ = false := ((hf1 _ _ (by go_size)).trans (by go_simp))
    clear hr hok hi1
    go_wp2_with fail
    refine (dropFn_any h a1 c1 L k g hk hcap hcmx (by omega) _ (HI.out.below (by (repeat' (first | (with_reducible exact Below.refl _ _) | (with_reducible assumption) | (with_reducible refine Below.alloc ?_ ?_ _) | (with_reducible refine Below.drew ?_) | (with_reducible refine below_drewN ?_ _) | (with_reducible refine Below.setCell ?_ ?_ _) | (with_reducible refine below_call ?_ ?_ (by assumption)) | go_size)))) (UG.out _ (by (repeat' (first | (with_reducible exact Below.refl _ _) | (with_reducible assumption) | (with_reducible refine Below.alloc ?_ ?_ _) | (with_reducible refine Below.drew ?_) | (with_reducible refine below_drewN ?_ _) | (with_reducible refine Below.setCell ?_ ?_ _) | (with_reducible refine below_call ?_ ?_ (by assumption)) | go_size)))) (by go_size)).mono ?_
    rintro e2 w2 ⟨v2, rfl, hr2, hb2⟩
    have hz2 := hb2.size
    simp only [World.size_alloc] at hz2
    obtain ⟨hc2, hf2⟩ := bcell hb2
    have ud0 := (hc2 (w.heap.size + 1) 0 (by simp; omega)).trans ((World.cell?_alloc_past _ _ _ hw1).trans tc0)
    have ud1 := (hc2 (w.heap.size + 1) 1 (by simp; omega)).trans ((World.cell?_alloc_past _ _ _ hw1).trans tc1)
    have ue0 := (hf2 (w.heap.size + 1) 0 (by simp; omega)).trans (((bcell (Below.alloc (Below.refl w1.heap.size w1) (Nat.le_refl _) _)).2 _ _ hw1).trans tf0)
    have ue1 := (hf2 (w.heap.size + 1) 1 (by simp; omega)).trans (((bcell (Below.alloc (Below.refl w1.heap.size w1) (Nat.le_refl _) _)).2 _ _ hw1).trans tf1)
    have HR := Lib.hid (hr2.mono (show w.heap.size + 2 ≤ _ by simp; omega))
    obtain ⟨a2, c2, rfl, -⟩ := hr2.inn
    have HMR : Hid (drpO h L k = (h, L.eraseIdx k, true)) := Lib.hid (by simp [HM.out, drpO])
    clear hr2 hc2 hf2 hc1 hf1 tc0 tc1 tf0 tf1
    go_wp2
    (refine bodyPost_ret (by simp [results, Try.results91, go_sem, *]; try rfl) rfl ?_)
    rw [HMR.out]
    exact ⟨_, rfl, ((HR.out.set (a := ⟨w.heap.size + 1, 0, none⟩) (by show w.heap.size + 1 < _; omega) _).set (a := ⟨w.heap.size + 1, 1, none⟩) (by show w.heap.size + 1 < _; omega) _).mono (by omega), by (repeat' (first | (with_reducible exact Below.refl _ _) | (with_reducible assumption) | (with_reducible refine Below.alloc ?_ ?_ _) | (with_reducible refine Below.drew ?_) | (with_reducible refine below_drewN ?_ _) | (with_reducible refine Below.setCell ?_ ?_ _) | (with_reducible refine below_call ?_ ?_ (by assumption)) | go_size))⟩
  · have HM := Lib.hid hok
    have hz1 := hb1.size
    simp only [World.size_alloc] at hz1
    obtain ⟨hc1, hf1⟩ := bcell hb1
    have hw1 : w.heap.size + 1 < w1.heap.size := by omega
    have hw2 : w.heap.size + 1 < w1.heap.size + 1 := by omega
    have hw3 : w.heap.size < w1.heap.size := by omega
    have tc0 : w1.cell? ⟨w.heap.size + 1, 0, none⟩ = some (.int .i64 0) := ((hc1 _ _ (by go_size)).trans (by go_simp))
    have tf0 : w1.frozen? ⟨w.heap.size + 1, 0, none⟩ = false := ((hf1 _ _ (by go_size)).trans (by go_simp))
    have tc1 : w1.cell? ⟨w.heap.size + 1, 1, none⟩ = some (.slice none 0 0) := ((hc1 _ _ (by go_size)).trans (by go_simp))
    have tf1 : w1.frozen? ⟨w.heap.size + 1, 1, none⟩ = false := ((hf1 _ _ (by go_size)).trans (by go_simp))
    have HMR : Hid (drpO h L k = (0, [], false)) := Lib.hid (by simp [HM.out, drpO])
    clear hok hc1 hf1
    go_wp2
    (refine bodyPost_ret (by simp [results, Try.results91, go_sem, *]; try rfl) rfl ?_)
    rw [HMR.out]
    exact ⟨_, rfl, CRow.nil _ _, by (repeat' (first | (with_reducible exact Below.refl _ _) | (with_reducible assumption) | (with_reducible refine Below.alloc ?_ ?_ _) | (with_reducible refine Below.drew ?_) | (with_reducible refine below_drewN ?_ _) | (with_reducible refine Below.setCell ?_ ?_ _) | (with_reducible refine below_call ?_ ?_ (by assumption)) | go_size))⟩
end Go.Proofs.Ytcpgjjmamclklaa
