/- Puzzles: HarderPuzzle: by the program and by the model. -/
import Derived.Test.YtcpgjjmamclklaaPz13
set_option linter.unusedSimpArgs false
set_option linter.unusedVariables false
set_option maxRecDepth 100000
namespace Go.Proofs.Ytcpgjjmamclklaa
open Go.RowKit

set_option maxHeartbeats 3200000 in
theorem without2_any (h : Int) (a : Option Addr) (c : Nat) (L : List (Int × Int × Int)) (k : Nat) (hk : k < L.length) (hc : L.length ≤ c) (hcm : c ≤ maxLen) (hl : L.length ≤ 1048576) (w : World) (hin : CIn w a L) :
    Calls Try.prog 93 #[pzv h (.slice a L.length c), .int .i64 k] w fun e w' => ∃ a' c', e = .returned (pzv h (.slice a' (L.eraseIdx k).length c')) ∧ CIn w' a' (L.eraseIdx k) ∧ (L.eraseIdx k).length ≤ c' ∧ c' ≤ maxLen ∧ (∀ b' off', a' = some ⟨b', off', none⟩ → a.map (·.block) = some b' ∨ w.heap.size ≤ b') ∧ Below w.heap.size w w' := by
  obtain ⟨i0, hi0, hz0, hz1, hz2⟩ := info_parts Try.infoParts
  have I0 := Lib.hid hi0
  have Z0 := Lib.hid hz0
  have Z1 := Lib.hid hz1
  have Z2 := Lib.hid hz2
  clear hi0 hz0 hz1 hz2
  have HSL : ∀ W : World, (Instr.slice 70 (.slice a L.length c) (some (.int .i64 ((k : Int) + 1))) none none).run Try.prog W = .ok (.slice (cutA a (k + 1) c) (L.length - (k + 1)) (c - (k + 1))) W := fun W => by
    have := run_cutL Try.underlying70 I0.out Z1.out a L.length c (k + 1) (by omega) W
    rwa [show (((k + 1 : Nat)) : Int) = (k : Int) + 1 from by omega] at this
  obtain ⟨b, off, rfl, hbl, -⟩ := hin k hk
  have hel : (L.eraseIdx k).length = L.length - 1 := by rw [List.length_eraseIdx]; simp [hk]
  have X1 := Lib.hid (fun W (hb : Below w.heap.size w W) => ((hin.below hb).cut 0 k k (Nat.le_refl _)))
  have X2 := Lib.hid (fun W (hb : Below w.heap.size w W) => ((hin.below hb).cut (k + 1) L.length c hc))
  have HE := Lib.hid (erase_cut (L := L) (k := k))
  have k0 : (0 : Int) ≤ (k : Int) := Int.natCast_nonneg _
  have hlm := hcm
  unfold maxLen at hlm
  have f1 := zw64 (n := (k : Int) + 1) (by omega)
  have HC := Lib.hid (fun W => cut0_any h (some ⟨b, off, none⟩) L.length c k (by omega) hcm W)
  obtain ⟨off2, ho2, -⟩ := cutA_some b off (k + 1) c
  rw [ho2] at HSL X2
  rw [cutA_zero] at X1
  clear hin
  have a := some (⟨b, off, none⟩ : Addr)
  (go_enter Try.func93, Try.ntmps93)
  go_wp2_with fail
  have g0 : ((w.alloc (Obj.cells #[Value.int .i64 h, Value.slice (some ⟨b, off, none⟩) L.length c] 72)).alloc (Obj.cells #[Value.int .i64 0, Value.slice none 0 0] 72)).cell? ⟨w.heap.size, 0, none⟩ = some (.int .i64 h) := by go_simp
  have g1 : ((w.alloc (Obj.cells #[Value.int .i64 h, Value.slice (some ⟨b, off, none⟩) L.length c] 72)).alloc (Obj.cells #[Value.int .i64 0, Value.slice none 0 0] 72)).cell? ⟨w.heap.size, 1, none⟩ = some (.slice (some ⟨b, off, none⟩) L.length c) := by go_simp
  have g2 : ((w.alloc (Obj.cells #[Value.int .i64 h, Value.slice (some ⟨b, off, none⟩) L.length c] 72)).alloc (Obj.cells #[Value.int .i64 0, Value.slice none 0 0] 72)).cell? ⟨w.heap.size + 1, 0, none⟩ = some (.int .i64 0) := by go_simp
  have g3 : ((w.alloc (Obj.cells #[Value.int .i64 h, Value.slice (some ⟨b, off, none⟩) L.length c] 72)).alloc (Obj.cells #[Value.int .i64 0, Value.slice none 0 0] 72)).cell? ⟨w.heap.size + 1, 1, none⟩ = some (.slice none 0 0) := by go_simp
  have g4 : ((w.alloc (Obj.cells #[Value.int .i64 h, Value.slice (some ⟨b, off, none⟩) L.length c] 72)).alloc (Obj.cells #[Value.int .i64 0, Value.slice none 0 0] 72)).frozen? ⟨w.heap.size + 1, 0, none⟩ = false := by go_simp
  have g5 : ((w.alloc (Obj.cells #[Value.int .i64 h, Value.slice (some ⟨b, off, none⟩) L.length c] 72)).alloc (Obj.cells #[Value.int .i64 0, Value.slice none 0 0] 72)).frozen? ⟨w.heap.size + 1, 1, none⟩ = false := by go_simp
  have hzE : ((w.alloc (Obj.cells #[Value.int .i64 h, Value.slice (some ⟨b, off, none⟩) L.length c] 72)).alloc (Obj.cells #[Value.int .i64 0, Value.slice none 0 0] 72)).heap.size = w.heap.size + 2 := by simp
  have hbE : Below w.heap.size w ((w.alloc (Obj.cells #[Value.int .i64 h, Value.slice (some ⟨b, off, none⟩) L.length c] 72)).alloc (Obj.cells #[Value.int .i64 0, Value.slice none 0 0] 72)) := by (repeat' (first | (with_reducible exact Below.refl _ _) | (with_reducible assumption) | (with_reducible refine Below.alloc ?_ ?_ _) | (with_reducible refine Below.drew ?_) | (with_reducible refine below_drewN ?_ _) | (with_reducible refine Below.setCell ?_ ?_ _) | (with_reducible refine below_call ?_ ?_ (by assumption)) | go_size))
  generalize ((w.alloc (Obj.cells #[Value.int .i64 h, Value.slice (some ⟨b, off, none⟩) L.length c] 72)).alloc (Obj.cells #[Value.int .i64 0, Value.slice none 0 0] 72)) = E at *
  have HSB : Hid (∀ W, Below E.heap.size E W → W.cell? ⟨w.heap.size, 0, none⟩ = some (.int .i64 h) ∧ W.cell? ⟨w.heap.size, 1, none⟩ = some (.slice (some ⟨b, off, none⟩) L.length c)) := Lib.hid (fun W hb => by
    have hc := (bcell hb).1
    exact ⟨(hc _ _ (by omega)).trans g0, (hc _ _ (by omega)).trans g1⟩)
  have hBd : Below E.heap.size E E.drew := (Below.refl _ _).drew
  have hS1 := HSB.out _ hBd
  refine wp_region_held (by kernel_rfl) (S := fun W => W.cell? ⟨w.heap.size, 0, none⟩ = some (.int .i64 h) ∧ W.cell? ⟨w.heap.size, 1, none⟩ = some (.slice (some ⟨b, off, none⟩) L.length c)) ?_
  refine take_first (i := 0) (v := .pointer (some ⟨w.heap.size, 0, none⟩)) _ rfl rfl (by kernel_rfl) (by kernel_rfl) (by kernel_rfl) (fun _ _ _ h => h) (by rfl) ?_ (by assumption) ?_
  · intro wq hq
    obtain ⟨s0, s1⟩ := hq
    go_simp
    try rfl
  simp only [Act.put, List.setIfInBounds_toArray, List.set_cons_zero, List.set_cons_succ]
  refine take_first (i := 1) (v := .int .i64 h) _ rfl rfl (by kernel_rfl) (by kernel_rfl) (by kernel_rfl) (fun _ _ _ h => h) (by rfl) ?_ (by assumption) ?_
  · intro wq hq
    obtain ⟨s0, s1⟩ := hq
    go_simp
    try rfl
  simp only [Act.put, List.setIfInBounds_toArray, List.set_cons_zero, List.set_cons_succ]
  refine take_first (i := 2) (v := pzv h (.slice (some ⟨b, off, none⟩) L.length c)) _ rfl rfl (by kernel_rfl) (by kernel_rfl) (by kernel_rfl) (fun _ _ _ h => h) (by rfl) ?_ (by assumption) ?_
  · intro wq hq
    obtain ⟨s0, s1⟩ := hq
    go_simp
    try rfl
  simp only [Act.put, List.setIfInBounds_toArray, List.set_cons_zero, List.set_cons_succ]
  refine take_first (i := 3) (v := .int .i64 k) _ rfl rfl (by kernel_rfl) (by kernel_rfl) (by kernel_rfl) (fun _ _ _ h => h) (by rfl) ?_ (by assumption) ?_
  · intro wq hq
    obtain ⟨s0, s1⟩ := hq
    go_simp
    try rfl
  simp only [Act.put, List.setIfInBounds_toArray, List.set_cons_zero, List.set_cons_succ]
  refine take_first (i := 6) (v := .pointer (some ⟨w.heap.size, 1, none⟩)) _ rfl rfl (by kernel_rfl) (by kernel_rfl) (by kernel_rfl) (fun _ _ _ h => h) (by rfl) ?_ (by assumption) ?_
  · intro wq hq
    obtain ⟨s0, s1⟩ := hq
    go_simp
    try rfl
  simp only [Act.put, List.setIfInBounds_toArray, List.set_cons_zero, List.set_cons_succ]
  refine take_first (i := 7) (v := .slice (some ⟨b, off, none⟩) L.length c) _ rfl rfl (by kernel_rfl) (by kernel_rfl) (by kernel_rfl) (fun _ _ _ h => h) (by rfl) ?_ (by assumption) ?_
  · intro wq hq
    obtain ⟨s0, s1⟩ := hq
    go_simp
    try rfl
  simp only [Act.put, List.setIfInBounds_toArray, List.set_cons_zero, List.set_cons_succ]
  refine take_first (i := 8) (v := .int .i64 k) _ rfl rfl (by kernel_rfl) (by kernel_rfl) (by kernel_rfl) (fun _ _ _ h => h) (by rfl) ?_ (by assumption) ?_
  · intro wq hq
    obtain ⟨s0, s1⟩ := hq
    go_simp
    try rfl
  simp only [Act.put, List.setIfInBounds_toArray, List.set_cons_zero, List.set_cons_succ]
  refine take_first (i := 9) (v := .int .i64 ((k : Int) + 1)) _ rfl rfl (by kernel_rfl) (by kernel_rfl) (by kernel_rfl) (fun _ _ _ h => h) (by rfl) ?_ (by assumption) ?_
  · intro wq hq
    obtain ⟨s0, s1⟩ := hq
    go_simp
    try rfl
  simp only [Act.put, List.setIfInBounds_toArray, List.set_cons_zero, List.set_cons_succ]
  refine take_first (i := 10) (v := .slice (some ⟨b, off2, none⟩) (L.length - (k + 1)) (c - (k + 1))) _ rfl rfl (by kernel_rfl) (by kernel_rfl) (by kernel_rfl) (fun _ _ _ h => h) (by rfl) ?_ (by assumption) ?_
  · intro wq hq
    obtain ⟨s0, s1⟩ := hq
    go_simp
    try rfl
  simp only [Act.put, List.setIfInBounds_toArray, List.set_cons_zero, List.set_cons_succ]
  refine wpAnyH_all (rs := [4]) (by kernel_rfl) (by decide) (List.forall_mem_cons.2 ⟨?_, fun _ h => absurd h List.not_mem_nil⟩)
  refine wpOp_wp rfl rfl (wp_call_at _ rfl (f := 114) (args := #[pzv h (.slice (some ⟨b, off, none⟩) L.length c), .int .i64 0, .int .i64 k]) (by go_simp) ((HC.out _).mono ?_))
  rintro e2 w2 ⟨rfl, hb2⟩
  have hE2 : Below E.heap.size E w2 := hBd.trans (hb2.mono hBd.size)
  have hz2 := hE2.size
  have hS2 := HSB.out _ hE2
  refine ⟨_, rfl, hS2, ?_⟩
  simp only [Act.put, List.setIfInBounds_toArray, List.set_cons_zero, List.set_cons_succ]
  refine take_first (i := 5) (v := .slice (some ⟨b, off, none⟩) k k) _ rfl rfl (by kernel_rfl) (by kernel_rfl) (by kernel_rfl) (fun _ _ _ h => h) (by rfl) ?_ (by assumption) ?_
  · intro wq hq
    obtain ⟨s0, s1⟩ := hq
    go_simp
    try rfl
  simp only [Act.put, List.setIfInBounds_toArray, List.set_cons_zero, List.set_cons_succ]
  refine wpAnyH_all (rs := [11]) (by kernel_rfl) (by decide) (List.forall_mem_cons.2 ⟨?_, fun _ h => absurd h List.not_mem_nil⟩)
  have Y1 := X1.out w2 (hbE.trans (hE2.mono hbE.size))
  have Y2 := X2.out w2 (hbE.trans (hE2.mono hbE.size))
  have hl1 : ((L.take k).drop 0).length = k := by rw [List.drop_zero, List.length_take]; omega
  have hl2 : ((L.take L.length).drop (k + 1)).length = L.length - (k + 1) := by rw [List.take_length, List.length_drop]
  have hne : ∀ b' off', (some (⟨b, off, none⟩ : Addr)) = some ⟨b', off', none⟩ → b' ≠ w.heap.size + 1 := fun b' off' e => by
    obtain ⟨rfl, -⟩ : b = b' ∧ off = off' := by simpa using e
    omega
  by_cases hm : L.length = k + 1
  · have hm0 : L.length - (k + 1) = 0 := by omega
    have hx0 : Value.slice (some ⟨b, off2, none⟩) (L.length - (k + 1)) (c - (k + 1)) = .slice (some ⟨b, off2, none⟩) 0 (c - (k + 1)) := by rw [hm0]
    have HL : Hid (L.eraseIdx k = (L.take k).drop 0) := Lib.hid (by rw [← HE.out, List.take_length, show L.drop (k + 1) = [] from List.drop_eq_nil_of_le (by omega), List.append_nil])
    rw [← HL.out] at Y1
    have hk1 : Hid (k = (L.eraseIdx k).length) := Lib.hid (by omega)
    have HX0 := Lib.hid hx0
    have HMM := Lib.hid hm
    have HEL := Lib.hid hel
    clear hx0 hm hm0 hl1 hl2 hel
    refine wpOp_wp rfl rfl (wp_append_eq _ _ _ rfl (v' := .slice (some ⟨b, off, none⟩) k k) (w' := w2) rfl (Eq.trans rfl HX0.out) (run_append_nothing w2 70 70 _ 66 i0 Try.underlying70 I0.out (some ⟨b, off, none⟩) k k (Nat.le_refl _) _ (Src.ofSlice w2 Try.underlying70 _ 0 _ [] (by simp) (fun j u h => by simp at h) (fun u h => by cases h))) ⟨hS2, ?_⟩)
    simp only [Act.put, List.getElem_toArray, List.getElem_cons_succ, List.getElem_cons_zero, List.setIfInBounds_toArray, List.set_cons_zero, List.set_cons_succ]
    clear hS1
    refine wpAnyH_all (rs := [12]) (by kernel_rfl) (by decide) (List.forall_mem_cons.2 ⟨?_, fun _ h => absurd h List.not_mem_nil⟩)
    refine wpOp_value (v := .agg #[.int .i64 h, .slice (some ⟨b, off, none⟩) (k) (k)]) (w' := w2) _ rfl rfl rfl (by go_simp; try rfl) ⟨hS2, ?_⟩
    simp only [Act.put, List.setIfInBounds_toArray, List.set_cons_zero, List.set_cons_succ]
    have t0 := ((bcell hE2).1 (w.heap.size + 1) 0 (by omega)).trans g2
    have t1 := ((bcell hE2).1 (w.heap.size + 1) 1 (by omega)).trans g3
    have t2 := ((bcell hE2).2 (w.heap.size + 1) 0 (by omega)).trans g4
    have t3 := ((bcell hE2).2 (w.heap.size + 1) 1 (by omega)).trans g5
    have s0 := hS2.1
    have s1 := hS2.2
    refine wpAnyH_all (rs := [13]) (by kernel_rfl) (by decide) (List.forall_mem_cons.2 ⟨?_, fun _ h => absurd h List.not_mem_nil⟩)
    refine wpOp_store rfl rfl (w' := (w2.setCell ⟨w.heap.size + 1, 0, none⟩ (.int .i64 h)).setCell ⟨w.heap.size + 1, 1, none⟩ (.slice (some ⟨b, off, none⟩) (k) (k))) (by go_simp; try rfl) ⟨⟨by go_simp, by go_simp⟩, ?_⟩
    refine wpAnyH_done (by kernel_rfl) ?_ _
    have hfin : CIn ((w2.setCell ⟨w.heap.size + 1, 0, none⟩ (.int .i64 h)).setCell ⟨w.heap.size + 1, 1, none⟩ (.slice (some ⟨b, off, none⟩) (k) (k))) (some ⟨b, off, none⟩) (L.eraseIdx k) := (Y1.setFar (p := ⟨w.heap.size + 1, 0, none⟩) hne _).setFar (p := ⟨w.heap.size + 1, 1, none⟩) hne _
    have HF := Lib.hid hfin
    have hbw : Below w.heap.size w w2 := hbE.trans (hE2.mono hbE.size)
    clear hfin s0 s1
    go_wp2
    (refine bodyPost_ret (by simp [results, Try.results93, go_sem, *]; try rfl) rfl ?_)
    exact ⟨some ⟨b, off, none⟩, k, by rw [← hk1.out], HF.out, by have := hk1.out; omega, by omega, (fun b' off' e => by simp at e ⊢; omega), by (repeat' (first | (with_reducible exact Below.refl _ _) | (with_reducible assumption) | (with_reducible refine Below.alloc ?_ ?_ _) | (with_reducible refine Below.drew ?_) | (with_reducible refine below_drewN ?_ _) | (with_reducible refine Below.setCell ?_ ?_ _) | (with_reducible refine below_call ?_ ?_ (by assumption)) | go_size))⟩
  · obtain ⟨v4, w4, hr4, ho4, hg4⟩ := run_append_arg_grows w2 70 70 66 i0 _ 3 24 Try.underlying70 I0.out Z0.out Z1.out Z2.out rfl (by omega) ⟨b, off, none⟩ k k (flat3 ((L.take k).drop 0)) (by rw [flat3_length, hl1]) Y1.news
      ⟨b, off2, none⟩ (L.length - (k + 1)) (c - (k + 1)) (flat3 ((L.take L.length).drop (k + 1))) (by rw [flat3_length, hl2]) Y2.news (by omega) (by unfold maxLen; omega) (by omega)
    rw [← flat3_append, HE.out] at ho4
    obtain ⟨g, cap, hv4, hgb, hgl⟩ := World.ownsRow.form ho4 (show 0 < k + (L.length - (k + 1)) by omega)
    have hn4 : Hid (k + (L.length - (k + 1)) = (L.eraseIdx k).length) := Lib.hid (by omega)
    have hr5 : ARow w4 w2.heap.size v4 (L.eraseIdx k) := by unfold ARow; rw [← hn4.out]; exact ho4
    obtain ⟨a5, c5, hv5, hi5, hc5, hm5⟩ := hr5.inn
    subst hv4
    obtain ⟨rfl, -, rfl⟩ : a5 = some ⟨g, 0, none⟩ ∧ True ∧ cap = c5 := by simp at hv5; simp [hv5]
    have hb4 : Below w2.heap.size w2 w4 := ⟨hg4.os, hg4.tape, hg4.output, hg4.size, fun j hj => hg4.block j hj (by simp)⟩
    have hE4 : Below E.heap.size E w4 := hE2.trans (hb4.mono hE2.size)
    have hS4 := HSB.out _ hE4
    have hne4 : ∀ b' off', (some (⟨g, 0, none⟩ : Addr)) = some ⟨b', off', none⟩ → b' ≠ w.heap.size + 1 := fun b' off' e => by
      obtain ⟨rfl, -⟩ : g = b' ∧ 0 = off' := by simpa using e
      omega
    have HI5 := Lib.hid hi5
    have HMM := Lib.hid hm
    have HEL := Lib.hid hel
    clear hr5 ho4 hi5 hg4 hv5 hm hel hl1 hl2
    refine wpOp_wp rfl rfl (wp_append_eq _ _ _ rfl (v' := .slice (some ⟨g, 0, none⟩) (k + (L.length - (k + 1))) cap) (w' := w4) rfl rfl hr4 ⟨hS4, ?_⟩)
    simp only [Act.put, List.getElem_toArray, List.getElem_cons_succ, List.getElem_cons_zero, List.setIfInBounds_toArray, List.set_cons_zero, List.set_cons_succ]
    clear hS1 hS2
    refine wpAnyH_all (rs := [12]) (by kernel_rfl) (by decide) (List.forall_mem_cons.2 ⟨?_, fun _ h => absurd h List.not_mem_nil⟩)
    refine wpOp_value (v := .agg #[.int .i64 h, .slice (some ⟨g, 0, none⟩) (k + (L.length - (k + 1))) (cap)]) (w' := w4) _ rfl rfl rfl (by go_simp; try rfl) ⟨hS4, ?_⟩
    simp only [Act.put, List.setIfInBounds_toArray, List.set_cons_zero, List.set_cons_succ]
    have t0 := ((bcell hE4).1 (w.heap.size + 1) 0 (by omega)).trans g2
    have t1 := ((bcell hE4).1 (w.heap.size + 1) 1 (by omega)).trans g3
    have t2 := ((bcell hE4).2 (w.heap.size + 1) 0 (by omega)).trans g4
    have t3 := ((bcell hE4).2 (w.heap.size + 1) 1 (by omega)).trans g5
    have s0 := hS4.1
    have s1 := hS4.2
    refine wpAnyH_all (rs := [13]) (by kernel_rfl) (by decide) (List.forall_mem_cons.2 ⟨?_, fun _ h => absurd h List.not_mem_nil⟩)
    refine wpOp_store rfl rfl (w' := (w4.setCell ⟨w.heap.size + 1, 0, none⟩ (.int .i64 h)).setCell ⟨w.heap.size + 1, 1, none⟩ (.slice (some ⟨g, 0, none⟩) (k + (L.length - (k + 1))) (cap))) (by go_simp; try rfl) ⟨⟨by go_simp, by go_simp⟩, ?_⟩
    refine wpAnyH_done (by kernel_rfl) ?_ _
    have hfin : CIn ((w4.setCell ⟨w.heap.size + 1, 0, none⟩ (.int .i64 h)).setCell ⟨w.heap.size + 1, 1, none⟩ (.slice (some ⟨g, 0, none⟩) (k + (L.length - (k + 1))) (cap))) (some ⟨g, 0, none⟩) (L.eraseIdx k) := (HI5.out.setFar (p := ⟨w.heap.size + 1, 0, none⟩) hne4 _).setFar (p := ⟨w.heap.size + 1, 1, none⟩) hne4 _
    have HF := Lib.hid hfin
    have hbw : Below w.heap.size w w4 := hbE.trans (hE4.mono hbE.size)
    clear hfin s0 s1
    go_wp2
    (refine bodyPost_ret (by simp [results, Try.results93, go_sem, *]; try rfl) rfl ?_)
    exact ⟨some ⟨g, 0, none⟩, cap, by rw [← hn4.out], HF.out, by have := hn4.out; omega, hm5, (fun b' off' e => by simp at e ⊢; omega), by (repeat' (first | (with_reducible exact Below.refl _ _) | (with_reducible assumption) | (with_reducible refine Below.alloc ?_ ?_ _) | (with_reducible refine Below.drew ?_) | (with_reducible refine below_drewN ?_ _) | (with_reducible refine Below.setCell ?_ ?_ _) | (with_reducible refine below_call ?_ ?_ (by assumption)) | go_size))⟩
def slvB (h : Int) (L : List (Int × Int × Int)) : Bool := decide ((sol h L).length = 1)
/-- What is left when clues are taken out, from the index k on, each if the puzzle is solved still. -/
def hrdF (h : Int) : Nat → List (Int × Int × Int) → Nat → List (Int × Int × Int)
  | 0, L, _ => L
  | f + 1, L, k => if k < L.length then (if slvB h (L.eraseIdx k) then hrdF h f (L.eraseIdx k) k else hrdF h f L (k + 1)) else L
theorem erase_len {L : List (Int × Int × Int)} {k : Nat} (hk : k < L.length) : (L.eraseIdx k).length = L.length - 1 := by rw [List.length_eraseIdx]; simp [hk]
theorem hrd_yes {h : Int} {M : List (Int × Int × Int)} {k : Nat} (hk : k < M.length) (hs : slvB h (M.eraseIdx k) = true) : hrdF h ((M.eraseIdx k).length - k) (M.eraseIdx k) k = hrdF h (M.length - k) M k := by
  rw [erase_len hk, show M.length - k = (M.length - 1 - k) + 1 by omega]
  show _ = (if k < M.length then (if slvB h (M.eraseIdx k) then hrdF h (M.length - 1 - k) (M.eraseIdx k) k else hrdF h (M.length - 1 - k) M (k + 1)) else M)
  rw [if_pos hk, hs]
  simp
theorem hrd_no {h : Int} {M : List (Int × Int × Int)} {k : Nat} (hk : k < M.length) (hs : slvB h (M.eraseIdx k) = false) : hrdF h (M.length - (k + 1)) M (k + 1) = hrdF h (M.length - k) M k := by
  rw [show M.length - k = (M.length - 1 - k) + 1 by omega, show M.length - (k + 1) = M.length - 1 - k by omega]
  show _ = (if k < M.length then (if slvB h (M.eraseIdx k) then hrdF h (M.length - 1 - k) (M.eraseIdx k) k else hrdF h (M.length - 1 - k) M (k + 1)) else M)
  rw [if_pos hk, hs]
  simp
theorem hrd_end {h : Int} {M : List (Int × Int × Int)} {k : Nat} (hk : ¬ k < M.length) : hrdF h (M.length - k) M k = M := by
  rw [show M.length - k = 0 by omega]
  rfl
theorem hrdF_len (h : Int) : ∀ (f : Nat) (L : List (Int × Int × Int)) (k : Nat), (hrdF h f L k).length ≤ L.length
  | 0, _, _ => Nat.le_refl _
  | f + 1, L, k => by
    show (if k < L.length then (if slvB h (L.eraseIdx k) then hrdF h f (L.eraseIdx k) k else hrdF h f L (k + 1)) else L).length ≤ _
    split
    · split
      · exact Nat.le_trans (hrdF_len h f _ k) (List.length_eraseIdx_le L k)
      · exact hrdF_len h f L (k + 1)
    · exact Nat.le_refl _
def hrdR (h : Int) (L : List (Int × Int × Int)) : PzR := if okZ h L && slvB h L then (h, hrdF h L.length L 0, true) else (0, [], false)
theorem hrdR_len (h : Int) (L : List (Int × Int × Int)) : (hrdR h L).2.1.length ≤ 2000000 := by
  unfold hrdR
  split
  · rename_i hok
    rw [Bool.and_eq_true] at hok
    have h6 := (okZ_bd hok.1).2.1
    have := hrdF_len h L.length L 0
    show (hrdF h L.length L 0).length ≤ _
    omega
  · simp
def hrdO (h : Int) (L : List (Int × Int × Int)) : PzR := if okZ h L then (h, hrdF h L.length L 0, true) else (0, [], false)
set_option maxHeartbeats 3200000 in
theorem harder_any (h : Int) (a : Option Addr) (c : Nat) (L : List (Int × Int × Int)) (hh : 2 ≤ h ∧ h ≤ 24) (hok : L.all (okC h) = true) (hc : L.length ≤ c) (hcm : c ≤ maxLen) (hl : L.length ≤ 1048576) (w : World) (hin : CIn w a L) (hal : ∀ b off, a = some ⟨b, off, none⟩ → b < w.heap.size) :
    Calls Try.prog 98 #[pzv h (.slice a L.length c)] w fun e w' => ∃ v', e = .returned (pzv h v') ∧ CRow w' w.heap.size v' (hrdF h L.length L 0) ∧ Below w.heap.size w w' := by
  have HW := Lib.hid (fun (a : Option Addr) (c : Nat) (M : List (Int × Int × Int)) (k : Nat) (hk : k < M.length) (hc : M.length ≤ c) (hcm : c ≤ maxLen) (hl : M.length ≤ 1048576) W hi => without2_any h a c M k hk hc hcm hl W hi)
  have HI0 := Lib.hid hin
  have HAL := Lib.hid hal
  have HOK := Lib.hid hok
  clear hin hal hok
  (go_enter Try.func98, Try.ntmps98)
  go_wp2
  go_loopw [3] (fun i wr => ∃ (k : Nat) (M : List (Int × Int × Int)) (a : Option Addr) (c : Nat), k ≤ M.length ∧ i = .int .i64 k ∧ M.all (okC h) = true ∧ M.length ≤ L.length ∧ M.length ≤ c ∧ c ≤ maxLen ∧ hrdF h (M.length - k) M k = hrdF h L.length L 0 ∧ CIn wr a M ∧ (∀ b off, a = some ⟨b, off, none⟩ → b ≠ w.heap.size ∧ b ≠ w.heap.size + 1) ∧ wr.cell? ⟨w.heap.size, 0, none⟩ = some (.int .i64 h) ∧ wr.cell? ⟨w.heap.size, 1, none⟩ = some (.slice a M.length c) ∧ wr.cell? ⟨w.heap.size + 1, 0, none⟩ = some (.int .i64 0) ∧ wr.cell? ⟨w.heap.size + 1, 1, none⟩ = some (.slice none 0 0) ∧ wr.frozen? ⟨w.heap.size, 0, none⟩ = false ∧ wr.frozen? ⟨w.heap.size, 1, none⟩ = false ∧ wr.frozen? ⟨w.heap.size + 1, 0, none⟩ = false ∧ wr.frozen? ⟨w.heap.size + 1, 1, none⟩ = false ∧ w.heap.size + 2 ≤ wr.heap.size ∧ Below w.heap.size w wr) (fun i wr => match wr.cell? ⟨w.heap.size, 1, none⟩ with | some (.slice _ n _) => n - (intOf i).toNat | _ => 0)
  case atStart => exact ⟨0, L, a, c, Nat.zero_le _, rfl, HOK.out, Nat.le_refl _, hc, hcm, rfl, HI0.out.below (by (repeat' (first | (with_reducible exact Below.refl _ _) | (with_reducible assumption) | (with_reducible refine Below.alloc ?_ ?_ _) | (with_reducible refine Below.drew ?_) | (with_reducible refine below_drewN ?_ _) | (with_reducible refine Below.setCell ?_ ?_ _) | (with_reducible refine below_call ?_ ?_ (by assumption)) | go_size))), (fun b off e => by have := HAL.out b off e; omega), by go_simp, by go_simp, by go_simp, by go_simp, by go_simp, by go_simp, by go_simp, by go_simp, by go_size, by (repeat' (first | (with_reducible exact Below.refl _ _) | (with_reducible assumption) | (with_reducible refine Below.alloc ?_ ?_ _) | (with_reducible refine Below.drew ?_) | (with_reducible refine below_drewN ?_ _) | (with_reducible refine Below.setCell ?_ ?_ _) | (with_reducible refine below_call ?_ ?_ (by assumption)) | go_size))⟩
  case round =>
    obtain ⟨k, M, ma, mc, hk, rfl, hall, hML, hmc, hmm, hrec, hmi, hne, c0, c1, r0, r1, z0, z1, z2, z3, hz3, hbr⟩ := hrel
    have HREC := Lib.hid hrec
    have HMI := Lib.hid hmi
    have HNE := Lib.hid hne
    have HALL := Lib.hid hall
    clear hrec hmi hne hall
    have n0' : (0 : Int) ≤ (k : Int) := Int.natCast_nonneg _
    have c1k := Lib.hid c1
    have p0 : w.heap.size < wr.heap.size := by omega
    have p1 : w.heap.size + 1 < wr.heap.size := by omega
    by_cases hlt : k < M.length
    · have k1 : (k : Int) < (M.length : Int) := by omega
      have HD := Lib.hid (fun W hi => HW.out ma mc M k hlt hmc hmm (by omega) W hi)
      have hel := erase_len hlt
      go_wp2_with fail
      refine (HD.out _ HMI.out).mono ?_
      rintro e1 w1 ⟨a1, cc1, rfl, hi1, hcc1, hmm1, hloc, hb1⟩
      have hz1 := hb1.size
      obtain ⟨hc1, hf1⟩ := bcell hb1
      have y0 := (hc1 _ _ p0).trans c0
      have y1 := (hc1 _ _ p0).trans c1
      have y2 := (hc1 _ _ p1).trans r0
      have y3 := (hc1 _ _ p1).trans r1
      have x0 := (hf1 _ _ p0).trans z0
      have x1 := (hf1 _ _ p0).trans z1
      have x2 := (hf1 _ _ p1).trans z2
      have x3 := (hf1 _ _ p1).trans z3
      have HI1 := Lib.hid hi1
      have HNE1 : Hid (∀ b off, a1 = some ⟨b, off, none⟩ → b ≠ w.heap.size ∧ b ≠ w.heap.size + 1) := Lib.hid (fun b off e => by
        rcases hloc b off e with h1 | h1
        · cases hma : ma with
          | none => rw [hma] at h1; simp at h1
          | some ad =>
            obtain ⟨b0, off0, hm0, -⟩ := HMI.out k hlt
            rw [hma] at hm0 h1
            obtain rfl : ad = ⟨b0, off0, none⟩ := by simpa using hm0
            obtain rfl : b0 = b := by simpa using h1
            exact HNE.out b0 off0 hma
        · omega)
      have HSV := Lib.hid (fun r hr W hi => isSolved_is h a1 cc1 (M.eraseIdx k) hh (all_erase HALL.out k) (by rw [hel]; omega) (r := r) hr W hi)
      have hbw : Below w.heap.size w w1 := hbr.trans (hb1.mono hbr.size)
      have HEL := Lib.hid hel
      have HCC := Lib.hid hcc1
      have HAE := Lib.hid (all_erase HALL.out k)
      clear hi1 hloc hc1 hf1 c0 c1 r0 r1 z0 z1 z2 z3 hel hcc1
      have q0 : w.heap.size < w1.heap.size := by omega
      have q1 : w.heap.size + 1 < w1.heap.size := by omega
      have q2 : w.heap.size < w1.heap.size + 1 := by omega
      have q3 : w.heap.size + 1 < w1.heap.size + 1 := by omega
      cases hs : slvB h (M.eraseIdx k)
      · have HN := Lib.hid (hrd_no hlt hs)
        go_wp2_with fail
        refine (HSV.out false hs _ (HI1.out.below (by (repeat' (first | (with_reducible exact Below.refl _ _) | (with_reducible assumption) | (with_reducible refine Below.alloc ?_ ?_ _) | (with_reducible refine Below.drew ?_) | (with_reducible refine below_drewN ?_ _) | (with_reducible refine Below.setCell ?_ ?_ _) | (with_reducible refine below_call ?_ ?_ (by assumption)) | go_size))))).mono ?_
        rintro e2 w2 ⟨rfl, hb2⟩
        have hb12 : Below w1.heap.size w1 w2 := by (repeat' (first | (with_reducible exact Below.refl _ _) | (with_reducible assumption) | (with_reducible refine Below.alloc ?_ ?_ _) | (with_reducible refine Below.drew ?_) | (with_reducible refine below_drewN ?_ _) | (with_reducible refine Below.setCell ?_ ?_ _) | (with_reducible refine below_call ?_ ?_ (by assumption)) | go_size))
        obtain ⟨hc2, hf2⟩ := bcell hb12
        have hz2 := hb12.size
        have v0 := (hc2 _ _ q0).trans y0
        have v1 := (hc2 _ _ q0).trans y1
        have v2 := (hc2 _ _ q1).trans y2
        have v3 := (hc2 _ _ q1).trans y3
        have t0 := (hf2 _ _ q0).trans x0
        have t1 := (hf2 _ _ q0).trans x1
        have t2 := (hf2 _ _ q1).trans x2
        have t3 := (hf2 _ _ q1).trans x3
        have HM2 := Lib.hid ((HMI.out.below hb1).below hb12)
        clear hc2 hf2 hs
        go_wp2
        go_roundw
        case rel => exact ⟨k + 1, M, ma, mc, by omega, by go_num, HALL.out, hML, hmc, hmm, HN.out.trans HREC.out, HM2.out, HNE.out, v0, v1, v2, v3, t0, t1, t2, t3, by omega, hbw.trans (hb12.mono hbw.size)⟩
        case measure =>
          rw [v1, show wr.cell? ⟨w.heap.size, 1, none⟩ = _ from c1k.out]
          simp [intOf]; omega
      · have HN := Lib.hid (hrd_yes hlt hs)
        go_wp2_with fail
        refine (HSV.out true hs _ (HI1.out.below (by (repeat' (first | (with_reducible exact Below.refl _ _) | (with_reducible assumption) | (with_reducible refine Below.alloc ?_ ?_ _) | (with_reducible refine Below.drew ?_) | (with_reducible refine below_drewN ?_ _) | (with_reducible refine Below.setCell ?_ ?_ _) | (with_reducible refine below_call ?_ ?_ (by assumption)) | go_size))))).mono ?_
        rintro e2 w2 ⟨rfl, hb2⟩
        have hb12 : Below w1.heap.size w1 w2 := by (repeat' (first | (with_reducible exact Below.refl _ _) | (with_reducible assumption) | (with_reducible refine Below.alloc ?_ ?_ _) | (with_reducible refine Below.drew ?_) | (with_reducible refine below_drewN ?_ _) | (with_reducible refine Below.setCell ?_ ?_ _) | (with_reducible refine below_call ?_ ?_ (by assumption)) | go_size))
        obtain ⟨hc2, hf2⟩ := bcell hb12
        have hz2 := hb12.size
        have hz2' := hb2.size
        simp only [World.size_alloc] at hz2'
        have v0 := (hc2 _ _ q0).trans y0
        have v1 := (hc2 _ _ q0).trans y1
        have v2 := (hc2 _ _ q1).trans y2
        have v3 := (hc2 _ _ q1).trans y3
        have t0 := (hf2 _ _ q0).trans x0
        have t1 := (hf2 _ _ q0).trans x1
        have t2 := (hf2 _ _ q1).trans x2
        have t3 := (hf2 _ _ q1).trans x3
        have u0 : w2.cell? ⟨w1.heap.size, 0, none⟩ = some (.int .i64 h) := ((bcell hb2).1 _ _ (by simp)).trans (by go_simp)
        have u1 : w2.cell? ⟨w1.heap.size, 1, none⟩ = some (.slice a1 (M.eraseIdx k).length cc1) := ((bcell hb2).1 _ _ (by simp)).trans (by go_simp)
        have HM2 := Lib.hid (((HI1.out.below hb12).setFar (p := ⟨w.heap.size, 0, none⟩) (fun b off e => (HNE1.out b off e).1) (.int .i64 h)).setFar (p := ⟨w.heap.size, 1, none⟩) (fun b off e => (HNE1.out b off e).1) (.slice a1 (M.eraseIdx k).length cc1))
        have hb4 : Below w.heap.size w w2 := hbw.trans (hb12.mono hbw.size)
        clear hc2 hf2 hs
        go_wp2
        go_roundw
        case rel => exact ⟨k, M.eraseIdx k, a1, cc1, by have := HEL.out; omega, rfl, HAE.out, by have := HEL.out; omega, HCC.out, hmm1, HN.out.trans HREC.out, HM2.out, HNE1.out, by go_simp, by go_simp, by go_simp, by go_simp, by go_simp, by go_simp, by go_simp, by go_simp, by simp; omega, by (repeat' (first | (with_reducible exact Below.refl _ _) | (with_reducible assumption) | (with_reducible refine Below.alloc ?_ ?_ _) | (with_reducible refine Below.drew ?_) | (with_reducible refine below_drewN ?_ _) | (with_reducible refine Below.setCell ?_ ?_ _) | (with_reducible refine below_call ?_ ?_ (by assumption)) | go_size))⟩
        case measure =>
          have := HEL.out
          rw [show wr.cell? ⟨w.heap.size, 1, none⟩ = _ from c1k.out]
          have c5 : ((w2.setCell ⟨w.heap.size, 0, none⟩ (.int .i64 h)).setCell ⟨w.heap.size, 1, none⟩ (.slice a1 (M.eraseIdx k).length cc1)).cell? ⟨w.heap.size, 1, none⟩ = some (.slice a1 (M.eraseIdx k).length cc1) := by go_simp
          rw [c5]
          simp only [intOf, Array.getD_eq_getD_getElem?]
          simp
          omega
    · obtain rfl : k = M.length := by omega
      have HE := Lib.hid ((hrd_end (h := h) (M := M) (k := M.length) (by omega)).symm.trans HREC.out)
      go_wp2_with fail
      refine (closed_any h ma mc M (by omega) _ HMI.out).mono ?_
      rintro e1 w1 ⟨v1, rfl, hr1, hb1⟩
      have hz1 := hb1.size
      obtain ⟨hc1, hf1⟩ := bcell hb1
      have y2 := (hc1 _ _ p1).trans r0
      have y3 := (hc1 _ _ p1).trans r1
      have x2 := (hf1 _ _ p1).trans z2
      have x3 := (hf1 _ _ p1).trans z3
      rw [HE.out] at hr1
      have HR := Lib.hid (hr1.mono (show w.heap.size + 2 ≤ _ by omega))
      obtain ⟨a1, c1', rfl, -⟩ := hr1.inn
      have hbw : Below w.heap.size w w1 := hbr.trans (hb1.mono hbr.size)
      clear hr1 hc1 hf1
      go_wp2
      (refine bodyPost_ret (by simp [results, Try.results98, go_sem, *]; try rfl) rfl ?_)
      exact ⟨_, rfl, ((HR.out.set (a := ⟨w.heap.size + 1, 0, none⟩) (by show w.heap.size + 1 < _; omega) _).set (a := ⟨w.heap.size + 1, 1, none⟩) (by show w.heap.size + 1 < _; omega) _).mono (by omega), by (repeat' (first | (with_reducible exact Below.refl _ _) | (with_reducible assumption) | (with_reducible refine Below.alloc ?_ ?_ _) | (with_reducible refine Below.drew ?_) | (with_reducible refine below_drewN ?_ _) | (with_reducible refine Below.setCell ?_ ?_ _) | (with_reducible refine below_call ?_ ?_ (by assumption)) | go_size))⟩
set_option maxHeartbeats 1600000 in
theorem tellHarder_any (h : Int) (a : Option Addr) (c : Nat) (L : List (Int × Int × Int)) (hm : L.length ≤ maxLen) (w : World) (hin : CIn w a L) :
    Calls Try.prog 91 #[pzv h (.slice a L.length c), .func (.func 98) #[] #[]] w fun e w' => ∃ v, e = .returned (.tuple #[pzv (hrdO h L).1 v, .bool (hrdO h L).2.2]) ∧ CRow w' w.heap.size v (hrdO h L).2.1 ∧ Below w.heap.size w w' := by
  have HC := Lib.hid (fun W (hb : Below w.heap.size w W) => openPuzzle_any h a c L hm W (hin.below hb))
  clear hin
  (go_enter Try.func91, Try.ntmps91)
  go_wp2_with fail
  refine (HC.out _ (by (repeat' (first | (with_reducible exact Below.refl _ _) | (with_reducible assumption) | (with_reducible refine Below.alloc ?_ ?_ _) | (with_reducible refine Below.drew ?_) | (with_reducible refine below_drewN ?_ _) | (with_reducible refine Below.setCell ?_ ?_ _) | (with_reducible refine below_call ?_ ?_ (by assumption)) | go_size)))).mono ?_
  rintro e1 w1 ⟨hb1, ⟨hok, v, rfl, hr⟩ | ⟨hok, rfl⟩⟩
  · obtain ⟨hh, hl6, hall⟩ := okZ_bd hok
    obtain ⟨a1, c1, rfl, hi1, hcap, hcmx⟩ := hr.inn
    have HM := Lib.hid hok
    have HI := Lib.hid hi1
    have HLO : Hid (∀ b off, a1 = some ⟨b, off, none⟩ → b < w1.heap.size) := Lib.hid (fun b off e => by subst e; exact (World.ownsRow.lt hr b rfl).2)
    have hz1 := hb1.size
    simp only [World.size_alloc] at hz1
    obtain ⟨hc1, hf1⟩ := bcell hb1
    have hw1 : w.heap.size + 1 < w1.heap.size := by omega
    have hw2 : w.heap.size + 1 < w1.heap.size + 1 := by omega
    have hw3 : w.heap.size < w1.heap.size := by omega
    have tc0 : w1.cell? ⟨w.heap.size + 1, 0, none⟩ = some (.int .i64 0) := ((hc1 _ _ (by go_size)).trans (by go_simp))
    have tf0 : w1.frozen? ⟨w.heap.size + 1, 0, none⟩ = false := ((hf1 _ _ (by go_size)).trans (by go_simp))
    have tc1 : w1.cell? ⟨w.heap.size + 1, 1, none⟩ = some (.slice none 0 0) := ((hc1 _ _ (by go_size)).trans (by go_simp))
    have tf1 : w1.frozen? ⟨w.heap.size + 1, 1, none⟩ = false := ((hf1 _ _ (by go_size)).trans (by go_simp))
    clear hr hok hi1
    go_wp2_with fail
    refine (harder_any h a1 c1 L hh hall hcap hcmx (by omega) _ (HI.out.below (by (repeat' (first | (with_reducible exact Below.refl _ _) | (with_reducible assumption) | (with_reducible refine Below.alloc ?_ ?_ _) | (with_reducible refine Below.drew ?_) | (with_reducible refine below_drewN ?_ _) | (with_reducible refine Below.setCell ?_ ?_ _) | (with_reducible refine below_call ?_ ?_ (by assumption)) | go_size)))) (fun b off e => by have := HLO.out b off e; simp; omega)).mono ?_
    rintro e2 w2 ⟨v2, rfl, hr2, hb2⟩
    have hz2 := hb2.size
    simp only [World.size_alloc] at hz2
    obtain ⟨hc2, hf2⟩ := bcell hb2
    have ud0 := (hc2 (w.heap.size + 1) 0 (by simp; omega)).trans ((World.cell?_alloc_past _ _ _ hw1).trans tc0)
    have ud1 := (hc2 (w.heap.size + 1) 1 (by simp; omega)).trans ((World.cell?_alloc_past _ _ _ hw1).trans tc1)
    have ue0 := (hf2 (w.heap.size + 1) 0 (by simp; omega)).trans (((bcell (Below.alloc (Below.refl w1.heap.size w1) (Nat.le_refl _) _)).2 _ _ hw1).trans tf0)
    have ue1 := (hf2 (w.heap.size + 1) 1 (by simp; omega)).trans (((bcell (Below.alloc (Below.refl w1.heap.size w1) (Nat.le_refl _) _)).2 _ _ hw1).trans tf1)
    have HR := Lib.hid (hr2.mono (show w.heap.size + 2 ≤ _ by simp; omega))
    obtain ⟨a2, c2, rfl, -⟩ := hr2.inn
    have HMR : Hid (hrdO h L = (h, hrdF h L.length L 0, true)) := Lib.hid (by simp [HM.out, hrdO])
    clear hr2 hc2 hf2 hc1 hf1 tc0 tc1 tf0 tf1
    go_wp2
    (refine bodyPost_ret (by simp [results, Try.results91, go_sem, *]; try rfl) rfl ?_)
    rw [HMR.out]
    exact ⟨_, rfl, ((HR.out.set (a := ⟨w.heap.size + 1, 0, none⟩) (by show w.heap.size + 1 < _; omega) _).set (a := ⟨w.heap.size + 1, 1, none⟩) (by show w.heap.size + 1 < _; omega) _).mono (by omega), by (repeat' (first | (with_reducible exact Below.refl _ _) | (with_reducible assumption) | (with_reducible refine Below.alloc ?_ ?_ _) | (with_reducible refine Below.drew ?_) | (with_reducible refine below_drewN ?_ _) | (with_reducible refine Below.setCell ?_ ?_ _) | (with_reducible refine below_call ?_ ?_ (by assumption)) | go_size))⟩
  · have HM := Lib.hid hok
    have hz1 := hb1.size
    simp only [World.size_alloc] at hz1
    obtain ⟨hc1, hf1⟩ := bcell hb1
    have hw1 : w.heap.size + 1 < w1.heap.size := by omega
    have hw2 : w.heap.size + 1 < w1.heap.size + 1 := by omega
    have hw3 : w.heap.size < w1.heap.size := by omega
    have tc0 : w1.cell? ⟨w.heap.size + 1, 0, none⟩ = some (.int .i64 0) := ((hc1 _ _ (by go_size)).trans (by go_simp))
    have tf0 : w1.frozen? ⟨w.heap.size + 1, 0, none⟩ = false := ((hf1 _ _ (by go_size)).trans (by go_simp))
    have tc1 : w1.cell? ⟨w.heap.size + 1, 1, none⟩ = some (.slice none 0 0) := ((hc1 _ _ (by go_size)).trans (by go_simp))
    have tf1 : w1.frozen? ⟨w.heap.size + 1, 1, none⟩ = false := ((hf1 _ _ (by go_size)).trans (by go_simp))
    have HMR : Hid (hrdO h L = (0, [], false)) := Lib.hid (by simp [HM.out, hrdO])
    clear hok hc1 hf1
    go_wp2
    (refine bodyPost_ret (by simp [results, Try.results91, go_sem, *]; try rfl) rfl ?_)
    rw [HMR.out]
    exact ⟨_, rfl, CRow.nil _ _, by (repeat' (first | (with_reducible exact Below.refl _ _) | (with_reducible assumption) | (with_reducible refine Below.alloc ?_ ?_ _) | (with_reducible refine Below.drew ?_) | (with_reducible refine below_drewN ?_ _) | (with_reducible refine Below.setCell ?_ ?_ _) | (with_reducible refine below_call ?_ ?_ (by assumption)) | go_size))⟩
set_option maxHeartbeats 800000 in
theorem implHarderPuzzle_any (h : Int) (a : Option Addr) (c : Nat) (L : List (Int × Int × Int)) (hm : L.length ≤ maxLen) (w : World) (hin : CIn w a L) :
    Calls Try.prog 57 #[pzv h (.slice a L.length c)] w fun e w' => ∃ v, e = .returned (.tuple #[pzv (hrdR h L).1 v, .bool (hrdR h L).2.2]) ∧ CRow w' w.heap.size v (hrdR h L).2.1 ∧ Below w.heap.size w w' := by
  have HC := Lib.hid (fun W (hb : Below w.heap.size w W) => implIsSolved_any h a c L hm W (hin.below hb))
  have HD := Lib.hid (fun W (hb : Below w.heap.size w W) => tellHarder_any h a c L hm W (hin.below hb))
  clear hin
  cases hs : okZ h L && slvB h L
  · have HM := Lib.hid (show hrdR h L = (0, [], false) from by simp only [hrdR, hs]; rfl)
    have HO : Hid ((oneR h L).1 = false) := Lib.hid (by unfold oneR; cases hq : okZ h L <;> rw [hq] at hs <;> simp [slvB] at hs ⊢ <;> exact hs)
    clear hs
    generalize hone : oneR h L = R at *
    obtain ⟨r1, r2⟩ := R
    obtain rfl : r1 = false := HO.out
    clear hone
    (go_enter Try.func57, Try.ntmps57)
    go_wp2_with fail
    refine (HC.out _ (by (repeat' (first | (with_reducible exact Below.refl _ _) | (with_reducible assumption) | (with_reducible refine Below.alloc ?_ ?_ _) | (with_reducible refine Below.drew ?_) | (with_reducible refine below_drewN ?_ _) | (with_reducible refine Below.setCell ?_ ?_ _) | (with_reducible refine below_call ?_ ?_ (by assumption)) | go_size)))).mono ?_
    (rintro e1 w1 ⟨rfl, hb1⟩; obtain ⟨hc1, hf1⟩ := bcell hb1; have hz1 := hb1.size; (try simp only [World.size_alloc, World.size_setCell, World.size_drew] at hz1); have q1 : w.heap.size ≤ w1.heap.size := (by omega); (try have q1_0 : w.heap.size < w1.heap.size := (by omega)); (try have q1_1 : w.heap.size + 1 < w1.heap.size := (by omega)); (try have q1_2 : w.heap.size + 2 < w1.heap.size := (by omega)); (try have q1_3 : w.heap.size + 3 < w1.heap.size := (by omega)))
    go_wp2
    (refine bodyPost_ret (by simp [results, Try.results57, go_sem, *]; try rfl) rfl ?_)
    rw [HM.out]
    exact ⟨_, rfl, CRow.nil _ _, by (repeat' (first | (with_reducible exact Below.refl _ _) | (with_reducible assumption) | (with_reducible refine Below.alloc ?_ ?_ _) | (with_reducible refine Below.drew ?_) | (with_reducible refine below_drewN ?_ _) | (with_reducible refine Below.setCell ?_ ?_ _) | (with_reducible refine below_call ?_ ?_ (by assumption)) | go_size))⟩
  · have hs' := hs
    rw [Bool.and_eq_true] at hs'
    have HM := Lib.hid (show hrdR h L = hrdO h L from by unfold hrdR hrdO; rw [if_pos hs, if_pos hs'.1])
    have HO : Hid ((oneR h L).1 = true) := Lib.hid (by unfold oneR; rw [hs'.1]; exact hs'.2)
    clear hs hs'
    generalize hone : oneR h L = R at *
    obtain ⟨r1, r2⟩ := R
    obtain rfl : r1 = true := HO.out
    clear hone
    (go_enter Try.func57, Try.ntmps57)
    go_wp2_with fail
    refine (HC.out _ (by (repeat' (first | (with_reducible exact Below.refl _ _) | (with_reducible assumption) | (with_reducible refine Below.alloc ?_ ?_ _) | (with_reducible refine Below.drew ?_) | (with_reducible refine below_drewN ?_ _) | (with_reducible refine Below.setCell ?_ ?_ _) | (with_reducible refine below_call ?_ ?_ (by assumption)) | go_size)))).mono ?_
    (rintro e1 w1 ⟨rfl, hb1⟩; obtain ⟨hc1, hf1⟩ := bcell hb1; have hz1 := hb1.size; (try simp only [World.size_alloc, World.size_setCell, World.size_drew] at hz1); have q1 : w.heap.size ≤ w1.heap.size := (by omega); (try have q1_0 : w.heap.size < w1.heap.size := (by omega)); (try have q1_1 : w.heap.size + 1 < w1.heap.size := (by omega)); (try have q1_2 : w.heap.size + 2 < w1.heap.size := (by omega)); (try have q1_3 : w.heap.size + 3 < w1.heap.size := (by omega)))
    have k0 : w1.cell? ⟨w.heap.size, 0, none⟩ = some (.int .i64 h) := (hc1 _ _ (by go_size)).trans (by go_simp)
    have k1 : w1.cell? ⟨w.heap.size, 1, none⟩ = some (.slice a L.length c) := (hc1 _ _ (by go_size)).trans (by go_simp)
    have tc0 : w1.cell? ⟨w.heap.size + 1, 0, none⟩ = some (.int .i64 0) := ((hc1 _ _ (by go_size)).trans (by go_simp))
    have tf0 : w1.frozen? ⟨w.heap.size + 1, 0, none⟩ = false := ((hf1 _ _ (by go_size)).trans (by go_simp))
    have tc1 : w1.cell? ⟨w.heap.size + 1, 1, none⟩ = some (.slice none 0 0) := ((hc1 _ _ (by go_size)).trans (by go_simp))
    have tf1 : w1.frozen? ⟨w.heap.size + 1, 1, none⟩ = false := ((hf1 _ _ (by go_size)).trans (by go_simp))
    go_wp2_with fail
    refine (HD.out _ (by (repeat' (first | (with_reducible exact Below.refl _ _) | (with_reducible assumption) | (with_reducible refine Below.alloc ?_ ?_ _) | (with_reducible refine Below.drew ?_) | (with_reducible refine below_drewN ?_ _) | (with_reducible refine Below.setCell ?_ ?_ _) | (with_reducible refine below_call ?_ ?_ (by assumption)) | go_size)))).mono ?_
    rintro e2 w2 ⟨v2, rfl, hr2, hb2⟩
    have HR := Lib.hid (hr2.mono (show w.heap.size + 2 ≤ _ by omega))
    obtain ⟨a2, c2, rfl, -⟩ := hr2.inn
    obtain ⟨hc2, hf2⟩ := bcell hb2
    have hz2 := hb2.size
    have ud0 := (hc2 (w.heap.size + 1) 0 (by omega)).trans tc0
    have ud1 := (hc2 (w.heap.size + 1) 1 (by omega)).trans tc1
    have ue0 := (hf2 (w.heap.size + 1) 0 (by omega)).trans tf0
    have ue1 := (hf2 (w.heap.size + 1) 1 (by omega)).trans tf1
    have hbw : Below w.heap.size w w2 := by (repeat' (first | (with_reducible exact Below.refl _ _) | (with_reducible assumption) | (with_reducible refine Below.alloc ?_ ?_ _) | (with_reducible refine Below.drew ?_) | (with_reducible refine below_drewN ?_ _) | (with_reducible refine Below.setCell ?_ ?_ _) | (with_reducible refine below_call ?_ ?_ (by assumption)) | go_size))
    clear hr2 hc2 hf2 hc1 hf1
    go_wp2
    (refine bodyPost_ret (by simp [results, Try.results57, go_sem, *]; try rfl) rfl ?_)
    rw [HM.out]
    exact ⟨_, rfl, ((HR.out.set (a := ⟨w.heap.size + 1, 0, none⟩) (by show w.heap.size + 1 < _; omega) _).set (a := ⟨w.heap.size + 1, 1, none⟩) (by show w.heap.size + 1 < _; omega) _).mono (by omega), by (repeat' (first | (with_reducible exact Below.refl _ _) | (with_reducible assumption) | (with_reducible refine Below.alloc ?_ ?_ _) | (with_reducible refine Below.drew ?_) | (with_reducible refine below_drewN ?_ _) | (with_reducible refine Below.setCell ?_ ?_ _) | (with_reducible refine below_call ?_ ?_ (by assumption)) | go_size))⟩
theorem news_any {w : World} {ad : Addr} {L : List (Int × Int × Int)} (hin : CIn w (some ad) L) : ∀ j u, (flat3 L)[j]? = some u → w.cell? (ad.add j) = some u := by
  intro j u hu
  have hj : j < L.length * 3 := by rw [← flat3_length]; exact (List.getElem?_eq_some_iff.1 hu).1
  obtain ⟨b, off, e, -⟩ := hin 0 (by omega)
  obtain rfl : ad = ⟨b, off, none⟩ := by simpa using e
  exact hin.news j u hu
/-- All clues appended onto an empty list that is made now. -/
theorem copyClues_run (w2 : World) (base : Nat) (a : Option Addr) (c : Nat) (L : List (Int × Int × Int)) {i0 : TypeInfo} (h0 : Try.prog.info? 25 = some i0) (h1 : i0.zero = some (.agg #[.int .i64 0, .int .i64 0, .int .i64 0])) (h2 : i0.size = 3) (h3 : i0.bytes = 24) (hc : L.length ≤ c) (hl : L.length ≤ 1048576) (hin : CIn w2 a L) (hb : base ≤ w2.heap.size) :
    ∃ v' w', (Builtin.append_ #[33, 33] 33 #[.slice (some ⟨w2.heap.size, 0, none⟩) 0 0, .slice a L.length c]).run Try.prog (w2.alloc (.cells #[] 25)) = .ok v' w' ∧ CRow w' base v' L ∧ Below w2.heap.size w2 w' := by
  have O1 := World.ownsRow_made (base := base) (e := 25) (size := 3) w2 #[] 0 hb (by unfold maxLen; omega) rfl
  have hbn : Below w2.heap.size w2 (w2.alloc (.cells #[] 25)) := by (repeat' (first | (with_reducible exact Below.refl _ _) | (with_reducible assumption) | (with_reducible refine Below.alloc ?_ ?_ _) | (with_reducible refine Below.drew ?_) | (with_reducible refine below_drewN ?_ _) | (with_reducible refine Below.setCell ?_ ?_ _) | (with_reducible refine below_call ?_ ?_ (by assumption)) | go_size))
  have hin2 := hin.below hbn
  cases a with
  | none =>
    have hL : L = [] := by
      cases L with
      | nil => rfl
      | cons t ts => obtain ⟨b, off, e, -⟩ := hin 0 (by simp); cases e
    subst hL
    exact ⟨_, _, run_append_nothing _ _ _ _ _ i0 Try.underlying33 h0 _ 0 0 (Nat.le_refl _) _ (Src.ofNil _ Try.underlying33 c), O1, hbn⟩
  | some ad =>
    obtain ⟨v', w', hr, ho, hg, -⟩ := run_append_own (w2.alloc (.cells #[] 25)) base 33 33 25 i0 _ 3 24 Try.underlying33 h0 h1 h2 h3 rfl (by omega) (.slice (some ⟨w2.heap.size, 0, none⟩) 0 0) 0 [] O1 ad L.length c (flat3 L) (by rw [flat3_length]) (news_any hin2) (flat3_one _) (by unfold maxLen; omega) (by omega) (by simp; omega)
    refine ⟨v', w', hr, ?_, Below.grown (w := w2.alloc (.cells #[] 25)) hbn hg (by simp) (fun j hj => ?_)⟩
    · unfold CRow; rwa [Nat.zero_add, List.nil_append] at ho
    · obtain rfl : w2.heap.size = j := by simpa [Value.ownBlock] using hj
      exact Nat.le_refl _
theorem wpList_append_eq {P : Program} {ops : Array Oper} {rest : List Oper} {o : Oper} {a : Act} {w : World} {Q : Exit → Act → World → Prop} (hgd : o.guard = none) (s x : Operand) (t : TypeId)
    (ho : o.op = .call { callee := .builtin .append, args := #[s, x], argTypes := #[t, t] }) {v src v' : Value} {w' : World} (hs : a.eval s = v) (hx : a.eval x = src)
    (hr : (Builtin.append_ #[t, t] o.type #[v, src]).run P w = .ok v' w') (h : wpList P ops Q rest (a.put o.dst v') w') : wpList P ops Q (o :: rest) a w :=
  wpList_plain hgd fun _ hK => wp_append_eq s x t ho hs hx hr (hK _ _ h)
set_option maxHeartbeats 3200000 in
theorem specHarderPuzzle_any (h : Int) (a : Option Addr) (c : Nat) (L : List (Int × Int × Int)) (hm : L.length ≤ maxLen) (hc : L.length ≤ c) (hcm : c ≤ maxLen) (w : World) (hin : CIn w a L) :
    Calls Try.prog 56 #[pzv h (.slice a L.length c)] w fun e w' => ∃ v, e = .returned (.tuple #[pzv (hrdR h L).1 v, .bool (hrdR h L).2.2]) ∧ CRow w' w.heap.size v (hrdR h L).2.1 ∧ Below w.heap.size w w' := by
  obtain ⟨i0, hi0, hz0, hz1, hz2⟩ := info_parts Try.infoClue
  have I0 := Lib.hid hi0
  have Z0 := Lib.hid hz0
  have Z1 := Lib.hid hz1
  have Z2 := Lib.hid hz2
  clear hi0 hz0 hz1 hz2
  have HX := Lib.hid (fun W (hb : Below w.heap.size w W) => hin.below hb)
  cases hok : okZ h L
  · have HC := Lib.hid (fun W (hb : Below w.heap.size w W) => pzGood_is h a c L hm hok W (hin.below hb))
    have HM := Lib.hid hok
    clear hin hok
    (go_enter Try.func56, Try.ntmps56)
    go_wp2_with fail
    refine (HC.out _ (by (repeat' (first | (with_reducible exact Below.refl _ _) | (with_reducible assumption) | (with_reducible refine Below.alloc ?_ ?_ _) | (with_reducible refine Below.drew ?_) | (with_reducible refine below_drewN ?_ _) | (with_reducible refine Below.setCell ?_ ?_ _) | (with_reducible refine below_call ?_ ?_ (by assumption)) | go_size)))).mono ?_
    (rintro e1 w1 ⟨rfl, hb1⟩; obtain ⟨hc1, hf1⟩ := bcell hb1; have hz1 := hb1.size; (try simp only [World.size_alloc, World.size_setCell, World.size_drew] at hz1); have q1 : w.heap.size ≤ w1.heap.size := (by omega); (try have q1_0 : w.heap.size < w1.heap.size := (by omega)); (try have q1_1 : w.heap.size + 1 < w1.heap.size := (by omega)); (try have q1_2 : w.heap.size + 2 < w1.heap.size := (by omega)); (try have q1_3 : w.heap.size + 3 < w1.heap.size := (by omega)))
    go_wp2
    (refine bodyPost_ret (by simp [results, Try.results56, go_sem, *]; try rfl) rfl ?_)
    rw [show hrdR h L = (0, [], false) from by simp [hrdR, HM.out]]
    exact ⟨_, rfl, CRow.nil _ _, by (repeat' (first | (with_reducible exact Below.refl _ _) | (with_reducible assumption) | (with_reducible refine Below.alloc ?_ ?_ _) | (with_reducible refine Below.drew ?_) | (with_reducible refine below_drewN ?_ _) | (with_reducible refine Below.setCell ?_ ?_ _) | (with_reducible refine below_call ?_ ?_ (by assumption)) | go_size))⟩
  · have HC := Lib.hid (fun W (hb : Below w.heap.size w W) => pzGood_is h a c L hm hok W (hin.below hb))
    have HM := Lib.hid hok
    obtain ⟨hh, hl6, hall⟩ := okZ_bd hok
    clear hin hok
    (go_enter Try.func56, Try.ntmps56)
    go_wp2_with fail
    refine (HC.out _ (by (repeat' (first | (with_reducible exact Below.refl _ _) | (with_reducible assumption) | (with_reducible refine Below.alloc ?_ ?_ _) | (with_reducible refine Below.drew ?_) | (with_reducible refine below_drewN ?_ _) | (with_reducible refine Below.setCell ?_ ?_ _) | (with_reducible refine below_call ?_ ?_ (by assumption)) | go_size)))).mono ?_
    (rintro e1 w1 ⟨rfl, hb1⟩; obtain ⟨hc1, hf1⟩ := bcell hb1; have hz1 := hb1.size; (try simp only [World.size_alloc, World.size_setCell, World.size_drew] at hz1); have q1 : w.heap.size ≤ w1.heap.size := (by omega); (try have q1_0 : w.heap.size < w1.heap.size := (by omega)); (try have q1_1 : w.heap.size + 1 < w1.heap.size := (by omega)); (try have q1_2 : w.heap.size + 2 < w1.heap.size := (by omega)); (try have q1_3 : w.heap.size + 3 < w1.heap.size := (by omega)))
    cases hs : slvB h L
    · have HM2 := Lib.hid (show hrdR h L = (0, [], false) from by simp [hrdR, hs])
      go_wp2_with fail
      refine (pzSolved_is h a c L hh hall (by omega) hs _ (HX.out _ (by (repeat' (first | (with_reducible exact Below.refl _ _) | (with_reducible assumption) | (with_reducible refine Below.alloc ?_ ?_ _) | (with_reducible refine Below.drew ?_) | (with_reducible refine below_drewN ?_ _) | (with_reducible refine Below.setCell ?_ ?_ _) | (with_reducible refine below_call ?_ ?_ (by assumption)) | go_size))))).mono ?_
      (rintro e2 w2 ⟨rfl, hb2⟩; obtain ⟨hc2, hf2⟩ := bcell hb2; have hz2 := hb2.size; (try simp only [World.size_alloc, World.size_setCell, World.size_drew] at hz2); have q2 : w.heap.size ≤ w2.heap.size := (by omega); (try have q2_0 : w.heap.size < w2.heap.size := (by omega)); (try have q2_1 : w.heap.size + 1 < w2.heap.size := (by omega)); (try have q2_2 : w.heap.size + 2 < w2.heap.size := (by omega)); (try have q2_3 : w.heap.size + 3 < w2.heap.size := (by omega)); (try have q2_1_0 : w1.heap.size < w2.heap.size := (by omega)); (try have q2_1_1 : w1.heap.size + 1 < w2.heap.size := (by omega)))
      have k2 : w2.cell? ⟨w.heap.size + 1, 0, none⟩ = some (.int .i64 0) := (hc2 _ _ (by go_size)).trans ((hc1 _ _ (by go_size)).trans (by go_simp))
      have k3 : w2.cell? ⟨w.heap.size + 1, 1, none⟩ = some (.slice none 0 0) := (hc2 _ _ (by go_size)).trans ((hc1 _ _ (by go_size)).trans (by go_simp))
      go_wp2
      (refine bodyPost_ret (by simp [results, Try.results56, go_sem, *]; try rfl) rfl ?_)
      rw [HM2.out]
      exact ⟨_, rfl, CRow.nil _ _, by (repeat' (first | (with_reducible exact Below.refl _ _) | (with_reducible assumption) | (with_reducible refine Below.alloc ?_ ?_ _) | (with_reducible refine Below.drew ?_) | (with_reducible refine below_drewN ?_ _) | (with_reducible refine Below.setCell ?_ ?_ _) | (with_reducible refine below_call ?_ ?_ (by assumption)) | go_size))⟩
    · have HM2 := Lib.hid (show hrdR h L = (h, hrdF h L.length L 0, true) from by simp [hrdR, hs, HM.out])
      have HW := Lib.hid (fun (a : Option Addr) (c : Nat) (M : List (Int × Int × Int)) (k : Nat) (hk : k < M.length) (hc : M.length ≤ c) (hcm : c ≤ maxLen) (hl : M.length ≤ 1048576) W hi => pzWithout_any a c M k hk hc hcm hl W hi)
      have HSV := Lib.hid (fun (a : Option Addr) (c : Nat) (M : List (Int × Int × Int)) r (ha : M.all (okC h) = true) (hl : M.length ≤ 1048576) (hr : decide ((sol h M).length = 1) = r) W hi => pzSolved_is h a c M hh ha hl hr W hi)
      have HALL := Lib.hid hall
      go_wp2_with fail
      refine (pzSolved_is h a c L hh hall (by omega) hs _ (HX.out _ (by (repeat' (first | (with_reducible exact Below.refl _ _) | (with_reducible assumption) | (with_reducible refine Below.alloc ?_ ?_ _) | (with_reducible refine Below.drew ?_) | (with_reducible refine below_drewN ?_ _) | (with_reducible refine Below.setCell ?_ ?_ _) | (with_reducible refine below_call ?_ ?_ (by assumption)) | go_size))))).mono ?_
      (rintro e2 w2 ⟨rfl, hb2⟩; obtain ⟨hc2, hf2⟩ := bcell hb2; have hz2 := hb2.size; (try simp only [World.size_alloc, World.size_setCell, World.size_drew] at hz2); have q2 : w.heap.size ≤ w2.heap.size := (by omega); (try have q2_0 : w.heap.size < w2.heap.size := (by omega)); (try have q2_1 : w.heap.size + 1 < w2.heap.size := (by omega)); (try have q2_2 : w.heap.size + 2 < w2.heap.size := (by omega)); (try have q2_3 : w.heap.size + 3 < w2.heap.size := (by omega)); (try have q2_1_0 : w1.heap.size < w2.heap.size := (by omega)); (try have q2_1_1 : w1.heap.size + 1 < w2.heap.size := (by omega)))
      have k0 : w2.cell? ⟨w.heap.size, 0, none⟩ = some (.int .i64 h) := (hc2 _ _ (by go_size)).trans ((hc1 _ _ (by go_size)).trans (by go_simp))
      have k1 : w2.cell? ⟨w.heap.size, 1, none⟩ = some (.slice a L.length c) := (hc2 _ _ (by go_size)).trans ((hc1 _ _ (by go_size)).trans (by go_simp))
      have k2 : w2.cell? ⟨w.heap.size + 1, 0, none⟩ = some (.int .i64 0) := (hc2 _ _ (by go_size)).trans ((hc1 _ _ (by go_size)).trans (by go_simp))
      have k3 : w2.cell? ⟨w.heap.size + 1, 1, none⟩ = some (.slice none 0 0) := (hc2 _ _ (by go_size)).trans ((hc1 _ _ (by go_size)).trans (by go_simp))
      have k4 : w2.frozen? ⟨w.heap.size + 1, 0, none⟩ = false := (hf2 _ _ (by go_size)).trans ((hf1 _ _ (by go_size)).trans (by go_simp))
      have k5 : w2.frozen? ⟨w.heap.size + 1, 1, none⟩ = false := (hf2 _ _ (by go_size)).trans ((hf1 _ _ (by go_size)).trans (by go_simp))
      have hbw2 : Below w.heap.size w w2 := by (repeat' (first | (with_reducible exact Below.refl _ _) | (with_reducible assumption) | (with_reducible refine Below.alloc ?_ ?_ _) | (with_reducible refine Below.drew ?_) | (with_reducible refine below_drewN ?_ _) | (with_reducible refine Below.setCell ?_ ?_ _) | (with_reducible refine below_call ?_ ?_ (by assumption)) | go_size))
      have hzz : w.heap.size + 2 ≤ w2.heap.size := by omega
      have HIN := Lib.hid (HX.out _ hbw2)
      have O1 := Lib.hid (World.ownsRow_made (base := w.heap.size + 2) (e := 25) (size := 3) w2 #[] 0 (by omega) (by unfold maxLen; omega) rfl)
      have hbn : Below w2.heap.size w2 (w2.alloc (.cells #[] 25)) := by (repeat' (first | (with_reducible exact Below.refl _ _) | (with_reducible assumption) | (with_reducible refine Below.alloc ?_ ?_ _) | (with_reducible refine Below.drew ?_) | (with_reducible refine below_drewN ?_ _) | (with_reducible refine Below.setCell ?_ ?_ _) | (with_reducible refine below_call ?_ ?_ (by assumption)) | go_size))
      clear hc1 hf1 hc2 hf2 hb1 hb2 hs
      obtain ⟨vn, wn, hrn, hown, hgn⟩ := copyClues_run w2 (w.heap.size + 2) a c L I0.out Z0.out Z1.out Z2.out hc (by omega) HIN.out (by omega)
      have hb3n : Below w2.heap.size w2 wn := hgn
      have HRN : Hid (CRow wn (w.heap.size + 2) vn L) := Lib.hid hown
      have hrn' := hrn
      clear hown hgn hrn
      go_wp2_with (at_builtin; go_loud (refine wpList_append_eq rfl _ _ _ rfl rfl rfl hrn' ?_))
      have hn0 := hb3n.size
      obtain ⟨hcn, hfn⟩ := bcell hb3n
      have y0 := (hcn _ _ (show w.heap.size < _ by omega)).trans k0
      have y2 := (hcn _ _ (show w.heap.size + 1 < _ by omega)).trans k2
      have y3 := (hcn _ _ (show w.heap.size + 1 < _ by omega)).trans k3
      have y4 := (hfn _ _ (show w.heap.size + 1 < _ by omega)).trans k4
      have y5 := (hfn _ _ (show w.heap.size + 1 < _ by omega)).trans k5
      have hbw3 : Below w.heap.size w wn := hbw2.trans (hb3n.mono hbw2.size)
      clear hcn hfn k0 k1 k2 k3 k4 k5
      go_wp2
      go_loopw [4, 5] (fun q i wr => ∃ (k : Nat) (M : List (Int × Int × Int)), k ≤ M.length ∧ i = .int .i64 k ∧ M.all (okC h) = true ∧ M.length ≤ L.length ∧ hrdF h (M.length - k) M k = hrdF h L.length L 0 ∧ CRow wr (w.heap.size + 2) q M ∧ wr.cell? ⟨w.heap.size, 0, none⟩ = some (.int .i64 h) ∧ wr.cell? ⟨w.heap.size + 1, 0, none⟩ = some (.int .i64 0) ∧ wr.cell? ⟨w.heap.size + 1, 1, none⟩ = some (.slice none 0 0) ∧ wr.frozen? ⟨w.heap.size + 1, 0, none⟩ = false ∧ wr.frozen? ⟨w.heap.size + 1, 1, none⟩ = false ∧ w.heap.size + 2 ≤ wr.heap.size ∧ Below w.heap.size w wr) (fun q i _ => (match q with | .slice _ n _ => n | _ => 0) - (intOf i).toNat)
      case atStart => exact ⟨0, L, Nat.zero_le _, rfl, HALL.out, Nat.le_refl _, rfl, HRN.out, y0, y2, y3, y4, y5, by omega, hbw3⟩
      case round =>
        obtain ⟨k, M, hk, rfl, hall', hML, hrec, hrow, c0, r0, r1, z2, z3, hz3, hbr⟩ := hrel
        have HREC := Lib.hid hrec
        have HR := Lib.hid hrow
        obtain ⟨ma, mc, rfl, hmi, hmc, hmm⟩ := hrow.inn
        have HMI := Lib.hid hmi
        have HALL2 := Lib.hid hall'
        clear hrec hmi hall' hrow
        have n0' : (0 : Int) ≤ (k : Int) := Int.natCast_nonneg _
        have p0 : w.heap.size < wr.heap.size := by omega
        have p1 : w.heap.size + 1 < wr.heap.size := by omega
        by_cases hlt : k < M.length
        · have k1 : (k : Int) < (M.length : Int) := by omega
          have HD := Lib.hid (fun W hi => HW.out ma mc M k hlt hmc hmm (by omega) W hi)
          have hel := erase_len hlt
          go_wp2_with fail
          refine (HD.out _ HMI.out).mono ?_
          rintro e3 w3 ⟨v3, rfl, hr3, hb3⟩
          obtain ⟨a3, cc3, rfl, hi3, hcc3, hmm3⟩ := hr3.inn
          have HR3 := Lib.hid (hr3.mono (show w.heap.size + 2 ≤ _ by omega))
          have HI3 := Lib.hid hi3
          have hz3' := hb3.size
          obtain ⟨hc3, hf3⟩ := bcell hb3
          have x0 := (hc3 _ _ p0).trans c0
          have x1 := (hc3 _ _ p1).trans r0
          have x2 := (hc3 _ _ p1).trans r1
          have x3 := (hf3 _ _ p1).trans z2
          have x4 := (hf3 _ _ p1).trans z3
          have HAE := Lib.hid (all_erase HALL2.out k)
          have HEL := Lib.hid hel
          have hbw : Below w.heap.size w w3 := hbr.trans (hb3.mono hbr.size)
          have HSV3 := Lib.hid (fun r hr => HSV.out a3 cc3 (M.eraseIdx k) r HAE.out (by rw [hel]; omega) hr w3 HI3.out)
          have q0 : w.heap.size < w3.heap.size := by omega
          have q1 : w.heap.size + 1 < w3.heap.size := by omega
          clear hr3 hi3 hc3 hf3 c0 r0 r1 z2 z3 hel
          cases hs : slvB h (M.eraseIdx k)
          · have HN := Lib.hid (hrd_no hlt hs)
            go_wp2_with fail
            refine (HSV3.out false hs).mono ?_
            rintro e4 w4 ⟨rfl, hb4⟩
            obtain ⟨hc4, hf4⟩ := bcell hb4
            have hz4 := hb4.size
            have v0 := (hc4 _ _ q0).trans x0
            have v1 := (hc4 _ _ q1).trans x1
            have v2 := (hc4 _ _ q1).trans x2
            have v3 := (hf4 _ _ q1).trans x3
            have v4 := (hf4 _ _ q1).trans x4
            have HR4 := Lib.hid ((HR.out.below hb3).below hb4)
            clear hc4 hf4 hs
            go_wp2
            go_roundw
            case rel => exact ⟨k + 1, M, by omega, by go_num, HALL2.out, hML, HN.out.trans HREC.out, HR4.out, v0, v1, v2, v3, v4, by omega, hbw.trans (hb4.mono hbw.size)⟩
            case measure => simp [intOf]; omega
          · have HN := Lib.hid (hrd_yes hlt hs)
            go_wp2_with fail
            refine (HSV3.out true hs).mono ?_
            rintro e4 w4 ⟨rfl, hb4⟩
            obtain ⟨hc4, hf4⟩ := bcell hb4
            have hz4 := hb4.size
            have v0 := (hc4 _ _ q0).trans x0
            have v1 := (hc4 _ _ q1).trans x1
            have v2 := (hc4 _ _ q1).trans x2
            have v3 := (hf4 _ _ q1).trans x3
            have v4 := (hf4 _ _ q1).trans x4
            have HR4 := Lib.hid (HR3.out.below hb4)
            clear hc4 hf4 hs
            go_wp2
            go_roundw
            case rel => exact ⟨k, M.eraseIdx k, by have := HEL.out; omega, rfl, HAE.out, by have := HEL.out; omega, HN.out.trans HREC.out, HR4.out, v0, v1, v2, v3, v4, by omega, hbw.trans (hb4.mono hbw.size)⟩
            case measure =>
              have hle := HEL.out
              show (M.eraseIdx k).length - (intOf (.int .i64 (k : Int))).toNat < M.length - (intOf (.int .i64 (k : Int))).toNat
              simp only [intOf]
              omega
        · obtain rfl : k = M.length := by omega
          have HE := Lib.hid ((hrd_end (h := h) (M := M) (k := M.length) (by omega)).symm.trans HREC.out)
          have HR2 := HR.out
          go_wp2
          (refine bodyPost_ret (by simp [results, Try.results56, go_sem, *]; try rfl) rfl ?_)
          rw [HM2.out]
          refine ⟨_, rfl, ?_, by (repeat' (first | (with_reducible exact Below.refl _ _) | (with_reducible assumption) | (with_reducible refine Below.alloc ?_ ?_ _) | (with_reducible refine Below.drew ?_) | (with_reducible refine below_drewN ?_ _) | (with_reducible refine Below.setCell ?_ ?_ _) | (with_reducible refine below_call ?_ ?_ (by assumption)) | go_size))⟩
          show CRow _ _ _ (hrdF h L.length L 0)
          rw [← HE.out]
          exact ((HR.out.set (a := ⟨w.heap.size + 1, 0, none⟩) (by show w.heap.size + 1 < _; omega) _).set (a := ⟨w.heap.size + 1, 1, none⟩) (by show w.heap.size + 1 < _; omega) _).mono (by omega)

end Go.Proofs.Ytcpgjjmamclklaa
