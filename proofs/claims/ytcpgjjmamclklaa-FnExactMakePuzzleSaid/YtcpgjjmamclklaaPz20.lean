/- Puzzles: AddClue: by the program and by the model. -/
import Derived.Test.YtcpgjjmamclklaaPz19
set_option linter.unusedSimpArgs false
set_option linter.unusedVariables false
set_option maxRecDepth 100000
namespace Go.Proofs.Ytcpgjjmamclklaa
open Go.RowKit

def cloO (h : Int) (L : List (Int × Int × Int)) : PzR := if okZ h L then (h, L, true) else (0, [], false)
theorem cloO_len (h : Int) (L : List (Int × Int × Int)) : (cloO h L).2.1.length ≤ 2000000 := by
  unfold cloO
  split
  · rename_i hok
    have h6 := (okZ_bd hok).2.1
    show L.length ≤ _
    omega
  · simp
theorem add_okZ (h : Int) (L : List (Int × Int × Int)) (t : Int × Int × Int) : okZ h (L ++ [t]) = (okZ h L && okC h t && !decide (L.length = 6)) := by
  rw [Bool.eq_iff_iff]
  unfold okZ
  simp only [Bool.and_eq_true, decide_eq_true_eq, List.length_append, List.length_singleton, List.all_append, List.all_cons, List.all_nil, Bool.and_true, Bool.not_eq_true', decide_eq_false_iff_not]
  constructor
  · rintro ⟨⟨h1, h2⟩, h3, h4⟩
    exact ⟨⟨⟨⟨h1, by omega⟩, h3⟩, h4⟩, by omega⟩
  · rintro ⟨⟨⟨⟨h1, h2⟩, h3⟩, h4⟩, h5⟩
    exact ⟨⟨h1, by omega⟩, h3, h4⟩
set_option maxHeartbeats 1600000 in
theorem tellClosed_any (h : Int) (a : Option Addr) (c : Nat) (L : List (Int × Int × Int)) (hm : L.length ≤ maxLen) (w : World) (hin : CIn w a L) :
    Calls Try.prog 91 #[pzv h (.slice a L.length c), .func (.func 94) #[] #[]] w fun e w' => ∃ v, e = .returned (.tuple #[pzv (cloO h L).1 v, .bool (cloO h L).2.2]) ∧ CRow w' w.heap.size v (cloO h L).2.1 ∧ Below w.heap.size w w' := by
  have HC := Lib.hid (fun W (hb : Below w.heap.size w W) => openPuzzle_any h a c L hm W (hin.below hb))
  clear hin
  (go_enter Try.func91, Try.ntmps91)
  go_wp2_with fail
  refine (HC.out _ (by (repeat' (first | (with_reducible exact Below.refl _ _) | (with_reducible assumption) | (with_reducible refine Below.alloc ?_ ?_ _) | (with_reducible refine Below.drew ?_) | (with_reducible refine below_drewN ?_ _) | (with_reducible refine Below.setCell ?_ ?_ _) | (with_reducible refine below_call ?_ ?_ (by assumption)) | go_size)))).mono ?_
  rintro e1 w1 ⟨hb1, ⟨hok, v, rfl, hr⟩ | ⟨hok, rfl⟩⟩
  · obtain ⟨hh, hl6, hall⟩ := okZ_bd hok
    obtain ⟨a1, c1, rfl, hi1, hcap, hcmx⟩ := hr.inn
    have HM := Lib.hid hok
    have HI := Lib.hid hi1
    have hz1 := hb1.size
    simp only [World.size_alloc] at hz1
    obtain ⟨hc1, hf1⟩ := bcell hb1
    have hw1 : w.heap.size + 1 < w1.heap.size := by omega
    have hw2 : w.heap.size + 1 < w1.heap.size + 1 := by omega
    have hw3 : w.heap.size < w1.heap.size := by omega
    have tc0 : w1.cell? ⟨w.heap.size + 1, 0, none⟩ = some (.int .i64 0) := ((hc1 _ _ (by go_size)).trans (by go_simp))
    have tf0 : w1.frozen? ⟨w.heap.size + 1, 0, none⟩ = false := ((hf1 _ _ (by go_size)).trans (by go_simp))
    have tc1 : w1.cell? ⟨w.heap.size + 1, 1, none⟩ = some (.slice none 0 0) := ((hc1 _ _ (by go_size)).trans (by go_simp))
    have tf1 : w1.frozen? ⟨w.heap.size + 1, 1, none⟩ = false := ((hf1 _ _ (by go_size)).trans (by go_simp))
    clear hr hok hi1
    go_wp2_with fail
    refine (closed_any h a1 c1 L (by omega) _ (HI.out.below (by (repeat' (first | (with_reducible exact Below.refl _ _) | (with_reducible assumption) | (with_reducible refine Below.alloc ?_ ?_ _) | (with_reducible refine Below.drew ?_) | (with_reducible refine below_drewN ?_ _) | (with_reducible refine Below.setCell ?_ ?_ _) | (with_reducible refine below_call ?_ ?_ (by assumption)) | go_size))))).mono ?_
    rintro e2 w2 ⟨v2, rfl, hr2, hb2⟩
    have hz2 := hb2.size
    simp only [World.size_alloc] at hz2
    obtain ⟨hc2, hf2⟩ := bcell hb2
    have ud0 := (hc2 (w.heap.size + 1) 0 (by simp; omega)).trans ((World.cell?_alloc_past _ _ _ hw1).trans tc0)
    have ud1 := (hc2 (w.heap.size + 1) 1 (by simp; omega)).trans ((World.cell?_alloc_past _ _ _ hw1).trans tc1)
    have ue0 := (hf2 (w.heap.size + 1) 0 (by simp; omega)).trans (((bcell (Below.alloc (Below.refl w1.heap.size w1) (Nat.le_refl _) _)).2 _ _ hw1).trans tf0)
    have ue1 := (hf2 (w.heap.size + 1) 1 (by simp; omega)).trans (((bcell (Below.alloc (Below.refl w1.heap.size w1) (Nat.le_refl _) _)).2 _ _ hw1).trans tf1)
    have HR := Lib.hid (hr2.mono (show w.heap.size + 2 ≤ _ by simp; omega))
    obtain ⟨a2, c2, rfl, -⟩ := hr2.inn
    have HMR : Hid (cloO h L = (h, L, true)) := Lib.hid (by simp [HM.out, cloO])
    clear hr2 hc2 hf2 hc1 hf1 tc0 tc1 tf0 tf1
    go_wp2
    (refine bodyPost_ret (by simp [results, Try.results91, go_sem, *]; try rfl) rfl ?_)
    rw [HMR.out]
    exact ⟨_, rfl, ((HR.out.set (a := ⟨w.heap.size + 1, 0, none⟩) (by show w.heap.size + 1 < _; omega) _).set (a := ⟨w.heap.size + 1, 1, none⟩) (by show w.heap.size + 1 < _; omega) _).mono (by omega), by (repeat' (first | (with_reducible exact Below.refl _ _) | (with_reducible assumption) | (with_reducible refine Below.alloc ?_ ?_ _) | (with_reducible refine Below.drew ?_) | (with_reducible refine below_drewN ?_ _) | (with_reducible refine Below.setCell ?_ ?_ _) | (with_reducible refine below_call ?_ ?_ (by assumption)) | go_size))⟩
  · have HM := Lib.hid hok
    have hz1 := hb1.size
    simp only [World.size_alloc] at hz1
    obtain ⟨hc1, hf1⟩ := bcell hb1
    have hw1 : w.heap.size + 1 < w1.heap.size := by omega
    have hw2 : w.heap.size + 1 < w1.heap.size + 1 := by omega
    have hw3 : w.heap.size < w1.heap.size := by omega
    have tc0 : w1.cell? ⟨w.heap.size + 1, 0, none⟩ = some (.int .i64 0) := ((hc1 _ _ (by go_size)).trans (by go_simp))
    have tf0 : w1.frozen? ⟨w.heap.size + 1, 0, none⟩ = false := ((hf1 _ _ (by go_size)).trans (by go_simp))
    have tc1 : w1.cell? ⟨w.heap.size + 1, 1, none⟩ = some (.slice none 0 0) := ((hc1 _ _ (by go_size)).trans (by go_simp))
    have tf1 : w1.frozen? ⟨w.heap.size + 1, 1, none⟩ = false := ((hf1 _ _ (by go_size)).trans (by go_simp))
    have HMR : Hid (cloO h L = (0, [], false)) := Lib.hid (by simp [HM.out, cloO])
    clear hok hc1 hf1
    go_wp2
    (refine bodyPost_ret (by simp [results, Try.results91, go_sem, *]; try rfl) rfl ?_)
    rw [HMR.out]
    exact ⟨_, rfl, CRow.nil _ _, by (repeat' (first | (with_reducible exact Below.refl _ _) | (with_reducible assumption) | (with_reducible refine Below.alloc ?_ ?_ _) | (with_reducible refine Below.drew ?_) | (with_reducible refine below_drewN ?_ _) | (with_reducible refine Below.setCell ?_ ?_ _) | (with_reducible refine below_call ?_ ?_ (by assumption)) | go_size))⟩
/-- One clue appended onto a list that has no room. -/
theorem addClue_run (W : World) (base : Nat) (a : Option Addr) (L : List (Int × Int × Int)) (x y z : Int) (g : Nat) {i0 : TypeInfo} (h0 : Try.prog.info? 25 = some i0) (h1 : i0.zero = some (.agg #[.int .i64 0, .int .i64 0, .int .i64 0])) (h2 : i0.size = 3) (h3 : i0.bytes = 24) (hl : L.length ≤ 1048576) (hin : CIn W a L) (hb : base ≤ W.heap.size)
    (hn : ∀ j u, ([.int .i64 x, .int .i64 y, .int .i64 z] : List Value)[j]? = some u → W.cell? ((⟨g, 0, none⟩ : Addr).add j) = some u) :
    ∃ v' w', (Builtin.append_ #[33, 33] 33 #[.slice a L.length L.length, .slice (some ⟨g, 0, none⟩) 1 1]).run Try.prog W = .ok v' w' ∧ CRow w' base v' (L ++ [(x, y, z)]) ∧ Below W.heap.size W w' := by
  cases a with
  | none =>
    have hL : L = [] := by
      cases L with
      | nil => rfl
      | cons t ts => obtain ⟨b, off, e, -⟩ := hin 0 (by simp); cases e
    subst hL
    obtain ⟨v', w', hr, ho, hg, -⟩ := run_append_own W base 33 33 25 i0 _ 3 24 Try.underlying33 h0 h1 h2 h3 rfl (by omega) (.slice none 0 0) 0 [] (World.ownsRow_nil _ _ _ _) ⟨g, 0, none⟩ 1 1 [.int .i64 x, .int .i64 y, .int .i64 z] rfl hn (by simp [Value.oneCell']) (by unfold maxLen; omega) (by omega) hb
    exact ⟨v', w', hr, ho, ⟨hg.os, hg.tape, hg.output, hg.size, fun k hk => hg.block k hk (by simp [Value.ownBlock])⟩⟩
  | some ad =>
    obtain ⟨v', w', hr, ho, hg⟩ := run_append_arg_grows W 33 33 25 i0 _ 3 24 Try.underlying33 h0 h1 h2 h3 rfl (by omega) ad L.length L.length (flat3 L) (by rw [flat3_length]) (news_any hin) ⟨g, 0, none⟩ 1 1 [.int .i64 x, .int .i64 y, .int .i64 z] rfl hn (by omega) (by unfold maxLen; omega) (by omega)
    refine ⟨v', w', hr, ?_, ⟨hg.os, hg.tape, hg.output, hg.size, fun k hk => hg.block k hk (by simp)⟩⟩
    have h5 : CRow w' W.heap.size v' (L ++ [(x, y, z)]) := by
      unfold CRow
      rw [flat3_append, List.length_append]
      exact ho
    exact h5.mono hb
theorem run_cutHM {P : Program} {t e : TypeId} (ht : P.underlying t = some (.slice e)) {i : TypeInfo} (hi : P.info? e = some i) (hs : i.size = 3) (a : Option Addr) (n c : Nat) (h : Nat) (h1 : h ≤ c) (w : World) :
    (Instr.slice t (.slice a n c) none (some (.int .i64 h)) (some (.int .i64 h))).run P w = .ok (.slice a h h) w := by
  have _ := hs
  have q4 := cutA_zero a h
  unfold cutA at q4
  simp only [Nat.zero_mul] at q4
  simp [Instr.slice, Instr.sliceBounds, Instr.sliceBound, asIntOf, run_underlying ht, sizeOf, typeInfo, hi, hs, h1, Nat.not_lt.2 h1, q4]
set_option maxHeartbeats 3200000 in
theorem implAddClue_any (h : Int) (a : Option Addr) (c : Nat) (L : List (Int × Int × Int)) (x y z : Int) (hl : L.length ≤ 1048576) (hc : L.length ≤ c) (w : World) (hin : CIn w a L) :
    Calls Try.prog 51 #[pzv h (.slice a L.length c), kv x y z] w fun e w' => ∃ v, e = .returned (.tuple #[pzv (cloO h (L ++ [(x, y, z)])).1 v, .bool (cloO h (L ++ [(x, y, z)])).2.2]) ∧ CRow w' w.heap.size v (cloO h (L ++ [(x, y, z)])).2.1 ∧ Below w.heap.size w w' := by
  obtain ⟨i0, hi0, hz0, hz1, hz2⟩ := info_parts Try.infoClue
  have I0 := Lib.hid hi0
  have Z0 := Lib.hid hz0
  have Z1 := Lib.hid hz1
  have Z2 := Lib.hid hz2
  clear hi0 hz0 hz1 hz2
  have hm2 : (L ++ [(x, y, z)]).length ≤ maxLen := by rw [List.length_append]; unfold maxLen; simp; omega
  have HCUT := run_cutHM Try.underlying33 I0.out Z1.out a L.length c L.length hc
  have HX := Lib.hid (fun W (hb : Below w.heap.size w W) => hin.below hb)
  have HT := Lib.hid (fun (a' : Option Addr) (c' : Nat) W hi => tellClosed_any h a' c' (L ++ [(x, y, z)]) hm2 W hi)
  have hl2 : (L ++ [(x, y, z)]).length = L.length + 1 := by simp
  clear hin hm2
  (go_enter Try.func51, Try.ntmps51)
  go_wp2_with fail
  have g0 : (((w.alloc (Obj.cells #[Value.int .i64 h, Value.slice a L.length c] 35)).alloc (Obj.cells #[Value.int .i64 x, Value.int .i64 y, Value.int .i64 z] 25)).alloc (Obj.cells #[Value.int .i64 0, Value.slice none 0 0] 35)).cell? ⟨w.heap.size, 0, none⟩ = some (.int .i64 h) := by go_simp
  have g1 : (((w.alloc (Obj.cells #[Value.int .i64 h, Value.slice a L.length c] 35)).alloc (Obj.cells #[Value.int .i64 x, Value.int .i64 y, Value.int .i64 z] 25)).alloc (Obj.cells #[Value.int .i64 0, Value.slice none 0 0] 35)).cell? ⟨w.heap.size + 1, 0, none⟩ = some (.int .i64 x) := by go_simp
  have g2 : (((w.alloc (Obj.cells #[Value.int .i64 h, Value.slice a L.length c] 35)).alloc (Obj.cells #[Value.int .i64 x, Value.int .i64 y, Value.int .i64 z] 25)).alloc (Obj.cells #[Value.int .i64 0, Value.slice none 0 0] 35)).cell? ⟨w.heap.size + 1, 1, none⟩ = some (.int .i64 y) := by go_simp
  have g3 : (((w.alloc (Obj.cells #[Value.int .i64 h, Value.slice a L.length c] 35)).alloc (Obj.cells #[Value.int .i64 x, Value.int .i64 y, Value.int .i64 z] 25)).alloc (Obj.cells #[Value.int .i64 0, Value.slice none 0 0] 35)).cell? ⟨w.heap.size + 1, 2, none⟩ = some (.int .i64 z) := by go_simp
  have g4 : (((w.alloc (Obj.cells #[Value.int .i64 h, Value.slice a L.length c] 35)).alloc (Obj.cells #[Value.int .i64 x, Value.int .i64 y, Value.int .i64 z] 25)).alloc (Obj.cells #[Value.int .i64 0, Value.slice none 0 0] 35)).cell? ⟨w.heap.size + 1 + 1, 0, none⟩ = some (.int .i64 0) := by go_simp
  have g5 : (((w.alloc (Obj.cells #[Value.int .i64 h, Value.slice a L.length c] 35)).alloc (Obj.cells #[Value.int .i64 x, Value.int .i64 y, Value.int .i64 z] 25)).alloc (Obj.cells #[Value.int .i64 0, Value.slice none 0 0] 35)).cell? ⟨w.heap.size + 1 + 1, 1, none⟩ = some (.slice none 0 0) := by go_simp
  have g6 : (((w.alloc (Obj.cells #[Value.int .i64 h, Value.slice a L.length c] 35)).alloc (Obj.cells #[Value.int .i64 x, Value.int .i64 y, Value.int .i64 z] 25)).alloc (Obj.cells #[Value.int .i64 0, Value.slice none 0 0] 35)).frozen? ⟨w.heap.size + 1 + 1, 0, none⟩ = false := by go_simp
  have g7 : (((w.alloc (Obj.cells #[Value.int .i64 h, Value.slice a L.length c] 35)).alloc (Obj.cells #[Value.int .i64 x, Value.int .i64 y, Value.int .i64 z] 25)).alloc (Obj.cells #[Value.int .i64 0, Value.slice none 0 0] 35)).frozen? ⟨w.heap.size + 1 + 1, 1, none⟩ = false := by go_simp
  have hzE : (((w.alloc (Obj.cells #[Value.int .i64 h, Value.slice a L.length c] 35)).alloc (Obj.cells #[Value.int .i64 x, Value.int .i64 y, Value.int .i64 z] 25)).alloc (Obj.cells #[Value.int .i64 0, Value.slice none 0 0] 35)).heap.size = w.heap.size + 3 := by simp
  have hbE : Below w.heap.size w (((w.alloc (Obj.cells #[Value.int .i64 h, Value.slice a L.length c] 35)).alloc (Obj.cells #[Value.int .i64 x, Value.int .i64 y, Value.int .i64 z] 25)).alloc (Obj.cells #[Value.int .i64 0, Value.slice none 0 0] 35)) := by (repeat' (first | (with_reducible exact Below.refl _ _) | (with_reducible assumption) | (with_reducible refine Below.alloc ?_ ?_ _) | (with_reducible refine Below.drew ?_) | (with_reducible refine below_drewN ?_ _) | (with_reducible refine Below.setCell ?_ ?_ _) | (with_reducible refine below_call ?_ ?_ (by assumption)) | go_size))
  generalize (((w.alloc (Obj.cells #[Value.int .i64 h, Value.slice a L.length c] 35)).alloc (Obj.cells #[Value.int .i64 x, Value.int .i64 y, Value.int .i64 z] 25)).alloc (Obj.cells #[Value.int .i64 0, Value.slice none 0 0] 35)) = E at *
  have HSB : Hid (∀ W, Below E.heap.size E W → W.cell? ⟨w.heap.size, 0, none⟩ = some (.int .i64 h) ∧ W.cell? ⟨w.heap.size + 1, 0, none⟩ = some (.int .i64 x) ∧ W.cell? ⟨w.heap.size + 1, 1, none⟩ = some (.int .i64 y) ∧ W.cell? ⟨w.heap.size + 1, 2, none⟩ = some (.int .i64 z)) := Lib.hid (fun W hb => by
    have hc := (bcell hb).1
    exact ⟨(hc _ _ (by omega)).trans g0, (hc _ _ (by omega)).trans g1, (hc _ _ (by omega)).trans g2, (hc _ _ (by omega)).trans g3⟩)
  have hBd : Below E.heap.size E E.drew := (Below.refl _ _).drew
  have hS1 := HSB.out _ hBd
  refine wp_region_held (by kernel_rfl) (S := fun W => W.cell? ⟨w.heap.size, 0, none⟩ = some (.int .i64 h) ∧ W.cell? ⟨w.heap.size + 1, 0, none⟩ = some (.int .i64 x) ∧ W.cell? ⟨w.heap.size + 1, 1, none⟩ = some (.int .i64 y) ∧ W.cell? ⟨w.heap.size + 1, 2, none⟩ = some (.int .i64 z)) ?_
  refine take_first (i := 0) (v := .pointer (some ⟨w.heap.size, 0, none⟩)) _ rfl rfl (by kernel_rfl) (by kernel_rfl) (by kernel_rfl) (fun _ _ _ h => h) (by rfl) ?_ (by assumption) ?_
  · intro wq hq
    obtain ⟨s0, s1, s2, s3⟩ := hq
    go_simp
    try rfl
  simp only [Act.put, List.setIfInBounds_toArray, List.set_cons_zero, List.set_cons_succ]
  refine take_first (i := 1) (v := .int .i64 h) _ rfl rfl (by kernel_rfl) (by kernel_rfl) (by kernel_rfl) (fun _ _ _ h => h) (by rfl) ?_ (by assumption) ?_
  · intro wq hq
    obtain ⟨s0, s1, s2, s3⟩ := hq
    go_simp
    try rfl
  simp only [Act.put, List.setIfInBounds_toArray, List.set_cons_zero, List.set_cons_succ]
  refine take_first (i := 2) (v := .slice a L.length L.length) _ rfl rfl (by kernel_rfl) (by kernel_rfl) (by kernel_rfl) (fun _ _ _ h => h) (by rfl) ?_ (by assumption) ?_
  · intro wq hq
    obtain ⟨s0, s1, s2, s3⟩ := hq
    go_simp
    try rfl
  simp only [Act.put, List.setIfInBounds_toArray, List.set_cons_zero, List.set_cons_succ]
  refine take_first (i := 3) (v := kv x y z) _ rfl rfl (by kernel_rfl) (by kernel_rfl) (by kernel_rfl) (fun _ _ _ h => h) (by rfl) ?_ (by assumption) ?_
  · intro wq hq
    obtain ⟨s0, s1, s2, s3⟩ := hq
    go_simp
    try rfl
  simp only [Act.put, List.setIfInBounds_toArray, List.set_cons_zero, List.set_cons_succ]
  refine wpAnyH_all (rs := [4]) (by kernel_rfl) (by decide) (List.forall_mem_cons.2 ⟨?_, fun _ h => absurd h List.not_mem_nil⟩)
  have hB2 : Below E.heap.size E (World.alloc E.drew (.cells #[.int .i64 x, .int .i64 y, .int .i64 z] 25)) := Below.alloc hBd hBd.size _
  refine wpOp_value (v := .slice (some ⟨E.heap.size, 0, none⟩) 1 1) (w' := World.alloc E.drew (.cells #[.int .i64 x, .int .i64 y, .int .i64 z] 25)) _ rfl rfl rfl (by go_simp; try rfl) ⟨HSB.out _ hB2, ?_⟩
  have hcl := (cells_of_block (heap_alloc_new E.drew (Obj.cells #[.int .i64 x, .int .i64 y, .int .i64 z] 25))).1
  have hz2 : (World.alloc E.drew (Obj.cells #[.int .i64 x, .int .i64 y, .int .i64 z] 25)).heap.size = E.heap.size + 1 := by simp
  generalize World.alloc E.drew (.cells #[.int .i64 x, .int .i64 y, .int .i64 z] 25) = w2 at *
  obtain ⟨v4, w4, hr4, ho4, hb4'⟩ := addClue_run w2 (w.heap.size + 3) a L x y z E.heap.size I0.out Z0.out Z1.out Z2.out hl (HX.out _ (hbE.trans (hB2.mono hbE.size))) (by omega) (fun j u hu => by
    rw [add_off, Nat.zero_add]
    have := hcl j
    rw [show E.drew.heap.size = E.heap.size from rfl] at this
    rw [this, List.getElem?_toArray]
    exact hu)
  have hB4 : Below E.heap.size E w4 := hB2.trans (hb4'.mono hB2.size)
  obtain ⟨a4, c4, rfl, hi4, -⟩ := ho4.inn
  have HR4 := Lib.hid ho4
  have HI4 := Lib.hid hi4
  have hz4 := hB4.size
  clear hcl ho4 hi4 hb4'
  simp only [Act.put, List.setIfInBounds_toArray, List.set_cons_zero, List.set_cons_succ]
  refine wpAnyH_all (rs := [5]) (by kernel_rfl) (by decide) (List.forall_mem_cons.2 ⟨?_, fun _ h => absurd h List.not_mem_nil⟩)
  refine wpOp_wp rfl rfl (wp_append_eq _ _ _ rfl rfl rfl hr4 ⟨HSB.out _ hB4, ?_⟩)
  simp only [Act.put, List.getElem_toArray, List.getElem_cons_succ, List.getElem_cons_zero, List.setIfInBounds_toArray, List.set_cons_zero, List.set_cons_succ]
  refine wpAnyH_all (rs := [6]) (by kernel_rfl) (by decide) (List.forall_mem_cons.2 ⟨?_, fun _ h => absurd h List.not_mem_nil⟩)
  refine wpOp_value (v := .agg #[.int .i64 h, .slice a4 (L ++ [(x, y, z)]).length c4]) (w' := w4) _ rfl rfl rfl (by go_simp; try rfl) ⟨HSB.out _ hB4, ?_⟩
  simp only [Act.put, List.setIfInBounds_toArray, List.set_cons_zero, List.set_cons_succ]
  refine wpAnyH_all (rs := [7]) (by kernel_rfl) (by decide) (List.forall_mem_cons.2 ⟨?_, fun _ h => absurd h List.not_mem_nil⟩)
  refine wpOp_wp rfl rfl (wp_call_at _ rfl (f := 91) (args := #[pzv h (.slice a4 (L ++ [(x, y, z)]).length c4), .func (.func 94) #[] #[]]) (by go_simp) ((HT.out a4 c4 _ HI4.out).mono ?_))
  rintro e5 w5 ⟨v5, rfl, hr5, hb5⟩
  obtain ⟨a5, c5, rfl, -⟩ := hr5.inn
  have hB5 : Below E.heap.size E w5 := hB4.trans (hb5.mono hB4.size)
  have HR5 := Lib.hid (hr5.mono (show w.heap.size + 3 ≤ _ by omega))
  have hz5 := hB5.size
  obtain ⟨hc5, hf5⟩ := bcell hB5
  have ud0 := (hc5 (w.heap.size + 1 + 1) 0 (by omega)).trans g4
  have ud1 := (hc5 (w.heap.size + 1 + 1) 1 (by omega)).trans g5
  have ue0 := (hf5 (w.heap.size + 1 + 1) 0 (by omega)).trans g6
  have ue1 := (hf5 (w.heap.size + 1 + 1) 1 (by omega)).trans g7
  have hbw : Below w.heap.size w w5 := hbE.trans (hB5.mono hbE.size)
  have hS5 := HSB.out _ hB5
  clear hr5 hc5 hf5 hl2
  refine ⟨_, rfl, hS5, ?_⟩
  simp only [Act.put, List.setIfInBounds_toArray, List.set_cons_zero, List.set_cons_succ]
  refine take_first (i := 8) (v := pzv (cloO h (L ++ [(x, y, z)])).1 (.slice a5 (cloO h (L ++ [(x, y, z)])).2.1.length c5)) _ rfl rfl (by kernel_rfl) (by kernel_rfl) (by kernel_rfl) (fun _ _ _ h => h) (by rfl) ?_ (by assumption) ?_
  · intro wq hq
    obtain ⟨s0, s1, s2, s3⟩ := hq
    go_simp
    try rfl
  simp only [Act.put, List.setIfInBounds_toArray, List.set_cons_zero, List.set_cons_succ]
  refine take_first (i := 9) (v := .bool (cloO h (L ++ [(x, y, z)])).2.2) _ rfl rfl (by kernel_rfl) (by kernel_rfl) (by kernel_rfl) (fun _ _ _ h => h) (by rfl) ?_ (by assumption) ?_
  · intro wq hq
    obtain ⟨s0, s1, s2, s3⟩ := hq
    go_simp
    try rfl
  simp only [Act.put, List.setIfInBounds_toArray, List.set_cons_zero, List.set_cons_succ]
  refine wpAnyH_all (rs := [10]) (by kernel_rfl) (by decide) (List.forall_mem_cons.2 ⟨?_, fun _ h => absurd h List.not_mem_nil⟩)
  have s0 := hS5.1
  have s1 := hS5.2.1
  have s2 := hS5.2.2.1
  have s3 := hS5.2.2.2
  refine wpOp_store rfl rfl (w' := (w5.setCell ⟨w.heap.size + 1 + 1, 0, none⟩ (.int .i64 (cloO h (L ++ [(x, y, z)])).1)).setCell ⟨w.heap.size + 1 + 1, 1, none⟩ (.slice a5 (cloO h (L ++ [(x, y, z)])).2.1.length c5)) (by go_simp; try rfl) ⟨⟨by go_simp, by go_simp, by go_simp, by go_simp⟩, ?_⟩
  refine wpAnyH_all (rs := [11]) (by kernel_rfl) (by decide) (List.forall_mem_cons.2 ⟨?_, fun _ h => absurd h List.not_mem_nil⟩)
  refine wpOp_value (v := .bool (cloO h (L ++ [(x, y, z)])).2.2) (w' := (w5.setCell ⟨w.heap.size + 1 + 1, 0, none⟩ (.int .i64 (cloO h (L ++ [(x, y, z)])).1)).setCell ⟨w.heap.size + 1 + 1, 1, none⟩ (.slice a5 (cloO h (L ++ [(x, y, z)])).2.1.length c5)) _ rfl rfl rfl (by go_simp; try rfl) ⟨⟨by go_simp, by go_simp, by go_simp, by go_simp⟩, ?_⟩
  simp only [Act.put, List.setIfInBounds_toArray, List.set_cons_zero, List.set_cons_succ]
  refine wpAnyH_done (by kernel_rfl) ?_ _
  go_wp2
  (refine bodyPost_ret (by simp [results, Try.results51, go_sem, *]; try rfl) rfl ?_)
  exact ⟨_, rfl, ((HR5.out.set (a := ⟨w.heap.size + 1 + 1, 0, none⟩) (by show w.heap.size + 1 + 1 < _; omega) _).set (a := ⟨w.heap.size + 1 + 1, 1, none⟩) (by show w.heap.size + 1 + 1 < _; omega) _).mono (by omega), by (repeat' (first | (with_reducible exact Below.refl _ _) | (with_reducible assumption) | (with_reducible refine Below.alloc ?_ ?_ _) | (with_reducible refine Below.drew ?_) | (with_reducible refine below_drewN ?_ _) | (with_reducible refine Below.setCell ?_ ?_ _) | (with_reducible refine below_call ?_ ?_ (by assumption)) | go_size))⟩
theorem copyOnto_run (W : World) (base g0 : Nat) (a : Option Addr) (c : Nat) (L : List (Int × Int × Int)) {i0 : TypeInfo} (h0 : Try.prog.info? 25 = some i0) (h1 : i0.zero = some (.agg #[.int .i64 0, .int .i64 0, .int .i64 0])) (h2 : i0.size = 3) (h3 : i0.bytes = 24) (hl : L.length ≤ 1048576) (hin : CIn W a L) (hb : base ≤ W.heap.size) (O1 : W.ownsRow base 25 3 (.slice (some ⟨g0, 0, none⟩) 0 0) 0 []) :
    ∃ v' w', (Builtin.append_ #[33, 33] 33 #[.slice (some ⟨g0, 0, none⟩) 0 0, .slice a L.length c]).run Try.prog W = .ok v' w' ∧ CRow w' base v' L ∧ W.grownBy w' (some g0) := by
  cases a with
  | none =>
    have hL : L = [] := by
      cases L with
      | nil => rfl
      | cons t ts => obtain ⟨b, off, e, -⟩ := hin 0 (by simp); cases e
    subst hL
    exact ⟨_, _, run_append_nothing _ _ _ _ _ i0 Try.underlying33 h0 _ 0 0 (Nat.le_refl _) _ (Src.ofNil _ Try.underlying33 c), O1, grownBy_refl _ _⟩
  | some ad =>
    obtain ⟨v', w', hr, ho, hg, -⟩ := run_append_own W base 33 33 25 i0 _ 3 24 Try.underlying33 h0 h1 h2 h3 rfl (by omega) (.slice (some ⟨g0, 0, none⟩) 0 0) 0 [] O1 ad L.length c (flat3 L) (by rw [flat3_length]) (news_any hin) (flat3_one _) (by unfold maxLen; omega) (by omega) hb
    exact ⟨v', w', hr, by unfold CRow; rwa [Nat.zero_add, List.nil_append] at ho, hg⟩
set_option maxHeartbeats 6400000 in
theorem specAddClue_any (h : Int) (a : Option Addr) (c : Nat) (L : List (Int × Int × Int)) (x y z : Int) (hl : L.length ≤ 1048576) (hc : L.length ≤ c) (hcm : c ≤ maxLen) (w : World) (hin : CIn w a L) :
    Calls Try.prog 50 #[pzv h (.slice a L.length c), kv x y z] w fun e w' => ∃ v, e = .returned (.tuple #[pzv (cloO h (L ++ [(x, y, z)])).1 v, .bool (cloO h (L ++ [(x, y, z)])).2.2]) ∧ CRow w' w.heap.size v (cloO h (L ++ [(x, y, z)])).2.1 ∧ Below w.heap.size w w' := by
  obtain ⟨i0, hi0, hz0, hz1, hz2⟩ := info_parts Try.infoClue
  have I0 := Lib.hid hi0
  have Z0 := Lib.hid hz0
  have Z1 := Lib.hid hz1
  have Z2 := Lib.hid hz2
  clear hi0 hz0 hz1 hz2
  have hm2 : L.length ≤ maxLen := by unfold maxLen; omega
  have HX := Lib.hid (fun W (hb : Below w.heap.size w W) => hin.below hb)
  have HAD := Lib.hid (add_okZ h L (x, y, z))
  have hlz : ((L.length : Nat) : Int) = (L.length : Int) := rfl
  cases hok : okZ h L
  · have HG := Lib.hid (fun W (hb : Below w.heap.size w W) => pzGood_is h a c L hm2 hok W (hin.below hb))
    have HM := Lib.hid (show cloO h (L ++ [(x, y, z)]) = (0, [], false) from by unfold cloO; rw [HAD.out, hok]; rfl)
    clear hin hok
    (go_enter Try.func50, Try.ntmps50)
    go_wp2_with fail
    refine (HG.out _ (by (repeat' (first | (with_reducible exact Below.refl _ _) | (with_reducible assumption) | (with_reducible refine Below.alloc ?_ ?_ _) | (with_reducible refine Below.drew ?_) | (with_reducible refine below_drewN ?_ _) | (with_reducible refine Below.setCell ?_ ?_ _) | (with_reducible refine below_call ?_ ?_ (by assumption)) | go_size)))).mono ?_
    (rintro e1 w1 ⟨rfl, hb1⟩; obtain ⟨hc1, hf1⟩ := bcell hb1; have hz1 := hb1.size; (try simp only [World.size_alloc, World.size_setCell, World.size_drew] at hz1); have q1 : w.heap.size ≤ w1.heap.size := (by omega); (try have q1_0 : w.heap.size < w1.heap.size := (by omega)); (try have q1_1 : w.heap.size + 1 < w1.heap.size := (by omega)); (try have q1_2 : w.heap.size + 2 < w1.heap.size := (by omega)); (try have q1_3 : w.heap.size + 3 < w1.heap.size := (by omega)))
    go_wp2
    (refine bodyPost_ret (by simp [results, Try.results50, go_sem, *]; try rfl) rfl ?_)
    rw [HM.out]
    exact ⟨_, rfl, CRow.nil _ _, by (repeat' (first | (with_reducible exact Below.refl _ _) | (with_reducible assumption) | (with_reducible refine Below.alloc ?_ ?_ _) | (with_reducible refine Below.drew ?_) | (with_reducible refine below_drewN ?_ _) | (with_reducible refine Below.setCell ?_ ?_ _) | (with_reducible refine below_call ?_ ?_ (by assumption)) | go_size))⟩
  · have HG := Lib.hid (fun W (hb : Below w.heap.size w W) => pzGood_is h a c L hm2 hok W (hin.below hb))
    obtain ⟨hh, hl6, hall⟩ := okZ_bd hok
    cases hq : okC h (x, y, z)
    · have HM := Lib.hid (show cloO h (L ++ [(x, y, z)]) = (0, [], false) from by unfold cloO; rw [HAD.out, hok, hq]; rfl)
      clear hin hok
      (go_enter Try.func50, Try.ntmps50)
      go_wp2_with fail
      refine (HG.out _ (by (repeat' (first | (with_reducible exact Below.refl _ _) | (with_reducible assumption) | (with_reducible refine Below.alloc ?_ ?_ _) | (with_reducible refine Below.drew ?_) | (with_reducible refine below_drewN ?_ _) | (with_reducible refine Below.setCell ?_ ?_ _) | (with_reducible refine below_call ?_ ?_ (by assumption)) | go_size)))).mono ?_
      (rintro e1 w1 ⟨rfl, hb1⟩; obtain ⟨hc1, hf1⟩ := bcell hb1; have hz1 := hb1.size; (try simp only [World.size_alloc, World.size_setCell, World.size_drew] at hz1); have q1 : w.heap.size ≤ w1.heap.size := (by omega); (try have q1_0 : w.heap.size < w1.heap.size := (by omega)); (try have q1_1 : w.heap.size + 1 < w1.heap.size := (by omega)); (try have q1_2 : w.heap.size + 2 < w1.heap.size := (by omega)); (try have q1_3 : w.heap.size + 3 < w1.heap.size := (by omega)))
      have k0 : w1.cell? ⟨w.heap.size, 0, none⟩ = some (.int .i64 h) := (hc1 _ _ (by go_size)).trans (by go_simp)
      have k1 : w1.cell? ⟨w.heap.size, 1, none⟩ = some (.slice a L.length c) := (hc1 _ _ (by go_size)).trans (by go_simp)
      go_wp2_with fail
      refine (pzClue_is x y z h hh hq _).mono ?_
      (rintro e2 w2 ⟨rfl, hb2⟩; obtain ⟨hc2, hf2⟩ := bcell hb2; have hz2 := hb2.size; (try simp only [World.size_alloc, World.size_setCell, World.size_drew] at hz2); have q2 : w.heap.size ≤ w2.heap.size := (by omega); (try have q2_0 : w.heap.size < w2.heap.size := (by omega)); (try have q2_1 : w.heap.size + 1 < w2.heap.size := (by omega)); (try have q2_2 : w.heap.size + 2 < w2.heap.size := (by omega)); (try have q2_3 : w.heap.size + 3 < w2.heap.size := (by omega)); (try have q2_1_0 : w1.heap.size < w2.heap.size := (by omega)); (try have q2_1_1 : w1.heap.size + 1 < w2.heap.size := (by omega)))
      go_wp2
      (refine bodyPost_ret (by simp [results, Try.results50, go_sem, *]; try rfl) rfl ?_)
      rw [HM.out]
      exact ⟨_, rfl, CRow.nil _ _, by (repeat' (first | (with_reducible exact Below.refl _ _) | (with_reducible assumption) | (with_reducible refine Below.alloc ?_ ?_ _) | (with_reducible refine Below.drew ?_) | (with_reducible refine below_drewN ?_ _) | (with_reducible refine Below.setCell ?_ ?_ _) | (with_reducible refine below_call ?_ ?_ (by assumption)) | go_size))⟩
    · by_cases h6 : L.length = 6
      · have HM := Lib.hid (show cloO h (L ++ [(x, y, z)]) = (0, [], false) from by unfold cloO; rw [HAD.out, hok, hq]; simp [h6])
        have h6' : ((L.length : Int) == 6) = true := by rw [beq_iff_eq]; omega
        clear hin hok h6
        (go_enter Try.func50, Try.ntmps50)
        go_wp2_with fail
        refine (HG.out _ (by (repeat' (first | (with_reducible exact Below.refl _ _) | (with_reducible assumption) | (with_reducible refine Below.alloc ?_ ?_ _) | (with_reducible refine Below.drew ?_) | (with_reducible refine below_drewN ?_ _) | (with_reducible refine Below.setCell ?_ ?_ _) | (with_reducible refine below_call ?_ ?_ (by assumption)) | go_size)))).mono ?_
        (rintro e1 w1 ⟨rfl, hb1⟩; obtain ⟨hc1, hf1⟩ := bcell hb1; have hz1 := hb1.size; (try simp only [World.size_alloc, World.size_setCell, World.size_drew] at hz1); have q1 : w.heap.size ≤ w1.heap.size := (by omega); (try have q1_0 : w.heap.size < w1.heap.size := (by omega)); (try have q1_1 : w.heap.size + 1 < w1.heap.size := (by omega)); (try have q1_2 : w.heap.size + 2 < w1.heap.size := (by omega)); (try have q1_3 : w.heap.size + 3 < w1.heap.size := (by omega)))
        have k0 : w1.cell? ⟨w.heap.size, 0, none⟩ = some (.int .i64 h) := (hc1 _ _ (by go_size)).trans (by go_simp)
        have k1 : w1.cell? ⟨w.heap.size, 1, none⟩ = some (.slice a L.length c) := (hc1 _ _ (by go_size)).trans (by go_simp)
        go_wp2_with fail
        refine (pzClue_is x y z h hh hq _).mono ?_
        (rintro e2 w2 ⟨rfl, hb2⟩; obtain ⟨hc2, hf2⟩ := bcell hb2; have hz2 := hb2.size; (try simp only [World.size_alloc, World.size_setCell, World.size_drew] at hz2); have q2 : w.heap.size ≤ w2.heap.size := (by omega); (try have q2_0 : w.heap.size < w2.heap.size := (by omega)); (try have q2_1 : w.heap.size + 1 < w2.heap.size := (by omega)); (try have q2_2 : w.heap.size + 2 < w2.heap.size := (by omega)); (try have q2_3 : w.heap.size + 3 < w2.heap.size := (by omega)); (try have q2_1_0 : w1.heap.size < w2.heap.size := (by omega)); (try have q2_1_1 : w1.heap.size + 1 < w2.heap.size := (by omega)))
        have k0 : w2.cell? ⟨w.heap.size, 1, none⟩ = some (.slice a L.length c) := (hc2 _ _ (by go_size)).trans k1
        go_wp2
        (refine bodyPost_ret (by simp [results, Try.results50, go_sem, *]; try rfl) rfl ?_)
        rw [HM.out]
        exact ⟨_, rfl, CRow.nil _ _, by (repeat' (first | (with_reducible exact Below.refl _ _) | (with_reducible assumption) | (with_reducible refine Below.alloc ?_ ?_ _) | (with_reducible refine Below.drew ?_) | (with_reducible refine below_drewN ?_ _) | (with_reducible refine Below.setCell ?_ ?_ _) | (with_reducible refine below_call ?_ ?_ (by assumption)) | go_size))⟩
      · have HM := Lib.hid (show cloO h (L ++ [(x, y, z)]) = (h, L ++ [(x, y, z)], true) from by unfold cloO; rw [HAD.out, hok, hq]; simp [h6])
        have h6' : ((L.length : Int) == 6) = false := by rw [beq_eq_false_iff_ne]; omega
        clear hin hok h6
        (go_enter Try.func50, Try.ntmps50)
        go_wp2_with fail
        refine (HG.out _ (by (repeat' (first | (with_reducible exact Below.refl _ _) | (with_reducible assumption) | (with_reducible refine Below.alloc ?_ ?_ _) | (with_reducible refine Below.drew ?_) | (with_reducible refine below_drewN ?_ _) | (with_reducible refine Below.setCell ?_ ?_ _) | (with_reducible refine below_call ?_ ?_ (by assumption)) | go_size)))).mono ?_
        (rintro e1 w1 ⟨rfl, hb1⟩; obtain ⟨hc1, hf1⟩ := bcell hb1; have hz1 := hb1.size; (try simp only [World.size_alloc, World.size_setCell, World.size_drew] at hz1); have q1 : w.heap.size ≤ w1.heap.size := (by omega); (try have q1_0 : w.heap.size < w1.heap.size := (by omega)); (try have q1_1 : w.heap.size + 1 < w1.heap.size := (by omega)); (try have q1_2 : w.heap.size + 2 < w1.heap.size := (by omega)); (try have q1_3 : w.heap.size + 3 < w1.heap.size := (by omega)))
        have k0 : w1.cell? ⟨w.heap.size, 0, none⟩ = some (.int .i64 h) := (hc1 _ _ (by go_size)).trans (by go_simp)
        have k1 : w1.cell? ⟨w.heap.size, 1, none⟩ = some (.slice a L.length c) := (hc1 _ _ (by go_size)).trans (by go_simp)
        go_wp2_with fail
        refine (pzClue_is x y z h hh hq _).mono ?_
        (rintro e2 w2 ⟨rfl, hb2⟩; obtain ⟨hc2, hf2⟩ := bcell hb2; have hz2 := hb2.size; (try simp only [World.size_alloc, World.size_setCell, World.size_drew] at hz2); have q2 : w.heap.size ≤ w2.heap.size := (by omega); (try have q2_0 : w.heap.size < w2.heap.size := (by omega)); (try have q2_1 : w.heap.size + 1 < w2.heap.size := (by omega)); (try have q2_2 : w.heap.size + 2 < w2.heap.size := (by omega)); (try have q2_3 : w.heap.size + 3 < w2.heap.size := (by omega)); (try have q2_1_0 : w1.heap.size < w2.heap.size := (by omega)); (try have q2_1_1 : w1.heap.size + 1 < w2.heap.size := (by omega)))
        obtain ⟨E, hE⟩ : ∃ E, E = w2 := ⟨_, rfl⟩
        have ga : w2.cell? ⟨w.heap.size, 0, none⟩ = some (.int .i64 h) := (hc2 _ _ (by go_size)).trans k0
        have gs : w2.cell? ⟨w.heap.size, 1, none⟩ = some (.slice a L.length c) := (hc2 _ _ (by go_size)).trans k1
        have g1 : w2.cell? ⟨w.heap.size + 1, 0, none⟩ = some (.int .i64 x) := (hc2 _ _ (by go_size)).trans ((hc1 _ _ (by go_size)).trans (by go_simp))
        have g2 : w2.cell? ⟨w.heap.size + 1, 1, none⟩ = some (.int .i64 y) := (hc2 _ _ (by go_size)).trans ((hc1 _ _ (by go_size)).trans (by go_simp))
        have g3 : w2.cell? ⟨w.heap.size + 1, 2, none⟩ = some (.int .i64 z) := (hc2 _ _ (by go_size)).trans ((hc1 _ _ (by go_size)).trans (by go_simp))
        have g4 : w2.cell? ⟨w.heap.size + 1 + 1, 0, none⟩ = some (.int .i64 0) := (hc2 _ _ (by go_size)).trans ((hc1 _ _ (by go_size)).trans (by go_simp))
        have g5 : w2.cell? ⟨w.heap.size + 1 + 1, 1, none⟩ = some (.slice none 0 0) := (hc2 _ _ (by go_size)).trans ((hc1 _ _ (by go_size)).trans (by go_simp))
        have g6 : w2.frozen? ⟨w.heap.size + 1 + 1, 0, none⟩ = false := (hf2 _ _ (by go_size)).trans ((hf1 _ _ (by go_size)).trans (by go_simp))
        have g7f : w2.frozen? ⟨w.heap.size + 1 + 1, 1, none⟩ = false := (hf2 _ _ (by go_size)).trans ((hf1 _ _ (by go_size)).trans (by go_simp))
        have hbE : Below w.heap.size w w2 := by (repeat' (first | (with_reducible exact Below.refl _ _) | (with_reducible assumption) | (with_reducible refine Below.alloc ?_ ?_ _) | (with_reducible refine Below.drew ?_) | (with_reducible refine below_drewN ?_ _) | (with_reducible refine Below.setCell ?_ ?_ _) | (with_reducible refine below_call ?_ ?_ (by assumption)) | go_size))
        have hzE : w.heap.size + 3 ≤ w2.heap.size := by omega
        clear hc1 hf1 hc2 hf2 hb1 hb2 k0 k1
        go_wp2_with fail
        subst hE
        have HSB : Hid (∀ W, Below E.heap.size E W → W.cell? ⟨w.heap.size, 0, none⟩ = some (.int .i64 h) ∧ W.cell? ⟨w.heap.size, 1, none⟩ = some (.slice a L.length c) ∧ W.cell? ⟨w.heap.size + 1, 0, none⟩ = some (.int .i64 x) ∧ W.cell? ⟨w.heap.size + 1, 1, none⟩ = some (.int .i64 y) ∧ W.cell? ⟨w.heap.size + 1, 2, none⟩ = some (.int .i64 z)) := Lib.hid (fun W hb => by
          have hc := (bcell hb).1
          exact ⟨(hc _ _ (by omega)).trans ga, (hc _ _ (by omega)).trans gs, (hc _ _ (by omega)).trans g1, (hc _ _ (by omega)).trans g2, (hc _ _ (by omega)).trans g3⟩)
        have hBd : Below E.heap.size E E.drew := (Below.refl _ _).drew
        have hS1 := HSB.out _ hBd
        refine wp_region_held (by kernel_rfl) (S := fun W => W.cell? ⟨w.heap.size, 0, none⟩ = some (.int .i64 h) ∧ W.cell? ⟨w.heap.size, 1, none⟩ = some (.slice a L.length c) ∧ W.cell? ⟨w.heap.size + 1, 0, none⟩ = some (.int .i64 x) ∧ W.cell? ⟨w.heap.size + 1, 1, none⟩ = some (.int .i64 y) ∧ W.cell? ⟨w.heap.size + 1, 2, none⟩ = some (.int .i64 z)) ?_
        refine take_first (i := 0) (v := .pointer (some ⟨w.heap.size, 0, none⟩)) _ rfl rfl (by kernel_rfl) (by kernel_rfl) (by kernel_rfl) (fun _ _ _ h => h) (by rfl) ?_ (by assumption) ?_
        · intro wq hq
          obtain ⟨s0, s1, s2, s3, s4⟩ := hq
          go_simp
          try rfl
        simp only [Act.put, List.setIfInBounds_toArray, List.set_cons_zero, List.set_cons_succ]
        refine take_first (i := 1) (v := .int .i64 h) _ rfl rfl (by kernel_rfl) (by kernel_rfl) (by kernel_rfl) (fun _ _ _ h => h) (by rfl) ?_ (by assumption) ?_
        · intro wq hq
          obtain ⟨s0, s1, s2, s3, s4⟩ := hq
          go_simp
          try rfl
        simp only [Act.put, List.setIfInBounds_toArray, List.set_cons_zero, List.set_cons_succ]
        refine take_first (i := 3) (v := .pointer (some ⟨w.heap.size, 1, none⟩)) _ rfl rfl (by kernel_rfl) (by kernel_rfl) (by kernel_rfl) (fun _ _ _ h => h) (by rfl) ?_ (by assumption) ?_
        · intro wq hq
          obtain ⟨s0, s1, s2, s3, s4⟩ := hq
          go_simp
          try rfl
        simp only [Act.put, List.setIfInBounds_toArray, List.set_cons_zero, List.set_cons_succ]
        refine take_first (i := 4) (v := .slice a L.length c) _ rfl rfl (by kernel_rfl) (by kernel_rfl) (by kernel_rfl) (fun _ _ _ h => h) (by rfl) ?_ (by assumption) ?_
        · intro wq hq
          obtain ⟨s0, s1, s2, s3, s4⟩ := hq
          go_simp
          try rfl
        simp only [Act.put, List.setIfInBounds_toArray, List.set_cons_zero, List.set_cons_succ]
        refine take_first (i := 6) (v := kv x y z) _ rfl rfl (by kernel_rfl) (by kernel_rfl) (by kernel_rfl) (fun _ _ _ h => h) (by rfl) ?_ (by assumption) ?_
        · intro wq hq
          obtain ⟨s0, s1, s2, s3, s4⟩ := hq
          go_simp
          try rfl
        simp only [Act.put, List.setIfInBounds_toArray, List.set_cons_zero, List.set_cons_succ]
        refine wpAnyH_all (rs := [2, 7]) (by kernel_rfl) (by decide) (List.forall_mem_cons.2 ⟨?_, List.forall_mem_cons.2 ⟨?_, fun _ h => absurd h List.not_mem_nil⟩⟩)
        · have O_E1 := World.ownsRow_made (base := E.heap.size) (e := 25) (size := 3) E.drew #[] 0 hBd.size (by unfold maxLen; omega) rfl
          have hE1 : Below E.heap.size E (World.alloc E.drew (.cells #[] 25)) := Below.alloc hBd hBd.size _
          have hzE1 : (World.alloc E.drew (.cells #[] 25)).heap.size = (E.drew).heap.size + 1 := by simp
          have hge0 : E.heap.size ≤ (E.drew).heap.size := hBd.size
          have hstE1 : Below (E.drew).heap.size E.drew (World.alloc E.drew (.cells #[] 25)) := Below.alloc (Below.refl _ _) (Nat.le_refl _) _
          refine wpOp_value (v := .slice (some ⟨(E.drew).heap.size, 0, none⟩) 0 0) (w' := World.alloc E.drew (.cells #[] 25)) _ rfl rfl rfl (by go_simp; try rfl) ⟨HSB.out _ hE1, ?_⟩
          generalize World.alloc E.drew (.cells #[] 25) = E1 at *
          simp only [Act.put, List.setIfInBounds_toArray, List.set_cons_zero, List.set_cons_succ]
          refine wpAnyH_all (rs := [5, 7]) (by kernel_rfl) (by decide) (List.forall_mem_cons.2 ⟨?_, List.forall_mem_cons.2 ⟨?_, fun _ h => absurd h List.not_mem_nil⟩⟩)
          · obtain ⟨v5, w5, hr5, ho5, hg5⟩ := copyOnto_run E1 (E.heap.size) E.drew.heap.size a c L I0.out Z0.out Z1.out Z2.out hl (HX.out _ (hbE.trans (hE1.mono hbE.size))) (by have := hE1.size; omega) O_E1
            have hw5 : Below E.heap.size E w5 := Below.grown (w := E1) hE1 hg5 (by have := hE1.size; omega) (fun j hj => by injection hj with hj'; have := hge0; omega)
            have hz5 := hg5.size
            obtain ⟨a5, c5, rfl, -⟩ := ho5.inn
            refine wpOp_wp rfl rfl (wp_append_eq _ _ _ rfl rfl rfl hr5 ⟨HSB.out _ hw5, ?_⟩)
            simp only [Act.put, List.getElem_toArray, List.getElem_cons_succ, List.getElem_cons_zero, List.setIfInBounds_toArray, List.set_cons_zero, List.set_cons_succ]
            refine wpAnyH_all (rs := [7]) (by kernel_rfl) (by decide) (List.forall_mem_cons.2 ⟨?_, fun _ h => absurd h List.not_mem_nil⟩)
            have hE2 : Below E.heap.size E (World.alloc w5 (.cells #[.int .i64 x, .int .i64 y, .int .i64 z] 25)) := Below.alloc hw5 hw5.size _
            have hzE2 : (World.alloc w5 (.cells #[.int .i64 x, .int .i64 y, .int .i64 z] 25)).heap.size = (w5).heap.size + 1 := by simp
            have hstE2 : Below (w5).heap.size w5 (World.alloc w5 (.cells #[.int .i64 x, .int .i64 y, .int .i64 z] 25)) := Below.alloc (Below.refl _ _) (Nat.le_refl _) _
            have hcl : ∀ j, (World.alloc w5 (.cells #[.int .i64 x, .int .i64 y, .int .i64 z] 25)).cell? ⟨(w5).heap.size, j, none⟩ = (#[.int .i64 x, .int .i64 y, .int .i64 z] : Array Value)[j]? := (cells_of_block (heap_alloc_new (w5) (.cells #[.int .i64 x, .int .i64 y, .int .i64 z] 25))).1
            have hws := HSB.out _ hw5
            obtain ⟨s0, s1, s2, s3, s4⟩ := hws
            refine wpOp_value (v := .slice (some ⟨(w5).heap.size, 0, none⟩) 1 1) (w' := World.alloc w5 (.cells #[.int .i64 x, .int .i64 y, .int .i64 z] 25)) _ rfl rfl rfl (by go_simp; try rfl) ⟨HSB.out _ hE2, ?_⟩
            clear s0 s1 s2 s3 s4
            generalize World.alloc w5 (.cells #[.int .i64 x, .int .i64 y, .int .i64 z] 25) = E2 at *
            simp only [Act.put, List.setIfInBounds_toArray, List.set_cons_zero, List.set_cons_succ]
            refine wpAnyH_all (rs := [8]) (by kernel_rfl) (by decide) (List.forall_mem_cons.2 ⟨?_, fun _ h => absurd h List.not_mem_nil⟩)
            have HR5 : E2.ownsRow (E.heap.size) 25 3 (.slice a5 L.length c5) L.length (flat3 L) := ho5.below hstE2
            obtain ⟨v8, w8, hr8, ho8, hg8, -⟩ := run_append_own E2 (E.heap.size) 33 33 25 i0 _ 3 24 Try.underlying33 I0.out Z0.out Z1.out Z2.out rfl (by omega) (.slice a5 L.length c5) L.length (flat3 L) HR5 ⟨w5.heap.size, 0, none⟩ 1 1 [.int .i64 x, .int .i64 y, .int .i64 z] rfl (fun j u hu => by
              rw [add_off, Nat.zero_add, hcl j, List.getElem?_toArray]
              exact hu) (by simp [Value.oneCell']) (by unfold maxLen; omega) (by omega) (by have := hE2.size; omega)
            have hB4 : Below E.heap.size E w8 := Below.grown (w := E2) hE2 hg8 (by have := hE2.size; omega) (fun j hj => by have := (World.ownsRow.lt HR5 j hj).1; omega)
            have hr9 : CRow w8 (E.heap.size) v8 (L ++ [(x, y, z)]) := by
              unfold CRow
              rw [flat3_append, List.length_append]
              exact ho8
            obtain ⟨a4, c4, rfl, -⟩ := hr9.inn
            rw [show (L ++ [(x, y, z)]).length = L.length + 1 from by simp] at hr9 hr8
            have HR9 := Lib.hid hr9
            have hz8 := hB4.size
            clear hr9 ho8 hg8 HR5
            refine wpOp_wp rfl rfl (wp_append_eq _ _ _ rfl rfl rfl hr8 ⟨HSB.out _ hB4, ?_⟩)
            clear hr8
            simp only [Act.put, List.getElem_toArray, List.getElem_cons_succ, List.getElem_cons_zero, List.setIfInBounds_toArray, List.set_cons_zero, List.set_cons_succ]
            refine wpAnyH_all (rs := [9]) (by kernel_rfl) (by decide) (List.forall_mem_cons.2 ⟨?_, fun _ h => absurd h List.not_mem_nil⟩)
            refine wpOp_value (v := .agg #[.int .i64 h, .slice a4 (L.length + 1) c4]) (w' := w8) _ rfl rfl rfl (by go_simp; try rfl) ⟨HSB.out _ hB4, ?_⟩
            simp only [Act.put, List.setIfInBounds_toArray, List.set_cons_zero, List.set_cons_succ]
            obtain ⟨s0, s1, s2, s3, s4⟩ := HSB.out _ hB4
            obtain ⟨hc8, hf8⟩ := bcell hB4
            have ud0 := (hc8 (w.heap.size + 1 + 1) 0 (by omega)).trans g4
            have ud1 := (hc8 (w.heap.size + 1 + 1) 1 (by omega)).trans g5
            have ue0 := (hf8 (w.heap.size + 1 + 1) 0 (by omega)).trans g6
            have ue1 := (hf8 (w.heap.size + 1 + 1) 1 (by omega)).trans g7f
            have hbw : Below w.heap.size w w8 := hbE.trans (hB4.mono hbE.size)
            clear hc8 hf8
            refine wpAnyH_all (rs := [10]) (by kernel_rfl) (by decide) (List.forall_mem_cons.2 ⟨?_, fun _ h => absurd h List.not_mem_nil⟩)
            refine wpOp_store rfl rfl (w' := (w8.setCell ⟨w.heap.size + 1 + 1, 0, none⟩ (.int .i64 h)).setCell ⟨w.heap.size + 1 + 1, 1, none⟩ (.slice a4 (L.length + 1) c4)) (by go_simp; try rfl) ⟨⟨by go_simp, by go_simp, by go_simp, by go_simp, by go_simp⟩, ?_⟩
            refine wpAnyH_all (rs := [11]) (by kernel_rfl) (by decide) (List.forall_mem_cons.2 ⟨?_, fun _ h => absurd h List.not_mem_nil⟩)
            refine wpOp_value (v := .bool true) (w' := (w8.setCell ⟨w.heap.size + 1 + 1, 0, none⟩ (.int .i64 h)).setCell ⟨w.heap.size + 1 + 1, 1, none⟩ (.slice a4 (L.length + 1) c4)) _ rfl rfl rfl (by go_simp; try rfl) ⟨⟨by go_simp, by go_simp, by go_simp, by go_simp, by go_simp⟩, ?_⟩
            simp only [Act.put, List.setIfInBounds_toArray, List.set_cons_zero, List.set_cons_succ]
            refine wpAnyH_done (by kernel_rfl) ?_ _
            go_wp2
            (refine bodyPost_ret (by simp [results, Try.results50, go_sem, *]; try rfl) rfl ?_)
            rw [HM.out]
            exact ⟨_, rfl, ((HR9.out.set (a := ⟨w.heap.size + 1 + 1, 0, none⟩) (by show w.heap.size + 1 + 1 < _; omega) _).set (a := ⟨w.heap.size + 1 + 1, 1, none⟩) (by show w.heap.size + 1 + 1 < _; omega) _).mono (by omega), by (repeat' (first | (with_reducible exact Below.refl _ _) | (with_reducible assumption) | (with_reducible refine Below.alloc ?_ ?_ _) | (with_reducible refine Below.drew ?_) | (with_reducible refine below_drewN ?_ _) | (with_reducible refine Below.setCell ?_ ?_ _) | (with_reducible refine below_call ?_ ?_ (by assumption)) | go_size))⟩

          · have hE2 : Below E.heap.size E (World.alloc E1 (.cells #[.int .i64 x, .int .i64 y, .int .i64 z] 25)) := Below.alloc hE1 hE1.size _
            have hzE2 : (World.alloc E1 (.cells #[.int .i64 x, .int .i64 y, .int .i64 z] 25)).heap.size = (E1).heap.size + 1 := by simp
            have hstE2 : Below (E1).heap.size E1 (World.alloc E1 (.cells #[.int .i64 x, .int .i64 y, .int .i64 z] 25)) := Below.alloc (Below.refl _ _) (Nat.le_refl _) _
            have hcl : ∀ j, (World.alloc E1 (.cells #[.int .i64 x, .int .i64 y, .int .i64 z] 25)).cell? ⟨(E1).heap.size, j, none⟩ = (#[.int .i64 x, .int .i64 y, .int .i64 z] : Array Value)[j]? := (cells_of_block (heap_alloc_new (E1) (.cells #[.int .i64 x, .int .i64 y, .int .i64 z] 25))).1
            have hws := HSB.out _ hE1
            obtain ⟨s0, s1, s2, s3, s4⟩ := hws
            refine wpOp_value (v := .slice (some ⟨(E1).heap.size, 0, none⟩) 1 1) (w' := World.alloc E1 (.cells #[.int .i64 x, .int .i64 y, .int .i64 z] 25)) _ rfl rfl rfl (by go_simp; try rfl) ⟨HSB.out _ hE2, ?_⟩
            clear s0 s1 s2 s3 s4
            generalize World.alloc E1 (.cells #[.int .i64 x, .int .i64 y, .int .i64 z] 25) = E2 at *
            simp only [Act.put, List.setIfInBounds_toArray, List.set_cons_zero, List.set_cons_succ]
            refine wpAnyH_all (rs := [5]) (by kernel_rfl) (by decide) (List.forall_mem_cons.2 ⟨?_, fun _ h => absurd h List.not_mem_nil⟩)
            have O2 := (World.ownsRow.kept O_E1 (row := none) ⟨hstE2.os, hstE2.tape, hstE2.output, hstE2.size, fun k hk _ => hstE2.block k hk⟩ (by simp [Value.ownBlock]))
            obtain ⟨v5, w5, hr5, ho5, hg5⟩ := copyOnto_run E2 (E.heap.size) E.drew.heap.size a c L I0.out Z0.out Z1.out Z2.out hl (HX.out _ (hbE.trans (hE2.mono hbE.size))) (by have := hE2.size; omega) O2
            have hw5 : Below E.heap.size E w5 := Below.grown (w := E2) hE2 hg5 (by have := hE2.size; omega) (fun j hj => by injection hj with hj'; have := hge0; omega)
            have hz5 := hg5.size
            obtain ⟨a5, c5, rfl, -⟩ := ho5.inn
            refine wpOp_wp rfl rfl (wp_append_eq _ _ _ rfl rfl rfl hr5 ⟨HSB.out _ hw5, ?_⟩)
            have hdd : E.drew.heap.size = E.heap.size := rfl
            have hcl5 : ∀ j, w5.cell? ⟨E1.heap.size, j, none⟩ = (#[.int .i64 x, .int .i64 y, .int .i64 z] : Array Value)[j]? := fun j => (cell_of_heap (hg5.block _ (by first | omega | (show E.heap.size < _; omega)) (by intro e; injection e with e'; first | omega | (have e2 : E.heap.size = _ := e'; omega)))).trans (hcl j)
            simp only [Act.put, List.getElem_toArray, List.getElem_cons_succ, List.getElem_cons_zero, List.setIfInBounds_toArray, List.set_cons_zero, List.set_cons_succ]
            refine wpAnyH_all (rs := [8]) (by kernel_rfl) (by decide) (List.forall_mem_cons.2 ⟨?_, fun _ h => absurd h List.not_mem_nil⟩)
            have HR5 : w5.ownsRow (E.heap.size) 25 3 (.slice a5 L.length c5) L.length (flat3 L) := ho5
            obtain ⟨v8, w8, hr8, ho8, hg8, -⟩ := run_append_own w5 (E.heap.size) 33 33 25 i0 _ 3 24 Try.underlying33 I0.out Z0.out Z1.out Z2.out rfl (by omega) (.slice a5 L.length c5) L.length (flat3 L) HR5 ⟨E1.heap.size, 0, none⟩ 1 1 [.int .i64 x, .int .i64 y, .int .i64 z] rfl (fun j u hu => by
              rw [add_off, Nat.zero_add, hcl5 j, List.getElem?_toArray]
              exact hu) (by simp [Value.oneCell']) (by unfold maxLen; omega) (by omega) (by have := hw5.size; omega)
            have hB4 : Below E.heap.size E w8 := Below.grown (w := w5) hw5 hg8 (by have := hw5.size; omega) (fun j hj => by have := (World.ownsRow.lt HR5 j hj).1; omega)
            have hr9 : CRow w8 (E.heap.size) v8 (L ++ [(x, y, z)]) := by
              unfold CRow
              rw [flat3_append, List.length_append]
              exact ho8
            obtain ⟨a4, c4, rfl, -⟩ := hr9.inn
            rw [show (L ++ [(x, y, z)]).length = L.length + 1 from by simp] at hr9 hr8
            have HR9 := Lib.hid hr9
            have hz8 := hB4.size
            clear hr9 ho8 hg8 HR5
            refine wpOp_wp rfl rfl (wp_append_eq _ _ _ rfl rfl rfl hr8 ⟨HSB.out _ hB4, ?_⟩)
            clear hr8
            simp only [Act.put, List.getElem_toArray, List.getElem_cons_succ, List.getElem_cons_zero, List.setIfInBounds_toArray, List.set_cons_zero, List.set_cons_succ]
            refine wpAnyH_all (rs := [9]) (by kernel_rfl) (by decide) (List.forall_mem_cons.2 ⟨?_, fun _ h => absurd h List.not_mem_nil⟩)
            refine wpOp_value (v := .agg #[.int .i64 h, .slice a4 (L.length + 1) c4]) (w' := w8) _ rfl rfl rfl (by go_simp; try rfl) ⟨HSB.out _ hB4, ?_⟩
            simp only [Act.put, List.setIfInBounds_toArray, List.set_cons_zero, List.set_cons_succ]
            obtain ⟨s0, s1, s2, s3, s4⟩ := HSB.out _ hB4
            obtain ⟨hc8, hf8⟩ := bcell hB4
            have ud0 := (hc8 (w.heap.size + 1 + 1) 0 (by omega)).trans g4
            have ud1 := (hc8 (w.heap.size + 1 + 1) 1 (by omega)).trans g5
            have ue0 := (hf8 (w.heap.size + 1 + 1) 0 (by omega)).trans g6
            have ue1 := (hf8 (w.heap.size + 1 + 1) 1 (by omega)).trans g7f
            have hbw : Below w.heap.size w w8 := hbE.trans (hB4.mono hbE.size)
            clear hc8 hf8
            refine wpAnyH_all (rs := [10]) (by kernel_rfl) (by decide) (List.forall_mem_cons.2 ⟨?_, fun _ h => absurd h List.not_mem_nil⟩)
            refine wpOp_store rfl rfl (w' := (w8.setCell ⟨w.heap.size + 1 + 1, 0, none⟩ (.int .i64 h)).setCell ⟨w.heap.size + 1 + 1, 1, none⟩ (.slice a4 (L.length + 1) c4)) (by go_simp; try rfl) ⟨⟨by go_simp, by go_simp, by go_simp, by go_simp, by go_simp⟩, ?_⟩
            refine wpAnyH_all (rs := [11]) (by kernel_rfl) (by decide) (List.forall_mem_cons.2 ⟨?_, fun _ h => absurd h List.not_mem_nil⟩)
            refine wpOp_value (v := .bool true) (w' := (w8.setCell ⟨w.heap.size + 1 + 1, 0, none⟩ (.int .i64 h)).setCell ⟨w.heap.size + 1 + 1, 1, none⟩ (.slice a4 (L.length + 1) c4)) _ rfl rfl rfl (by go_simp; try rfl) ⟨⟨by go_simp, by go_simp, by go_simp, by go_simp, by go_simp⟩, ?_⟩
            simp only [Act.put, List.setIfInBounds_toArray, List.set_cons_zero, List.set_cons_succ]
            refine wpAnyH_done (by kernel_rfl) ?_ _
            go_wp2
            (refine bodyPost_ret (by simp [results, Try.results50, go_sem, *]; try rfl) rfl ?_)
            rw [HM.out]
            exact ⟨_, rfl, ((HR9.out.set (a := ⟨w.heap.size + 1 + 1, 0, none⟩) (by show w.heap.size + 1 + 1 < _; omega) _).set (a := ⟨w.heap.size + 1 + 1, 1, none⟩) (by show w.heap.size + 1 + 1 < _; omega) _).mono (by omega), by (repeat' (first | (with_reducible exact Below.refl _ _) | (with_reducible assumption) | (with_reducible refine Below.alloc ?_ ?_ _) | (with_reducible refine Below.drew ?_) | (with_reducible refine below_drewN ?_ _) | (with_reducible refine Below.setCell ?_ ?_ _) | (with_reducible refine below_call ?_ ?_ (by assumption)) | go_size))⟩


        · have hE1 : Below E.heap.size E (World.alloc E.drew (.cells #[.int .i64 x, .int .i64 y, .int .i64 z] 25)) := Below.alloc hBd hBd.size _
          have hzE1 : (World.alloc E.drew (.cells #[.int .i64 x, .int .i64 y, .int .i64 z] 25)).heap.size = (E.drew).heap.size + 1 := by simp
          have hstE1 : Below (E.drew).heap.size E.drew (World.alloc E.drew (.cells #[.int .i64 x, .int .i64 y, .int .i64 z] 25)) := Below.alloc (Below.refl _ _) (Nat.le_refl _) _
          have hcl : ∀ j, (World.alloc E.drew (.cells #[.int .i64 x, .int .i64 y, .int .i64 z] 25)).cell? ⟨(E.drew).heap.size, j, none⟩ = (#[.int .i64 x, .int .i64 y, .int .i64 z] : Array Value)[j]? := (cells_of_block (heap_alloc_new (E.drew) (.cells #[.int .i64 x, .int .i64 y, .int .i64 z] 25))).1
          have hws := HSB.out _ hBd
          obtain ⟨s0, s1, s2, s3, s4⟩ := hws
          refine wpOp_value (v := .slice (some ⟨(E.drew).heap.size, 0, none⟩) 1 1) (w' := World.alloc E.drew (.cells #[.int .i64 x, .int .i64 y, .int .i64 z] 25)) _ rfl rfl rfl (by go_simp; try rfl) ⟨HSB.out _ hE1, ?_⟩
          clear s0 s1 s2 s3 s4
          generalize World.alloc E.drew (.cells #[.int .i64 x, .int .i64 y, .int .i64 z] 25) = E1 at *
          simp only [Act.put, List.setIfInBounds_toArray, List.set_cons_zero, List.set_cons_succ]
          refine wpAnyH_all (rs := [2]) (by kernel_rfl) (by decide) (List.forall_mem_cons.2 ⟨?_, fun _ h => absurd h List.not_mem_nil⟩)
          have O_E2 := World.ownsRow_made (base := E.heap.size) (e := 25) (size := 3) E1 #[] 0 hE1.size (by unfold maxLen; omega) rfl
          have hE2 : Below E.heap.size E (World.alloc E1 (.cells #[] 25)) := Below.alloc hE1 hE1.size _
          have hzE2 : (World.alloc E1 (.cells #[] 25)).heap.size = (E1).heap.size + 1 := by simp
          have hge0 : E.heap.size ≤ (E1).heap.size := hE1.size
          have hstE2 : Below (E1).heap.size E1 (World.alloc E1 (.cells #[] 25)) := Below.alloc (Below.refl _ _) (Nat.le_refl _) _
          refine wpOp_value (v := .slice (some ⟨(E1).heap.size, 0, none⟩) 0 0) (w' := World.alloc E1 (.cells #[] 25)) _ rfl rfl rfl (by go_simp; try rfl) ⟨HSB.out _ hE2, ?_⟩
          generalize World.alloc E1 (.cells #[] 25) = E2 at *
          have hdd : E.drew.heap.size = E.heap.size := rfl
          have hcl2 : ∀ j, E2.cell? ⟨E.drew.heap.size, j, none⟩ = (#[.int .i64 x, .int .i64 y, .int .i64 z] : Array Value)[j]? := fun j => ((bcell hstE2).1 _ _ (by omega)).trans (hcl j)
          simp only [Act.put, List.setIfInBounds_toArray, List.set_cons_zero, List.set_cons_succ]
          refine wpAnyH_all (rs := [5]) (by kernel_rfl) (by decide) (List.forall_mem_cons.2 ⟨?_, fun _ h => absurd h List.not_mem_nil⟩)
          obtain ⟨v5, w5, hr5, ho5, hg5⟩ := copyOnto_run E2 (E.heap.size) E1.heap.size a c L I0.out Z0.out Z1.out Z2.out hl (HX.out _ (hbE.trans (hE2.mono hbE.size))) (by have := hE2.size; omega) O_E2
          have hw5 : Below E.heap.size E w5 := Below.grown (w := E2) hE2 hg5 (by have := hE2.size; omega) (fun j hj => by injection hj with hj'; have := hge0; omega)
          have hz5 := hg5.size
          obtain ⟨a5, c5, rfl, -⟩ := ho5.inn
          refine wpOp_wp rfl rfl (wp_append_eq _ _ _ rfl rfl rfl hr5 ⟨HSB.out _ hw5, ?_⟩)
          have hcl5 : ∀ j, w5.cell? ⟨E.drew.heap.size, j, none⟩ = (#[.int .i64 x, .int .i64 y, .int .i64 z] : Array Value)[j]? := fun j => (cell_of_heap (hg5.block _ (by first | omega | (show E.heap.size < _; omega)) (by intro e; injection e with e'; first | omega | (have e2 : E.heap.size = _ := e'; omega)))).trans (hcl2 j)
          simp only [Act.put, List.getElem_toArray, List.getElem_cons_succ, List.getElem_cons_zero, List.setIfInBounds_toArray, List.set_cons_zero, List.set_cons_succ]
          refine wpAnyH_all (rs := [8]) (by kernel_rfl) (by decide) (List.forall_mem_cons.2 ⟨?_, fun _ h => absurd h List.not_mem_nil⟩)
          have HR5 : w5.ownsRow (E.heap.size) 25 3 (.slice a5 L.length c5) L.length (flat3 L) := ho5
          obtain ⟨v8, w8, hr8, ho8, hg8, -⟩ := run_append_own w5 (E.heap.size) 33 33 25 i0 _ 3 24 Try.underlying33 I0.out Z0.out Z1.out Z2.out rfl (by omega) (.slice a5 L.length c5) L.length (flat3 L) HR5 ⟨E.drew.heap.size, 0, none⟩ 1 1 [.int .i64 x, .int .i64 y, .int .i64 z] rfl (fun j u hu => by
            rw [add_off, Nat.zero_add, hcl5 j, List.getElem?_toArray]
            exact hu) (by simp [Value.oneCell']) (by unfold maxLen; omega) (by omega) (by have := hw5.size; omega)
          have hB4 : Below E.heap.size E w8 := Below.grown (w := w5) hw5 hg8 (by have := hw5.size; omega) (fun j hj => by have := (World.ownsRow.lt HR5 j hj).1; omega)
          have hr9 : CRow w8 (E.heap.size) v8 (L ++ [(x, y, z)]) := by
            unfold CRow
            rw [flat3_append, List.length_append]
            exact ho8
          obtain ⟨a4, c4, rfl, -⟩ := hr9.inn
          rw [show (L ++ [(x, y, z)]).length = L.length + 1 from by simp] at hr9 hr8
          have HR9 := Lib.hid hr9
          have hz8 := hB4.size
          clear hr9 ho8 hg8 HR5
          refine wpOp_wp rfl rfl (wp_append_eq _ _ _ rfl rfl rfl hr8 ⟨HSB.out _ hB4, ?_⟩)
          clear hr8
          simp only [Act.put, List.getElem_toArray, List.getElem_cons_succ, List.getElem_cons_zero, List.setIfInBounds_toArray, List.set_cons_zero, List.set_cons_succ]
          refine wpAnyH_all (rs := [9]) (by kernel_rfl) (by decide) (List.forall_mem_cons.2 ⟨?_, fun _ h => absurd h List.not_mem_nil⟩)
          refine wpOp_value (v := .agg #[.int .i64 h, .slice a4 (L.length + 1) c4]) (w' := w8) _ rfl rfl rfl (by go_simp; try rfl) ⟨HSB.out _ hB4, ?_⟩
          simp only [Act.put, List.setIfInBounds_toArray, List.set_cons_zero, List.set_cons_succ]
          obtain ⟨s0, s1, s2, s3, s4⟩ := HSB.out _ hB4
          obtain ⟨hc8, hf8⟩ := bcell hB4
          have ud0 := (hc8 (w.heap.size + 1 + 1) 0 (by omega)).trans g4
          have ud1 := (hc8 (w.heap.size + 1 + 1) 1 (by omega)).trans g5
          have ue0 := (hf8 (w.heap.size + 1 + 1) 0 (by omega)).trans g6
          have ue1 := (hf8 (w.heap.size + 1 + 1) 1 (by omega)).trans g7f
          have hbw : Below w.heap.size w w8 := hbE.trans (hB4.mono hbE.size)
          clear hc8 hf8
          refine wpAnyH_all (rs := [10]) (by kernel_rfl) (by decide) (List.forall_mem_cons.2 ⟨?_, fun _ h => absurd h List.not_mem_nil⟩)
          refine wpOp_store rfl rfl (w' := (w8.setCell ⟨w.heap.size + 1 + 1, 0, none⟩ (.int .i64 h)).setCell ⟨w.heap.size + 1 + 1, 1, none⟩ (.slice a4 (L.length + 1) c4)) (by go_simp; try rfl) ⟨⟨by go_simp, by go_simp, by go_simp, by go_simp, by go_simp⟩, ?_⟩
          refine wpAnyH_all (rs := [11]) (by kernel_rfl) (by decide) (List.forall_mem_cons.2 ⟨?_, fun _ h => absurd h List.not_mem_nil⟩)
          refine wpOp_value (v := .bool true) (w' := (w8.setCell ⟨w.heap.size + 1 + 1, 0, none⟩ (.int .i64 h)).setCell ⟨w.heap.size + 1 + 1, 1, none⟩ (.slice a4 (L.length + 1) c4)) _ rfl rfl rfl (by go_simp; try rfl) ⟨⟨by go_simp, by go_simp, by go_simp, by go_simp, by go_simp⟩, ?_⟩
          simp only [Act.put, List.setIfInBounds_toArray, List.set_cons_zero, List.set_cons_succ]
          refine wpAnyH_done (by kernel_rfl) ?_ _
          go_wp2
          (refine bodyPost_ret (by simp [results, Try.results50, go_sem, *]; try rfl) rfl ?_)
          rw [HM.out]
          exact ⟨_, rfl, ((HR9.out.set (a := ⟨w.heap.size + 1 + 1, 0, none⟩) (by show w.heap.size + 1 + 1 < _; omega) _).set (a := ⟨w.heap.size + 1 + 1, 1, none⟩) (by show w.heap.size + 1 + 1 < _; omega) _).mono (by omega), by (repeat' (first | (with_reducible exact Below.refl _ _) | (with_reducible assumption) | (with_reducible refine Below.alloc ?_ ?_ _) | (with_reducible refine Below.drew ?_) | (with_reducible refine below_drewN ?_ _) | (with_reducible refine Below.setCell ?_ ?_ _) | (with_reducible refine below_call ?_ ?_ (by assumption)) | go_size))⟩

end Go.Proofs.Ytcpgjjmamclklaa
