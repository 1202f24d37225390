/- Puzzles: lists of clues cut, without one, and closed: by the program and by the model. -/
import Derived.Test.YtcpgjjmamclklaaPz9
import Derived.Deep.Upon
set_option linter.unusedSimpArgs false
set_option linter.unusedVariables false
set_option maxRecDepth 100000
namespace Go.Proofs.Ytcpgjjmamclklaa
open Go.RowKit

/-- Where a slice begins that is cut out of one, from l on with the room up to m. -/
def cutA (a : Option Addr) (l m : Nat) : Option Addr := if m = l then a else a.map (·.add (l * 3))
theorem cutA_zero (a : Option Addr) (m : Nat) : cutA a 0 m = a := by
  unfold cutA
  split
  · rfl
  · cases a with
    | none => rfl
    | some ad => simp [Addr.add]
theorem cutA_some (b off l m : Nat) : ∃ off', cutA (some ⟨b, off, none⟩) l m = some ⟨b, off', none⟩ ∧ (m ≠ l → off' = off + l * 3) := by
  unfold cutA
  by_cases h : m = l
  · rw [if_pos h]; exact ⟨off, rfl, fun h' => absurd h h'⟩
  · rw [if_neg h]
    refine ⟨off + l * 3, ?_, fun _ => rfl⟩
    simp only [Option.map_some, Addr.add]
    split <;> simp_all
theorem CIn.cut {w : World} {a : Option Addr} {L : List (Int × Int × Int)} (h : CIn w a L) (l t m : Nat) (h2 : t ≤ m) : CIn w (cutA a l m) ((L.take t).drop l) := by
  intro k hk
  have hk' : k + l < L.length ∧ k + l < t := by simp only [List.length_drop, List.length_take] at hk; omega
  obtain ⟨b, off, rfl, e1, e2, e3, e4⟩ := h (k + l) hk'.1
  obtain ⟨off', h1, h3⟩ := cutA_some b off l m
  have h4 := h3 (by omega)
  have hg : ((L.take t).drop l).getD k (0, 0, 0) = L.getD (k + l) (0, 0, 0) := by
    simp only [List.getD_eq_getElem?_getD, List.getElem?_drop, List.getElem?_take]
    rw [if_pos (by omega), Nat.add_comm]
  rw [hg]
  refine ⟨b, off', h1, e1, ?_, ?_, ?_⟩
  · rw [h4, show off + l * 3 + k * 3 = off + (k + l) * 3 by omega]; exact e2
  · rw [h4, show off + l * 3 + k * 3 + 1 = off + (k + l) * 3 + 1 by omega]; exact e3
  · rw [h4, show off + l * 3 + k * 3 + 2 = off + (k + l) * 3 + 2 by omega]; exact e4
theorem add_off (b off j : Nat) : (⟨b, off, none⟩ : Addr).add j = ⟨b, off + j, none⟩ := by unfold Addr.add; split <;> simp_all
/-- The cells of a list that lies somewhere. -/
theorem CIn.news {w : World} {b off : Nat} {M : List (Int × Int × Int)} (h : CIn w (some ⟨b, off, none⟩) M) : ∀ j u, (flat3 M)[j]? = some u → w.cell? ((⟨b, off, none⟩ : Addr).add j) = some u := by
  intro j u hu
  have hj : j < M.length * 3 := by rw [← flat3_length]; exact (List.getElem?_eq_some_iff.1 hu).1
  have hk : j / 3 < M.length := by omega
  obtain ⟨b', off', e0, e1, e2, e3, e4⟩ := h (j / 3) hk
  obtain ⟨rfl, rfl⟩ : b = b' ∧ off = off' := by simpa using e0
  obtain ⟨g1, g2, g3⟩ := flat3_get M (j / 3) hk
  rw [add_off]
  rcases (show j = j / 3 * 3 ∨ j = j / 3 * 3 + 1 ∨ j = j / 3 * 3 + 2 by omega) with h0 | h0 | h0
  · rw [h0] at hu ⊢; rw [g1] at hu; rw [← hu]; exact e2
  · rw [h0] at hu ⊢; rw [g2] at hu; rw [← hu, ← Nat.add_assoc]; exact e3
  · rw [h0] at hu ⊢; rw [g3] at hu; rw [← hu, ← Nat.add_assoc]; exact e4
theorem flat3_one (M : List (Int × Int × Int)) : ∀ u ∈ flat3 M, u.oneCell' = true := by
  induction M with
  | nil => intro u hu; cases hu
  | cons t ts ih =>
    intro u hu
    simp only [flat3, List.mem_cons] at hu
    rcases hu with rfl | rfl | rfl | hu
    · rfl
    · rfl
    · rfl
    · exact ih u hu
theorem erase_cut {L : List (Int × Int × Int)} {k : Nat} : (L.take k).drop 0 ++ (L.take L.length).drop (k + 1) = L.eraseIdx k := by
  rw [List.drop_zero, List.take_length, List.eraseIdx_eq_take_drop_succ]
theorem all_erase {L : List (Int × Int × Int)} {p : Int × Int × Int → Bool} (h : L.all p = true) (k : Nat) : (L.eraseIdx k).all p = true := by
  rw [List.all_eq_true] at h ⊢
  exact fun x hx => h x (List.mem_of_mem_eraseIdx hx)
theorem all_cut {L : List (Int × Int × Int)} {p : Int × Int × Int → Bool} (h : L.all p = true) (l t : Nat) : ((L.take t).drop l).all p = true := by
  rw [List.all_eq_true] at h ⊢
  exact fun x hx => h x (List.mem_of_mem_take (List.mem_of_mem_drop hx))
/-! A slice cut out of one: with two bounds, with three. -/
section
variable {P : Program} {t e : TypeId} (ht : P.underlying t = some (.slice e)) {i : TypeInfo} (hi : P.info? e = some i) (hs : i.size = 3)
include ht hi hs
theorem run_cut3 (a : Option Addr) (n c : Nat) (l h m : Nat) (h1 : l ≤ h) (h2 : h ≤ m) (h3 : m ≤ c) (w : World) :
    (Instr.slice t (.slice a n c) (some (.int .i64 l)) (some (.int .i64 h)) (some (.int .i64 m))).run P w = .ok (.slice (cutA a l m) (h - l) (m - l)) w := by
  simp [Instr.slice, Instr.sliceBounds, Instr.sliceBound, asIntOf, run_underlying ht, sizeOf, typeInfo, hi, hs, cutA, h1, h2, h3]
theorem run_cutL (a : Option Addr) (n c : Nat) (l : Nat) (h1 : l ≤ n) (w : World) :
    (Instr.slice t (.slice a n c) (some (.int .i64 l)) none none).run P w = .ok (.slice (cutA a l c) (n - l) (c - l)) w := by
  simp [Instr.slice, Instr.sliceBounds, Instr.sliceBound, asIntOf, run_underlying ht, sizeOf, typeInfo, hi, hs, cutA, h1, Nat.not_lt.2 h1]
theorem run_cutH (a : Option Addr) (n c : Nat) (h : Nat) (h1 : h ≤ c) (w : World) :
    (Instr.slice t (.slice a n c) none (some (.int .i64 h)) none).run P w = .ok (.slice a h c) w := by
  have _ := hs
  have q4 := cutA_zero a c
  unfold cutA at q4
  simp only [Nat.zero_mul] at q4
  simp [Instr.slice, Instr.sliceBounds, Instr.sliceBound, asIntOf, run_underlying ht, sizeOf, typeInfo, hi, hs, h1, Nat.not_lt.2 h1, q4]
theorem run_cutLH (a : Option Addr) (n c : Nat) (l h : Nat) (h1 : l ≤ h) (h2 : h ≤ c) (w : World) :
    (Instr.slice t (.slice a n c) (some (.int .i64 l)) (some (.int .i64 h)) none).run P w = .ok (.slice (cutA a l c) (h - l) (c - l)) w := by
  simp [Instr.slice, Instr.sliceBounds, Instr.sliceBound, asIntOf, run_underlying ht, sizeOf, typeInfo, hi, hs, cutA, h1, h2]
end
set_option maxHeartbeats 800000 in
theorem cut_any (h : Int) (a : Option Addr) (n c l t : Nat) (h1 : l ≤ t) (h2 : t ≤ c) (hc : c ≤ maxLen) (w : World) :
    Calls Try.prog 114 #[pzv h (.slice a n c), .int .i64 l, .int .i64 t] w fun e w' => e = .returned (pzv h (.slice (cutA a l t) (t - l) (t - l))) ∧ Below w.heap.size w w' := by
  obtain ⟨i0, hi0, hz0, hz1, hz2⟩ := info_parts Try.infoParts
  have I0 := Lib.hid hi0
  have Z0 := Lib.hid hz0
  have Z1 := Lib.hid hz1
  have Z2 := Lib.hid hz2
  clear hi0 hz0 hz1 hz2
  have HS := run_cut3 Try.underlying70 I0.out Z1.out a n c l t t h1 (Nat.le_refl _) h2
  (go_enter Try.func114, Try.ntmps114)
  go_wp2_with fail
  refine wp_region_btail 9 (by kernel_rfl) (by kernel_rfl) ?_
  simp only [List.take_succ_cons, List.take_zero, List.drop_succ_cons, List.drop_zero]
  (apply wpB_take (hw := rfl); (intro wq hq; obtain ⟨hcq, hfq⟩ := bcell hq; unfold atB; go_simp; exact ⟨rfl, rfl⟩); simp only [Act.put, List.setIfInBounds_toArray, List.set_cons_zero, List.set_cons_succ])
  (apply wpB_take (hw := rfl); (intro wq hq; obtain ⟨hcq, hfq⟩ := bcell hq; unfold atB; go_simp; exact ⟨rfl, rfl⟩); simp only [Act.put, List.setIfInBounds_toArray, List.set_cons_zero, List.set_cons_succ])
  (apply wpB_take (hw := rfl); (intro wq hq; obtain ⟨hcq, hfq⟩ := bcell hq; unfold atB; go_simp; exact ⟨rfl, rfl⟩); simp only [Act.put, List.setIfInBounds_toArray, List.set_cons_zero, List.set_cons_succ])
  (apply wpB_take (hw := rfl); (intro wq hq; obtain ⟨hcq, hfq⟩ := bcell hq; unfold atB; go_simp; exact ⟨rfl, rfl⟩); simp only [Act.put, List.setIfInBounds_toArray, List.set_cons_zero, List.set_cons_succ])
  (apply wpB_take (hw := rfl); (intro wq hq; obtain ⟨hcq, hfq⟩ := bcell hq; unfold atB; go_simp; exact ⟨rfl, rfl⟩); simp only [Act.put, List.setIfInBounds_toArray, List.set_cons_zero, List.set_cons_succ])
  (apply wpB_take (hw := rfl); (intro wq hq; obtain ⟨hcq, hfq⟩ := bcell hq; unfold atB; go_simp; exact ⟨rfl, rfl⟩); simp only [Act.put, List.setIfInBounds_toArray, List.set_cons_zero, List.set_cons_succ])
  (apply wpB_take (hw := rfl); (intro wq hq; obtain ⟨hcq, hfq⟩ := bcell hq; unfold atB; go_simp; exact ⟨rfl, rfl⟩); simp only [Act.put, List.setIfInBounds_toArray, List.set_cons_zero, List.set_cons_succ])
  (apply wpB_take (hw := rfl); (intro wq hq; obtain ⟨hcq, hfq⟩ := bcell hq; unfold atB; go_simp; exact ⟨rfl, rfl⟩); simp only [Act.put, List.setIfInBounds_toArray, List.set_cons_zero, List.set_cons_succ])
  (apply wpB_take (hw := rfl); (intro wq hq; obtain ⟨hcq, hfq⟩ := bcell hq; unfold atB; go_simp; exact ⟨rfl, rfl⟩); simp only [Act.put, List.setIfInBounds_toArray, List.set_cons_zero, List.set_cons_succ])
  refine fun w1 hb1 => ?_
  (obtain ⟨hc1, hf1⟩ := bcell hb1; have hz1 := hb1.size; (try simp only [World.size_alloc, World.size_setCell, World.size_drew] at hz1); have q1 : w.heap.size ≤ w1.heap.size := (by omega); (try have q1_0 : w.heap.size < w1.heap.size := (by omega)); (try have q1_1 : w.heap.size + 1 < w1.heap.size := (by omega)); (try have q1_2 : w.heap.size + 2 < w1.heap.size := (by omega)); (try have q1_3 : w.heap.size + 3 < w1.heap.size := (by omega)); try simp only [Act.put, List.setIfInBounds_toArray, List.set_cons_zero, List.set_cons_succ])
  go_wp2
  (refine bodyPost_ret (by simp [results, Try.results114, go_sem, *]; try rfl) rfl ?_)
  exact ⟨rfl, by (repeat' (first | (with_reducible exact Below.refl _ _) | (with_reducible assumption) | (with_reducible refine Below.alloc ?_ ?_ _) | (with_reducible refine Below.drew ?_) | (with_reducible refine below_drewN ?_ _) | (with_reducible refine Below.setCell ?_ ?_ _) | (with_reducible refine below_call ?_ ?_ (by assumption)) | go_size))⟩
theorem cut0_any (h : Int) (a : Option Addr) (n c t : Nat) (h2 : t ≤ c) (hc : c ≤ maxLen) (w : World) :
    Calls Try.prog 114 #[pzv h (.slice a n c), .int .i64 0, .int .i64 t] w fun e w' => e = .returned (pzv h (.slice a t t)) ∧ Below w.heap.size w w' := by
  have h := cut_any h a n c 0 t (Nat.zero_le _) h2 hc w
  rw [cutA_zero] at h
  exact h
theorem wp_append_eq {P : Program} {o : Oper} {a : Act} {w : World} {K : Act → World → Prop} {Q : Exit → Act → World → Prop} (s x : Operand) (t : TypeId)
    (ho : o.op = .call { callee := .builtin .append, args := #[s, x], argTypes := #[t, t] }) {v src v' : Value} {w' : World} (hs : a.eval s = v) (hx : a.eval x = src)
    (hr : (Builtin.append_ #[t, t] o.type #[v, src]).run P w = .ok v' w') (h : K (a.put o.dst v') w') : o.wp P a w K Q := by
  unfold Oper.wp execOp
  simp only [ho, resolve, invoke, builtin, Sem.run_bind, Sem.run_pure, Result.andThen_ok, List.map_toArray, List.map_cons, List.map_nil, hs, hx, hr]
  exact h
theorem CIn.setFar {w : World} {a : Option Addr} {L : List (Int × Int × Int)} (h : CIn w a L) {p : Addr} (hp : ∀ b off, a = some ⟨b, off, none⟩ → b ≠ p.block) (u : Value) : CIn (w.setCell p u) a L := by
  intro k hk
  obtain ⟨b, off, rfl, e1, e2, e3, e4⟩ := h k hk
  have hh := Below.heap_setCell w p u b (hp b off rfl)
  exact ⟨b, off, rfl, by simpa using e1, (cell_of_heap hh).trans e2, (cell_of_heap hh).trans e3, (cell_of_heap hh).trans e4⟩
set_option maxHeartbeats 3200000 in
theorem without_any (h : Int) (a : Option Addr) (c : Nat) (L : List (Int × Int × Int)) (k : Nat) (hk : k < L.length) (hc : L.length ≤ c) (hcm : c ≤ maxLen) (hl : L.length ≤ 1048576) (w : World) (hin : CIn w a L) :
    Calls Try.prog 93 #[pzv h (.slice a L.length c), .int .i64 k] w fun e w' => ∃ a' c', e = .returned (pzv h (.slice a' (L.eraseIdx k).length c')) ∧ CIn w' a' (L.eraseIdx k) ∧ (L.eraseIdx k).length ≤ c' ∧ c' ≤ maxLen ∧ Below w.heap.size w w' := by
  obtain ⟨i0, hi0, hz0, hz1, hz2⟩ := info_parts Try.infoParts
  have I0 := Lib.hid hi0
  have Z0 := Lib.hid hz0
  have Z1 := Lib.hid hz1
  have Z2 := Lib.hid hz2
  clear hi0 hz0 hz1 hz2
  have HSL : ∀ W : World, (Instr.slice 70 (.slice a L.length c) (some (.int .i64 ((k : Int) + 1))) none none).run Try.prog W = .ok (.slice (cutA a (k + 1) c) (L.length - (k + 1)) (c - (k + 1))) W := fun W => by
    have := run_cutL Try.underlying70 I0.out Z1.out a L.length c (k + 1) (by omega) W
    rwa [show (((k + 1 : Nat)) : Int) = (k : Int) + 1 from by omega] at this
  obtain ⟨b, off, rfl, hbl, -⟩ := hin k hk
  have hel : (L.eraseIdx k).length = L.length - 1 := by rw [List.length_eraseIdx]; simp [hk]
  have X1 := Lib.hid (fun W (hb : Below w.heap.size w W) => ((hin.below hb).cut 0 k k (Nat.le_refl _)))
  have X2 := Lib.hid (fun W (hb : Below w.heap.size w W) => ((hin.below hb).cut (k + 1) L.length c hc))
  have HE := Lib.hid (erase_cut (L := L) (k := k))
  have k0 : (0 : Int) ≤ (k : Int) := Int.natCast_nonneg _
  have hlm := hcm
  unfold maxLen at hlm
  have f1 := zw64 (n := (k : Int) + 1) (by omega)
  have HC := Lib.hid (fun W => cut0_any h (some ⟨b, off, none⟩) L.length c k (by omega) hcm W)
  obtain ⟨off2, ho2, -⟩ := cutA_some b off (k + 1) c
  rw [ho2] at HSL X2
  rw [cutA_zero] at X1
  clear hin
  have a := some (⟨b, off, none⟩ : Addr)
  (go_enter Try.func93, Try.ntmps93)
  go_wp2_with fail
  have g0 : ((w.alloc (Obj.cells #[Value.int .i64 h, Value.slice (some ⟨b, off, none⟩) L.length c] 72)).alloc (Obj.cells #[Value.int .i64 0, Value.slice none 0 0] 72)).cell? ⟨w.heap.size, 0, none⟩ = some (.int .i64 h) := by go_simp
  have g1 : ((w.alloc (Obj.cells #[Value.int .i64 h, Value.slice (some ⟨b, off, none⟩) L.length c] 72)).alloc (Obj.cells #[Value.int .i64 0, Value.slice none 0 0] 72)).cell? ⟨w.heap.size, 1, none⟩ = some (.slice (some ⟨b, off, none⟩) L.length c) := by go_simp
  have g2 : ((w.alloc (Obj.cells #[Value.int .i64 h, Value.slice (some ⟨b, off, none⟩) L.length c] 72)).alloc (Obj.cells #[Value.int .i64 0, Value.slice none 0 0] 72)).cell? ⟨w.heap.size + 1, 0, none⟩ = some (.int .i64 0) := by go_simp
  have g3 : ((w.alloc (Obj.cells #[Value.int .i64 h, Value.slice (some ⟨b, off, none⟩) L.length c] 72)).alloc (Obj.cells #[Value.int .i64 0, Value.slice none 0 0] 72)).cell? ⟨w.heap.size + 1, 1, none⟩ = some (.slice none 0 0) := by go_simp
  have g4 : ((w.alloc (Obj.cells #[Value.int .i64 h, Value.slice (some ⟨b, off, none⟩) L.length c] 72)).alloc (Obj.cells #[Value.int .i64 0, Value.slice none 0 0] 72)).frozen? ⟨w.heap.size + 1, 0, none⟩ = false := by go_simp
  have g5 : ((w.alloc (Obj.cells #[Value.int .i64 h, Value.slice (some ⟨b, off, none⟩) L.length c] 72)).alloc (Obj.cells #[Value.int .i64 0, Value.slice none 0 0] 72)).frozen? ⟨w.heap.size + 1, 1, none⟩ = false := by go_simp
  have hzE : ((w.alloc (Obj.cells #[Value.int .i64 h, Value.slice (some ⟨b, off, none⟩) L.length c] 72)).alloc (Obj.cells #[Value.int .i64 0, Value.slice none 0 0] 72)).heap.size = w.heap.size + 2 := by simp
  have hbE : Below w.heap.size w ((w.alloc (Obj.cells #[Value.int .i64 h, Value.slice (some ⟨b, off, none⟩) L.length c] 72)).alloc (Obj.cells #[Value.int .i64 0, Value.slice none 0 0] 72)) := by (repeat' (first | (with_reducible exact Below.refl _ _) | (with_reducible assumption) | (with_reducible refine Below.alloc ?_ ?_ _) | (with_reducible refine Below.drew ?_) | (with_reducible refine below_drewN ?_ _) | (with_reducible refine Below.setCell ?_ ?_ _) | (with_reducible refine below_call ?_ ?_ (by assumption)) | go_size))
  generalize ((w.alloc (Obj.cells #[Value.int .i64 h, Value.slice (some ⟨b, off, none⟩) L.length c] 72)).alloc (Obj.cells #[Value.int .i64 0, Value.slice none 0 0] 72)) = E at *
  have HSB : Hid (∀ W, Below E.heap.size E W → W.cell? ⟨w.heap.size, 0, none⟩ = some (.int .i64 h) ∧ W.cell? ⟨w.heap.size, 1, none⟩ = some (.slice (some ⟨b, off, none⟩) L.length c)) := Lib.hid (fun W hb => by
    have hc := (bcell hb).1
    exact ⟨(hc _ _ (by omega)).trans g0, (hc _ _ (by omega)).trans g1⟩)
  have hBd : Below E.heap.size E E.drew := (Below.refl _ _).drew
  have hS1 := HSB.out _ hBd
  refine wp_region_held (by kernel_rfl) (S := fun W => W.cell? ⟨w.heap.size, 0, none⟩ = some (.int .i64 h) ∧ W.cell? ⟨w.heap.size, 1, none⟩ = some (.slice (some ⟨b, off, none⟩) L.length c)) ?_
  refine take_first (i := 0) (v := .pointer (some ⟨w.heap.size, 0, none⟩)) _ rfl rfl (by kernel_rfl) (by kernel_rfl) (by kernel_rfl) (fun _ _ _ h => h) (by rfl) ?_ (by assumption) ?_
  · intro wq hq
    obtain ⟨s0, s1⟩ := hq
    go_simp
    try rfl
  simp only [Act.put, List.setIfInBounds_toArray, List.set_cons_zero, List.set_cons_succ]
  refine take_first (i := 1) (v := .int .i64 h) _ rfl rfl (by kernel_rfl) (by kernel_rfl) (by kernel_rfl) (fun _ _ _ h => h) (by rfl) ?_ (by assumption) ?_
  · intro wq hq
    obtain ⟨s0, s1⟩ := hq
    go_simp
    try rfl
  simp only [Act.put, List.setIfInBounds_toArray, List.set_cons_zero, List.set_cons_succ]
  refine take_first (i := 2) (v := pzv h (.slice (some ⟨b, off, none⟩) L.length c)) _ rfl rfl (by kernel_rfl) (by kernel_rfl) (by kernel_rfl) (fun _ _ _ h => h) (by rfl) ?_ (by assumption) ?_
  · intro wq hq
    obtain ⟨s0, s1⟩ := hq
    go_simp
    try rfl
  simp only [Act.put, List.setIfInBounds_toArray, List.set_cons_zero, List.set_cons_succ]
  refine take_first (i := 3) (v := .int .i64 k) _ rfl rfl (by kernel_rfl) (by kernel_rfl) (by kernel_rfl) (fun _ _ _ h => h) (by rfl) ?_ (by assumption) ?_
  · intro wq hq
    obtain ⟨s0, s1⟩ := hq
    go_simp
    try rfl
  simp only [Act.put, List.setIfInBounds_toArray, List.set_cons_zero, List.set_cons_succ]
  refine take_first (i := 6) (v := .pointer (some ⟨w.heap.size, 1, none⟩)) _ rfl rfl (by kernel_rfl) (by kernel_rfl) (by kernel_rfl) (fun _ _ _ h => h) (by rfl) ?_ (by assumption) ?_
  · intro wq hq
    obtain ⟨s0, s1⟩ := hq
    go_simp
    try rfl
  simp only [Act.put, List.setIfInBounds_toArray, List.set_cons_zero, List.set_cons_succ]
  refine take_first (i := 7) (v := .slice (some ⟨b, off, none⟩) L.length c) _ rfl rfl (by kernel_rfl) (by kernel_rfl) (by kernel_rfl) (fun _ _ _ h => h) (by rfl) ?_ (by assumption) ?_
  · intro wq hq
    obtain ⟨s0, s1⟩ := hq
    go_simp
    try rfl
  simp only [Act.put, List.setIfInBounds_toArray, List.set_cons_zero, List.set_cons_succ]
  refine take_first (i := 8) (v := .int .i64 k) _ rfl rfl (by kernel_rfl) (by kernel_rfl) (by kernel_rfl) (fun _ _ _ h => h) (by rfl) ?_ (by assumption) ?_
  · intro wq hq
    obtain ⟨s0, s1⟩ := hq
    go_simp
    try rfl
  simp only [Act.put, List.setIfInBounds_toArray, List.set_cons_zero, List.set_cons_succ]
  refine take_first (i := 9) (v := .int .i64 ((k : Int) + 1)) _ rfl rfl (by kernel_rfl) (by kernel_rfl) (by kernel_rfl) (fun _ _ _ h => h) (by rfl) ?_ (by assumption) ?_
  · intro wq hq
    obtain ⟨s0, s1⟩ := hq
    go_simp
    try rfl
  simp only [Act.put, List.setIfInBounds_toArray, List.set_cons_zero, List.set_cons_succ]
  refine take_first (i := 10) (v := .slice (some ⟨b, off2, none⟩) (L.length - (k + 1)) (c - (k + 1))) _ rfl rfl (by kernel_rfl) (by kernel_rfl) (by kernel_rfl) (fun _ _ _ h => h) (by rfl) ?_ (by assumption) ?_
  · intro wq hq
    obtain ⟨s0, s1⟩ := hq
    go_simp
    try rfl
  simp only [Act.put, List.setIfInBounds_toArray, List.set_cons_zero, List.set_cons_succ]
  refine wpAnyH_all (rs := [4]) (by kernel_rfl) (by decide) (List.forall_mem_cons.2 ⟨?_, fun _ h => absurd h List.not_mem_nil⟩)
  refine wpOp_wp rfl rfl (wp_call_at _ rfl (f := 114) (args := #[pzv h (.slice (some ⟨b, off, none⟩) L.length c), .int .i64 0, .int .i64 k]) (by go_simp) ((HC.out _).mono ?_))
  rintro e2 w2 ⟨rfl, hb2⟩
  have hE2 : Below E.heap.size E w2 := hBd.trans (hb2.mono hBd.size)
  have hz2 := hE2.size
  have hS2 := HSB.out _ hE2
  refine ⟨_, rfl, hS2, ?_⟩
  simp only [Act.put, List.setIfInBounds_toArray, List.set_cons_zero, List.set_cons_succ]
  refine take_first (i := 5) (v := .slice (some ⟨b, off, none⟩) k k) _ rfl rfl (by kernel_rfl) (by kernel_rfl) (by kernel_rfl) (fun _ _ _ h => h) (by rfl) ?_ (by assumption) ?_
  · intro wq hq
    obtain ⟨s0, s1⟩ := hq
    go_simp
    try rfl
  simp only [Act.put, List.setIfInBounds_toArray, List.set_cons_zero, List.set_cons_succ]
  refine wpAnyH_all (rs := [11]) (by kernel_rfl) (by decide) (List.forall_mem_cons.2 ⟨?_, fun _ h => absurd h List.not_mem_nil⟩)
  have Y1 := X1.out w2 (hbE.trans (hE2.mono hbE.size))
  have Y2 := X2.out w2 (hbE.trans (hE2.mono hbE.size))
  have hl1 : ((L.take k).drop 0).length = k := by rw [List.drop_zero, List.length_take]; omega
  have hl2 : ((L.take L.length).drop (k + 1)).length = L.length - (k + 1) := by rw [List.take_length, List.length_drop]
  have hne : ∀ b' off', (some (⟨b, off, none⟩ : Addr)) = some ⟨b', off', none⟩ → b' ≠ w.heap.size + 1 := fun b' off' e => by
    obtain ⟨rfl, -⟩ : b = b' ∧ off = off' := by simpa using e
    omega
  by_cases hm : L.length = k + 1
  · have hm0 : L.length - (k + 1) = 0 := by omega
    have hx0 : Value.slice (some ⟨b, off2, none⟩) (L.length - (k + 1)) (c - (k + 1)) = .slice (some ⟨b, off2, none⟩) 0 (c - (k + 1)) := by rw [hm0]
    have HL : Hid (L.eraseIdx k = (L.take k).drop 0) := Lib.hid (by rw [← HE.out, List.take_length, show L.drop (k + 1) = [] from List.drop_eq_nil_of_le (by omega), List.append_nil])
    rw [← HL.out] at Y1
    have hk1 : Hid (k = (L.eraseIdx k).length) := Lib.hid (by omega)
    have HX0 := Lib.hid hx0
    have HMM := Lib.hid hm
    have HEL := Lib.hid hel
    clear hx0 hm hm0 hl1 hl2 hel
    refine wpOp_wp rfl rfl (wp_append_eq _ _ _ rfl (v' := .slice (some ⟨b, off, none⟩) k k) (w' := w2) rfl (Eq.trans rfl HX0.out) (run_append_nothing w2 70 70 _ 66 i0 Try.underlying70 I0.out (some ⟨b, off, none⟩) k k (Nat.le_refl _) _ (Src.ofSlice w2 Try.underlying70 _ 0 _ [] (by simp) (fun j u h => by simp at h) (fun u h => by cases h))) ⟨hS2, ?_⟩)
    simp only [Act.put, List.getElem_toArray, List.getElem_cons_succ, List.getElem_cons_zero, List.setIfInBounds_toArray, List.set_cons_zero, List.set_cons_succ]
    clear hS1
    refine wpAnyH_all (rs := [12]) (by kernel_rfl) (by decide) (List.forall_mem_cons.2 ⟨?_, fun _ h => absurd h List.not_mem_nil⟩)
    refine wpOp_value (v := .agg #[.int .i64 h, .slice (some ⟨b, off, none⟩) (k) (k)]) (w' := w2) _ rfl rfl rfl (by go_simp; try rfl) ⟨hS2, ?_⟩
    simp only [Act.put, List.setIfInBounds_toArray, List.set_cons_zero, List.set_cons_succ]
    have t0 := ((bcell hE2).1 (w.heap.size + 1) 0 (by omega)).trans g2
    have t1 := ((bcell hE2).1 (w.heap.size + 1) 1 (by omega)).trans g3
    have t2 := ((bcell hE2).2 (w.heap.size + 1) 0 (by omega)).trans g4
    have t3 := ((bcell hE2).2 (w.heap.size + 1) 1 (by omega)).trans g5
    have s0 := hS2.1
    have s1 := hS2.2
    refine wpAnyH_all (rs := [13]) (by kernel_rfl) (by decide) (List.forall_mem_cons.2 ⟨?_, fun _ h => absurd h List.not_mem_nil⟩)
    refine wpOp_store rfl rfl (w' := (w2.setCell ⟨w.heap.size + 1, 0, none⟩ (.int .i64 h)).setCell ⟨w.heap.size + 1, 1, none⟩ (.slice (some ⟨b, off, none⟩) (k) (k))) (by go_simp; try rfl) ⟨⟨by go_simp, by go_simp⟩, ?_⟩
    refine wpAnyH_done (by kernel_rfl) ?_ _
    have hfin : CIn ((w2.setCell ⟨w.heap.size + 1, 0, none⟩ (.int .i64 h)).setCell ⟨w.heap.size + 1, 1, none⟩ (.slice (some ⟨b, off, none⟩) (k) (k))) (some ⟨b, off, none⟩) (L.eraseIdx k) := (Y1.setFar (p := ⟨w.heap.size + 1, 0, none⟩) hne _).setFar (p := ⟨w.heap.size + 1, 1, none⟩) hne _
    have HF := Lib.hid hfin
    have hbw : Below w.heap.size w w2 := hbE.trans (hE2.mono hbE.size)
    clear hfin s0 s1
    go_wp2
    (refine bodyPost_ret (by simp [results, Try.results93, go_sem, *]; try rfl) rfl ?_)
    exact ⟨some ⟨b, off, none⟩, k, by rw [← hk1.out], HF.out, by have := hk1.out; omega, by omega, by (repeat' (first | (with_reducible exact Below.refl _ _) | (with_reducible assumption) | (with_reducible refine Below.alloc ?_ ?_ _) | (with_reducible refine Below.drew ?_) | (with_reducible refine below_drewN ?_ _) | (with_reducible refine Below.setCell ?_ ?_ _) | (with_reducible refine below_call ?_ ?_ (by assumption)) | go_size))⟩
  · obtain ⟨v4, w4, hr4, ho4, hg4⟩ := run_append_arg_grows w2 70 70 66 i0 _ 3 24 Try.underlying70 I0.out Z0.out Z1.out Z2.out rfl (by omega) ⟨b, off, none⟩ k k (flat3 ((L.take k).drop 0)) (by rw [flat3_length, hl1]) Y1.news
      ⟨b, off2, none⟩ (L.length - (k + 1)) (c - (k + 1)) (flat3 ((L.take L.length).drop (k + 1))) (by rw [flat3_length, hl2]) Y2.news (by omega) (by unfold maxLen; omega) (by omega)
    rw [← flat3_append, HE.out] at ho4
    obtain ⟨g, cap, hv4, hgb, hgl⟩ := World.ownsRow.form ho4 (show 0 < k + (L.length - (k + 1)) by omega)
    have hn4 : Hid (k + (L.length - (k + 1)) = (L.eraseIdx k).length) := Lib.hid (by omega)
    have hr5 : ARow w4 w2.heap.size v4 (L.eraseIdx k) := by unfold ARow; rw [← hn4.out]; exact ho4
    obtain ⟨a5, c5, hv5, hi5, hc5, hm5⟩ := hr5.inn
    subst hv4
    obtain ⟨rfl, -, rfl⟩ : a5 = some ⟨g, 0, none⟩ ∧ True ∧ cap = c5 := by simp at hv5; simp [hv5]
    have hb4 : Below w2.heap.size w2 w4 := ⟨hg4.os, hg4.tape, hg4.output, hg4.size, fun j hj => hg4.block j hj (by simp)⟩
    have hE4 : Below E.heap.size E w4 := hE2.trans (hb4.mono hE2.size)
    have hS4 := HSB.out _ hE4
    have hne4 : ∀ b' off', (some (⟨g, 0, none⟩ : Addr)) = some ⟨b', off', none⟩ → b' ≠ w.heap.size + 1 := fun b' off' e => by
      obtain ⟨rfl, -⟩ : g = b' ∧ 0 = off' := by simpa using e
      omega
    have HI5 := Lib.hid hi5
    have HMM := Lib.hid hm
    have HEL := Lib.hid hel
    clear hr5 ho4 hi5 hg4 hv5 hm hel hl1 hl2
    refine wpOp_wp rfl rfl (wp_append_eq _ _ _ rfl (v' := .slice (some ⟨g, 0, none⟩) (k + (L.length - (k + 1))) cap) (w' := w4) rfl rfl hr4 ⟨hS4, ?_⟩)
    simp only [Act.put, List.getElem_toArray, List.getElem_cons_succ, List.getElem_cons_zero, List.setIfInBounds_toArray, List.set_cons_zero, List.set_cons_succ]
    clear hS1 hS2
    refine wpAnyH_all (rs := [12]) (by kernel_rfl) (by decide) (List.forall_mem_cons.2 ⟨?_, fun _ h => absurd h List.not_mem_nil⟩)
    refine wpOp_value (v := .agg #[.int .i64 h, .slice (some ⟨g, 0, none⟩) (k + (L.length - (k + 1))) (cap)]) (w' := w4) _ rfl rfl rfl (by go_simp; try rfl) ⟨hS4, ?_⟩
    simp only [Act.put, List.setIfInBounds_toArray, List.set_cons_zero, List.set_cons_succ]
    have t0 := ((bcell hE4).1 (w.heap.size + 1) 0 (by omega)).trans g2
    have t1 := ((bcell hE4).1 (w.heap.size + 1) 1 (by omega)).trans g3
    have t2 := ((bcell hE4).2 (w.heap.size + 1) 0 (by omega)).trans g4
    have t3 := ((bcell hE4).2 (w.heap.size + 1) 1 (by omega)).trans g5
    have s0 := hS4.1
    have s1 := hS4.2
    refine wpAnyH_all (rs := [13]) (by kernel_rfl) (by decide) (List.forall_mem_cons.2 ⟨?_, fun _ h => absurd h List.not_mem_nil⟩)
    refine wpOp_store rfl rfl (w' := (w4.setCell ⟨w.heap.size + 1, 0, none⟩ (.int .i64 h)).setCell ⟨w.heap.size + 1, 1, none⟩ (.slice (some ⟨g, 0, none⟩) (k + (L.length - (k + 1))) (cap))) (by go_simp; try rfl) ⟨⟨by go_simp, by go_simp⟩, ?_⟩
    refine wpAnyH_done (by kernel_rfl) ?_ _
    have hfin : CIn ((w4.setCell ⟨w.heap.size + 1, 0, none⟩ (.int .i64 h)).setCell ⟨w.heap.size + 1, 1, none⟩ (.slice (some ⟨g, 0, none⟩) (k + (L.length - (k + 1))) (cap))) (some ⟨g, 0, none⟩) (L.eraseIdx k) := (HI5.out.setFar (p := ⟨w.heap.size + 1, 0, none⟩) hne4 _).setFar (p := ⟨w.heap.size + 1, 1, none⟩) hne4 _
    have HF := Lib.hid hfin
    have hbw : Below w.heap.size w w4 := hbE.trans (hE4.mono hbE.size)
    clear hfin s0 s1
    go_wp2
    (refine bodyPost_ret (by simp [results, Try.results93, go_sem, *]; try rfl) rfl ?_)
    exact ⟨some ⟨g, 0, none⟩, cap, by rw [← hn4.out], HF.out, by have := hn4.out; omega, hm5, by (repeat' (first | (with_reducible exact Below.refl _ _) | (with_reducible assumption) | (with_reducible refine Below.alloc ?_ ?_ _) | (with_reducible refine Below.drew ?_) | (with_reducible refine below_drewN ?_ _) | (with_reducible refine Below.setCell ?_ ?_ _) | (with_reducible refine below_call ?_ ?_ (by assumption)) | go_size))⟩
set_option maxHeartbeats 1600000 in
theorem closed_any (h : Int) (a : Option Addr) (c : Nat) (L : List (Int × Int × Int)) (hl : L.length ≤ 1048576) (w : World) (hin : CIn w a L) :
    Calls Try.prog 94 #[pzv h (.slice a L.length c)] w fun e w' => ∃ v', e = .returned (pzv h v') ∧ CRow w' w.heap.size v' L ∧ Below w.heap.size w w' := by
  obtain ⟨i0, hi0, hz0, hz1, hz2⟩ := info_parts Try.infoClue
  have I0 := Lib.hid hi0
  have Z0 := Lib.hid hz0
  have Z1 := Lib.hid hz1
  have Z2 := Lib.hid hz2
  clear hi0 hz0 hz1 hz2
  have X := Lib.hid hin
  clear hin
  (go_enter Try.func94, Try.ntmps94)
  go_wp2
  go_loopw [3, 9] (fun u i wr => ∃ (k : Nat), k ≤ L.length ∧ i = .int .i64 k ∧ CRow wr (w.heap.size + 2) u (L.take k) ∧ wr.cell? ⟨w.heap.size, 0, none⟩ = some (.int .i64 h) ∧ wr.cell? ⟨w.heap.size + 1, 0, none⟩ = some (.int .i64 0) ∧ wr.cell? ⟨w.heap.size + 1, 1, none⟩ = some (.slice none 0 0) ∧ wr.frozen? ⟨w.heap.size + 1, 0, none⟩ = false ∧ wr.frozen? ⟨w.heap.size + 1, 1, none⟩ = false ∧ w.heap.size + 2 ≤ wr.heap.size ∧ Below w.heap.size w wr) (fun _ i _ => L.length - (intOf i).toNat)
  case atStart => exact ⟨0, Nat.zero_le _, rfl, CRow.nil _ _, by go_simp, by go_simp, by go_simp, by go_simp, by go_simp, by go_size, by (repeat' (first | (with_reducible exact Below.refl _ _) | (with_reducible assumption) | (with_reducible refine Below.alloc ?_ ?_ _) | (with_reducible refine Below.drew ?_) | (with_reducible refine below_drewN ?_ _) | (with_reducible refine Below.setCell ?_ ?_ _) | (with_reducible refine below_call ?_ ?_ (by assumption)) | go_size))⟩
  case round =>
    obtain ⟨k, hk, rfl, hrow, c0, c1, c2, z1, z2, hz3, hbr⟩ := hrel
    have HR := Lib.hid hrow
    obtain ⟨qa, qc, rfl, hq1, hq2, -⟩ := hrow.cells
    have hlk : (L.take k).length = k := by rw [List.length_take]; omega
    rw [hlk] at hq1 HR ⊢
    clear hrow
    have k0' : (0 : Int) ≤ (k : Int) := Int.natCast_nonneg _
    have p0 : w.heap.size < wr.heap.size := by omega
    have p1 : w.heap.size + 1 < wr.heap.size := by omega
    have HLK := Lib.hid hlk
    clear hlk
    by_cases hlt : k < L.length
    · have k1 : (k : Int) < (L.length : Int) := by omega
      obtain ⟨hcr, hfr⟩ := bcell hbr
      obtain ⟨b, off, rfl, e1, e2, e3, e4⟩ := X.out k hlt
      have f2 := (hcr b (off + k * 3) e1).trans e2
      have f3 := (hcr b (off + k * 3 + 1) e1).trans e3
      have f4 := (hcr b (off + k * 3 + 2) e1).trans e4
      have u1 : b < wr.heap.size := by omega
      have HT : Hid (L.take (k + 1) = L.take k ++ [L.getD k (0, 0, 0)]) := Lib.hid (take3_next hlt)
      clear e2 e3 e4 hcr hfr
      generalize L.getD k (0, 0, 0) = t at *
      obtain ⟨x, y, z⟩ := t
      simp only at f2 f3 f4
      have hbq : Below w.heap.size w (wr.alloc (Obj.cells #[Value.int .i64 x, Value.int .i64 y, Value.int .i64 z] 66)) := by (repeat' (first | (with_reducible exact Below.refl _ _) | (with_reducible assumption) | (with_reducible refine Below.alloc ?_ ?_ _) | (with_reducible refine Below.drew ?_) | (with_reducible refine below_drewN ?_ _) | (with_reducible refine Below.setCell ?_ ?_ _) | (with_reducible refine below_call ?_ ?_ (by assumption)) | go_size))
      have hbrq : Below wr.heap.size wr (wr.alloc (Obj.cells #[Value.int .i64 x, Value.int .i64 y, Value.int .i64 z] 66)) := by (repeat' (first | (with_reducible exact Below.refl _ _) | (with_reducible assumption) | (with_reducible refine Below.alloc ?_ ?_ _) | (with_reducible refine Below.drew ?_) | (with_reducible refine below_drewN ?_ _) | (with_reducible refine Below.setCell ?_ ?_ _) | (with_reducible refine below_call ?_ ?_ (by assumption)) | go_size))
      have HR2 : Hid ((wr.alloc (Obj.cells #[Value.int .i64 x, Value.int .i64 y, Value.int .i64 z] 66)).ownsRow (w.heap.size + 2) 25 3 (.slice qa k qc) k (flat3 (L.take k))) := Lib.hid (by have := HR.out.below hbrq; unfold CRow at this; rwa [HLK.out] at this)
      have HLT : ∀ j, (Value.slice qa k qc).ownBlock = some j → w.heap.size + 2 ≤ j := fun j hj => (World.ownsRow.lt HR2.out j hj).1
      obtain ⟨hcq, hfq⟩ := bcell hbrq
      have v0 := Lib.hid ((hcq _ _ p0).trans c0)
      have v1 := Lib.hid ((hcq _ _ p1).trans c1)
      have v2 := Lib.hid ((hcq _ _ p1).trans c2)
      have v3 := Lib.hid ((hfq _ _ p1).trans z1)
      have v4 := Lib.hid ((hfq _ _ p1).trans z2)
      clear hcq hfq HR
      go_wp2_with (at_builtin; refine wpList_append_lies _ rfl _ _ _ rfl (w.heap.size + 2) 25 i0 _ 3 24 Try.underlying33 I0.out Z0.out Z1.out Z2.out rfl (by omega) (.slice qa k qc) (k) _ rfl (World.ownsRow.alloc HR2.out _) ⟨(wr.heap.size + 1), 0, none⟩ 1 1 [.int .i64 x, .int .i64 y, .int .i64 z] rfl rfl (World.news_of_block (cs := #[.int .i64 x, .int .i64 y, .int .i64 z]) (t := 25) (fr := (0, 0)) (by simpa using heap_alloc_new (wr.alloc (Obj.cells #[Value.int .i64 x, Value.int .i64 y, Value.int .i64 z] 66)) _)) (by simp [Value.oneCell']) (by omega) (by unfold maxLen; omega) (by omega) (by simp; omega) ((wr.heap.size + 1) + 1) (by simp) ?_; intro g cap w3 hown3 hgrow hat hlt3)
      have hb4 : Below w.heap.size w w3 := Below.grown (w := (wr.alloc (Obj.cells #[Value.int .i64 x, Value.int .i64 y, Value.int .i64 z] 66)).alloc (.cells #[.int .i64 x, .int .i64 y, .int .i64 z] 25)) (by (repeat' (first | (with_reducible exact Below.refl _ _) | (with_reducible assumption) | (with_reducible refine Below.alloc ?_ ?_ _) | (with_reducible refine Below.drew ?_) | (with_reducible refine below_drewN ?_ _) | (with_reducible refine Below.setCell ?_ ?_ _) | (with_reducible refine below_call ?_ ?_ (by assumption)) | go_size))) hgrow (by simp; omega) (fun j hj => by have := HLT j hj; omega)
      have hz4 := hgrow.size
      simp only [World.size_alloc] at hz4
      have kc : ∀ b o, b < w.heap.size + 2 → w3.cell? ⟨b, o, none⟩ = (wr.alloc (Obj.cells #[Value.int .i64 x, Value.int .i64 y, Value.int .i64 z] 66)).cell? ⟨b, o, none⟩ := fun b o hb => (cell_of_heap (hgrow.block _ (by simp; omega) (fun e => by have := HLT _ e.symm; omega))).trans (World.cell?_alloc_past _ _ _ (by simp; omega))
      have kf : ∀ b o, b < w.heap.size + 2 → w3.frozen? ⟨b, o, none⟩ = (wr.alloc (Obj.cells #[Value.int .i64 x, Value.int .i64 y, Value.int .i64 z] 66)).frozen? ⟨b, o, none⟩ := fun b o hb => (frozen_of_heap (hgrow.block _ (by simp; omega) (fun e => by have := HLT _ e.symm; omega))).trans ((bcell (Below.alloc (Below.refl (wr.alloc (Obj.cells #[Value.int .i64 x, Value.int .i64 y, Value.int .i64 z] 66)).heap.size (wr.alloc (Obj.cells #[Value.int .i64 x, Value.int .i64 y, Value.int .i64 z] 66))) (Nat.le_refl _) _)).2 _ _ (by simp; omega))
      have x0 := (kc w.heap.size 0 (by omega)).trans v0.out
      have x1 := (kc (w.heap.size + 1) 0 (by omega)).trans v1.out
      have x2 := (kc (w.heap.size + 1) 1 (by omega)).trans v2.out
      have x3 := (kf (w.heap.size + 1) 0 (by omega)).trans v3.out
      have x4 := (kf (w.heap.size + 1) 1 (by omega)).trans v4.out
      have OWN := Lib.hid hown3
      clear hown3 hgrow hat kc kf
      go_wp2
      go_roundw
      case rel =>
        refine ⟨k + 1, by omega, by go_num, ?_, x0, x1, x2, x3, x4, by omega, hb4⟩
        unfold CRow
        rw [HT.out, flat3_append, List.length_append, HLK.out]
        exact OWN.out
      case measure => simp [intOf]; omega
    · obtain rfl : k = L.length := by omega
      rw [List.take_length] at HR
      go_wp2
      (refine bodyPost_ret (by simp [results, Try.results94, go_sem, *]; try rfl) rfl ?_)
      exact ⟨_, rfl, ((HR.out.set (a := ⟨w.heap.size + 1, 0, none⟩) (by show w.heap.size + 1 < _; omega) _).set (a := ⟨w.heap.size + 1, 1, none⟩) (by show w.heap.size + 1 < _; omega) _).mono (by omega), by (repeat' (first | (with_reducible exact Below.refl _ _) | (with_reducible assumption) | (with_reducible refine Below.alloc ?_ ?_ _) | (with_reducible refine Below.drew ?_) | (with_reducible refine below_drewN ?_ _) | (with_reducible refine Below.setCell ?_ ?_ _) | (with_reducible refine below_call ?_ ?_ (by assumption)) | go_size))⟩
end Go.Proofs.Ytcpgjjmamclklaa
