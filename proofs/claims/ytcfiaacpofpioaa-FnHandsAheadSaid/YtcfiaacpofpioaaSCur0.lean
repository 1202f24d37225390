/- The cursor over drawn bytes: what it holds, and one step. -/
import Derived.Test.YtcfiaacpofpioaaLate
import Derived.Test.YtcfiaacpofpioaaSW
import Derived.Laws.BitsAll
import Derived.Laws.BitsAllLaws
set_option linter.unusedSimpArgs false
set_option linter.unusedVariables false
set_option maxRecDepth 100000
namespace Go.Proofs.Ytcfiaacpofpioaa
open Go.RowKit

/-- A slice of bytes in memory, wherever it lies. -/
def BIn (w : World) (a : Option Addr) (L : List Int) : Prop :=
  ∀ k, k < L.length → ∃ b off, a = some ⟨b, off, none⟩ ∧ b < w.heap.size ∧ w.cell? ⟨b, off + k, none⟩ = some (.int .u8 (L.getD k 0)) ∧ 0 ≤ L.getD k 0 ∧ L.getD k 0 ≤ 255
theorem BIn.below {w w' : World} {a : Option Addr} {L : List Int} (h : BIn w a L) (hb : Below w.heap.size w w') : BIn w' a L := by
  obtain ⟨hc, -⟩ := bcell hb
  have hs := hb.size
  intro k hk
  obtain ⟨b, off, h1, h2, h3, h4⟩ := h k hk
  exact ⟨b, off, h1, by omega, (hc _ _ h2).trans h3, h4⟩
/-- The cursor in block b: the bytes, the place (at most T), the seed; all that lay below b is as in w0. -/
def Cur (w0 w : World) (b : Nat) (a : Option Addr) (n cp : Nat) (T : Nat) : Prop :=
  ∃ (t : Nat) (s : Int), t ≤ T ∧ (0 ≤ s ∧ s < 18446744073709551616) ∧ w.cell? ⟨b, 0, none⟩ = some (.slice a n cp) ∧ w.cell? ⟨b, 1, none⟩ = some (.int .i64 t) ∧ w.cell? ⟨b, 2, none⟩ = some (.int .u64 s) ∧
    (w.frozen? ⟨b, 0, none⟩ = false ∧ w.frozen? ⟨b, 1, none⟩ = false ∧ w.frozen? ⟨b, 2, none⟩ = false) ∧ Below b w0 w ∧ b < w.heap.size
theorem Cur.below {w0 w w' : World} {b : Nat} {a : Option Addr} {n cp T : Nat} (h : Cur w0 w b a n cp T) (hb : Below w.heap.size w w') : Cur w0 w' b a n cp T := by
  obtain ⟨t, s, t1, s1, c0, c1, c2, ⟨f0, f1, f2⟩, hbel, hlt⟩ := h
  obtain ⟨hc, hf⟩ := bcell hb
  have := hb.size
  exact ⟨t, s, t1, s1, (hc _ _ hlt).trans c0, (hc _ _ hlt).trans c1, (hc _ _ hlt).trans c2, ⟨(hf _ _ hlt).trans f0, (hf _ _ hlt).trans f1, (hf _ _ hlt).trans f2⟩, hbel.trans (hb.mono (by omega)), by omega⟩
theorem Cur.mono {w0 w : World} {b : Nat} {a : Option Addr} {n cp T T' : Nat} (h : Cur w0 w b a n cp T) (hT : T ≤ T') : Cur w0 w b a n cp T' := by
  obtain ⟨t, s, t1, r⟩ := h
  exact ⟨t, s, by omega, r⟩

theorem wrap_u64 (n : Int) : 0 ≤ IntKind.u64.wrap n ∧ IntKind.u64.wrap n < 18446744073709551616 := by
  simp [IntKind.wrap, IntKind.signed, IntKind.bits]; omega
theorem wraps_u64' (n : Int) (h0 : 0 ≤ n) (h1 : n < 2 ^ 64) : IntKind.u64.wrap n = n := by
  simp [IntKind.wrap, IntKind.signed, IntKind.bits]; omega
theorem and255 (x : Int) (h0 : 0 ≤ x) (h1 : x < 2 ^ 64) : bits .and .u64 x 255 = x % 256 := bits_mask .u64 64 (by decide) wraps_u64' 8 (by decide) x h0 h1
theorem below_grown {w w' : World} (hb : Below w.heap.size w w') (row : Option Nat) : w.grownBy w' row := ⟨hb.os, hb.tape, hb.output, hb.size, fun k hk _ => hb.block k hk⟩
theorem grown_trans {a b c : World} {row : Option Nat} (h : a.grownBy b row) (k : b.grownBy c row) : a.grownBy c row :=
  ⟨k.os.trans h.os, k.tape.trans h.tape, k.output.trans h.output, Nat.le_trans h.size k.size, fun i hi hne => (k.block i (Nat.lt_of_lt_of_le hi h.size) hne).trans (h.block i hi hne)⟩
theorem grown_setCell (w : World) (b o : Nat) (u : Value) : w.grownBy (w.setCell ⟨b, o, none⟩ u) (some b) :=
  ⟨rfl, rfl, rfl, by simp, fun i hi hne => by
    have : i ≠ b := fun e => hne (by rw [e])
    exact heap_setCell_other w ⟨b, o, none⟩ i u (fun e => hne (by rw [e]))⟩
theorem Cur.step {w0 w2 : World} {b : Nat} {a : Option Addr} {n cp T t : Nat} (s' : Int) (hs : 0 ≤ s' ∧ s' < 18446744073709551616) (ht : t + 1 ≤ T)
    (y0 : w2.cell? ⟨b, 0, none⟩ = some (.slice a n cp)) (y1 : w2.cell? ⟨b, 1, none⟩ = some (.int .i64 t)) {s : Int} (y2 : w2.cell? ⟨b, 2, none⟩ = some (.int .u64 s))
    (g0 : w2.frozen? ⟨b, 0, none⟩ = false) (g1 : w2.frozen? ⟨b, 1, none⟩ = false) (g2 : w2.frozen? ⟨b, 2, none⟩ = false) (hbel : Below b w0 w2) (hlt : b < w2.heap.size) :
    Cur w0 ((w2.setCell ⟨b, 1, none⟩ (.int .i64 ((t : Int) + 1))).setCell ⟨b, 2, none⟩ (.int .u64 s')) b a n cp T := by
  refine ⟨t + 1, s', ht, hs, ?_, ?_, ?_, ⟨?_, ?_, ?_⟩, ?_, ?_⟩
  · go_simp
  · go_simp
  · go_simp
  · go_simp
  · go_simp
  · go_simp
  · exact Below.setCell (Below.setCell hbel (Nat.le_refl _) _) (Nat.le_refl _) _
  · simpa using hlt

set_option maxHeartbeats 1600000 in
theorem next_any (L : List Int) (a : Option Addr) (n cp : Nat) (w0 : World) (b T : Nat) (hn : L.length = n) (hb0 : w0.heap.size ≤ b) (hT : T ≤ 1000000) (hn1 : n ≤ 1048576) (w : World) (hB : BIn w0 a L) (hC : Cur w0 w b a n cp T) :
    Calls Try.prog 84 #[.pointer (some ⟨b, 0, none⟩)] w fun e w' => ∃ r, e = .returned (.int .i64 r) ∧ (0 ≤ r ∧ r ≤ 255) ∧ Cur w0 w' b a n cp (T + 1) ∧ w.grownBy w' (some b) := by
  obtain ⟨t, s, t1, ⟨s0, s1⟩, c0, c1, c2, ⟨f0, f1, f2⟩, hbel, hlt⟩ := hC
  have i0 : (0 : Int) ≤ (t : Int) := Int.natCast_nonneg _
  have hbelh := Lib.hid hbel
  by_cases hlt2 : t < n
  · obtain ⟨g1, o1, rfl, e1, e2, e3, e4⟩ := hB t (by omega)
    have i1 : (t : Int) < (n : Int) := by omega
    have u1 : g1 < w.heap.size := by have := hbel.size; omega
    have hwx := w64 (n := L.getD t 0) (by omega)
    have z1 := (hbel.cell (p := ⟨g1, o1 + t, none⟩) (by show g1 < b; omega)).trans e2
    generalize L.getD t 0 = x at *
    clear e2 hB hbel
    (go_enter Try.func84, Try.ntmps84)
    go_wp2_with fail
    refine wp_region_below (by kernel_rfl) (by kernel_rfl) ?_
    repeat (apply wpB_take (hw := rfl); (intro wq hq; obtain ⟨hcq, hfq⟩ := bcell hq; unfold atB; go_simp; exact ⟨rfl, rfl⟩); simp only [Act.put, List.setIfInBounds_toArray, List.set_cons_zero, List.set_cons_succ])
    refine fun w1 hb1 => ?_
    (obtain ⟨hc1, hf1⟩ := bcell hb1; have hz1 := hb1.size; (try simp only [World.size_alloc, World.size_setCell, World.size_drew] at hz1); have q1 : w.heap.size ≤ w1.heap.size := (by omega); (try have q1_0 : w.heap.size < w1.heap.size := (by omega)); (try have q1_1 : w.heap.size + 1 < w1.heap.size := (by omega)); (try have q1_2 : w.heap.size + 2 < w1.heap.size := (by omega)); (try have q1_3 : w.heap.size + 3 < w1.heap.size := (by omega)); try simp only [Act.put, List.setIfInBounds_toArray, List.set_cons_zero, List.set_cons_succ])
    have d0 := (hc1 b 0 hlt).trans c0
    have d1 := (hc1 b 1 hlt).trans c1
    have d2 := (hc1 b 2 hlt).trans c2
    have dz := (hc1 g1 (o1 + t) u1).trans z1
    have v1 : g1 < w1.heap.size := by omega
    have v0 : b < w1.heap.size := by omega
    go_wp2_with fail
    refine wp_region_below (by kernel_rfl) (by kernel_rfl) ?_
    repeat (apply wpB_take (hw := rfl); (intro wq hq; obtain ⟨hcq, hfq⟩ := bcell hq; unfold atB; go_simp; exact ⟨rfl, rfl⟩); simp only [Act.put, List.setIfInBounds_toArray, List.set_cons_zero, List.set_cons_succ])
    refine fun w2 hb2 => ?_
    (obtain ⟨hc2, hf2⟩ := bcell hb2; have hz2 := hb2.size; (try simp only [World.size_alloc, World.size_setCell, World.size_drew] at hz2); have q2 : w.heap.size ≤ w2.heap.size := (by omega); (try have q2_0 : w.heap.size < w2.heap.size := (by omega)); (try have q2_1 : w.heap.size + 1 < w2.heap.size := (by omega)); (try have q2_2 : w.heap.size + 2 < w2.heap.size := (by omega)); (try have q2_3 : w.heap.size + 3 < w2.heap.size := (by omega)); (try have p2_1 : b1 < w2.heap.size := (by omega)); try simp only [Act.put, List.setIfInBounds_toArray, List.set_cons_zero, List.set_cons_succ])
    have y0 := (hc2 b 0 v0).trans d0
    have y1 := (hc2 b 1 v0).trans d1
    have y2 := (hc2 b 2 v0).trans d2
    have g0 := (hf2 b 0 v0).trans ((hf1 b 0 hlt).trans f0)
    have g1' := (hf2 b 1 v0).trans ((hf1 b 1 hlt).trans f1)
    have g2 := (hf2 b 2 v0).trans ((hf1 b 2 hlt).trans f2)
    have x0 : b < w2.heap.size := by omega
    clear d0 d1 d2 dz z1 c0 c1 c2 f0 f1 f2 hc1 hc2 hf1 hf2
    go_wp2_with fail
    refine wp_region_below (by kernel_rfl) (by kernel_rfl) ?_
    repeat (apply wpB_take (hw := rfl); (intro wq hq; obtain ⟨hcq, hfq⟩ := bcell hq; unfold atB; go_simp; exact ⟨rfl, rfl⟩); simp only [Act.put, List.setIfInBounds_toArray, List.set_cons_zero, List.set_cons_succ])
    refine fun w3 hb3 => ?_
    (obtain ⟨hc3, hf3⟩ := bcell hb3; have hz3 := hb3.size; (try simp only [World.size_alloc, World.size_setCell, World.size_drew] at hz3); have q3 : w.heap.size ≤ w3.heap.size := (by omega); (try have q3_0 : w.heap.size < w3.heap.size := (by omega)); (try have q3_1 : w.heap.size + 1 < w3.heap.size := (by omega)); (try have q3_2 : w.heap.size + 2 < w3.heap.size := (by omega)); (try have q3_3 : w.heap.size + 3 < w3.heap.size := (by omega)); (try have p3_1 : b1 < w3.heap.size := (by omega)); (try have p3_2 : b2 < w3.heap.size := (by omega)); try simp only [Act.put, List.setIfInBounds_toArray, List.set_cons_zero, List.set_cons_succ])
    have hbz : Below b w0 w2 := hbelh.out.trans ((hb1.trans (hb2.mono hz1)).mono (by omega))
    have HS := Lib.hid (Cur.below (Cur.step (T := T + 1) (t := t) _ (wrap_u64 _) (by omega) y0 y1 y2 g0 g1' g2 hbz x0) hb3)
    have HGR := Lib.hid (grown_trans (below_grown hb1 (some b)) (grown_trans (below_grown hb2 (some b)) (grown_trans (grown_setCell w2 b 1 _) (grown_trans (grown_setCell _ b 2 _) (below_grown hb3 (some b))))))
    go_wp2
    go_ret
    exact ⟨x, rfl, ⟨e3, e4⟩, HS.out, HGR.out⟩
  · have i1 : ¬ (t : Int) < (n : Int) := by omega
    have i2 : ¬ (t : Int) + 1 ≤ (n : Int) := by omega
    clear hB hbel
    (go_enter Try.func84, Try.ntmps84)
    go_wp2_with fail
    refine wp_region_below (by kernel_rfl) (by kernel_rfl) ?_
    repeat (apply wpB_take (hw := rfl); (intro wq hq; obtain ⟨hcq, hfq⟩ := bcell hq; unfold atB; go_simp; exact ⟨rfl, rfl⟩); simp only [Act.put, List.setIfInBounds_toArray, List.set_cons_zero, List.set_cons_succ])
    refine fun w2 hb2 => ?_
    (obtain ⟨hc2, hf2⟩ := bcell hb2; have hz2 := hb2.size; (try simp only [World.size_alloc, World.size_setCell, World.size_drew] at hz2); have q2 : w.heap.size ≤ w2.heap.size := (by omega); (try have q2_0 : w.heap.size < w2.heap.size := (by omega)); (try have q2_1 : w.heap.size + 1 < w2.heap.size := (by omega)); (try have q2_2 : w.heap.size + 2 < w2.heap.size := (by omega)); (try have q2_3 : w.heap.size + 3 < w2.heap.size := (by omega)); (try have p2_1 : b1 < w2.heap.size := (by omega)); try simp only [Act.put, List.setIfInBounds_toArray, List.set_cons_zero, List.set_cons_succ])
    have y0 := (hc2 b 0 hlt).trans c0
    have y1 := (hc2 b 1 hlt).trans c1
    have y2 := (hc2 b 2 hlt).trans c2
    have g0 := (hf2 b 0 hlt).trans f0
    have g1' := (hf2 b 1 hlt).trans f1
    have g2 := (hf2 b 2 hlt).trans f2
    have x0 : b < w2.heap.size := by omega
    have hbz : Below b w0 w2 := hbelh.out.trans (hb2.mono (by omega))
    clear c0 c1 c2 f0 f1 f2 hc2 hf2
    go_wp2_with fail
    refine wp_region_below (by kernel_rfl) (by kernel_rfl) ?_
    repeat (apply wpB_take (hw := rfl); (intro wq hq; obtain ⟨hcq, hfq⟩ := bcell hq; unfold atB; go_simp; exact ⟨rfl, rfl⟩); simp only [Act.put, List.setIfInBounds_toArray, List.set_cons_zero, List.set_cons_succ])
    refine fun w3 hb3 => ?_
    (obtain ⟨hc3, hf3⟩ := bcell hb3; have hz3 := hb3.size; (try simp only [World.size_alloc, World.size_setCell, World.size_drew] at hz3); have q3 : w.heap.size ≤ w3.heap.size := (by omega); (try have q3_0 : w.heap.size < w3.heap.size := (by omega)); (try have q3_1 : w.heap.size + 1 < w3.heap.size := (by omega)); (try have q3_2 : w.heap.size + 2 < w3.heap.size := (by omega)); (try have q3_3 : w.heap.size + 3 < w3.heap.size := (by omega)); (try have p3_1 : b1 < w3.heap.size := (by omega)); (try have p3_2 : b2 < w3.heap.size := (by omega)); try simp only [Act.put, List.setIfInBounds_toArray, List.set_cons_zero, List.set_cons_succ])
    have HS := Lib.hid (Cur.below (Cur.step (T := T + 1) (t := t) _ (wrap_u64 _) (by omega) y0 y1 y2 g0 g1' g2 hbz x0) hb3)
    have HGR := Lib.hid (grown_trans (below_grown hb2 (some b)) (grown_trans (grown_setCell w2 b 1 _) (grown_trans (grown_setCell _ b 2 _) (below_grown hb3 (some b)))))
    clear hc3 hf3 hb3
    obtain ⟨t', s', -, ⟨s0', s1'⟩, z0, z1, z2, -, -, -⟩ := HS.out
    have q0 : 0 ≤ s' / 1099511627776 := Int.ediv_nonneg s0' (by decide)
    have q1 : s' / 1099511627776 < 2 ^ 64 := by omega
    have hand := and255 (s' / 1099511627776) q0 q1
    have hw := w64 (n := s' / 1099511627776 % 256) (by omega)
    go_wp2
    go_ret
    exact ⟨_, rfl, by omega, HS.out, HGR.out⟩
end Go.Proofs.Ytcfiaacpofpioaa
