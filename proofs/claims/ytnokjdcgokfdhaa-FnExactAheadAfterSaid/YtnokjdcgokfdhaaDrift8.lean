/- Spans added by a closure: the total behind k parts. -/
import Derived.Test.YtnokjdcgokfdhaaDrM
import Derived.Test.YtnokjdcgokfdhaaDrift1
import Derived.Deep.AppendLies
import Derived.OwnWalk
import Derived.LoopTactic
set_option linter.unusedSimpArgs false
set_option linter.unusedVariables false
set_option maxRecDepth 100000
namespace Go.Proofs.Ytnokjdcgokfdhaa
open Go.RowKit
attribute [local go_sem ↓] Go.wp_at_zero Go.wp_at_succ

/-- The total behind one part more. -/
def stepS (t p : Int × Int) : Int × Int := (spN (t.1 * p.2 + p.1 * t.2) (t.2 * p.2), spD (t.1 * p.2 + p.1 * t.2) (t.2 * p.2))
def sumK (L : List (Int × Int)) : Nat → Int × Int
  | 0 => (0, 1)
  | k + 1 => stepS (sumK L k) (L.getD k (0, 0))
/-- No number is too great on the way. -/
def SumOk (L : List (Int × Int)) : Prop := ∀ k, k < L.length → (0 ≤ (sumK L k).1 * (L.getD k (0, 0)).2 ∧ (sumK L k).1 * (L.getD k (0, 0)).2 ≤ 4000000000000000000) ∧ (0 ≤ (L.getD k (0, 0)).1 * (sumK L k).2 ∧ (L.getD k (0, 0)).1 * (sumK L k).2 ≤ 4000000000000000000) ∧ 1 ≤ (sumK L k).2 * (L.getD k (0, 0)).2 ∧ (sumK L k).2 * (L.getD k (0, 0)).2 ≤ 9000000000000000000
/-- The parts lie in a block, from off on. -/
def PartsAt (w : World) (g off : Nat) (L : List (Int × Int)) : Prop := ∀ k, k < L.length → w.cell? ⟨g, off + k * 2, none⟩ = some (.int .i64 (L.getD k (0, 0)).1) ∧ w.cell? ⟨g, off + k * 2 + 1, none⟩ = some (.int .i64 (L.getD k (0, 0)).2)

theorem gb_below {a w w' : World} {row : Option Nat} (h : a.grownBy w row) (hb : Below w.heap.size w w') : a.grownBy w' row :=
  World.grownBy.trans h ⟨hb.os, hb.tape, hb.output, hb.size, fun k hk _ => hb.block k hk⟩
theorem gb_alloc {a w : World} {row : Option Nat} (h : a.grownBy w row) (o : Obj) : a.grownBy (w.alloc o) row := World.grownBy.trans h (World.grownBy_alloc w o row)
theorem gb_set {a w : World} {b : Nat} (h : a.grownBy w (some b)) (i : Nat) (v : Value) : a.grownBy (w.setCell ⟨b, i, none⟩ v) (some b) :=
  World.grownBy.trans h ⟨rfl, rfl, rfl, by simp [World.setCell], fun k _ hne => by
    simp only [World.setCell, Array.getElem?_modify]
    rw [if_neg (by intro e; exact hne (by rw [e]))]⟩

set_option maxHeartbeats 1600000 in
theorem add_any (L : List (Int × Int)) (g off t cap : Nat) (w : World) (hl : L.length ≤ 100) (hcap : L.length ≤ cap) (hg : g < w.heap.size) (ht : t < w.heap.size) (hne : g ≠ t) (HP : PartsAt w g off L) (HB : SumOk L)
    (h0 : w.cell? ⟨t, 0, none⟩ = some (.int .i64 0)) (h1 : w.cell? ⟨t, 1, none⟩ = some (.int .i64 1)) (h2 : w.frozen? ⟨t, 0, none⟩ = false) (h3 : w.frozen? ⟨t, 1, none⟩ = false) :
    Calls Try.prog 84 #[.slice (some ⟨g, off, none⟩) L.length cap, .pointer (some ⟨t, 0, none⟩)] w fun e w' => e = .returned (tv (sumK L L.length).1 (sumK L L.length).2) ∧ w.grownBy w' (some t) := by
  have HPh := Lib.hid HP
  have HBh := Lib.hid HB
  clear HP HB
  (go_enter Try.func84, Try.ntmps84)
  go_wp2
  go_loopw [8] (fun i wr => ∃ k : Nat, k ≤ L.length ∧ i = .int .i64 k ∧ wr.cell? ⟨t, 0, none⟩ = some (.int .i64 (sumK L k).1) ∧ wr.cell? ⟨t, 1, none⟩ = some (.int .i64 (sumK L k).2) ∧ wr.frozen? ⟨t, 0, none⟩ = false ∧ wr.frozen? ⟨t, 1, none⟩ = false ∧ (w.alloc (.cells #[.int .i64 0, .int .i64 0] 25)).grownBy wr (some t)) (fun i _ => L.length - (intOf i).toNat)
  case atStart => exact ⟨0, Nat.zero_le _, rfl, by go_simp; rfl, by go_simp; rfl, by go_simp, by go_simp, World.grownBy.refl _ _⟩
  case round =>
    obtain ⟨k, hk, rfl, c0, c1, f0, f1, hgb⟩ := hrel
    have hsz := hgb.size
    simp only [World.size_alloc] at hsz
    have i0 : (0 : Int) ≤ (k : Int) := Int.natCast_nonneg _
    have r0 : wr.cell? ⟨w.heap.size, 0, none⟩ = some (.int .i64 0) := (World.grownBy.cell_far hgb ⟨w.heap.size, 0, none⟩ (by simp) (by simp; omega)).trans (by go_simp)
    have r1 : wr.cell? ⟨w.heap.size, 1, none⟩ = some (.int .i64 0) := (World.grownBy.cell_far hgb ⟨w.heap.size, 1, none⟩ (by simp) (by simp; omega)).trans (by go_simp)
    have r2 : wr.frozen? ⟨w.heap.size, 0, none⟩ = false := (World.grownBy.frozen_far hgb ⟨w.heap.size, 0, none⟩ (by simp) (by simp; omega)).trans (by go_simp)
    have r3 : wr.frozen? ⟨w.heap.size, 1, none⟩ = false := (World.grownBy.frozen_far hgb ⟨w.heap.size, 1, none⟩ (by simp) (by simp; omega)).trans (by go_simp)
    by_cases hlt : k < L.length
    · obtain ⟨p0, p1⟩ := HPh.out k hlt
      have e0 : wr.cell? ⟨g, off + k * 2, none⟩ = some (.int .i64 (L.getD k (0, 0)).1) := (World.grownBy.cell_far hgb ⟨g, off + k * 2, none⟩ (by simp; omega) (by simp; omega)).trans ((World.cell?_alloc_past _ _ _ hg).trans p0)
      have e1 : wr.cell? ⟨g, off + k * 2 + 1, none⟩ = some (.int .i64 (L.getD k (0, 0)).2) := (World.grownBy.cell_far hgb ⟨g, off + k * 2 + 1, none⟩ (by simp; omega) (by simp; omega)).trans ((World.cell?_alloc_past _ _ _ hg).trans p1)
      obtain ⟨⟨b1, b2⟩, ⟨b3, b4⟩, b5, b6⟩ := HBh.out k hlt
      have HS := Lib.hid (show stepS (sumK L k) (L.getD k (0, 0)) = sumK L (k + 1) from rfl)
      have HGB := Lib.hid hgb
      clear hgb p0 p1
      generalize sumK L k = s at *
      generalize L.getD k (0, 0) = p at *
      obtain ⟨N, D⟩ := s
      obtain ⟨x, y⟩ := p
      simp only at c0 c1 e0 e1 b1 b2 b3 b4 b5 b6
      have i1 : (k : Int) < (L.length : Int) := by omega
      have t0 : t < wr.heap.size := by omega
      have g0 : g < wr.heap.size := by omega
      go_wp2_with fail
      refine (lowestSpan_any (N * y + x * D) (D * y) (by omega) (by omega) (by omega) (by omega) _).mono ?_
      rintro e2 w2 ⟨rfl, hb2⟩
      obtain ⟨hc2, hf2⟩ := bcell hb2
      have hz2 := hb2.size
      simp only [World.size_alloc] at hz2
      have c20 : w2.cell? ⟨t, 0, none⟩ = some (.int .i64 N) := (hc2 _ _ (by go_size)).trans (by go_simp)
      have c21 : w2.cell? ⟨t, 1, none⟩ = some (.int .i64 D) := (hc2 _ _ (by go_size)).trans (by go_simp)
      have f20 : w2.frozen? ⟨t, 0, none⟩ = false := (hf2 _ _ (by go_size)).trans (by go_simp)
      have f21 : w2.frozen? ⟨t, 1, none⟩ = false := (hf2 _ _ (by go_size)).trans (by go_simp)
      have HB2 := Lib.hid hb2
      clear hc2 hf2 hb2
      go_wp2
      go_roundw
      case rel =>
        refine ⟨k + 1, by omega, by go_num, ?_, ?_, ?_, ?_, ?_⟩
        · rw [← HS.out]; unfold stepS; go_simp
        · rw [← HS.out]; unfold stepS; go_simp
        · go_simp
        · go_simp
        · exact gb_set (gb_set (gb_below (gb_alloc HGB.out _) HB2.out) 0 _) 1 _
      case measure => simp [intOf]; omega
    · obtain rfl : k = L.length := by omega
      have HGB := Lib.hid hgb
      clear hgb
      go_wp2
      (refine bodyPost_ret (by simp [results, Try.results84, go_sem, *]; try rfl) rfl ?_)
      refine ⟨rfl, ?_⟩
      have h := World.grownBy.trans (World.grownBy_alloc w (.cells #[.int .i64 0, .int .i64 0] 25) (some t)) HGB.out
      have hq : ∀ (u : World) (i : Nat) (v : Value), w.grownBy u (some t) → w.heap.size < u.heap.size → w.grownBy (u.setCell ⟨w.heap.size, i, none⟩ v) (some t) := fun u i v hu hlt => ⟨hu.os, hu.tape, hu.output, by simpa [World.setCell] using hu.size, fun j hj hn => by
        have := hu.block j hj hn
        simp only [World.setCell, Array.getElem?_modify]
        rw [if_neg (by omega)]; exact this⟩
      exact hq _ 1 _ (hq _ 0 _ h (by omega)) (by simp [World.setCell]; omega)

set_option maxHeartbeats 400000 in
theorem newSum_any (w : World) :
    Calls Try.prog 61 #[] w fun e w' => e = .returned (.func (.func 84) #[] #[.pointer (some ⟨w.heap.size, 0, none⟩)]) ∧ w'.cell? ⟨w.heap.size, 0, none⟩ = some (.int .i64 0) ∧ w'.cell? ⟨w.heap.size, 1, none⟩ = some (.int .i64 1) ∧ w'.frozen? ⟨w.heap.size, 0, none⟩ = false ∧ w'.frozen? ⟨w.heap.size, 1, none⟩ = false ∧ w.heap.size < w'.heap.size ∧ Below w.heap.size w w' := by
  have hmf : ∀ (fn : Fn) (first cap : Array Value) (w : World), (Instr.makeFunc fn first cap).run Try.prog w = .ok (.func fn first cap) w := fun _ _ _ _ => rfl
  (go_enter Try.func61, Try.ntmps61)
  go_wp2
  (refine bodyPost_ret (by simp [results, Try.results61, go_sem, *]; try rfl) rfl ?_)
  refine ⟨rfl, by go_simp, by go_simp, by go_simp, by go_simp, by simp, by (repeat' (first | (with_reducible exact Below.refl _ _) | (with_reducible assumption) | (with_reducible refine Below.alloc ?_ ?_ _) | (with_reducible refine Below.drew ?_) | (with_reducible refine below_drewN ?_ _) | (with_reducible refine Below.setCell ?_ ?_ _) | (with_reducible refine below_call ?_ ?_ (by assumption)) | go_size))⟩
end Go.Proofs.Ytnokjdcgokfdhaa
