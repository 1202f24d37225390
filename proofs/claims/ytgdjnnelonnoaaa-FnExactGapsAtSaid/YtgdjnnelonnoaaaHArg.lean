/- A slice of hands that is an argument: how it is read; the law's copy of it, and its size. -/
import Derived.Test.YtgdjnnelonnoaaaHRow
import Derived.Test.YtgdjnnelonnoaaaLHand
import Derived.Deep.Slices
import Derived.Laws.OwnMore
import Derived.OwnWalk
import Derived.Test.YtgdjnnelonnoaaaParts
set_option linter.unusedSimpArgs false
set_option linter.unusedVariables false
set_option maxRecDepth 100000
namespace Go.Proofs.Ytgdjnnelonnoaaa
open Go.ChangeShapes Go.WideShapes Go.ChangeAt Go.RowKit

/-- A slice of hands in memory, wherever it lies. -/
def HIn (w : World) (a : Option Addr) (L : List (Int × Int × Int)) : Prop :=
  ∀ k, k < L.length → ∃ b off, a = some ⟨b, off, none⟩ ∧ b < w.heap.size ∧ w.cell? ⟨b, off + k * 3, none⟩ = some (.int .i64 (L.getD k (0, 0, 0)).1) ∧ w.cell? ⟨b, off + k * 3 + 1, none⟩ = some (.int .i64 (L.getD k (0, 0, 0)).2.1) ∧ w.cell? ⟨b, off + k * 3 + 2, none⟩ = some (.int .i64 (L.getD k (0, 0, 0)).2.2)
theorem HIn.below {w w' : World} {a : Option Addr} {L : List (Int × Int × Int)} (h : HIn w a L) (hb : Below w.heap.size w w') : HIn w' a L := by
  obtain ⟨hc, -⟩ := bcell hb
  have hs := hb.size
  intro k hk
  obtain ⟨b, off, h1, h2, h3, h4, h5⟩ := h k hk
  exact ⟨b, off, h1, by omega, (hc _ _ h2).trans h3, (hc _ _ h2).trans h4, (hc _ _ h2).trans h5⟩
def AllI (L : List (Int × Int × Int)) : Prop := ∀ k, k < L.length → (-9223372036854775808 ≤ (L.getD k (0, 0, 0)).1 ∧ (L.getD k (0, 0, 0)).1 ≤ 9223372036854775807) ∧ (-9223372036854775808 ≤ (L.getD k (0, 0, 0)).2.1 ∧ (L.getD k (0, 0, 0)).2.1 ≤ 9223372036854775807) ∧ (-9223372036854775808 ≤ (L.getD k (0, 0, 0)).2.2 ∧ (L.getD k (0, 0, 0)).2.2 ≤ 9223372036854775807)
section
variable {H : Type} {enc : TypeId × Value → H} {w : World} {base : Nat} {spare : Nat → Bool} {held : Bool}
set_option maxRecDepth 100000 in
theorem open_hands {r : Reach} {b0 : Nat} {v : Value} {d : DataW H} {p : List MemPlace}
    (hv : Value.okWide Try.prog w r b0 55 v) (h : DataW.Trod enc Try.prog w base spare held 55 v d p) :
    ∃ (a : Option Addr) (c : Nat) (L : List (Int × Int × Int)), v = .slice a L.length c ∧ HIn w a L ∧ AllI L ∧ L.length ≤ maxLen := by
  obtain ⟨a0, len, cap, rfl⟩ := okWide_slice Try.underlying55 hv
  obtain ⟨fuel, hf⟩ := h
  rcases Go.Deep.open_slice Try.underlying55 hf with ⟨hcs, -⟩ | ⟨a, len', cap', m, n, D, Pl, hcs, hb, hl, hm, hmm, -, hx⟩
  · simp [Value.cells] at hcs
    obtain ⟨rfl, rfl, rfl⟩ := hcs
    exact ⟨none, 0, [], rfl, fun k hk => absurd hk (Nat.not_lt_zero _), fun k hk => absurd hk (Nat.not_lt_zero _), Nat.zero_le _⟩
  · simp [Value.cells] at hcs
    obtain ⟨rfl, rfl, rfl⟩ := hcs
    have hlm : len ≤ m := by rw [hmm]; split <;> omega
    have each : ∀ i, i < len → ∃ t : Int × Int × Int, ∃ b off, some a = some ⟨b, off, none⟩ ∧ b < w.heap.size ∧ w.cell? ⟨b, off + i * 3, none⟩ = some (.int .i64 t.1) ∧ w.cell? ⟨b, off + i * 3 + 1, none⟩ = some (.int .i64 t.2.1) ∧ w.cell? ⟨b, off + i * 3 + 2, none⟩ = some (.int .i64 t.2.2) ∧
        (-9223372036854775808 ≤ t.1 ∧ t.1 ≤ 9223372036854775807) ∧ (-9223372036854775808 ≤ t.2.1 ∧ t.2.1 ≤ 9223372036854775807) ∧ (-9223372036854775808 ≤ t.2.2 ∧ t.2.2 ≤ 9223372036854775807) := by
      intro i hi
      obtain ⟨cs0, k1, -⟩ := hx 0 (by omega)
      rw [Try.cellsHand] at k1
      obtain ⟨-, hl0, hc0⟩ := World.cells?_some k1
      have hz := hc0 0 (by omega)
      simp only [Nat.zero_mul, Addr.add, if_true] at hz
      obtain ⟨b, off, sp⟩ := a
      have hz' : w.cell? ⟨b, off, sp⟩ = some cs0[0] := by rw [hz, List.getElem?_eq_getElem (by omega)]
      have hsp : sp = none := by
        cases sp with
        | none => rfl
        | some x => simp only [World.cell?] at hz'; split at hz' <;> simp at hz'
      subst hsp
      have hlt : b < w.heap.size := by
        rcases Nat.lt_or_ge b w.heap.size with h' | h'
        · exact h'
        · simp [World.cell?, Array.getElem?_eq_none h'] at hz'
      obtain ⟨cs, q1, q2⟩ := hx i (by omega)
      rw [Try.cellsHand] at q1
      obtain ⟨-, hl1, hc1⟩ := World.cells?_some q1
      obtain ⟨c0, c1, c2, rfl⟩ : ∃ c0 c1 c2, cs = [c0, c1, c2] := by
        match cs, hl1 with
        | [c0, c1, c2], _ => exact ⟨c0, c1, c2, rfl⟩
      obtain ⟨n', m', s', rfl, rfl, rfl, -, wn, wm, ws⟩ := trod_hand q2
      have g : ∀ j, (((⟨b, off, none⟩ : Addr).add (i * 3)).add j) = ⟨b, off + i * 3 + j, none⟩ := fun j => by
        unfold Addr.add
        by_cases e1 : i * 3 = 0 <;> by_cases e2 : j = 0 <;> simp [e1, e2]
      have d0 := hc1 0 (by omega)
      have d1 := hc1 1 (by omega)
      have d2 := hc1 2 (by omega)
      rw [g] at d0 d1 d2
      have i1 := i64_of_wf wn
      have i2 := i64_of_wf wm
      have i3 := i64_of_wf ws
      exact ⟨(n', m', s'), b, off, rfl, hlt, by simpa using d0, by simpa using d1, by simpa using d2, i1, i2, i3⟩
    obtain ⟨V, hV⟩ := Go.Deep.choose_lt each
    have hget : ∀ k, k < len → ((List.range len).map V).getD k (0, 0, 0) = V k := fun k hk => by simp [List.getD_eq_getElem?_getD, hk]
    refine ⟨some a, cap, (List.range len).map V, by simp, fun k hk => ?_, fun k hk => ?_, by simp; omega⟩
    · have hk' : k < len := by simpa using hk
      rw [hget k hk']
      obtain ⟨b, off, h1, h2, h3, h4, h5, -⟩ := hV k hk'
      exact ⟨b, off, h1, h2, h3, h4, h5⟩
    · have hk' : k < len := by simpa using hk
      rw [hget k hk']
      obtain ⟨b, off, h1, h2, h3, h4, h5, h6⟩ := hV k hk'
      exact h6
end

set_option maxHeartbeats 400000 in
theorem szHandS_any (a : Option Addr) (n c : Nat) (s : Int) (w : World) (hs : 0 ≤ s ∧ s ≤ 9223372036854775807) (hn : n ≤ maxLen) :
    Calls Try.prog 52 #[.slice a n c, .int .i64 s] w fun e w' => e = .returned (.int .i64 (if s - (n : Int) < 0 then -1 else s - n)) ∧ w = w' := by
  unfold maxLen at hn
  have hw : IntKind.i64.wrap (s - (n : Int)) = s - n := by rw [IntKind.wrap_i64]; omega
  by_cases h : s - (n : Int) < 0
  · rw [if_pos h]
    (go_enter Try.func52, Try.ntmps52)
    go_wp2
    go_ret
    exact ⟨rfl, rfl⟩
  · rw [if_neg h]
    (go_enter Try.func52, Try.ntmps52)
    go_wp2
    go_ret
    exact ⟨rfl, rfl⟩

theorem Try.infoHand : (Try.prog.info? 29).map (fun i => (i.zero, i.size, i.bytes)) = some (some (.agg #[.int .i64 0, .int .i64 0, .int .i64 0]), 3, 24) := by kernel_rfl
theorem flatHand_zero (n : Nat) : flatHand (List.replicate n (0, 0, 0)) = List.replicate (n * 3) (.int .i64 0) := by
  induction n with
  | zero => rfl
  | succ n ih =>
    rw [List.replicate_succ, show (n + 1) * 3 = n * 3 + 1 + 1 + 1 by omega, List.replicate_succ, List.replicate_succ, List.replicate_succ]
    simp only [flatHand, ih]
theorem made_zero (n : Nat) : (madeCells (Value.agg #[.int .i64 0, .int .i64 0, .int .i64 0]).cells (n * 3)).toList = flatHand (List.replicate n (0, 0, 0)) := by
  rw [flatHand_zero]
  apply List.ext_getElem?
  intro j
  by_cases hj : j < n * 3
  · have h3 : j % 3 = 0 ∨ j % 3 = 1 ∨ j % 3 = 2 := by omega
    rw [List.getElem?_replicate, if_pos hj]
    simp only [madeCells, Value.cells, Array.getElem?_toList]
    rcases h3 with e | e | e <;> simp [hj, e]
  · simp [madeCells, hj]
theorem some_le' {g j B : Nat} (h : some g = some j) (hB : B ≤ g) : B ≤ j := by injection h with h; omega
theorem getD_set_self {L : List (Int × Int × Int)} {k : Nat} {x : Int × Int × Int} (hk : k < L.length) : (L.set k x).getD k (0, 0, 0) = x := by
  rw [List.getD_eq_getElem?_getD, List.getElem?_set_self hk]; rfl
theorem getD_set_far {L : List (Int × Int × Int)} {k j : Nat} {x : Int × Int × Int} (h : k ≠ j) : (L.set k x).getD j (0, 0, 0) = L.getD j (0, 0, 0) := by
  rw [List.getD_eq_getElem?_getD, List.getElem?_set_ne h, ← List.getD_eq_getElem?_getD]
theorem list_ext3 {L M : List (Int × Int × Int)} (hl : L.length = M.length) (h : ∀ j, j < M.length → L.getD j (0, 0, 0) = M.getD j (0, 0, 0)) : L = M := by
  apply List.ext_getElem hl
  intro i h1 h2
  have := h i h2
  simpa [List.getD_eq_getElem?_getD, h1, h2] using this

set_option maxHeartbeats 1600000 in
theorem toHandS_any (a : Option Addr) (c : Nat) (L : List (Int × Int × Int)) (w : World) (hin : HIn w a L) (hl : L.length ≤ 1048576) :
    Calls Try.prog 54 #[.slice a L.length c] w fun e w' => ∃ v', e = .returned v' ∧ RowHand w' w.heap.size v' L ∧ Below w.heap.size w w' := by
  have X1 := Lib.hid hin
  clear hin
  obtain ⟨i0, hi0, hz0, hz1, hz2⟩ := info_parts Try.infoHand
  have I0 := Lib.hid hi0
  have Z0 := Lib.hid hz0
  have Z1 := Lib.hid hz1
  have Z2 := Lib.hid hz2
  clear hi0 hz0 hz1 hz2
  (go_enter Try.func54, Try.ntmps54)
  go_wp2_with (at_make; refine wpList_make_full _ rfl _ _ 59 rfl w.heap.size 29 i0 (.agg #[.int .i64 0, .int .i64 0, .int .i64 0]) 3 Try.underlying59 I0.out Z0.out Z1.out .i64 .i64 _ _ L.length rfl rfl rfl rfl (by rw [Z2.out]; omega) (by unfold maxLen; omega) (by go_size) ?_; intro w0 hown0 hgrow0)
  rw [made_zero] at hown0
  have hb0 : Below w.heap.size w w0 := Below.grown (Below.refl _ _) hgrow0 (by go_size) (fun k hk => by cases hk)
  have hz0' := hgrow0.size
  have HO0 := Lib.hid hown0
  clear hown0 hgrow0
  go_wp2
  go_loopw [4] (fun i wr => ∃ (k : Nat) (dk : List (Int × Int × Int)), k ≤ L.length ∧ i = .int .i64 k ∧ dk.length = L.length ∧ (∀ j, j < k → dk.getD j (0, 0, 0) = L.getD j (0, 0, 0)) ∧ wr.ownsRow w.heap.size 29 3 (.slice (some ⟨w.heap.size, 0, none⟩) L.length L.length) L.length (flatHand dk) ∧ Below w.heap.size w wr) (fun i _ => L.length - (intOf i).toNat)
  case atStart => exact ⟨0, List.replicate L.length (0, 0, 0), Nat.zero_le _, rfl, by simp, fun j hj => absurd hj (Nat.not_lt_zero _), HO0.out, hb0⟩
  case round =>
    obtain ⟨k, dk, hk, rfl, hdl, hall, hown, hbr⟩ := hrel
    have HA := Lib.hid hall
    have HO := Lib.hid hown
    have hzr := hbr.size
    have i0' : (0 : Int) ≤ (k : Int) := Int.natCast_nonneg _
    by_cases hlt : k < L.length
    · obtain ⟨b, off, rfl, e1, e2, e3, e4⟩ := X1.out k hlt
      have hglt : w.heap.size < wr.heap.size := by
        have h := World.ownsRow.lt hown w.heap.size rfl
        exact h.2
      have i1 : (k : Int) < (L.length : Int) := by omega
      obtain ⟨hcr, hfr⟩ := bcell hbr
      have f2 := (hcr b (off + k * 3) e1).trans e2
      have f3 := (hcr b (off + k * 3 + 1) e1).trans e3
      have f4 := (hcr b (off + k * 3 + 2) e1).trans e4
      have u1 : b < wr.heap.size := by omega
      have z0 : wr.frozen? ⟨w.heap.size, k * 3, none⟩ = false := World.ownsRow.frozenAt hown _
      have z1 : wr.frozen? ⟨w.heap.size, k * 3 + 1, none⟩ = false := World.ownsRow.frozenAt hown _
      have z2 : wr.frozen? ⟨w.heap.size, k * 3 + 2, none⟩ = false := World.ownsRow.frozenAt hown _
      have d0 := (World.ownsRow.cellAt hown (k * 3) (by omega)).trans (flatHand_get dk k (by omega)).1
      have d1 := (World.ownsRow.cellAt hown (k * 3 + 1) (by omega)).trans (flatHand_get dk k (by omega)).2.1
      have d2 := (World.ownsRow.cellAt hown (k * 3 + 2) (by omega)).trans (flatHand_get dk k (by omega)).2.2
      have HN : Hid (∀ x, x = L.getD k (0, 0, 0) → ∀ j, j < k + 1 → (dk.set k x).getD j (0, 0, 0) = L.getD j (0, 0, 0)) := fun x hx j hj => by
        by_cases hjk : j = k
        · subst hjk; rw [getD_set_self (by omega), hx]
        · rw [getD_set_far (by omega)]; exact HA.out j (by omega)
      clear e2 e3 e4 hcr hfr hall hown
      generalize (dk.getD k (0, 0, 0)).1 = o1 at d0
      generalize (dk.getD k (0, 0, 0)).2.1 = o2 at d1
      generalize (dk.getD k (0, 0, 0)).2.2 = o3 at d2
      generalize L.getD k (0, 0, 0) = t at *
      obtain ⟨x, y, z⟩ := t
      simp only at f2 f3 f4
      go_wp2_with fail
      refine (toHand_any x y z _).mono ?_
      rintro e5 w2 ⟨rfl, hb2⟩
      obtain ⟨hc2, hf2⟩ := bcell hb2
      have hz2 := hb2.size
      have HO2 := Lib.hid (World.ownsRow.kept HO.out (row := none) ⟨hb2.os, hb2.tape, hb2.output, hb2.size, fun k hk _ => hb2.block k hk⟩ (Classical.em _))
      go_wp2
      go_roundw
      case rel =>
        have s1 := World.ownsRow.stored HO2.out (k * 3) (.int .i64 x)
        have s2 := World.ownsRow.stored s1.1 (k * 3 + 1) (.int .i64 y)
        have s3 := World.ownsRow.stored s2.1 (k * 3 + 2) (.int .i64 z)
        refine ⟨k + 1, dk.set k (x, y, z), by omega, by go_num, by simpa using hdl, HN.out _ rfl, ?_, ?_⟩
        · rw [← flatHand_set]
          exact s3.1
        · exact Below.grown (Below.trans hbr (hb2.mono hbr.size)) (grownBy_trans s1.2 (grownBy_trans s2.2 s3.2)) (by omega) (fun j hj => some_le' hj (Nat.le_refl _))
      case measure => simp [intOf]; omega
    · obtain rfl : k = L.length := by omega
      have HE := Lib.hid (list_ext3 hdl HA.out)
      clear hall hown
      go_wp2
      go_ret
      refine ⟨_, rfl, ?_, hbr⟩
      rw [← HE.out]
      unfold RowHand
      rw [hdl]
      exact HO.out
end Go.Proofs.Ytgdjnnelonnoaaa
