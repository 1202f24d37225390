/- A slice of clues that is an argument: how it is read; the law's copy of it, and its size. -/
import Derived.Test.YtcpgjjmamclklaaZRow
import Derived.Test.YtcpgjjmamclklaaZList
import Derived.Test.YtcpgjjmamclklaaZIRow
import Derived.Deep.Slices
import Derived.Laws.OwnMore
import Derived.OwnWalk
set_option linter.unusedSimpArgs false
set_option linter.unusedVariables false
set_option maxRecDepth 100000
namespace Go.Proofs.Ytcpgjjmamclklaa
open Go.ChangeShapes Go.WideShapes Go.ChangeAt Go.RowKit Go.Joins

/-- A slice of clues in memory, wherever it lies. -/
def CIn (w : World) (a : Option Addr) (L : List (Int × Int × Int)) : Prop :=
  ∀ k, k < L.length → ∃ b off, a = some ⟨b, off, none⟩ ∧ b < w.heap.size ∧ w.cell? ⟨b, off + k * 3, none⟩ = some (.int .i64 (L.getD k (0, 0, 0)).1) ∧ w.cell? ⟨b, off + k * 3 + 1, none⟩ = some (.int .i64 (L.getD k (0, 0, 0)).2.1) ∧ w.cell? ⟨b, off + k * 3 + 2, none⟩ = some (.int .i64 (L.getD k (0, 0, 0)).2.2)
theorem CIn.below {w w' : World} {a : Option Addr} {L : List (Int × Int × Int)} (h : CIn w a L) (hb : Below w.heap.size w w') : CIn w' a L := by
  obtain ⟨hc, -⟩ := bcell hb
  have hs := hb.size
  intro k hk
  obtain ⟨b, off, h1, h2, h3, h4, h5⟩ := h k hk
  exact ⟨b, off, h1, by omega, (hc _ _ h2).trans h3, (hc _ _ h2).trans h4, (hc _ _ h2).trans h5⟩
def AllI (L : List (Int × Int × Int)) : Prop := ∀ k, k < L.length → (-9223372036854775808 ≤ (L.getD k (0, 0, 0)).1 ∧ (L.getD k (0, 0, 0)).1 ≤ 9223372036854775807) ∧ (-9223372036854775808 ≤ (L.getD k (0, 0, 0)).2.1 ∧ (L.getD k (0, 0, 0)).2.1 ≤ 9223372036854775807) ∧ (-9223372036854775808 ≤ (L.getD k (0, 0, 0)).2.2 ∧ (L.getD k (0, 0, 0)).2.2 ≤ 9223372036854775807)
section
variable {H : Type} {enc : TypeId × Value → H} {w : World} {base : Nat} {spare : Nat → Bool} {held : Bool}
set_option maxRecDepth 100000 in
theorem trod_clues {fuel : Nat} {v : Value} {x : DataW H × List MemPlace} (hf : DataW.trod enc Try.prog w base spare held fuel 28 [v] = some x) :
    ∃ (a : Option Addr) (c : Nat) (L : List (Int × Int × Int)), v = .slice a L.length c ∧ CIn w a L ∧ AllI L ∧ L.length ≤ maxLen := by
  rcases Go.Deep.open_slice Try.underlying28 hf with ⟨hcs, -⟩ | ⟨a, len, cap, m, n, D, Pl, hcs, hb, hl, hm, hmm, -, hx⟩
  · obtain rfl : v = _ := List.head_eq_of_cons_eq hcs
    exact ⟨none, 0, [], rfl, fun k hk => absurd hk (Nat.not_lt_zero _), fun k hk => absurd hk (Nat.not_lt_zero _), Nat.zero_le _⟩
  · obtain rfl : v = _ := List.head_eq_of_cons_eq hcs
    have hlm : len ≤ m := by rw [hmm]; split <;> omega
    have each : ∀ i, i < len → ∃ t : Int × Int × Int, ∃ b off, some a = some ⟨b, off, none⟩ ∧ b < w.heap.size ∧ w.cell? ⟨b, off + i * 3, none⟩ = some (.int .i64 t.1) ∧ w.cell? ⟨b, off + i * 3 + 1, none⟩ = some (.int .i64 t.2.1) ∧ w.cell? ⟨b, off + i * 3 + 2, none⟩ = some (.int .i64 t.2.2) ∧
        (-9223372036854775808 ≤ t.1 ∧ t.1 ≤ 9223372036854775807) ∧ (-9223372036854775808 ≤ t.2.1 ∧ t.2.1 ≤ 9223372036854775807) ∧ (-9223372036854775808 ≤ t.2.2 ∧ t.2.2 ≤ 9223372036854775807) := by
      intro i hi
      obtain ⟨cs0, k1, -⟩ := hx 0 (by omega)
      rw [Try.cellsClue] at k1
      obtain ⟨-, hl0, hc0⟩ := World.cells?_some k1
      have hz := hc0 0 (by omega)
      simp only [Nat.zero_mul, Addr.add, if_true] at hz
      obtain ⟨b, off, sp⟩ := a
      have hz' : w.cell? ⟨b, off, sp⟩ = some cs0[0] := by rw [hz, List.getElem?_eq_getElem (by omega)]
      have hsp : sp = none := by
        cases sp with
        | none => rfl
        | some x => simp only [World.cell?] at hz'; split at hz' <;> simp at hz'
      subst hsp
      have hlt : b < w.heap.size := by
        rcases Nat.lt_or_ge b w.heap.size with h' | h'
        · exact h'
        · simp [World.cell?, Array.getElem?_eq_none h'] at hz'
      obtain ⟨cs, q1, q2⟩ := hx i (by omega)
      rw [Try.cellsClue] at q1
      obtain ⟨-, hl1, hc1⟩ := World.cells?_some q1
      obtain ⟨c0, c1, c2, rfl⟩ : ∃ c0 c1 c2, cs = [c0, c1, c2] := by
        match cs, hl1 with
        | [c0, c1, c2], _ => exact ⟨c0, c1, c2, rfl⟩
      obtain ⟨n', m', s', rfl, rfl, rfl, wn, wm, ws⟩ := trod_clue q2
      have g : ∀ j, (((⟨b, off, none⟩ : Addr).add (i * 3)).add j) = ⟨b, off + i * 3 + j, none⟩ := fun j => by
        unfold Addr.add
        by_cases e1 : i * 3 = 0 <;> by_cases e2 : j = 0 <;> simp [e1, e2]
      have d0 := hc1 0 (by omega)
      have d1 := hc1 1 (by omega)
      have d2 := hc1 2 (by omega)
      rw [g] at d0 d1 d2
      have i1 := i64_of_wf wn
      have i2 := i64_of_wf wm
      have i3 := i64_of_wf ws
      exact ⟨(n', m', s'), b, off, rfl, hlt, by simpa using d0, by simpa using d1, by simpa using d2, i1, i2, i3⟩
    obtain ⟨V, hV⟩ := Go.Deep.choose_lt each
    have hget : ∀ k, k < len → ((List.range len).map V).getD k (0, 0, 0) = V k := fun k hk => by simp [List.getD_eq_getElem?_getD, hk]
    refine ⟨some a, cap, (List.range len).map V, by simp, fun k hk => ?_, fun k hk => ?_, by simp; omega⟩
    · have hk' : k < len := by simpa using hk
      rw [hget k hk']
      obtain ⟨b, off, h1, h2, h3, h4, h5, -⟩ := hV k hk'
      exact ⟨b, off, h1, h2, h3, h4, h5⟩
    · have hk' : k < len := by simpa using hk
      rw [hget k hk']
      obtain ⟨b, off, h1, h2, h3, h4, h5, h6⟩ := hV k hk'
      exact h6
set_option maxRecDepth 100000 in
theorem open_puzzle {r : Reach} {b0 : Nat} {v : Value} {d : DataW H} {p : List MemPlace}
    (hv : Value.okWide Try.prog w r b0 30 v) (h : DataW.Trod enc Try.prog w base spare held 30 v d p) :
    ∃ (h : Int) (a : Option Addr) (c : Nat) (L : List (Int × Int × Int)), v = pzv h (.slice a L.length c) ∧ I64 h ∧ CIn w a L ∧ AllI L ∧ L.length ≤ maxLen := by
  obtain ⟨v0, v1, y0, y1, n, rfl, rfl, rfl, t0, t1⟩ := open_agg2 Try.underlying30 (by kernel_rfl) (by kernel_rfl) hv h
  obtain ⟨h', h0, rfl, wa⟩ := DataW.trod_int Try.underlying3 t0
  simp at h0
  subst h0
  obtain ⟨a, c, L, rfl, h1, h2, h3⟩ := trod_clues t1
  exact ⟨h', a, c, L, rfl, i64_of_wf wa, h1, h2, h3⟩
end

set_option maxHeartbeats 400000 in
theorem szClueS_any (a : Option Addr) (n c : Nat) (s : Int) (w : World) (hs : 0 ≤ s ∧ s ≤ 9223372036854775807) (hn : n ≤ maxLen) :
    Calls Try.prog 65 #[.slice a n c, .int .i64 s] w fun e w' => e = .returned (.int .i64 (if s - (n : Int) < 0 then -1 else s - n)) ∧ w = w' := by
  unfold maxLen at hn
  have hw : IntKind.i64.wrap (s - (n : Int)) = s - n := by rw [IntKind.wrap_i64]; omega
  by_cases h : s - (n : Int) < 0
  · rw [if_pos h]
    (go_enter Try.func65, Try.ntmps65)
    go_wp2
    go_ret
    exact ⟨rfl, rfl⟩
  · rw [if_neg h]
    (go_enter Try.func65, Try.ntmps65)
    go_wp2
    go_ret
    exact ⟨rfl, rfl⟩

theorem Try.infoClue : (Try.prog.info? 25).map (fun i => (i.zero, i.size, i.bytes)) = some (some (.agg #[.int .i64 0, .int .i64 0, .int .i64 0]), 3, 24) := by kernel_rfl
theorem flat3_zero (n : Nat) : flat3 (List.replicate n (0, 0, 0)) = List.replicate (n * 3) (.int .i64 0) := by
  induction n with
  | zero => rfl
  | succ n ih =>
    rw [List.replicate_succ, show (n + 1) * 3 = n * 3 + 1 + 1 + 1 by omega, List.replicate_succ, List.replicate_succ, List.replicate_succ]
    simp only [flat3, ih]
theorem made_zero (n : Nat) : (madeCells (Value.agg #[.int .i64 0, .int .i64 0, .int .i64 0]).cells (n * 3)).toList = flat3 (List.replicate n (0, 0, 0)) := by
  rw [flat3_zero]
  apply List.ext_getElem?
  intro j
  by_cases hj : j < n * 3
  · have h3 : j % 3 = 0 ∨ j % 3 = 1 ∨ j % 3 = 2 := by omega
    rw [List.getElem?_replicate, if_pos hj]
    simp only [madeCells, Value.cells, Array.getElem?_toList]
    rcases h3 with e | e | e <;> simp [hj, e]
  · simp [madeCells, hj]
theorem getD3_self {L : List (Int × Int × Int)} {k : Nat} {x : Int × Int × Int} (hk : k < L.length) : (L.set k x).getD k (0, 0, 0) = x := by
  rw [List.getD_eq_getElem?_getD, List.getElem?_set_self hk]; rfl
theorem getD3_far {L : List (Int × Int × Int)} {k j : Nat} {x : Int × Int × Int} (h : k ≠ j) : (L.set k x).getD j (0, 0, 0) = L.getD j (0, 0, 0) := by
  rw [List.getD_eq_getElem?_getD, List.getElem?_set_ne h, ← List.getD_eq_getElem?_getD]
theorem list_ext3 {L M : List (Int × Int × Int)} (hl : L.length = M.length) (h : ∀ j, j < M.length → L.getD j (0, 0, 0) = M.getD j (0, 0, 0)) : L = M := by
  apply List.ext_getElem hl
  intro i h1 h2
  have := h i h2
  simpa [List.getD_eq_getElem?_getD, h1, h2] using this

set_option maxHeartbeats 1600000 in
theorem toClueS_any (a : Option Addr) (c : Nat) (L : List (Int × Int × Int)) (w : World) (hin : CIn w a L) (hl : L.length ≤ 1048576) :
    Calls Try.prog 67 #[.slice a L.length c] w fun e w' => ∃ v', e = .returned v' ∧ CRow w' w.heap.size v' L ∧ Below w.heap.size w w' := by
  have X1 := Lib.hid hin
  clear hin
  obtain ⟨i0, hi0, hz0, hz1, hz2⟩ := info_parts Try.infoClue
  have I0 := Lib.hid hi0
  have Z0 := Lib.hid hz0
  have Z1 := Lib.hid hz1
  have Z2 := Lib.hid hz2
  clear hi0 hz0 hz1 hz2
  (go_enter Try.func67, Try.ntmps67)
  go_wp2_with (at_make; refine wpList_make_full _ rfl _ _ 33 rfl w.heap.size 25 i0 (.agg #[.int .i64 0, .int .i64 0, .int .i64 0]) 3 Try.underlying33 I0.out Z0.out Z1.out .i64 .i64 _ _ L.length rfl rfl rfl rfl (by rw [Z2.out]; omega) (by unfold maxLen; omega) (by go_size) ?_; intro w0 hown0 hgrow0)
  rw [made_zero] at hown0
  have hb0 : Below w.heap.size w w0 := Below.grown (Below.refl _ _) hgrow0 (by go_size) (fun k hk => by cases hk)
  have hz0' := hgrow0.size
  have HO0 := Lib.hid hown0
  clear hown0 hgrow0
  go_wp2
  go_loopw [4] (fun i wr => ∃ (k : Nat) (dk : List (Int × Int × Int)), k ≤ L.length ∧ i = .int .i64 k ∧ dk.length = L.length ∧ (∀ j, j < k → dk.getD j (0, 0, 0) = L.getD j (0, 0, 0)) ∧ wr.ownsRow w.heap.size 25 3 (.slice (some ⟨w.heap.size, 0, none⟩) L.length L.length) L.length (flat3 dk) ∧ Below w.heap.size w wr) (fun i _ => L.length - (intOf i).toNat)
  case atStart => exact ⟨0, List.replicate L.length (0, 0, 0), Nat.zero_le _, rfl, by simp, fun j hj => absurd hj (Nat.not_lt_zero _), HO0.out, hb0⟩
  case round =>
    obtain ⟨k, dk, hk, rfl, hdl, hall, hown, hbr⟩ := hrel
    have HA := Lib.hid hall
    have HO := Lib.hid hown
    have hzr := hbr.size
    have i0' : (0 : Int) ≤ (k : Int) := Int.natCast_nonneg _
    by_cases hlt : k < L.length
    · obtain ⟨b, off, rfl, e1, e2, e3, e4⟩ := X1.out k hlt
      have hglt : w.heap.size < wr.heap.size := by
        have h := World.ownsRow.lt hown w.heap.size rfl
        exact h.2
      have i1 : (k : Int) < (L.length : Int) := by omega
      obtain ⟨hcr, hfr⟩ := bcell hbr
      have f2 := (hcr b (off + k * 3) e1).trans e2
      have f3 := (hcr b (off + k * 3 + 1) e1).trans e3
      have f4 := (hcr b (off + k * 3 + 2) e1).trans e4
      have u1 : b < wr.heap.size := by omega
      have z0 : wr.frozen? ⟨w.heap.size, k * 3, none⟩ = false := World.ownsRow.frozenAt hown _
      have z1 : wr.frozen? ⟨w.heap.size, k * 3 + 1, none⟩ = false := World.ownsRow.frozenAt hown _
      have z2 : wr.frozen? ⟨w.heap.size, k * 3 + 2, none⟩ = false := World.ownsRow.frozenAt hown _
      have d0 := (World.ownsRow.cellAt hown (k * 3) (by omega)).trans (flat3_get dk k (by omega)).1
      have d1 := (World.ownsRow.cellAt hown (k * 3 + 1) (by omega)).trans (flat3_get dk k (by omega)).2.1
      have d2 := (World.ownsRow.cellAt hown (k * 3 + 2) (by omega)).trans (flat3_get dk k (by omega)).2.2
      have HN : Hid (∀ x, x = L.getD k (0, 0, 0) → ∀ j, j < k + 1 → (dk.set k x).getD j (0, 0, 0) = L.getD j (0, 0, 0)) := fun x hx j hj => by
        by_cases hjk : j = k
        · subst hjk; rw [getD3_self (by omega), hx]
        · rw [getD3_far (by omega)]; exact HA.out j (by omega)
      clear e2 e3 e4 hcr hfr hall hown
      generalize (dk.getD k (0, 0, 0)).1 = o1 at d0
      generalize (dk.getD k (0, 0, 0)).2.1 = o2 at d1
      generalize (dk.getD k (0, 0, 0)).2.2 = o3 at d2
      generalize L.getD k (0, 0, 0) = t at *
      obtain ⟨x, y, z⟩ := t
      simp only at f2 f3 f4
      go_wp2_with fail
      refine (toClue_any x y z _).mono ?_
      rintro e5 w2 ⟨rfl, hb2⟩
      obtain ⟨hc2, hf2⟩ := bcell hb2
      have hz2 := hb2.size
      have HO2 := Lib.hid (World.ownsRow.kept HO.out (row := none) ⟨hb2.os, hb2.tape, hb2.output, hb2.size, fun k hk _ => hb2.block k hk⟩ (Classical.em _))
      go_wp2
      go_roundw
      case rel =>
        have s1 := World.ownsRow.stored HO2.out (k * 3) (.int .i64 x)
        have s2 := World.ownsRow.stored s1.1 (k * 3 + 1) (.int .i64 y)
        have s3 := World.ownsRow.stored s2.1 (k * 3 + 2) (.int .i64 z)
        refine ⟨k + 1, dk.set k (x, y, z), by omega, by go_num, by simpa using hdl, HN.out _ rfl, ?_, ?_⟩
        · rw [← flat3_set]
          exact s3.1
        · exact Below.grown (Below.trans hbr (hb2.mono hbr.size)) (grownBy_trans s1.2 (grownBy_trans s2.2 s3.2)) (by omega) (fun j hj => some_le' hj (Nat.le_refl _))
      case measure => simp [intOf]; omega
    · obtain rfl : k = L.length := by omega
      have HE := Lib.hid (list_ext3 hdl HA.out)
      clear hall hown
      go_wp2
      go_ret
      refine ⟨_, rfl, ?_, hbr⟩
      rw [← HE.out]
      unfold CRow
      rw [hdl]
      exact HO.out
theorem CRow.inn {w : World} {b : Nat} {v : Value} {L : List (Int × Int × Int)} (h : CRow w b v L) : ∃ (a : Option Addr) (c : Nat), v = .slice a L.length c ∧ CIn w a L ∧ L.length ≤ c ∧ c ≤ maxLen := by
  obtain ⟨a, c, hv, h1, h2, hx⟩ := h.cells
  refine ⟨a, c, hv, fun k hk => ?_, h1, h2⟩
  obtain ⟨g, e1, -, e2, e3, e4, e5⟩ := hx k hk
  exact ⟨g, 0, e1, e2, by simpa using e3, by simpa using e4, by simpa using e5⟩
theorem ARow.inn {w : World} {b : Nat} {v : Value} {L : List (Int × Int × Int)} (h : ARow w b v L) : ∃ (a : Option Addr) (c : Nat), v = .slice a L.length c ∧ CIn w a L ∧ L.length ≤ c ∧ c ≤ maxLen := by
  obtain ⟨a, c, hv, h1, h2, hx⟩ := h.cells
  refine ⟨a, c, hv, fun k hk => ?_, h1, h2⟩
  obtain ⟨g, e1, -, e2, e3, e4, e5⟩ := hx k hk
  exact ⟨g, 0, e1, e2, by simpa using e3, by simpa using e4, by simpa using e5⟩
set_option maxHeartbeats 400000 in
theorem szPuzzle_any (h : Int) (a : Option Addr) (n c : Nat) (w : World) (hn : n ≤ maxLen) :
    Calls Try.prog 21 #[pzv h (.slice a n c), .int .i64 1048576] w fun e w' => e = .returned (.int .i64 (if (1048576 : Int) - (n : Int) < 0 then -1 else 1048576 - n)) ∧ Below w.heap.size w w' := by
  have H := fun W => szClueS_any a n c 1048576 W (by omega) hn
  unfold maxLen at hn
  by_cases hz : (1048576 : Int) - (n : Int) < 0
  · rw [if_pos hz] at H ⊢
    have HH := Lib.hid H
    clear H
    (go_enter Try.func21, Try.ntmps21)
    go_wp2_with fail
    refine (HH.out _).mono ?_
    (rintro e1 w1 ⟨rfl, rfl⟩)
    go_wp2
    go_ret
    exact ⟨rfl, by (repeat' (first | (with_reducible exact Below.refl _ _) | (with_reducible assumption) | (with_reducible refine Below.alloc ?_ ?_ _) | (with_reducible refine Below.drew ?_) | (with_reducible refine below_drewN ?_ _) | (with_reducible refine Below.setCell ?_ ?_ _) | (with_reducible refine below_call ?_ ?_ (by assumption)) | go_size))⟩
  · rw [if_neg hz] at H ⊢
    have HH := Lib.hid H
    clear H
    have hz' : ¬ ((1048576 : Int) - n < 0) := hz
    (go_enter Try.func21, Try.ntmps21)
    go_wp2_with fail
    refine (HH.out _).mono ?_
    (rintro e1 w1 ⟨rfl, rfl⟩)
    go_wp2
    go_ret
    exact ⟨rfl, by (repeat' (first | (with_reducible exact Below.refl _ _) | (with_reducible assumption) | (with_reducible refine Below.alloc ?_ ?_ _) | (with_reducible refine Below.drew ?_) | (with_reducible refine below_drewN ?_ _) | (with_reducible refine Below.setCell ?_ ?_ _) | (with_reducible refine below_call ?_ ?_ (by assumption)) | go_size))⟩
set_option maxHeartbeats 800000 in
theorem toPuzzle_any (h : Int) (a : Option Addr) (c : Nat) (L : List (Int × Int × Int)) (w : World) (hin : CIn w a L) (hl : L.length ≤ 1048576) :
    Calls Try.prog 23 #[pzv h (.slice a L.length c)] w fun e w' => ∃ v', e = .returned (pzv h v') ∧ CRow w' w.heap.size v' L ∧ Below w.heap.size w w' := by
  have HC := Lib.hid (fun W hW => toClueS_any a c L W hW hl)
  have X := Lib.hid hin
  clear hin
  (go_enter Try.func23, Try.ntmps23)
  go_wp2_with fail
  refine (HC.out _ (X.out.below (by (repeat' (first | (with_reducible exact Below.refl _ _) | (with_reducible assumption) | (with_reducible refine Below.alloc ?_ ?_ _) | (with_reducible refine Below.drew ?_) | (with_reducible refine below_drewN ?_ _) | (with_reducible refine Below.setCell ?_ ?_ _) | (with_reducible refine below_call ?_ ?_ (by assumption)) | go_size))))).mono ?_
  rintro e1 w1 ⟨v1, rfl, hr1, hb1⟩
  obtain ⟨a1, c1, rfl, -, -, -⟩ := hr1.cells
  have HR := Lib.hid (hr1.mono (b' := w.heap.size + 3) (by go_size))
  obtain ⟨hc1, hf1⟩ := bcell hb1
  have hz1 := hb1.size
  clear hr1
  go_wp2
  (refine bodyPost_ret (by simp [results, Try.results23, go_sem, *]; try rfl) rfl ?_)
  refine ⟨_, rfl, ?_, by (repeat' (first | (with_reducible exact Below.refl _ _) | (with_reducible assumption) | (with_reducible refine Below.alloc ?_ ?_ _) | (with_reducible refine Below.drew ?_) | (with_reducible refine below_drewN ?_ _) | (with_reducible refine Below.setCell ?_ ?_ _) | (with_reducible refine below_call ?_ ?_ (by assumption)) | go_size))⟩
  refine CRow.mono (b := w.heap.size + 3) ?zr ?zb
  case zr =>
    repeat (first | exact HR.out | refine CRow.set ?_ ?_ _)
    all_goals go_size
  case zb => go_size
set_option maxHeartbeats 800000 in
theorem eqPuzzle_same (h : Int) (ts : List (Int × Int × Int)) (v1 v2 : Value) (b1 b2 : Nat) (w : World) (r1 : CRow w b1 v1 ts) (r2 : CRow w b2 v2 ts) (hl : ts.length ≤ 2000000) :
    Calls Try.prog 25 #[pzv h v1, pzv h v2] w fun e w' => e = .returned (.bool true) ∧ Below w.heap.size w w' := by
  have HC := Lib.hid (fun W (hb : Below w.heap.size w W) => eqClueS_same ts v1 v2 b1 b2 W (r1.below hb) (r2.below hb) hl)
  clear r1 r2
  (go_enter Try.func25, Try.ntmps25)
  go_wp2_with fail
  refine (HC.out _ (by (repeat' (first | (with_reducible exact Below.refl _ _) | (with_reducible assumption) | (with_reducible refine Below.alloc ?_ ?_ _) | (with_reducible refine Below.drew ?_) | (with_reducible refine below_drewN ?_ _) | (with_reducible refine Below.setCell ?_ ?_ _) | (with_reducible refine below_call ?_ ?_ (by assumption)) | go_size)))).mono ?_
  (rintro e1 w1 ⟨rfl, hb1⟩; obtain ⟨hc1, hf1⟩ := bcell hb1; have hz1 := hb1.size; (try simp only [World.size_alloc, World.size_setCell, World.size_drew] at hz1); have q1 : w.heap.size ≤ w1.heap.size := (by omega); (try have q1_0 : w.heap.size < w1.heap.size := (by omega)); (try have q1_1 : w.heap.size + 1 < w1.heap.size := (by omega)); (try have q1_2 : w.heap.size + 2 < w1.heap.size := (by omega)); (try have q1_3 : w.heap.size + 3 < w1.heap.size := (by omega)))
  go_wp2
  go_ret
  exact ⟨rfl, by (repeat' (first | (with_reducible exact Below.refl _ _) | (with_reducible assumption) | (with_reducible refine Below.alloc ?_ ?_ _) | (with_reducible refine Below.drew ?_) | (with_reducible refine below_drewN ?_ _) | (with_reducible refine Below.setCell ?_ ?_ _) | (with_reducible refine below_call ?_ ?_ (by assumption)) | go_size))⟩
theorem grown_of {w w' : World} {row : Option Nat} (hb : Below w.heap.size w w') : w.grownBy w' row := ⟨hb.os, hb.tape, hb.output, hb.size, fun k hk _ => hb.block k hk⟩
set_option maxHeartbeats 800000 in
theorem markPuzzle_any (h : Int) (ts : List (Int × Int × Int)) (v : Value) (b : Nat) (m : Int) (w : World) (r : CRow w b v ts) (hl : ts.length ≤ 2000000) (m0 : 0 ≤ m) (m1 : m ≤ 1000000) :
    Calls Try.prog 31 #[pzv h v, .int .i64 m] w fun e w' => e = .returned (.int .i64 (m + 3 * ts.length)) ∧ CRow w' b v (marked3 ts m ts.length) ∧ w.grownBy w' v.ownBlock := by
  have HC := Lib.hid (fun W (hb : Below w.heap.size w W) => markClueS_any ts v b m W (r.below hb) hl m0 m1)
  clear r
  (go_enter Try.func31, Try.ntmps31)
  go_wp2_with fail
  refine (HC.out _ (by (repeat' (first | (with_reducible exact Below.refl _ _) | (with_reducible assumption) | (with_reducible refine Below.alloc ?_ ?_ _) | (with_reducible refine Below.drew ?_) | (with_reducible refine below_drewN ?_ _) | (with_reducible refine Below.setCell ?_ ?_ _) | (with_reducible refine below_call ?_ ?_ (by assumption)) | go_size)))).mono ?_
  rintro e1 w1 ⟨rfl, hr, hg⟩
  have HR := Lib.hid hr
  have HG := Lib.hid hg
  clear hr hg
  go_wp2
  go_ret
  exact ⟨rfl, HR.out, grownBy_trans (grown_of (by (repeat' (first | (with_reducible exact Below.refl _ _) | (with_reducible assumption) | (with_reducible refine Below.alloc ?_ ?_ _) | (with_reducible refine Below.drew ?_) | (with_reducible refine below_drewN ?_ _) | (with_reducible refine Below.setCell ?_ ?_ _) | (with_reducible refine below_call ?_ ?_ (by assumption)) | go_size)))) HG.out⟩
set_option maxHeartbeats 800000 in
theorem heldPuzzle_marked (h : Int) (ts : List (Int × Int × Int)) (v : Value) (b : Nat) (m : Int) (w : World) (r : CRow w b v (marked3 ts m ts.length)) (hl : ts.length ≤ 2000000) (m0 : 0 ≤ m) (m1 : m ≤ 1000000) :
    Calls Try.prog 49 #[pzv h v, .int .i64 m] w fun e w' => e = .returned (.int .i64 (m + 3 * ts.length)) ∧ Below w.heap.size w w' := by
  have HC := Lib.hid (fun W (hb : Below w.heap.size w W) => heldClueS_marked ts v b m W (r.below hb) hl m0 m1)
  have hn : ¬ (m + 3 * (ts.length : Int) < 0) := by omega
  clear r
  (go_enter Try.func49, Try.ntmps49)
  go_wp2_with fail
  refine (HC.out _ (by (repeat' (first | (with_reducible exact Below.refl _ _) | (with_reducible assumption) | (with_reducible refine Below.alloc ?_ ?_ _) | (with_reducible refine Below.drew ?_) | (with_reducible refine below_drewN ?_ _) | (with_reducible refine Below.setCell ?_ ?_ _) | (with_reducible refine below_call ?_ ?_ (by assumption)) | go_size)))).mono ?_
  (rintro e1 w1 ⟨rfl, hb1⟩; obtain ⟨hc1, hf1⟩ := bcell hb1; have hz1 := hb1.size; (try simp only [World.size_alloc, World.size_setCell, World.size_drew] at hz1); have q1 : w.heap.size ≤ w1.heap.size := (by omega); (try have q1_0 : w.heap.size < w1.heap.size := (by omega)); (try have q1_1 : w.heap.size + 1 < w1.heap.size := (by omega)); (try have q1_2 : w.heap.size + 2 < w1.heap.size := (by omega)); (try have q1_3 : w.heap.size + 3 < w1.heap.size := (by omega)))
  go_wp2
  go_ret
  exact ⟨rfl, by (repeat' (first | (with_reducible exact Below.refl _ _) | (with_reducible assumption) | (with_reducible refine Below.alloc ?_ ?_ _) | (with_reducible refine Below.drew ?_) | (with_reducible refine below_drewN ?_ _) | (with_reducible refine Below.setCell ?_ ?_ _) | (with_reducible refine below_call ?_ ?_ (by assumption)) | go_size))⟩
end Go.Proofs.Ytcpgjjmamclklaa
