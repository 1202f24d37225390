/- Lists of numbers in memory: the law's comparison of two of them, its marks, its copy; one that is an argument. -/
import Derived.Test.YtcfiaacpofpioaaSW
import Derived.Test.YtcfiaacpofpioaaRow
import Derived.Deep.AppendLies
import Derived.Deep.Slices
import Derived.Laws.OwnMore
import Derived.OwnWalk
import Derived.LoopTactic
set_option linter.unusedSimpArgs false
set_option linter.unusedVariables false
set_option maxRecDepth 100000
namespace Go.Proofs.Ytcfiaacpofpioaa
open Go.ChangeShapes Go.WideShapes Go.ChangeAt Go.RowKit

theorem Try.cellsInt : Try.prog.cellsOf 3 = 1 := by kernel_rfl
theorem Try.infoInt : (Try.prog.info? 3).map (fun i => (i.zero, i.size, i.bytes)) = some (some (.int .i64 0), 1, 8) := by kernel_rfl
/-- The cells of a list of numbers. -/
def ints (L : List Int) : List Value := L.map (Value.int .i64)
theorem ints_get (L : List Int) (k : Nat) (hk : k < L.length) : (ints L)[k]? = some (.int .i64 (L.getD k 0)) := by
  simp [ints, hk]
theorem ints_set (L : List Int) (k : Nat) (x : Int) : (ints L).set k (.int .i64 x) = ints (L.set k x) := by simp [ints, List.map_set]
theorem ints_length (L : List Int) : (ints L).length = L.length := by simp [ints]
/-- A slice of numbers that lies in memory of the call's own: nil, or a block that holds them. -/
def IRow (w : World) (base : Nat) (v : Value) (L : List Int) : Prop := w.ownsRow base 3 1 v L.length (ints L)
theorem IRow.cells {w : World} {base : Nat} {v : Value} {L : List Int} (h : IRow w base v L) :
    ∃ (a : Option Addr) (c : Nat), v = .slice a L.length c ∧ L.length ≤ c ∧ c ≤ maxLen ∧ ∀ k, k < L.length → ∃ g, a = some ⟨g, 0, none⟩ ∧ base ≤ g ∧ g < w.heap.size ∧ w.cell? ⟨g, k, none⟩ = some (.int .i64 (L.getD k 0)) := by
  rcases h.2 with ⟨h1, h2⟩ | ⟨g, cap, cur, h1, h2, h3, h4, h5, h6, h7⟩
  · exact ⟨none, 0, by rw [h1, h2], by omega, by unfold maxLen; omega, fun k hk => absurd hk (by omega)⟩
  · refine ⟨some ⟨g, 0, none⟩, cap, h1, h4, h5, fun k hk => ⟨g, rfl, h2, ?_, ?_⟩⟩
    · rcases Nat.lt_or_ge g w.heap.size with hlt | hge
      · exact hlt
      · rw [Array.getElem?_eq_none hge] at h3; cases h3
    · rw [h1] at h
      rw [World.ownsRow.cellAt h k (by omega)]
      exact ints_get L k hk
theorem IRow.below {w w' : World} {base : Nat} {v : Value} {L : List Int} (h : IRow w base v L) (hb : Below w.heap.size w w') : IRow w' base v L :=
  World.ownsRow.kept h (row := none) ⟨hb.os, hb.tape, hb.output, hb.size, fun k hk _ => hb.block k hk⟩ (by cases hv : v.ownBlock <;> simp)
theorem IRow.mono {w : World} {b b' : Nat} {v : Value} {L : List Int} (h : IRow w b v L) (hb : b' ≤ b) : IRow w b' v L := by
  refine ⟨h.1, ?_⟩
  rcases h.2 with hn | ⟨g, cap, cur, h1, h2, h3⟩
  · exact .inl hn
  · exact .inr ⟨g, cap, cur, h1, by omega, h3⟩
theorem IRow.nil (w : World) (b : Nat) : IRow w b (.slice none 0 0) [] := ⟨rfl, .inl ⟨rfl, rfl⟩⟩
theorem IRow.kept {w w' : World} {base : Nat} {v : Value} {L : List Int} {row : Option Nat} (h : IRow w base v L) (hg : w.grownBy w' row) (hne : v.ownBlock = none ∨ v.ownBlock ≠ row) : IRow w' base v L :=
  World.ownsRow.kept h hg hne
/-- Of two slices the one that was made later lies in another block. -/
theorem IRow.apart {w w' : World} {b b' : Nat} {v v' : Value} {L M : List Int} (h : IRow w b v L) (h' : IRow w' b' v' M) (hb : w.heap.size ≤ b') : v.ownBlock = none ∨ v.ownBlock ≠ v'.ownBlock := by
  cases hv : v.ownBlock with
  | none => exact .inl rfl
  | some k =>
    refine .inr fun e => ?_
    have h1 := (World.ownsRow.lt h k hv).2
    have h2 := (World.ownsRow.lt h' k e.symm).1
    omega
theorem IRow.low {w : World} {b : Nat} {v : Value} {L : List Int} (h : IRow w b v L) : ∀ k, v.ownBlock = some k → b ≤ k := fun k hk => (World.ownsRow.lt h k hk).1

/-- A slice of numbers in memory, wherever it lies. -/
def IIn (w : World) (a : Option Addr) (L : List Int) : Prop :=
  ∀ k, k < L.length → ∃ b off, a = some ⟨b, off, none⟩ ∧ b < w.heap.size ∧ w.cell? ⟨b, off + k, none⟩ = some (.int .i64 (L.getD k 0))
theorem IIn.below {w w' : World} {a : Option Addr} {L : List Int} (h : IIn w a L) (hb : Below w.heap.size w w') : IIn w' a L := by
  obtain ⟨hc, -⟩ := bcell hb
  have hs := hb.size
  intro k hk
  obtain ⟨b, off, h1, h2, h3⟩ := h k hk
  exact ⟨b, off, h1, by omega, (hc _ _ h2).trans h3⟩
theorem IRow.inn {w : World} {b : Nat} {v : Value} {L : List Int} (h : IRow w b v L) : ∃ (a : Option Addr) (c : Nat), v = .slice a L.length c ∧ IIn w a L ∧ L.length ≤ c ∧ c ≤ maxLen := by
  obtain ⟨a, c, rfl, h1, h2, hx⟩ := h.cells
  exact ⟨a, c, rfl, fun k hk => by obtain ⟨g, e1, e2, e3, e4⟩ := hx k hk; exact ⟨g, 0, e1, e3, by simpa using e4⟩, h1, h2⟩

theorem sgrownBy_refl (w : World) (row : Option Nat) : w.grownBy w row := ⟨rfl, rfl, rfl, Nat.le_refl _, fun _ _ _ => rfl⟩
theorem sgrownBy_trans {a b c : World} {row : Option Nat} (h : a.grownBy b row) (k : b.grownBy c row) : a.grownBy c row :=
  ⟨k.os.trans h.os, k.tape.trans h.tape, k.output.trans h.output, Nat.le_trans h.size k.size, fun i hi hne => (k.block i (Nat.lt_of_lt_of_le hi h.size) hne).trans (h.block i hi hne)⟩
/-- The list behind k rounds of the marking. -/
def markedI (L : List Int) (m : Int) : Nat → List Int
  | 0 => L
  | k + 1 => (markedI L m k).set k (m + k)
theorem markedI_length (L : List Int) (m : Int) (k : Nat) : (markedI L m k).length = L.length := by
  induction k with
  | zero => rfl
  | succ k ih => simp [markedI, ih]
theorem markedI_get (L : List Int) (m : Int) (k j : Nat) (hj : j < k) (hk : k ≤ L.length) : (markedI L m k).getD j 0 = m + j := by
  induction k with
  | zero => omega
  | succ k ih =>
    have hl := markedI_length L m k
    by_cases h : k = j
    · subst h
      simp [markedI, List.getD_eq_getElem?_getD, hl, show k < L.length by omega]
    · have := ih (by omega) (by omega)
      rw [← this]
      simp [markedI, List.getD_eq_getElem?_getD, List.getElem?_set_ne h]

section
variable {H : Type} {enc : TypeId × Value → H} {w : World} {base : Nat} {spare : Nat → Bool} {held : Bool}
set_option maxRecDepth 100000 in
theorem open_ints' {r : Reach} {b0 : Nat} {v : Value} {d : DataW H} {p : List MemPlace}
    (hv : Value.okWide Try.prog w r b0 84 v) (h : DataW.Trod enc Try.prog w base spare held 84 v d p) :
    ∃ (a : Option Addr) (c : Nat) (L : List Int), v = .slice a L.length c ∧ IIn w a L ∧ (∀ x ∈ L, I64 x) ∧ L.length ≤ maxLen := by
  obtain ⟨a0, len, cap, rfl⟩ := okWide_slice Try.underlying84 hv
  obtain ⟨fuel, hf⟩ := h
  rcases Go.Deep.open_slice Try.underlying84 hf with ⟨hcs, -⟩ | ⟨a, len', cap', m, n, D, Pl, hcs, hb, hl, hm, hmm, -, hx⟩
  · simp [Value.cells] at hcs
    obtain ⟨rfl, rfl, rfl⟩ := hcs
    exact ⟨none, 0, [], rfl, fun k hk => absurd hk (Nat.not_lt_zero _), fun x hx => absurd hx List.not_mem_nil, Nat.zero_le _⟩
  · simp [Value.cells] at hcs
    obtain ⟨rfl, rfl, rfl⟩ := hcs
    have hlm : len ≤ m := by rw [hmm]; split <;> omega
    have each : ∀ i, i < len → ∃ t : Int, ∃ b off, some a = some ⟨b, off, none⟩ ∧ b < w.heap.size ∧ w.cell? ⟨b, off + i, none⟩ = some (.int .i64 t) ∧ I64 t := by
      intro i hi
      obtain ⟨cs0, k1, -⟩ := hx 0 (by omega)
      rw [Try.cellsInt] at k1
      obtain ⟨-, hl0, hc0⟩ := World.cells?_some k1
      have hz := hc0 0 (by omega)
      simp only [Nat.zero_mul, Addr.add, if_true] at hz
      obtain ⟨b, off, sp⟩ := a
      have hz' : w.cell? ⟨b, off, sp⟩ = some cs0[0] := by rw [hz, List.getElem?_eq_getElem (by omega)]
      have hsp : sp = none := by
        cases sp with
        | none => rfl
        | some x => simp only [World.cell?] at hz'; split at hz' <;> simp at hz'
      subst hsp
      have hlt : b < w.heap.size := by
        rcases Nat.lt_or_ge b w.heap.size with h' | h'
        · exact h'
        · simp [World.cell?, Array.getElem?_eq_none h'] at hz'
      obtain ⟨cs, q1, q2⟩ := hx i (by omega)
      rw [Try.cellsInt] at q1
      obtain ⟨-, hl1, hc1⟩ := World.cells?_some q1
      obtain ⟨c0, rfl⟩ : ∃ c0, cs = [c0] := by
        match cs, hl1 with
        | [c0], _ => exact ⟨c0, rfl⟩
      obtain ⟨t, e0, -, wt⟩ := DataW.trod_int Try.underlying3 q2
      simp at e0
      subst e0
      have d0 := hc1 0 (by omega)
      have g : (((⟨b, off, none⟩ : Addr).add (i * 1)).add 0) = ⟨b, off + i, none⟩ := by
        unfold Addr.add
        by_cases e1 : i = 0 <;> simp [e1]
      rw [g] at d0
      exact ⟨t, b, off, rfl, hlt, by simpa using d0, i64_of_wf wt⟩
    obtain ⟨V, hV⟩ := Go.Deep.choose_lt each
    have hget : ∀ k, k < len → ((List.range len).map V).getD k 0 = V k := fun k hk => by simp [List.getD_eq_getElem?_getD, hk]
    refine ⟨some a, cap, (List.range len).map V, by simp, fun k hk => ?_, fun x hx => ?_, by simp; omega⟩
    · have hk' : k < len := by simpa using hk
      rw [hget k hk']
      obtain ⟨b, off, h1, h2, h3, -⟩ := hV k hk'
      exact ⟨b, off, h1, h2, h3⟩
    · obtain ⟨k, hk, rfl⟩ := List.mem_map.1 hx
      obtain ⟨b, off, h1, h2, h3, h4⟩ := hV k (List.mem_range.1 hk)
      exact h4
end

theorem made_zeroI (n : Nat) : (madeCells (Value.int .i64 0).cells (n * 1)).toList = ints (List.replicate n 0) := by
  apply List.ext_getElem?
  intro j
  by_cases hj : j < n
  · simp [ints, madeCells, Value.cells, hj, Nat.mod_one]
  · simp [ints, madeCells, hj]
theorem some_le' {g j B : Nat} (h : some g = some j) (hB : B ≤ g) : B ≤ j := by injection h with h; omega
theorem getD_set_self {L : List Int} {k : Nat} {x : Int} (hk : k < L.length) : (L.set k x).getD k 0 = x := by
  rw [List.getD_eq_getElem?_getD, List.getElem?_set_self hk]; rfl
theorem getD_set_far {L : List Int} {k j : Nat} {x : Int} (h : k ≠ j) : (L.set k x).getD j 0 = L.getD j 0 := by
  rw [List.getD_eq_getElem?_getD, List.getElem?_set_ne h, ← List.getD_eq_getElem?_getD]
theorem list_extI {L M : List Int} (hl : L.length = M.length) (h : ∀ j, j < M.length → L.getD j 0 = M.getD j 0) : L = M := by
  apply List.ext_getElem hl
  intro i h1 h2
  have := h i h2
  simpa [List.getD_eq_getElem?_getD, h1, h2] using this

/-- What a function hands back that hands back a list and whether there is one: the list in memory of its own. -/
def IntsOut (w0 : World) (L : List Int) (ok : Bool) (e : Ending) (w' : World) : Prop := ∃ v, e = .returned (.tuple #[v, .bool ok]) ∧ IRow w' w0.heap.size v L ∧ Below w0.heap.size w0 w'
theorem IntsOut.none {w0 w' : World} (h : Below w0.heap.size w0 w') : IntsOut w0 [] false (.returned (.tuple #[.slice none 0 0, .bool false])) w' :=
  ⟨_, rfl, IRow.nil _ _, h⟩
end Go.Proofs.Ytcfiaacpofpioaa
