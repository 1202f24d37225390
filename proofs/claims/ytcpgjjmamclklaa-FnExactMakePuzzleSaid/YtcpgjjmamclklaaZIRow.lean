/- Lists of numbers in memory: the law's comparison of two of them, its marks, its copy; one that is an argument. -/
import Derived.Test.YtcpgjjmamclklaaTRow
import Derived.Test.YtcpgjjmamclklaaZRow
import Derived.Test.YtcpgjjmamclklaaRow
import Derived.Deep.AppendLies
import Derived.Deep.Slices
import Derived.Laws.OwnMore
import Derived.OwnWalk
import Derived.LoopTactic
set_option linter.unusedSimpArgs false
set_option linter.unusedVariables false
set_option maxRecDepth 100000
namespace Go.Proofs.Ytcpgjjmamclklaa
open Go.ChangeShapes Go.WideShapes Go.ChangeAt Go.RowKit

theorem Try.cellsInt : Try.prog.cellsOf 3 = 1 := by kernel_rfl
theorem Try.infoInt : (Try.prog.info? 3).map (fun i => (i.zero, i.size, i.bytes)) = some (some (.int .i64 0), 1, 8) := by kernel_rfl
/-- The cells of a list of numbers. -/
def ints (L : List Int) : List Value := L.map (Value.int .i64)
theorem ints_get (L : List Int) (k : Nat) (hk : k < L.length) : (ints L)[k]? = some (.int .i64 (L.getD k 0)) := by
  simp [ints, hk]
theorem ints_set (L : List Int) (k : Nat) (x : Int) : (ints L).set k (.int .i64 x) = ints (L.set k x) := by simp [ints, List.map_set]
theorem ints_length (L : List Int) : (ints L).length = L.length := by simp [ints]
/-- A slice of numbers that lies in memory of the call's own: nil, or a block that holds them. -/
def IRow (w : World) (base : Nat) (v : Value) (L : List Int) : Prop := w.ownsRow base 3 1 v L.length (ints L)
theorem IRow.cells {w : World} {base : Nat} {v : Value} {L : List Int} (h : IRow w base v L) :
    ∃ (a : Option Addr) (c : Nat), v = .slice a L.length c ∧ L.length ≤ c ∧ c ≤ maxLen ∧ ∀ k, k < L.length → ∃ g, a = some ⟨g, 0, none⟩ ∧ base ≤ g ∧ g < w.heap.size ∧ w.cell? ⟨g, k, none⟩ = some (.int .i64 (L.getD k 0)) := by
  rcases h.2 with ⟨h1, h2⟩ | ⟨g, cap, cur, h1, h2, h3, h4, h5, h6, h7⟩
  · exact ⟨none, 0, by rw [h1, h2], by omega, by unfold maxLen; omega, fun k hk => absurd hk (by omega)⟩
  · refine ⟨some ⟨g, 0, none⟩, cap, h1, h4, h5, fun k hk => ⟨g, rfl, h2, ?_, ?_⟩⟩
    · rcases Nat.lt_or_ge g w.heap.size with hlt | hge
      · exact hlt
      · rw [Array.getElem?_eq_none hge] at h3; cases h3
    · rw [h1] at h
      rw [World.ownsRow.cellAt h k (by omega)]
      exact ints_get L k hk
theorem IRow.below {w w' : World} {base : Nat} {v : Value} {L : List Int} (h : IRow w base v L) (hb : Below w.heap.size w w') : IRow w' base v L :=
  World.ownsRow.kept h (row := none) ⟨hb.os, hb.tape, hb.output, hb.size, fun k hk _ => hb.block k hk⟩ (by cases hv : v.ownBlock <;> simp)
theorem IRow.mono {w : World} {b b' : Nat} {v : Value} {L : List Int} (h : IRow w b v L) (hb : b' ≤ b) : IRow w b' v L := by
  refine ⟨h.1, ?_⟩
  rcases h.2 with hn | ⟨g, cap, cur, h1, h2, h3⟩
  · exact .inl hn
  · exact .inr ⟨g, cap, cur, h1, by omega, h3⟩
theorem IRow.nil (w : World) (b : Nat) : IRow w b (.slice none 0 0) [] := ⟨rfl, .inl ⟨rfl, rfl⟩⟩
theorem IRow.kept {w w' : World} {base : Nat} {v : Value} {L : List Int} {row : Option Nat} (h : IRow w base v L) (hg : w.grownBy w' row) (hne : v.ownBlock = none ∨ v.ownBlock ≠ row) : IRow w' base v L :=
  World.ownsRow.kept h hg hne
/-- Of two slices the one that was made later lies in another block. -/
theorem IRow.apart {w w' : World} {b b' : Nat} {v v' : Value} {L M : List Int} (h : IRow w b v L) (h' : IRow w' b' v' M) (hb : w.heap.size ≤ b') : v.ownBlock = none ∨ v.ownBlock ≠ v'.ownBlock := by
  cases hv : v.ownBlock with
  | none => exact .inl rfl
  | some k =>
    refine .inr fun e => ?_
    have h1 := (World.ownsRow.lt h k hv).2
    have h2 := (World.ownsRow.lt h' k e.symm).1
    omega
theorem IRow.low {w : World} {b : Nat} {v : Value} {L : List Int} (h : IRow w b v L) : ∀ k, v.ownBlock = some k → b ≤ k := fun k hk => (World.ownsRow.lt h k hk).1

/-- A slice of numbers in memory, wherever it lies. -/
def IIn (w : World) (a : Option Addr) (L : List Int) : Prop :=
  ∀ k, k < L.length → ∃ b off, a = some ⟨b, off, none⟩ ∧ b < w.heap.size ∧ w.cell? ⟨b, off + k, none⟩ = some (.int .i64 (L.getD k 0))
theorem IIn.below {w w' : World} {a : Option Addr} {L : List Int} (h : IIn w a L) (hb : Below w.heap.size w w') : IIn w' a L := by
  obtain ⟨hc, -⟩ := bcell hb
  have hs := hb.size
  intro k hk
  obtain ⟨b, off, h1, h2, h3⟩ := h k hk
  exact ⟨b, off, h1, by omega, (hc _ _ h2).trans h3⟩
theorem IRow.inn {w : World} {b : Nat} {v : Value} {L : List Int} (h : IRow w b v L) : ∃ (a : Option Addr) (c : Nat), v = .slice a L.length c ∧ IIn w a L ∧ L.length ≤ c ∧ c ≤ maxLen := by
  obtain ⟨a, c, rfl, h1, h2, hx⟩ := h.cells
  exact ⟨a, c, rfl, fun k hk => by obtain ⟨g, e1, e2, e3, e4⟩ := hx k hk; exact ⟨g, 0, e1, e3, by simpa using e4⟩, h1, h2⟩

set_option maxHeartbeats 800000 in
theorem eqIntS_same (L : List Int) (v1 v2 : Value) (b1 b2 : Nat) (w : World) (r1 : IRow w b1 v1 L) (r2 : IRow w b2 v2 L) (hl : L.length ≤ 2000000) :
    Calls Try.prog 30 #[v1, v2] w fun e w' => e = .returned (.bool true) ∧ Below w.heap.size w w' := by
  obtain ⟨a1, c1, rfl, l1, m1, x1⟩ := r1.cells
  obtain ⟨a2, c2, rfl, l2, m2, x2⟩ := r2.cells
  clear r1 r2
  have X1 := Lib.hid x1
  have X2 := Lib.hid x2
  clear x1 x2
  (go_enter Try.func30, Try.ntmps30)
  go_wp2
  go_loopw [5] (fun i wr => ∃ k : Nat, k ≤ L.length ∧ i = .int .i64 k ∧ Below w.heap.size w wr) (fun i _ => L.length - (intOf i).toNat)
  case atStart => exact ⟨0, Nat.zero_le _, rfl, Below.refl _ _⟩
  case round =>
    obtain ⟨k, hk, rfl, hbel⟩ := hrel
    by_cases hlt : k < L.length
    · obtain ⟨g1, rfl, e1, e2, e3⟩ := X1.out k hlt
      obtain ⟨g2, rfl, f1, f2, f3⟩ := X2.out k hlt
      obtain ⟨hc0, hf0⟩ := bcell hbel
      have hz := hbel.size
      generalize L.getD k 0 = x at *
      have i0 : (0 : Int) ≤ (k : Int) := Int.natCast_nonneg _
      have i1 : (k : Int) < (L.length : Int) := by omega
      have u1 : g1 < wr.heap.size := by omega
      have u2 : g2 < wr.heap.size := by omega
      go_wp2_with fail
      refine wp_region_below (by kernel_rfl) (by kernel_rfl) ?_
      (apply wpB_take (hw := rfl); (intro wq hq; obtain ⟨hcq, hfq⟩ := bcell hq; unfold atB; go_simp; exact ⟨rfl, rfl⟩); simp only [Act.put, List.setIfInBounds_toArray, List.set_cons_zero, List.set_cons_succ])
      (apply wpB_take (hw := rfl); (intro wq hq; obtain ⟨hcq, hfq⟩ := bcell hq; unfold atB; go_simp; exact ⟨rfl, rfl⟩); simp only [Act.put, List.setIfInBounds_toArray, List.set_cons_zero, List.set_cons_succ])
      (apply wpB_take (hw := rfl); (intro wq hq; obtain ⟨hcq, hfq⟩ := bcell hq; unfold atB; go_simp; exact ⟨rfl, rfl⟩); simp only [Act.put, List.setIfInBounds_toArray, List.set_cons_zero, List.set_cons_succ])
      (apply wpB_take (hw := rfl); (intro wq hq; obtain ⟨hcq, hfq⟩ := bcell hq; unfold atB; go_simp; exact ⟨rfl, rfl⟩); simp only [Act.put, List.setIfInBounds_toArray, List.set_cons_zero, List.set_cons_succ])
      (apply wpB_take (hw := rfl); (intro wq hq; obtain ⟨hcq, hfq⟩ := bcell hq; unfold atB; go_simp; exact ⟨rfl, rfl⟩); simp only [Act.put, List.setIfInBounds_toArray, List.set_cons_zero, List.set_cons_succ])
      (apply wpB_take (hw := rfl); (intro wq hq; obtain ⟨hcq, hfq⟩ := bcell hq; unfold atB; go_simp; exact ⟨rfl, rfl⟩); simp only [Act.put, List.setIfInBounds_toArray, List.set_cons_zero, List.set_cons_succ])
      (apply wpB_take (hw := rfl); (intro wq hq; obtain ⟨hcq, hfq⟩ := bcell hq; unfold atB; go_simp; exact ⟨rfl, rfl⟩); simp only [Act.put, List.setIfInBounds_toArray, List.set_cons_zero, List.set_cons_succ])
      (apply wpB_take (hw := rfl); (intro wq hq; obtain ⟨hcq, hfq⟩ := bcell hq; unfold atB; go_simp; exact ⟨rfl, rfl⟩); simp only [Act.put, List.setIfInBounds_toArray, List.set_cons_zero, List.set_cons_succ])
      (apply wpB_take (hw := rfl); (intro wq hq; obtain ⟨hcq, hfq⟩ := bcell hq; unfold atB; go_simp; exact ⟨rfl, rfl⟩); simp only [Act.put, List.setIfInBounds_toArray, List.set_cons_zero, List.set_cons_succ])
      refine fun wn hbn => ?_
      try simp only [Act.put, List.setIfInBounds_toArray, List.set_cons_zero, List.set_cons_succ]
      go_wp2
      go_roundw
      case rel => exact ⟨k + 1, by omega, by go_num, hbel.trans (hbn.mono hbel.size)⟩
      case measure => simp [intOf]; omega
    · go_wp2
      go_ret
      exact ⟨rfl, hbel⟩

/-! ### Marks -/
/-- The list behind k rounds of the marking. -/
def markedI (L : List Int) (m : Int) : Nat → List Int
  | 0 => L
  | k + 1 => (markedI L m k).set k (m + k)
theorem markedI_length (L : List Int) (m : Int) (k : Nat) : (markedI L m k).length = L.length := by
  induction k with
  | zero => rfl
  | succ k ih => simp [markedI, ih]
theorem markedI_get (L : List Int) (m : Int) (k j : Nat) (hj : j < k) (hk : k ≤ L.length) : (markedI L m k).getD j 0 = m + j := by
  induction k with
  | zero => omega
  | succ k ih =>
    have hl := markedI_length L m k
    by_cases h : k = j
    · subst h
      simp [markedI, List.getD_eq_getElem?_getD, hl, show k < L.length by omega]
    · have := ih (by omega) (by omega)
      rw [← this]
      simp [markedI, List.getD_eq_getElem?_getD, List.getElem?_set_ne h]

set_option maxHeartbeats 800000 in
theorem markIntS_any (L : List Int) (v : Value) (b : Nat) (m : Int) (w : World) (r : IRow w b v L) (hl : L.length ≤ 2000000) (m0 : 0 ≤ m) (m1 : m ≤ 1000000) :
    Calls Try.prog 32 #[v, .int .i64 m] w fun e w' => e = .returned (.int .i64 (m + L.length)) ∧ IRow w' b v (markedI L m L.length) ∧ w.grownBy w' v.ownBlock := by
  obtain ⟨a1, c1, rfl, l1, mx, x1⟩ := r.cells
  have R := Lib.hid r
  clear r x1
  (go_enter Try.func32, Try.ntmps32)
  go_wp2
  go_loopw [1, 5] (fun q i wr => ∃ k : Nat, k ≤ L.length ∧ i = .int .i64 k ∧ q = .int .i64 (m + k) ∧ IRow wr b (.slice a1 L.length c1) (markedI L m k) ∧ w.grownBy wr (Value.slice a1 L.length c1).ownBlock) (fun _ i _ => L.length - (intOf i).toNat)
  case atStart => exact ⟨0, Nat.zero_le _, rfl, by simp, R.out, grownBy_refl _ _⟩
  case round =>
    obtain ⟨k, hk, rfl, rfl, hr, hg⟩ := hrel
    by_cases hlt : k < L.length
    · obtain ⟨a', c', e', -, -, x⟩ := hr.cells
      rw [markedI_length] at e' x
      obtain ⟨rfl, -, rfl⟩ : a1 = a' ∧ True ∧ c1 = c' := by simpa using e'
      obtain ⟨g1, rfl, e1, e2, e3⟩ := x k hlt
      have hz : wr.frozen? ⟨g1, k, none⟩ = false := World.ownsRow.frozenAt (by unfold IRow at hr; rw [markedI_length] at hr; exact hr) _
      have HR := Lib.hid hr
      have HG := Lib.hid hg
      clear hr hg x e'
      generalize (markedI L m k).getD k 0 = x at *
      have i0 : (0 : Int) ≤ (k : Int) := Int.natCast_nonneg _
      have i1 : (k : Int) < (L.length : Int) := by omega
      go_wp2
      go_roundw
      case rel =>
        have h0 := HR.out
        unfold IRow at h0
        rw [markedI_length] at h0
        have s1 := World.ownsRow.stored h0 k (.int .i64 (m + k))
        refine ⟨k + 1, by omega, by go_num, ret_num (by omega), ?_, ?_⟩
        · unfold IRow
          rw [markedI_length]
          have h2 := s1.1
          rw [ints_set] at h2
          exact h2
        · exact grownBy_trans HG.out s1.2
      case measure => simp [intOf]; omega
    · obtain rfl : k = L.length := by omega
      go_wp2
      go_ret
      exact ⟨rfl, hr, hg⟩

set_option maxHeartbeats 800000 in
theorem heldIntS_any (L : List Int) (v : Value) (b : Nat) (m : Int) (w : World) (r : IRow w b v L) (hm : ∀ j, j < L.length → L.getD j 0 = m + j) (hl : L.length ≤ 2000000) (m0 : 0 ≤ m) (m1 : m ≤ 1000000) :
    Calls Try.prog 33 #[v, .int .i64 m] w fun e w' => e = .returned (.int .i64 (m + L.length)) ∧ Below w.heap.size w w' := by
  obtain ⟨a1, c1, rfl, l1, mx, x1⟩ := r.cells
  have X1 := Lib.hid x1
  have HM := Lib.hid hm
  clear r x1 hm
  (go_enter Try.func33, Try.ntmps33)
  go_wp2
  go_loop [1, 5] (fun q i => ∃ k : Nat, k ≤ L.length ∧ i = .int .i64 k ∧ q = .int .i64 (m + k)) (fun _ i => L.length - (intOf i).toNat)
  case atStart => exact ⟨0, Nat.zero_le _, rfl, by simp⟩
  case round =>
    obtain ⟨k, hk, rfl, rfl⟩ := hrel
    by_cases hlt : k < L.length
    · obtain ⟨g1, rfl, e1, e2, e3⟩ := X1.out k hlt
      rw [HM.out k hlt] at e3
      have i0 : (0 : Int) ≤ (k : Int) := Int.natCast_nonneg _
      have i1 : (k : Int) < (L.length : Int) := by omega
      go_wp2
      go_round
      case rel => exact ⟨k + 1, by omega, by go_num, ret_num (by omega)⟩
      case measure => simp [intOf]; omega
    · obtain rfl : k = L.length := by omega
      go_wp2
      go_ret
      exact ⟨rfl, Below.refl _ _⟩
theorem heldIntS_marked (L : List Int) (v : Value) (b : Nat) (m : Int) (w : World) (r : IRow w b v (markedI L m L.length)) (hl : L.length ≤ 2000000) (m0 : 0 ≤ m) (m1 : m ≤ 1000000) :
    Calls Try.prog 33 #[v, .int .i64 m] w fun e w' => e = .returned (.int .i64 (m + L.length)) ∧ Below w.heap.size w w' := by
  have h := heldIntS_any (markedI L m L.length) v b m w r (fun j hj => markedI_get L m L.length j (by rw [markedI_length] at hj; exact hj) (Nat.le_refl _)) (by rw [markedI_length]; exact hl) m0 m1
  rw [markedI_length] at h
  exact h

theorem made_zeroI (n : Nat) : (madeCells (Value.int .i64 0).cells (n * 1)).toList = ints (List.replicate n 0) := by
  apply List.ext_getElem?
  intro j
  by_cases hj : j < n
  · simp [ints, madeCells, Value.cells, hj, Nat.mod_one]
  · simp [ints, madeCells, hj]
theorem some_le' {g j B : Nat} (h : some g = some j) (hB : B ≤ g) : B ≤ j := by injection h with h; omega
theorem getD_set_self {L : List Int} {k : Nat} {x : Int} (hk : k < L.length) : (L.set k x).getD k 0 = x := by
  rw [List.getD_eq_getElem?_getD, List.getElem?_set_self hk]; rfl
theorem getD_set_far {L : List Int} {k j : Nat} {x : Int} (h : k ≠ j) : (L.set k x).getD j 0 = L.getD j 0 := by
  rw [List.getD_eq_getElem?_getD, List.getElem?_set_ne h, ← List.getD_eq_getElem?_getD]
theorem list_extI {L M : List Int} (hl : L.length = M.length) (h : ∀ j, j < M.length → L.getD j 0 = M.getD j 0) : L = M := by
  apply List.ext_getElem hl
  intro i h1 h2
  have := h i h2
  simpa [List.getD_eq_getElem?_getD, h1, h2] using this

/-- What a function hands back that hands back a list and whether there is one: the list in memory of its own. -/
def IntsOut (w0 : World) (L : List Int) (ok : Bool) (e : Ending) (w' : World) : Prop := ∃ v, e = .returned (.tuple #[v, .bool ok]) ∧ IRow w' w0.heap.size v L ∧ Below w0.heap.size w0 w'
theorem IntsOut.none {w0 w' : World} (h : Below w0.heap.size w0 w') : IntsOut w0 [] false (.returned (.tuple #[.slice none 0 0, .bool false])) w' :=
  ⟨_, rfl, IRow.nil _ _, h⟩
end Go.Proofs.Ytcpgjjmamclklaa
