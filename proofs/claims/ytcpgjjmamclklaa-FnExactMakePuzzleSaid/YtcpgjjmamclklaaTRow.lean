/- Lists of turns in memory: the law's comparison of two of them, and its marks. -/
import Derived.Test.YtcpgjjmamclklaaTurn
import Derived.Test.YtcpgjjmamclklaaLate
import Derived.Deep.AppendLies
import Derived.LoopTactic
set_option linter.unusedSimpArgs false
set_option linter.unusedVariables false
set_option maxRecDepth 100000
namespace Go.Proofs.Ytcpgjjmamclklaa
open Go.RowKit

/-- The cells of a list of turns. -/
def flat : List (Int × Int) → List Value
  | [] => []
  | t :: ts => .int .i64 t.1 :: .int .i64 t.2 :: flat ts
theorem flat_length (ts : List (Int × Int)) : (flat ts).length = ts.length * 2 := by
  induction ts with
  | nil => rfl
  | cons t ts ih => simp only [flat, List.length_cons, ih]; omega
theorem flat_append (ts us : List (Int × Int)) : flat (ts ++ us) = flat ts ++ flat us := by
  induction ts with
  | nil => rfl
  | cons t ts ih => simp only [List.cons_append, flat, ih]
theorem flat_get (ts : List (Int × Int)) (k : Nat) (hk : k < ts.length) : (flat ts)[k * 2]? = some (.int .i64 (ts.getD k (0, 0)).1) ∧ (flat ts)[k * 2 + 1]? = some (.int .i64 (ts.getD k (0, 0)).2) := by
  induction ts generalizing k with
  | nil => simp at hk
  | cons t ts ih =>
    cases k with
    | zero => simp [flat]
    | succ k =>
      have h := ih k (by simpa using hk)
      rw [show (k + 1) * 2 = k * 2 + 1 + 1 by omega]
      simpa [flat] using h

/-- A slice of turns that lies in memory of the call's own: nil, or a block that holds them. -/
def TRow (w : World) (base : Nat) (v : Value) (ts : List (Int × Int)) : Prop := w.ownsRow base 88 2 v ts.length (flat ts)

/-- What a slice of turns looks like: its cells. -/
theorem TRow.cells {w : World} {base : Nat} {v : Value} {ts : List (Int × Int)} (h : TRow w base v ts) :
    ∃ (a : Option Addr) (c : Nat), v = .slice a ts.length c ∧ ts.length ≤ c ∧ c ≤ maxLen ∧ ∀ k, k < ts.length → ∃ g, a = some ⟨g, 0, none⟩ ∧ base ≤ g ∧ g < w.heap.size ∧ w.cell? ⟨g, k * 2, none⟩ = some (.int .i64 (ts.getD k (0, 0)).1) ∧ w.cell? ⟨g, k * 2 + 1, none⟩ = some (.int .i64 (ts.getD k (0, 0)).2) := by
  rcases h.2 with ⟨h1, h2⟩ | ⟨g, cap, cur, h1, h2, h3, h4, h5, h6, h7⟩
  · exact ⟨none, 0, by rw [h1, h2], by omega, by unfold maxLen; omega, fun k hk => absurd hk (by omega)⟩
  · refine ⟨some ⟨g, 0, none⟩, cap, h1, h4, h5, fun k hk => ⟨g, rfl, h2, ?_, ?_, ?_⟩⟩
    · rcases Nat.lt_or_ge g w.heap.size with hlt | hge
      · exact hlt
      · rw [Array.getElem?_eq_none hge] at h3; cases h3
    · rw [h1] at h
      rw [World.ownsRow.cellAt h (k * 2) (by omega)]
      exact (flat_get ts k hk).1
    · rw [h1] at h
      rw [World.ownsRow.cellAt h (k * 2 + 1) (by omega)]
      exact (flat_get ts k hk).2

theorem TRow.below {w w' : World} {base : Nat} {v : Value} {ts : List (Int × Int)} (h : TRow w base v ts) (hb : Below w.heap.size w w') : TRow w' base v ts :=
  World.ownsRow.kept h (row := none) ⟨hb.os, hb.tape, hb.output, hb.size, fun k hk _ => hb.block k hk⟩ (by cases hv : v.ownBlock <;> simp)
theorem TRow.drewN {w : World} {base : Nat} {v : Value} {ts : List (Int × Int)} (h : TRow w base v ts) (n : Nat) : TRow (w.drewN n) base v ts := h


set_option maxHeartbeats 800000 in
theorem eqTurnS_same (ts : List (Int × Int)) (v1 v2 : Value) (b1 b2 : Nat) (w : World) (r1 : TRow w b1 v1 ts) (r2 : TRow w b2 v2 ts) (hl : ts.length ≤ 1000000) :
    Calls Try.prog 40 #[v1, v2] w fun e w' => e = .returned (.bool true) ∧ Below w.heap.size w w' := by
  obtain ⟨a1, c1, rfl, l1, m1, x1⟩ := r1.cells
  obtain ⟨a2, c2, rfl, l2, m2, x2⟩ := r2.cells
  clear r1 r2
  have X1 := Lib.hid x1
  have X2 := Lib.hid x2
  clear x1 x2
  (go_enter Try.func40, Try.ntmps40)
  go_wp2
  go_loopw [5] (fun i wr => ∃ k : Nat, k ≤ ts.length ∧ i = .int .i64 k ∧ Below w.heap.size w wr) (fun i _ => ts.length - (intOf i).toNat)
  case atStart => exact ⟨0, Nat.zero_le _, rfl, Below.refl _ _⟩
  case round =>
    obtain ⟨k, hk, rfl, hbel⟩ := hrel
    by_cases hlt : k < ts.length
    · obtain ⟨g1, rfl, e1, e2, e3, e4⟩ := X1.out k hlt
      obtain ⟨g2, rfl, f1, f2, f3, f4⟩ := X2.out k hlt
      obtain ⟨hc0, hf0⟩ := bcell hbel
      have hz := hbel.size
      generalize ts.getD k (0, 0) = t at *
      obtain ⟨x, y⟩ := t
      have i0 : (0 : Int) ≤ (k : Int) := Int.natCast_nonneg _
      have i1 : (k : Int) < (ts.length : Int) := by omega
      have u1 : g1 < wr.heap.size := by omega
      have u2 : g2 < wr.heap.size := by omega
      go_wp2_with fail
      refine wp_region_below (by kernel_rfl) (by kernel_rfl) ?_
      (apply wpB_take (hw := rfl); (intro wq hq; obtain ⟨hcq, hfq⟩ := bcell hq; unfold atB; go_simp; exact ⟨rfl, rfl⟩); simp only [Act.put, List.setIfInBounds_toArray, List.set_cons_zero, List.set_cons_succ])
      (apply wpB_take (hw := rfl); (intro wq hq; obtain ⟨hcq, hfq⟩ := bcell hq; unfold atB; go_simp; exact ⟨rfl, rfl⟩); simp only [Act.put, List.setIfInBounds_toArray, List.set_cons_zero, List.set_cons_succ])
      (apply wpB_take (hw := rfl); (intro wq hq; obtain ⟨hcq, hfq⟩ := bcell hq; unfold atB; go_simp; exact ⟨rfl, rfl⟩); simp only [Act.put, List.setIfInBounds_toArray, List.set_cons_zero, List.set_cons_succ])
      (apply wpB_take (hw := rfl); (intro wq hq; obtain ⟨hcq, hfq⟩ := bcell hq; unfold atB; go_simp; exact ⟨rfl, rfl⟩); simp only [Act.put, List.setIfInBounds_toArray, List.set_cons_zero, List.set_cons_succ])
      (apply wpB_take (hw := rfl); (intro wq hq; obtain ⟨hcq, hfq⟩ := bcell hq; unfold atB; go_simp; exact ⟨rfl, rfl⟩); simp only [Act.put, List.setIfInBounds_toArray, List.set_cons_zero, List.set_cons_succ])
      (apply wpB_take (hw := rfl); (intro wq hq; obtain ⟨hcq, hfq⟩ := bcell hq; unfold atB; go_simp; exact ⟨rfl, rfl⟩); simp only [Act.put, List.setIfInBounds_toArray, List.set_cons_zero, List.set_cons_succ])
      (apply wpB_take (hw := rfl); (intro wq hq; obtain ⟨hcq, hfq⟩ := bcell hq; unfold atB; go_simp; exact ⟨rfl, rfl⟩); simp only [Act.put, List.setIfInBounds_toArray, List.set_cons_zero, List.set_cons_succ])
      (apply wpB_take (hw := rfl); (intro wq hq; obtain ⟨hcq, hfq⟩ := bcell hq; unfold atB; go_simp; exact ⟨rfl, rfl⟩); simp only [Act.put, List.setIfInBounds_toArray, List.set_cons_zero, List.set_cons_succ])
      (apply wpB_take (hw := rfl); (intro wq hq; unfold atB; go_simp; exact ⟨rfl, eqTurn_self _ _ _⟩); simp only [Act.put, List.setIfInBounds_toArray, List.set_cons_zero, List.set_cons_succ])
      (apply wpB_take (hw := rfl); (intro wq hq; obtain ⟨hcq, hfq⟩ := bcell hq; unfold atB; go_simp; exact ⟨rfl, rfl⟩); simp only [Act.put, List.setIfInBounds_toArray, List.set_cons_zero, List.set_cons_succ])
      refine fun wn hbn => ?_
      try simp only [Act.put, List.setIfInBounds_toArray, List.set_cons_zero, List.set_cons_succ]
      go_wp2
      go_roundw
      case rel => exact ⟨k + 1, by omega, by go_num, hbel.trans (hbn.mono hbel.size)⟩
      case measure => simp [intOf]; omega
    · go_wp2
      go_ret
      exact ⟨rfl, hbel⟩

/-! ### Marks -/
theorem flat_set (ts : List (Int × Int)) (k : Nat) (x y : Int) : ((flat ts).set (k * 2) (.int .i64 x)).set (k * 2 + 1) (.int .i64 y) = flat (ts.set k (x, y)) := by
  induction ts generalizing k with
  | nil => simp [flat]
  | cons t ts ih =>
    cases k with
    | zero => simp [flat]
    | succ k =>
      rw [show (k + 1) * 2 = k * 2 + 1 + 1 by omega]
      simp [flat, ih]
theorem ret_num {a b : Int} (h : a = b) : (Value.int .i64 a) = .int .i64 b := by rw [h]
theorem grownBy_refl (w : World) (row : Option Nat) : w.grownBy w row := ⟨rfl, rfl, rfl, Nat.le_refl _, fun _ _ _ => rfl⟩
theorem grownBy_trans {a b c : World} {row : Option Nat} (h : a.grownBy b row) (k : b.grownBy c row) : a.grownBy c row :=
  ⟨k.os.trans h.os, k.tape.trans h.tape, k.output.trans h.output, Nat.le_trans h.size k.size, fun i hi hne => (k.block i (Nat.lt_of_lt_of_le hi h.size) hne).trans (h.block i hi hne)⟩
/-- The list behind k rounds of the marking. -/
def marked (ts : List (Int × Int)) (m : Int) : Nat → List (Int × Int)
  | 0 => ts
  | k + 1 => (marked ts m k).set k (m + 2 * k, m + 2 * k + 1)
theorem marked_length (ts : List (Int × Int)) (m : Int) (k : Nat) : (marked ts m k).length = ts.length := by
  induction k with
  | zero => rfl
  | succ k ih => simp [marked, ih]
theorem marked_get (ts : List (Int × Int)) (m : Int) (k j : Nat) (hj : j < k) (hk : k ≤ ts.length) : (marked ts m k).getD j (0, 0) = (m + 2 * j, m + 2 * j + 1) := by
  induction k with
  | zero => omega
  | succ k ih =>
    have hl := marked_length ts m k
    by_cases h : k = j
    · subst h
      simp [marked, List.getD_eq_getElem?_getD, hl, show k < ts.length by omega]
    · have := ih (by omega) (by omega)
      rw [← this]
      simp [marked, List.getD_eq_getElem?_getD, List.getElem?_set_ne h]

set_option maxHeartbeats 800000 in
theorem markTurnS_any (ts : List (Int × Int)) (v : Value) (b : Nat) (m : Int) (w : World) (r : TRow w b v ts) (hl : ts.length ≤ 1000000) (m0 : 0 ≤ m) (m1 : m ≤ 1000000) :
    Calls Try.prog 41 #[v, .int .i64 m] w fun e w' => e = .returned (.int .i64 (m + 2 * ts.length)) ∧ TRow w' b v (marked ts m ts.length) ∧ w.grownBy w' v.ownBlock := by
  obtain ⟨a1, c1, rfl, l1, mx, x1⟩ := r.cells
  have R := Lib.hid r
  clear r x1
  (go_enter Try.func41, Try.ntmps41)
  go_wp2
  go_loopw [1, 5] (fun q i wr => ∃ k : Nat, k ≤ ts.length ∧ i = .int .i64 k ∧ q = .int .i64 (m + 2 * k) ∧ TRow wr b (.slice a1 ts.length c1) (marked ts m k) ∧ w.grownBy wr (Value.slice a1 ts.length c1).ownBlock) (fun _ i _ => ts.length - (intOf i).toNat)
  case atStart => exact ⟨0, Nat.zero_le _, rfl, by simp, R.out, grownBy_refl _ _⟩
  case round =>
    obtain ⟨k, hk, rfl, rfl, hr, hg⟩ := hrel
    by_cases hlt : k < ts.length
    · obtain ⟨a', c', e', -, -, x⟩ := hr.cells
      rw [marked_length] at e' x
      obtain ⟨rfl, -, rfl⟩ : a1 = a' ∧ True ∧ c1 = c' := by simpa using e'
      obtain ⟨g1, rfl, e1, e2, e3, e4⟩ := x k hlt
      have hz : wr.frozen? ⟨g1, k * 2, none⟩ = false := World.ownsRow.frozenAt (by unfold TRow at hr; rw [marked_length] at hr; exact hr) _
      have hz1 : wr.frozen? ⟨g1, k * 2 + 1, none⟩ = false := World.ownsRow.frozenAt (by unfold TRow at hr; rw [marked_length] at hr; exact hr) _
      have HR := Lib.hid hr
      have HG := Lib.hid hg
      clear hr hg x e'
      generalize (marked ts m k).getD k (0, 0) = t at *
      obtain ⟨x, y⟩ := t
      have i0 : (0 : Int) ≤ (k : Int) := Int.natCast_nonneg _
      have i1 : (k : Int) < (ts.length : Int) := by omega
      go_wp2
      go_roundw
      case rel =>
        have h0 := HR.out
        unfold TRow at h0
        rw [marked_length] at h0
        have s1 := World.ownsRow.stored h0 (k * 2) (.int .i64 (m + 2 * k))
        have s2 := World.ownsRow.stored s1.1 (k * 2 + 1) (.int .i64 (m + 2 * k + 1))
        refine ⟨k + 1, by omega, by go_num, ret_num (by omega), ?_, ?_⟩
        · unfold TRow
          rw [marked_length]
          have h2 := s2.1
          rw [flat_set] at h2
          exact h2
        · exact grownBy_trans HG.out (grownBy_trans s1.2 s2.2)
      case measure => simp [intOf]; omega
    · obtain rfl : k = ts.length := by omega
      go_wp2
      go_ret
      exact ⟨rfl, hr, hg⟩

set_option maxHeartbeats 800000 in
theorem heldTurnS_any (ts : List (Int × Int)) (v : Value) (b : Nat) (m : Int) (w : World) (r : TRow w b v ts) (hm : ∀ j, j < ts.length → ts.getD j (0, 0) = (m + 2 * j, m + 2 * j + 1)) (hl : ts.length ≤ 1000000) (m0 : 0 ≤ m) (m1 : m ≤ 1000000) :
    Calls Try.prog 42 #[v, .int .i64 m] w fun e w' => e = .returned (.int .i64 (m + 2 * ts.length)) ∧ Below w.heap.size w w' := by
  obtain ⟨a1, c1, rfl, l1, mx, x1⟩ := r.cells
  have X1 := Lib.hid x1
  have HM := Lib.hid hm
  clear r x1 hm
  (go_enter Try.func42, Try.ntmps42)
  go_wp2
  go_loop [1, 5] (fun q i => ∃ k : Nat, k ≤ ts.length ∧ i = .int .i64 k ∧ q = .int .i64 (m + 2 * k)) (fun _ i => ts.length - (intOf i).toNat)
  case atStart => exact ⟨0, Nat.zero_le _, rfl, by simp⟩
  case round =>
    obtain ⟨k, hk, rfl, rfl⟩ := hrel
    by_cases hlt : k < ts.length
    · obtain ⟨g1, rfl, e1, e2, e3, e4⟩ := X1.out k hlt
      rw [HM.out k hlt] at e3 e4
      have i0 : (0 : Int) ≤ (k : Int) := Int.natCast_nonneg _
      have i1 : (k : Int) < (ts.length : Int) := by omega
      go_wp2
      go_round
      case rel => exact ⟨k + 1, by omega, by go_num, ret_num (by omega)⟩
      case measure => simp [intOf]; omega
    · obtain rfl : k = ts.length := by omega
      go_wp2
      go_ret
      exact ⟨rfl, Below.refl _ _⟩
theorem heldTurnS_marked (ts : List (Int × Int)) (v : Value) (b : Nat) (m : Int) (w : World) (r : TRow w b v (marked ts m ts.length)) (hl : ts.length ≤ 1000000) (m0 : 0 ≤ m) (m1 : m ≤ 1000000) :
    Calls Try.prog 42 #[v, .int .i64 m] w fun e w' => e = .returned (.int .i64 (m + 2 * ts.length)) ∧ Below w.heap.size w w' := by
  have h := heldTurnS_any (marked ts m ts.length) v b m w r (fun j hj => marked_get ts m ts.length j (by rw [marked_length] at hj; exact hj) (Nat.le_refl _)) (by rw [marked_length]; exact hl) m0 m1
  rw [marked_length] at h
  exact h
theorem TRow.kept {w w' : World} {base : Nat} {v : Value} {ts : List (Int × Int)} {row : Option Nat} (h : TRow w base v ts) (hg : w.grownBy w' row) (hne : v.ownBlock = none ∨ v.ownBlock ≠ row) : TRow w' base v ts :=
  World.ownsRow.kept h hg hne
/-- Of two slices the one that was made later lies in another block. -/
theorem TRow.apart {w w' : World} {b b' : Nat} {v v' : Value} {ts us : List (Int × Int)} (h : TRow w b v ts) (h' : TRow w' b' v' us) (hb : w.heap.size ≤ b') : v.ownBlock = none ∨ v.ownBlock ≠ v'.ownBlock := by
  cases hv : v.ownBlock with
  | none => exact .inl rfl
  | some k =>
    refine .inr fun e => ?_
    have h1 := (World.ownsRow.lt h k hv).2
    have h2 := (World.ownsRow.lt h' k e.symm).1
    omega
theorem TRow.low {w : World} {b : Nat} {v : Value} {ts : List (Int × Int)} (h : TRow w b v ts) : ∀ k, v.ownBlock = some k → b ≤ k := fun k hk => (World.ownsRow.lt h k hk).1
end Go.Proofs.Ytcpgjjmamclklaa
