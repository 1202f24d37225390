/- Lists of clues in memory: the law's comparison of two of them, and its marks. -/
import Derived.Test.YtcpgjjmamclklaaZRow
import Derived.Test.YtcpgjjmamclklaaTRow
import Derived.LoopTactic
set_option linter.unusedSimpArgs false
set_option linter.unusedVariables false
set_option maxRecDepth 100000
namespace Go.Proofs.Ytcpgjjmamclklaa
open Go.RowKit

/-- The cells of a list. -/
def flat3 : List (Int × Int × Int) → List Value
  | [] => []
  | t :: ts => .int .i64 t.1 :: .int .i64 t.2.1 :: .int .i64 t.2.2 :: flat3 ts
theorem flat3_length (ts : List (Int × Int × Int)) : (flat3 ts).length = ts.length * 3 := by
  induction ts with
  | nil => rfl
  | cons t ts ih => simp only [flat3, List.length_cons, ih]; omega
theorem flat3_append (ts us : List (Int × Int × Int)) : flat3 (ts ++ us) = flat3 ts ++ flat3 us := by
  induction ts with
  | nil => rfl
  | cons t ts ih => simp only [List.cons_append, flat3, ih]
theorem flat3_get (ts : List (Int × Int × Int)) (k : Nat) (hk : k < ts.length) : (flat3 ts)[k * 3]? = some (.int .i64 (ts.getD k (0, 0, 0)).1) ∧ (flat3 ts)[k * 3 + 1]? = some (.int .i64 (ts.getD k (0, 0, 0)).2.1) ∧ (flat3 ts)[k * 3 + 2]? = some (.int .i64 (ts.getD k (0, 0, 0)).2.2) := by
  induction ts generalizing k with
  | nil => simp at hk
  | cons t ts ih =>
    cases k with
    | zero => simp [flat3]
    | succ k =>
      have h := ih k (by simpa using hk)
      rw [show (k + 1) * 3 = k * 3 + 1 + 1 + 1 by omega]
      simpa [flat3] using h
/-- A slice that lies in memory of the call's own: nil, or a block that holds the list. -/
def CRow (w : World) (base : Nat) (v : Value) (ts : List (Int × Int × Int)) : Prop := w.ownsRow base 25 3 v ts.length (flat3 ts)
theorem CRow.cells {w : World} {base : Nat} {v : Value} {ts : List (Int × Int × Int)} (h : CRow w base v ts) :
    ∃ (a : Option Addr) (c : Nat), v = .slice a ts.length c ∧ ts.length ≤ c ∧ c ≤ maxLen ∧ ∀ k, k < ts.length → ∃ g, a = some ⟨g, 0, none⟩ ∧ base ≤ g ∧ g < w.heap.size ∧ w.cell? ⟨g, k * 3, none⟩ = some (.int .i64 (ts.getD k (0, 0, 0)).1) ∧ w.cell? ⟨g, k * 3 + 1, none⟩ = some (.int .i64 (ts.getD k (0, 0, 0)).2.1) ∧ w.cell? ⟨g, k * 3 + 2, none⟩ = some (.int .i64 (ts.getD k (0, 0, 0)).2.2) := by
  rcases h.2 with ⟨h1, h2⟩ | ⟨g, cap, cur, h1, h2, h3, h4, h5, h6, h7⟩
  · exact ⟨none, 0, by rw [h1, h2], by omega, by unfold maxLen; omega, fun k hk => absurd hk (by omega)⟩
  · refine ⟨some ⟨g, 0, none⟩, cap, h1, h4, h5, fun k hk => ⟨g, rfl, h2, ?_, ?_, ?_, ?_⟩⟩
    · rcases Nat.lt_or_ge g w.heap.size with hlt | hge
      · exact hlt
      · rw [Array.getElem?_eq_none hge] at h3; cases h3
    · rw [h1] at h
      rw [World.ownsRow.cellAt h (k * 3) (by omega)]
      exact (flat3_get ts k hk).1
    · rw [h1] at h
      rw [World.ownsRow.cellAt h (k * 3 + 1) (by omega)]
      exact (flat3_get ts k hk).2.1
    · rw [h1] at h
      rw [World.ownsRow.cellAt h (k * 3 + 2) (by omega)]
      exact (flat3_get ts k hk).2.2
theorem CRow.below {w w' : World} {base : Nat} {v : Value} {ts : List (Int × Int × Int)} (h : CRow w base v ts) (hb : Below w.heap.size w w') : CRow w' base v ts :=
  World.ownsRow.kept h (row := none) ⟨hb.os, hb.tape, hb.output, hb.size, fun k hk _ => hb.block k hk⟩ (by cases hv : v.ownBlock <;> simp)
theorem CRow.mono {w : World} {b b' : Nat} {v : Value} {L : List (Int × Int × Int)} (h : CRow w b v L) (hb : b' ≤ b) : CRow w b' v L := by
  refine ⟨h.1, ?_⟩
  rcases h.2 with hn | ⟨g, cap, cur, h1, h2, h3⟩
  · exact .inl hn
  · exact .inr ⟨g, cap, cur, h1, by omega, h3⟩

set_option maxHeartbeats 800000 in
theorem eqClueS_same (ts : List (Int × Int × Int)) (v1 v2 : Value) (b1 b2 : Nat) (w : World) (r1 : CRow w b1 v1 ts) (r2 : CRow w b2 v2 ts) (hl : ts.length ≤ 2000000) :
    Calls Try.prog 69 #[v1, v2] w fun e w' => e = .returned (.bool true) ∧ Below w.heap.size w w' := by
  obtain ⟨a1, c1, rfl, l1, m1, x1⟩ := r1.cells
  obtain ⟨a2, c2, rfl, l2, m2, x2⟩ := r2.cells
  clear r1 r2
  have X1 := Lib.hid x1
  have X2 := Lib.hid x2
  clear x1 x2
  (go_enter Try.func69, Try.ntmps69)
  go_wp2
  go_loopw [5] (fun i wr => ∃ k : Nat, k ≤ ts.length ∧ i = .int .i64 k ∧ Below w.heap.size w wr) (fun i _ => ts.length - (intOf i).toNat)
  case atStart => exact ⟨0, Nat.zero_le _, rfl, Below.refl _ _⟩
  case round =>
    obtain ⟨k, hk, rfl, hbel⟩ := hrel
    by_cases hlt : k < ts.length
    · obtain ⟨g1, rfl, e1, e2, e3, e4, e5⟩ := X1.out k hlt
      obtain ⟨g2, rfl, f1, f2, f3, f4, f5⟩ := X2.out k hlt
      obtain ⟨hc0, hf0⟩ := bcell hbel
      have hz := hbel.size
      generalize ts.getD k (0, 0, 0) = t at *
      obtain ⟨x, y, z⟩ := t
      have i0 : (0 : Int) ≤ (k : Int) := Int.natCast_nonneg _
      have i1 : (k : Int) < (ts.length : Int) := by omega
      have u1 : g1 < wr.heap.size := by omega
      have u2 : g2 < wr.heap.size := by omega
      go_wp2_with fail
      refine wp_region_below (by kernel_rfl) (by kernel_rfl) ?_
      repeat (first | (apply wpB_take (hw := rfl); (intro wq hq; obtain ⟨hcq, hfq⟩ := bcell hq; unfold atB; go_simp; exact ⟨rfl, rfl⟩); simp only [Act.put, List.setIfInBounds_toArray, List.set_cons_zero, List.set_cons_succ]) | (apply wpB_take (hw := rfl); (intro wq hq; unfold atB; go_simp; exact ⟨rfl, eqClue_self _ _ _ _⟩); simp only [Act.put, List.setIfInBounds_toArray, List.set_cons_zero, List.set_cons_succ]))
      refine fun wn hbn => ?_
      try simp only [Act.put, List.setIfInBounds_toArray, List.set_cons_zero, List.set_cons_succ]
      go_wp2
      go_roundw
      case rel => exact ⟨k + 1, by omega, by go_num, hbel.trans (hbn.mono hbel.size)⟩
      case measure => simp [intOf]; omega
    · go_wp2
      go_ret
      exact ⟨rfl, hbel⟩

theorem flat3_set (ts : List (Int × Int × Int)) (k : Nat) (x y z : Int) : (((flat3 ts).set (k * 3) (.int .i64 x)).set (k * 3 + 1) (.int .i64 y)).set (k * 3 + 2) (.int .i64 z) = flat3 (ts.set k (x, y, z)) := by
  induction ts generalizing k with
  | nil => simp [flat3]
  | cons t ts ih =>
    cases k with
    | zero => simp [flat3]
    | succ k =>
      rw [show (k + 1) * 3 = k * 3 + 1 + 1 + 1 by omega]
      simp [flat3, ih]
/-- The list behind k rounds of the marking. -/
def marked3 (ts : List (Int × Int × Int)) (m : Int) : Nat → List (Int × Int × Int)
  | 0 => ts
  | k + 1 => (marked3 ts m k).set k (m + 3 * k, m + 3 * k + 1, m + 3 * k + 1 + 1)
theorem marked3_length (ts : List (Int × Int × Int)) (m : Int) (k : Nat) : (marked3 ts m k).length = ts.length := by
  induction k with
  | zero => rfl
  | succ k ih => simp [marked3, ih]
theorem marked3_get (ts : List (Int × Int × Int)) (m : Int) (k j : Nat) (hj : j < k) (hk : k ≤ ts.length) : (marked3 ts m k).getD j (0, 0, 0) = (m + 3 * j, m + 3 * j + 1, m + 3 * j + 1 + 1) := by
  induction k with
  | zero => omega
  | succ k ih =>
    have hl := marked3_length ts m k
    by_cases h : k = j
    · subst h
      simp [marked3, List.getD_eq_getElem?_getD, hl, show k < ts.length by omega]
    · have := ih (by omega) (by omega)
      rw [← this]
      simp [marked3, List.getD_eq_getElem?_getD, List.getElem?_set_ne h]

set_option maxHeartbeats 1600000 in
theorem markClueS_any (ts : List (Int × Int × Int)) (v : Value) (b : Nat) (m : Int) (w : World) (r : CRow w b v ts) (hl : ts.length ≤ 2000000) (m0 : 0 ≤ m) (m1 : m ≤ 1000000) :
    Calls Try.prog 77 #[v, .int .i64 m] w fun e w' => e = .returned (.int .i64 (m + 3 * ts.length)) ∧ CRow w' b v (marked3 ts m ts.length) ∧ w.grownBy w' v.ownBlock := by
  obtain ⟨a1, c1, rfl, l1, mx, x1⟩ := r.cells
  have R := Lib.hid r
  clear r x1
  (go_enter Try.func77, Try.ntmps77)
  go_wp2
  go_loopw [1, 5] (fun q i wr => ∃ k : Nat, k ≤ ts.length ∧ i = .int .i64 k ∧ q = .int .i64 (m + 3 * k) ∧ CRow wr b (.slice a1 ts.length c1) (marked3 ts m k) ∧ w.grownBy wr (Value.slice a1 ts.length c1).ownBlock) (fun _ i _ => ts.length - (intOf i).toNat)
  case atStart => exact ⟨0, Nat.zero_le _, rfl, by simp, R.out, grownBy_refl _ _⟩
  case round =>
    obtain ⟨k, hk, rfl, rfl, hr, hg⟩ := hrel
    by_cases hlt : k < ts.length
    · obtain ⟨a', c', e', -, -, x⟩ := hr.cells
      rw [marked3_length] at e' x
      obtain ⟨rfl, -, rfl⟩ : a1 = a' ∧ True ∧ c1 = c' := by simpa using e'
      obtain ⟨g1, rfl, e1, e2, e3, e4, e5⟩ := x k hlt
      have hz0 : wr.frozen? ⟨g1, k * 3, none⟩ = false := World.ownsRow.frozenAt (by unfold CRow at hr; rw [marked3_length] at hr; exact hr) _
      have hz1 : wr.frozen? ⟨g1, k * 3 + 1, none⟩ = false := World.ownsRow.frozenAt (by unfold CRow at hr; rw [marked3_length] at hr; exact hr) _
      have hz2 : wr.frozen? ⟨g1, k * 3 + 2, none⟩ = false := World.ownsRow.frozenAt (by unfold CRow at hr; rw [marked3_length] at hr; exact hr) _
      have HR := Lib.hid hr
      have HG := Lib.hid hg
      clear hr hg x e'
      generalize (marked3 ts m k).getD k (0, 0, 0) = t at *
      obtain ⟨x, y, z⟩ := t
      have i0 : (0 : Int) ≤ (k : Int) := Int.natCast_nonneg _
      have i1 : (k : Int) < (ts.length : Int) := by omega
      go_wp2
      go_roundw
      case rel =>
        have h0 := HR.out
        unfold CRow at h0
        rw [marked3_length] at h0
        have s1 := World.ownsRow.stored h0 (k * 3) (.int .i64 (m + 3 * k))
        have s2 := World.ownsRow.stored s1.1 (k * 3 + 1) (.int .i64 (m + 3 * k + 1))
        have s3 := World.ownsRow.stored s2.1 (k * 3 + 2) (.int .i64 (m + 3 * k + 1 + 1))
        refine ⟨k + 1, by omega, by go_num, ret_num (by omega), ?_, ?_⟩
        · unfold CRow
          rw [marked3_length]
          have h2 := s3.1
          rw [flat3_set] at h2
          exact h2
        · exact grownBy_trans HG.out (grownBy_trans s1.2 (grownBy_trans s2.2 s3.2))
      case measure => simp [intOf]; omega
    · obtain rfl : k = ts.length := by omega
      go_wp2
      go_ret
      exact ⟨rfl, hr, hg⟩

set_option maxHeartbeats 1600000 in
theorem heldClueS_any (ts : List (Int × Int × Int)) (v : Value) (b : Nat) (m : Int) (w : World) (r : CRow w b v ts) (hm : ∀ j, j < ts.length → ts.getD j (0, 0, 0) = (m + 3 * j, m + 3 * j + 1, m + 3 * j + 1 + 1)) (hl : ts.length ≤ 2000000) (m0 : 0 ≤ m) (m1 : m ≤ 1000000) :
    Calls Try.prog 95 #[v, .int .i64 m] w fun e w' => e = .returned (.int .i64 (m + 3 * ts.length)) ∧ Below w.heap.size w w' := by
  obtain ⟨a1, c1, rfl, l1, mx, x1⟩ := r.cells
  have X1 := Lib.hid x1
  have HM := Lib.hid hm
  clear r x1 hm
  (go_enter Try.func95, Try.ntmps95)
  go_wp2
  go_loop [1, 5] (fun q i => ∃ k : Nat, k ≤ ts.length ∧ i = .int .i64 k ∧ q = .int .i64 (m + 3 * k)) (fun _ i => ts.length - (intOf i).toNat)
  case atStart => exact ⟨0, Nat.zero_le _, rfl, by simp⟩
  case round =>
    obtain ⟨k, hk, rfl, rfl⟩ := hrel
    by_cases hlt : k < ts.length
    · obtain ⟨g1, rfl, e1, e2, e3, e4, e5⟩ := X1.out k hlt
      rw [HM.out k hlt] at e3 e4 e5
      have i0 : (0 : Int) ≤ (k : Int) := Int.natCast_nonneg _
      have i1 : (k : Int) < (ts.length : Int) := by omega
      go_wp2
      go_round
      case rel => exact ⟨k + 1, by omega, by go_num, ret_num (by omega)⟩
      case measure => simp [intOf]; omega
    · obtain rfl : k = ts.length := by omega
      go_wp2
      go_ret
      exact ⟨rfl, Below.refl _ _⟩
theorem heldClueS_marked (ts : List (Int × Int × Int)) (v : Value) (b : Nat) (m : Int) (w : World) (r : CRow w b v (marked3 ts m ts.length)) (hl : ts.length ≤ 2000000) (m0 : 0 ≤ m) (m1 : m ≤ 1000000) :
    Calls Try.prog 95 #[v, .int .i64 m] w fun e w' => e = .returned (.int .i64 (m + 3 * ts.length)) ∧ Below w.heap.size w w' := by
  have h := heldClueS_any (marked3 ts m ts.length) v b m w r (fun j hj => marked3_get ts m ts.length j (by rw [marked3_length] at hj; exact hj) (Nat.le_refl _)) (by rw [marked3_length]; exact hl) m0 m1
  rw [marked3_length] at h
  exact h
theorem CRow.kept {w w' : World} {base : Nat} {v : Value} {ts : List (Int × Int × Int)} {row : Option Nat} (h : CRow w base v ts) (hg : w.grownBy w' row) (hne : v.ownBlock = none ∨ v.ownBlock ≠ row) : CRow w' base v ts :=
  World.ownsRow.kept h hg hne
theorem CRow.apart {w w' : World} {b b' : Nat} {v v' : Value} {ts us : List (Int × Int × Int)} (h : CRow w b v ts) (h' : CRow w' b' v' us) (hb : w.heap.size ≤ b') : v.ownBlock = none ∨ v.ownBlock ≠ v'.ownBlock := by
  cases hv : v.ownBlock with
  | none => exact .inl rfl
  | some k =>
    refine .inr fun e => ?_
    have h1 := (World.ownsRow.lt h k hv).2
    have h2 := (World.ownsRow.lt h' k e.symm).1
    omega
theorem CRow.low {w : World} {b : Nat} {v : Value} {ts : List (Int × Int × Int)} (h : CRow w b v ts) : ∀ k, v.ownBlock = some k → b ≤ k := fun k hk => (World.ownsRow.lt h k hk).1
theorem CRow.top {w : World} {b : Nat} {v : Value} {ts : List (Int × Int × Int)} (h : CRow w b v ts) : ∀ k, v.ownBlock = some k → k < w.heap.size := fun k hk => (World.ownsRow.lt h k hk).2
theorem CRow.set {w : World} {b : Nat} {v : Value} {ts : List (Int × Int × Int)} (h : CRow w b v ts) {a : Addr} (ha : a.block < b) (u : Value) : CRow (w.setCell a u) b v ts := ownsRow_setCell_below h ha u
theorem CRow.nil (w : World) (b : Nat) : CRow w b (.slice none 0 0) [] := ⟨rfl, .inl ⟨rfl, rfl⟩⟩
/-- A slice of parts that lies in memory of the call's own: nil, or a block that holds the list. -/
def ARow (w : World) (base : Nat) (v : Value) (ts : List (Int × Int × Int)) : Prop := w.ownsRow base 66 3 v ts.length (flat3 ts)
theorem ARow.cells {w : World} {base : Nat} {v : Value} {ts : List (Int × Int × Int)} (h : ARow w base v ts) :
    ∃ (a : Option Addr) (c : Nat), v = .slice a ts.length c ∧ ts.length ≤ c ∧ c ≤ maxLen ∧ ∀ k, k < ts.length → ∃ g, a = some ⟨g, 0, none⟩ ∧ base ≤ g ∧ g < w.heap.size ∧ w.cell? ⟨g, k * 3, none⟩ = some (.int .i64 (ts.getD k (0, 0, 0)).1) ∧ w.cell? ⟨g, k * 3 + 1, none⟩ = some (.int .i64 (ts.getD k (0, 0, 0)).2.1) ∧ w.cell? ⟨g, k * 3 + 2, none⟩ = some (.int .i64 (ts.getD k (0, 0, 0)).2.2) := by
  rcases h.2 with ⟨h1, h2⟩ | ⟨g, cap, cur, h1, h2, h3, h4, h5, h6, h7⟩
  · exact ⟨none, 0, by rw [h1, h2], by omega, by unfold maxLen; omega, fun k hk => absurd hk (by omega)⟩
  · refine ⟨some ⟨g, 0, none⟩, cap, h1, h4, h5, fun k hk => ⟨g, rfl, h2, ?_, ?_, ?_, ?_⟩⟩
    · rcases Nat.lt_or_ge g w.heap.size with hlt | hge
      · exact hlt
      · rw [Array.getElem?_eq_none hge] at h3; cases h3
    · rw [h1] at h
      rw [World.ownsRow.cellAt h (k * 3) (by omega)]
      exact (flat3_get ts k hk).1
    · rw [h1] at h
      rw [World.ownsRow.cellAt h (k * 3 + 1) (by omega)]
      exact (flat3_get ts k hk).2.1
    · rw [h1] at h
      rw [World.ownsRow.cellAt h (k * 3 + 2) (by omega)]
      exact (flat3_get ts k hk).2.2
theorem ARow.below {w w' : World} {base : Nat} {v : Value} {ts : List (Int × Int × Int)} (h : ARow w base v ts) (hb : Below w.heap.size w w') : ARow w' base v ts :=
  World.ownsRow.kept h (row := none) ⟨hb.os, hb.tape, hb.output, hb.size, fun k hk _ => hb.block k hk⟩ (by cases hv : v.ownBlock <;> simp)
theorem ARow.mono {w : World} {b b' : Nat} {v : Value} {L : List (Int × Int × Int)} (h : ARow w b v L) (hb : b' ≤ b) : ARow w b' v L := by
  refine ⟨h.1, ?_⟩
  rcases h.2 with hn | ⟨g, cap, cur, h1, h2, h3⟩
  · exact .inl hn
  · exact .inr ⟨g, cap, cur, h1, by omega, h3⟩

theorem ARow.kept {w w' : World} {base : Nat} {v : Value} {ts : List (Int × Int × Int)} {row : Option Nat} (h : ARow w base v ts) (hg : w.grownBy w' row) (hne : v.ownBlock = none ∨ v.ownBlock ≠ row) : ARow w' base v ts :=
  World.ownsRow.kept h hg hne
theorem ARow.apart {w w' : World} {b b' : Nat} {v v' : Value} {ts us : List (Int × Int × Int)} (h : ARow w b v ts) (h' : ARow w' b' v' us) (hb : w.heap.size ≤ b') : v.ownBlock = none ∨ v.ownBlock ≠ v'.ownBlock := by
  cases hv : v.ownBlock with
  | none => exact .inl rfl
  | some k =>
    refine .inr fun e => ?_
    have h1 := (World.ownsRow.lt h k hv).2
    have h2 := (World.ownsRow.lt h' k e.symm).1
    omega
theorem ARow.low {w : World} {b : Nat} {v : Value} {ts : List (Int × Int × Int)} (h : ARow w b v ts) : ∀ k, v.ownBlock = some k → b ≤ k := fun k hk => (World.ownsRow.lt h k hk).1
theorem ARow.top {w : World} {b : Nat} {v : Value} {ts : List (Int × Int × Int)} (h : ARow w b v ts) : ∀ k, v.ownBlock = some k → k < w.heap.size := fun k hk => (World.ownsRow.lt h k hk).2
theorem ARow.set {w : World} {b : Nat} {v : Value} {ts : List (Int × Int × Int)} (h : ARow w b v ts) {a : Addr} (ha : a.block < b) (u : Value) : ARow (w.setCell a u) b v ts := ownsRow_setCell_below h ha u
theorem ARow.nil (w : World) (b : Nat) : ARow w b (.slice none 0 0) [] := ⟨rfl, .inl ⟨rfl, rfl⟩⟩
end Go.Proofs.Ytcpgjjmamclklaa
