/- Lists of texts in memory: the law's comparison of two of them, its marks, its copy; one that is an argument. -/
import Derived.Test.YtijnppomeoaebaaDoorBIRow
import Derived.Deep.AppendLies
import Derived.Deep.Slices
import Derived.Laws.OwnMore
import Derived.OwnWalk
import Derived.LoopTactic
set_option linter.unusedSimpArgs false
set_option linter.unusedVariables false
set_option maxRecDepth 100000
namespace Go.Proofs.YtijnppomeoaebaaDoor
open Go.ChangeShapes Go.WideShapes Go.ChangeAt Go.RowKit

theorem Tryd.cellsString : Tryd.prog.cellsOf 9 = 1 := by kernel_rfl
theorem Tryd.infoString : (Tryd.prog.info? 9).map (fun i => (i.zero, i.size, i.bytes)) = some (some (.string ⟨#[]⟩), 1, 16) := by kernel_rfl
/-- The cells of a list of numbers. -/
def texts (L : List (List UInt8)) : List Value := L.map str
theorem texts_get (L : List (List UInt8)) (k : Nat) (hk : k < L.length) : (texts L)[k]? = some (str (L.getD k [])) := by
  simp [texts, hk]
theorem texts_set (L : List (List UInt8)) (k : Nat) (x : List UInt8) : (texts L).set k (str x) = texts (L.set k x) := by simp [texts, List.map_set]
theorem texts_length (L : List (List UInt8)) : (texts L).length = L.length := by simp [texts]
/-- A slice of numbers that lies in memory of the call's own: nil, or a block that holds them. -/
def XRow (w : World) (base : Nat) (v : Value) (L : List (List UInt8)) : Prop := w.ownsRow base 9 1 v L.length (texts L)
theorem XRow.cells {w : World} {base : Nat} {v : Value} {L : List (List UInt8)} (h : XRow w base v L) :
    ∃ (a : Option Addr) (c : Nat), v = .slice a L.length c ∧ L.length ≤ c ∧ c ≤ maxLen ∧ ∀ k, k < L.length → ∃ g, a = some ⟨g, 0, none⟩ ∧ base ≤ g ∧ g < w.heap.size ∧ w.cell? ⟨g, k, none⟩ = some (str (L.getD k [])) := by
  rcases h.2 with ⟨h1, h2⟩ | ⟨g, cap, cur, h1, h2, h3, h4, h5, h6, h7⟩
  · exact ⟨none, 0, by rw [h1, h2], by omega, by unfold maxLen; omega, fun k hk => absurd hk (by omega)⟩
  · refine ⟨some ⟨g, 0, none⟩, cap, h1, h4, h5, fun k hk => ⟨g, rfl, h2, ?_, ?_⟩⟩
    · rcases Nat.lt_or_ge g w.heap.size with hlt | hge
      · exact hlt
      · rw [Array.getElem?_eq_none hge] at h3; cases h3
    · rw [h1] at h
      rw [World.ownsRow.cellAt h k (by omega)]
      exact texts_get L k hk
theorem XRow.below {w w' : World} {base : Nat} {v : Value} {L : List (List UInt8)} (h : XRow w base v L) (hb : Below w.heap.size w w') : XRow w' base v L :=
  World.ownsRow.kept h (row := none) ⟨hb.os, hb.tape, hb.output, hb.size, fun k hk _ => hb.block k hk⟩ (by cases hv : v.ownBlock <;> simp)
theorem XRow.mono {w : World} {b b' : Nat} {v : Value} {L : List (List UInt8)} (h : XRow w b v L) (hb : b' ≤ b) : XRow w b' v L := by
  refine ⟨h.1, ?_⟩
  rcases h.2 with hn | ⟨g, cap, cur, h1, h2, h3⟩
  · exact .inl hn
  · exact .inr ⟨g, cap, cur, h1, by omega, h3⟩
theorem XRow.nil (w : World) (b : Nat) : XRow w b (.slice none 0 0) [] := ⟨rfl, .inl ⟨rfl, rfl⟩⟩
theorem XRow.kept {w w' : World} {base : Nat} {v : Value} {L : List (List UInt8)} {row : Option Nat} (h : XRow w base v L) (hg : w.grownBy w' row) (hne : v.ownBlock = none ∨ v.ownBlock ≠ row) : XRow w' base v L :=
  World.ownsRow.kept h hg hne
/-- Of two slices the one that was made later lies in another block. -/
theorem XRow.apart {w w' : World} {b b' : Nat} {v v' : Value} {L M : List (List UInt8)} (h : XRow w b v L) (h' : XRow w' b' v' M) (hb : w.heap.size ≤ b') : v.ownBlock = none ∨ v.ownBlock ≠ v'.ownBlock := by
  cases hv : v.ownBlock with
  | none => exact .inl rfl
  | some k =>
    refine .inr fun e => ?_
    have h1 := (World.ownsRow.lt h k hv).2
    have h2 := (World.ownsRow.lt h' k e.symm).1
    omega
theorem XRow.low {w : World} {b : Nat} {v : Value} {L : List (List UInt8)} (h : XRow w b v L) : ∀ k, v.ownBlock = some k → b ≤ k := fun k hk => (World.ownsRow.lt h k hk).1

/-- A slice of numbers in memory, wherever it lies. -/
def XIn (w : World) (a : Option Addr) (L : List (List UInt8)) : Prop :=
  ∀ k, k < L.length → ∃ b off, a = some ⟨b, off, none⟩ ∧ b < w.heap.size ∧ w.cell? ⟨b, off + k, none⟩ = some (str (L.getD k []))
theorem XIn.below {w w' : World} {a : Option Addr} {L : List (List UInt8)} (h : XIn w a L) (hb : Below w.heap.size w w') : XIn w' a L := by
  obtain ⟨hc, -⟩ := bcell hb
  have hs := hb.size
  intro k hk
  obtain ⟨b, off, h1, h2, h3⟩ := h k hk
  exact ⟨b, off, h1, by omega, (hc _ _ h2).trans h3⟩
theorem XRow.inn {w : World} {b : Nat} {v : Value} {L : List (List UInt8)} (h : XRow w b v L) : ∃ (a : Option Addr) (c : Nat), v = .slice a L.length c ∧ XIn w a L ∧ L.length ≤ c ∧ c ≤ maxLen := by
  obtain ⟨a, c, rfl, h1, h2, hx⟩ := h.cells
  exact ⟨a, c, rfl, fun k hk => by obtain ⟨g, e1, e2, e3, e4⟩ := hx k hk; exact ⟨g, 0, e1, e3, by simpa using e4⟩, h1, h2⟩

set_option maxHeartbeats 800000 in
theorem eqStringS_same (L : List (List UInt8)) (v1 v2 : Value) (b1 b2 : Nat) (w : World) (r1 : XRow w b1 v1 L) (r2 : XRow w b2 v2 L) (hl : L.length ≤ 2000000) :
    Calls Tryd.prog 11 #[v1, v2] w fun e w' => e = .returned (.bool true) ∧ Below w.heap.size w w' := by
  obtain ⟨a1, c1, rfl, l1, m1, x1⟩ := r1.cells
  obtain ⟨a2, c2, rfl, l2, m2, x2⟩ := r2.cells
  clear r1 r2
  have X1 := Lib.hid x1
  have X2 := Lib.hid x2
  clear x1 x2
  (go_enter Tryd.func11, Tryd.ntmps11)
  go_wp2
  go_loopw [5] (fun i wr => ∃ k : Nat, k ≤ L.length ∧ i = .int .i64 k ∧ Below w.heap.size w wr) (fun i _ => L.length - (intOf i).toNat)
  case atStart => exact ⟨0, Nat.zero_le _, rfl, Below.refl _ _⟩
  case round =>
    obtain ⟨k, hk, rfl, hbel⟩ := hrel
    by_cases hlt : k < L.length
    · obtain ⟨g1, rfl, e1, e2, e3⟩ := X1.out k hlt
      obtain ⟨g2, rfl, f1, f2, f3⟩ := X2.out k hlt
      obtain ⟨hc0, hf0⟩ := bcell hbel
      have hz := hbel.size
      generalize L.getD k [] = x at *
      have i0 : (0 : Int) ≤ (k : Int) := Int.natCast_nonneg _
      have i1 : (k : Int) < (L.length : Int) := by omega
      have u1 : g1 < wr.heap.size := by omega
      have u2 : g2 < wr.heap.size := by omega
      go_wp2_with fail
      refine wp_region_below (by kernel_rfl) (by kernel_rfl) ?_
      (apply wpB_take (hw := rfl); (intro wq hq; obtain ⟨hcq, hfq⟩ := bcell hq; unfold atB; go_simp; exact ⟨rfl, rfl⟩); simp only [Act.put, List.setIfInBounds_toArray, List.set_cons_zero, List.set_cons_succ])
      (apply wpB_take (hw := rfl); (intro wq hq; obtain ⟨hcq, hfq⟩ := bcell hq; unfold atB; go_simp; exact ⟨rfl, rfl⟩); simp only [Act.put, List.setIfInBounds_toArray, List.set_cons_zero, List.set_cons_succ])
      (apply wpB_take (hw := rfl); (intro wq hq; obtain ⟨hcq, hfq⟩ := bcell hq; unfold atB; go_simp; exact ⟨rfl, rfl⟩); simp only [Act.put, List.setIfInBounds_toArray, List.set_cons_zero, List.set_cons_succ])
      (apply wpB_take (hw := rfl); (intro wq hq; obtain ⟨hcq, hfq⟩ := bcell hq; unfold atB; go_simp; exact ⟨rfl, rfl⟩); simp only [Act.put, List.setIfInBounds_toArray, List.set_cons_zero, List.set_cons_succ])
      (apply wpB_take (hw := rfl); (intro wq hq; obtain ⟨hcq, hfq⟩ := bcell hq; unfold atB; go_simp; exact ⟨rfl, rfl⟩); simp only [Act.put, List.setIfInBounds_toArray, List.set_cons_zero, List.set_cons_succ])
      (apply wpB_take (hw := rfl); (intro wq hq; obtain ⟨hcq, hfq⟩ := bcell hq; unfold atB; go_simp; exact ⟨rfl, rfl⟩); simp only [Act.put, List.setIfInBounds_toArray, List.set_cons_zero, List.set_cons_succ])
      (apply wpB_take (hw := rfl); (intro wq hq; obtain ⟨hcq, hfq⟩ := bcell hq; unfold atB; go_simp; exact ⟨rfl, rfl⟩); simp only [Act.put, List.setIfInBounds_toArray, List.set_cons_zero, List.set_cons_succ])
      (apply wpB_take (hw := rfl); (intro wq hq; obtain ⟨hcq, hfq⟩ := bcell hq; unfold atB; go_simp; exact ⟨rfl, rfl⟩); simp only [Act.put, List.setIfInBounds_toArray, List.set_cons_zero, List.set_cons_succ])
      (apply wpB_take (hw := rfl); (intro wq hq; obtain ⟨hcq, hfq⟩ := bcell hq; unfold atB; go_simp; exact ⟨rfl, rfl⟩); simp only [Act.put, List.setIfInBounds_toArray, List.set_cons_zero, List.set_cons_succ])
      refine fun wn hbn => ?_
      try simp only [Act.put, List.setIfInBounds_toArray, List.set_cons_zero, List.set_cons_succ]
      go_wp2
      go_roundw
      case rel => exact ⟨k + 1, by omega, by go_num, hbel.trans (hbn.mono hbel.size)⟩
      case measure => simp [intOf]; omega
    · go_wp2
      go_ret
      exact ⟨rfl, hbel⟩

/-! ### Marks -/
/-- The law's mark of a text. -/
def mkT (n : Int) : List UInt8 := if 0 < n then 109 :: dec n else [109, 48]
theorem dec_ten (k : Nat) : ∀ n : Int, 0 ≤ n → n < 10 ^ (k + 1) → (dec n).length ≤ k + 1 := by
  induction k with
  | zero => intro n h0 h1; rw [dec_one h0 (by omega)]; simp
  | succ k ih =>
    intro n h0 h1
    by_cases h : n < 10
    · rw [dec_one h0 h]; simp
    · rw [dec_more (by omega)]
      have := ih (n / 10) (by omega) (by rw [Int.pow_succ] at h1; omega)
      simp; omega
set_option maxHeartbeats 1600000 in
theorem markText_any (n : Int) (h0 : 0 < n) (h1 : n ≤ 9999999) (w : World) :
    Calls Tryd.prog 42 #[.int .i64 n] w fun e w' => e = .returned (str (mkT n)) ∧ Below w.heap.size w w' := by
  have HM : Hid (109 :: dec n = mkT n) := Lib.hid (by unfold mkT; rw [if_pos h0])
  have HN : Hid ((dec n).length ≤ 7) := Lib.hid (dec_ten 6 n (by omega) (by omega))
  (go_enter Tryd.func42, Tryd.ntmps42)
  go_wp2
  go_loopw [0, 3] (fun q o wr => ∃ (k : Int) (out : List UInt8), q = .int .i64 k ∧ o = str out ∧ 0 ≤ k ∧ k ≤ n ∧ ((k = 0 ∧ out = dec n) ∨ (0 < k ∧ dec k ++ out = dec n)) ∧ Below w.heap.size w wr) (fun q _ _ => (intOf q).toNat)
  case atStart => exact ⟨n, [], rfl, rfl, by omega, by omega, .inr ⟨h0, by simp⟩, Below.refl _ _⟩
  case round =>
    obtain ⟨k, out, rfl, rfl, hk0, hk1, hrel, hbel⟩ := hrel
    have hz := hbel.size
    have hol : out.length ≤ 7 := by
      have := HN.out
      rcases hrel with ⟨-, rfl⟩ | ⟨-, h⟩
      · exact this
      · rw [← h] at this; simp at this; omega
    have hol1 : ¬ 9223372036854775807 < 1 + out.length := by omega
    have HR := Lib.hid hrel
    clear hrel
    by_cases hlt : 0 < k
    · have i1 : 0 ≤ k % 10 := by omega
      have i2 : k % 10 < 10 := by omega
      have hc := fun b W => run_conv1 b (48 + k % 10) (by omega) (by omega) W
      have f1 : IntKind.i64.wrap (k.tdiv 10) = k / 10 := by rw [Int.tdiv_eq_ediv_of_nonneg hk0]; exact IntWalk.i64_in _ (by omega)
      have f2 : k.tmod 10 = k % 10 := Int.tmod_eq_emod_of_nonneg hk0
      have f3 : IntKind.i64.wrap (48 + k % 10) = 48 + k % 10 := IntWalk.i64_in _ (by omega)
      have f4 : IntKind.u8.wrap (48 + k % 10) = 48 + k % 10 := IntWalk.u8_in _ (by omega)
      have HN2 : Hid ((k / 10 = 0 ∧ [UInt8.ofNat (48 + k % 10).toNat] ++ out = dec n) ∨ (0 < k / 10 ∧ dec (k / 10) ++ ([UInt8.ofNat (48 + k % 10).toNat] ++ out) = dec n)) := Lib.hid (by
        rcases HR.out with ⟨h, -⟩ | ⟨-, h⟩
        · omega
        · by_cases h10 : k < 10
          · refine .inl ⟨by omega, ?_⟩
            rw [show k % 10 = k by omega, ← dec_one hk0 h10, h]
          · refine .inr ⟨by omega, ?_⟩
            rw [← List.append_assoc, ← dec_more (by omega), h])
      generalize hd : UInt8.ofNat (48 + k % 10).toNat = d at *
      clear hd
      go_wp2
      go_roundw
      case rel =>
        refine ⟨k / 10, [d] ++ out, ?_, ?_, by omega, by omega, HN2.out, by (repeat' (first | (with_reducible exact Below.refl _ _) | (with_reducible assumption) | (with_reducible refine Below.alloc ?_ ?_ _) | (with_reducible refine Below.drew ?_) | (with_reducible refine below_drewN ?_ _) | (with_reducible refine Below.setCell ?_ ?_ _) | (with_reducible refine below_call ?_ ?_ (by assumption)) | go_size))⟩
        · first | rfl | (rw [f1])
        · exact congrArg Value.string (ByteArray.mk_append_mk _ _)
      case measure => simp [intOf, f1]; omega
    · have HE : Hid (out = dec n) := Lib.hid (by rcases HR.out with ⟨-, h⟩ | ⟨h, -⟩; exact h; omega)
      go_wp2
      go_ret
      refine ⟨?_, by (repeat' (first | (with_reducible exact Below.refl _ _) | (with_reducible assumption) | (with_reducible refine Below.alloc ?_ ?_ _) | (with_reducible refine Below.drew ?_) | (with_reducible refine below_drewN ?_ _) | (with_reducible refine Below.setCell ?_ ?_ _) | (with_reducible refine below_call ?_ ?_ (by assumption)) | go_size))⟩
      rw [← HM.out, ← HE.out]
      exact congrArg (fun x => Ending.returned (Value.string x)) (ByteArray.mk_append_mk _ _)

/-- The list behind k rounds of the marking. -/
def markedX (L : List (List UInt8)) (m : Int) : Nat → List (List UInt8)
  | 0 => L
  | k + 1 => (markedX L m k).set k (mkT (m + k))
theorem markedX_length (L : List (List UInt8)) (m : Int) (k : Nat) : (markedX L m k).length = L.length := by
  induction k with
  | zero => rfl
  | succ k ih => simp [markedX, ih]
theorem markedX_get (L : List (List UInt8)) (m : Int) (k j : Nat) (hj : j < k) (hk : k ≤ L.length) : (markedX L m k).getD j [] = mkT (m + j) := by
  induction k with
  | zero => omega
  | succ k ih =>
    have hl := markedX_length L m k
    by_cases h : k = j
    · subst h
      simp [markedX, List.getD_eq_getElem?_getD, hl, show k < L.length by omega]
    · have := ih (by omega) (by omega)
      rw [← this]
      simp [markedX, List.getD_eq_getElem?_getD, List.getElem?_set_ne h]

set_option maxHeartbeats 1600000 in
theorem markStringS_any (L : List (List UInt8)) (v : Value) (b : Nat) (m : Int) (w : World) (r : XRow w b v L) (hl : L.length ≤ 2000000) (m0 : 1 ≤ m) (m1 : m ≤ 1000000) :
    Calls Tryd.prog 16 #[v, .int .i64 m] w fun e w' => e = .returned (.int .i64 (m + L.length)) ∧ XRow w' b v (markedX L m L.length) ∧ w.grownBy w' v.ownBlock := by
  obtain ⟨a1, c1, rfl, l1, mx, x1⟩ := r.cells
  have R := Lib.hid r
  clear r x1
  (go_enter Tryd.func16, Tryd.ntmps16)
  go_wp2
  go_loopw [1, 5] (fun q i wr => ∃ k : Nat, k ≤ L.length ∧ i = .int .i64 k ∧ q = .int .i64 (m + k) ∧ XRow wr b (.slice a1 L.length c1) (markedX L m k) ∧ w.grownBy wr (Value.slice a1 L.length c1).ownBlock) (fun _ i _ => L.length - (intOf i).toNat)
  case atStart => exact ⟨0, Nat.zero_le _, rfl, by simp, R.out, grownBy_refl _ _⟩
  case round =>
    obtain ⟨k, hk, rfl, rfl, hr, hg⟩ := hrel
    by_cases hlt : k < L.length
    · obtain ⟨a', c', e', -, -, x⟩ := hr.cells
      rw [markedX_length] at e' x
      obtain ⟨rfl, -, rfl⟩ : a1 = a' ∧ True ∧ c1 = c' := by simpa using e'
      obtain ⟨g1, rfl, e1, e2, e3⟩ := x k hlt
      have HR := Lib.hid hr
      have HG := Lib.hid hg
      clear hr hg x e' e3
      have i0 : (0 : Int) ≤ (k : Int) := Int.natCast_nonneg _
      have i1 : (k : Int) < (L.length : Int) := by omega
      have hmt := fun W => markText_any (m + k) (by omega) (by omega) W
      have HT := Lib.hid hmt
      clear hmt
      go_wp2_with fail
      refine (HT.out _).mono ?_
      rintro e1 w1 ⟨rfl, hb1⟩
      have y1 := hb1.size
      have HRB := Lib.hid (HR.out.below hb1)
      have HGB := Lib.hid (grownBy_trans HG.out ⟨hb1.os, hb1.tape, hb1.output, hb1.size, fun k hk _ => hb1.block k hk⟩)
      have hz : w1.frozen? ⟨g1, k, none⟩ = false := World.ownsRow.frozenAt (by have := HRB.out; unfold XRow at this; rw [markedX_length] at this; exact this) _
      have u1 : g1 < w1.heap.size := by omega
      have d0 : w1.cell? ⟨g1, k, none⟩ = some (str ((markedX L m k).getD k [])) := by have := HRB.out; unfold XRow at this; rw [markedX_length] at this; exact (World.ownsRow.cellAt this k (by omega)).trans (texts_get _ k (by rw [markedX_length]; exact hlt))
      clear HR HG
      go_wp2
      go_roundw
      case rel =>
        have h0 := HRB.out
        unfold XRow at h0
        rw [markedX_length] at h0
        have s1 := World.ownsRow.stored h0 k (str (mkT (m + k)))
        refine ⟨k + 1, by omega, by go_num, ret_num (by omega), ?_, ?_⟩
        · unfold XRow
          rw [markedX_length]
          have h2 := s1.1
          rw [texts_set] at h2
          exact h2
        · exact grownBy_trans HGB.out s1.2
      case measure => simp [intOf]; omega
    · obtain rfl : k = L.length := by omega
      go_wp2
      go_ret
      exact ⟨rfl, hr, hg⟩

set_option maxHeartbeats 1600000 in
theorem heldStringS_any (L : List (List UInt8)) (v : Value) (b : Nat) (m : Int) (w : World) (r : XRow w b v L) (hm : ∀ j, j < L.length → L.getD j [] = mkT (m + j)) (hl : L.length ≤ 2000000) (m0 : 1 ≤ m) (m1 : m ≤ 1000000) :
    Calls Tryd.prog 17 #[v, .int .i64 m] w fun e w' => e = .returned (.int .i64 (m + L.length)) ∧ Below w.heap.size w w' := by
  obtain ⟨a1, c1, rfl, l1, mx, x1⟩ := r.cells
  have X1 := Lib.hid x1
  have HM := Lib.hid hm
  clear r x1 hm
  (go_enter Tryd.func17, Tryd.ntmps17)
  go_wp2
  go_loopw [1, 5] (fun q i wr => ∃ k : Nat, k ≤ L.length ∧ i = .int .i64 k ∧ q = .int .i64 (m + k) ∧ Below w.heap.size w wr) (fun _ i _ => L.length - (intOf i).toNat)
  case atStart => exact ⟨0, Nat.zero_le _, rfl, by simp, Below.refl _ _⟩
  case round =>
    obtain ⟨k, hk, rfl, rfl, hbel⟩ := hrel
    have hz := hbel.size
    by_cases hlt : k < L.length
    · obtain ⟨g1, rfl, e1, e2, e3⟩ := X1.out k hlt
      rw [HM.out k hlt] at e3
      obtain ⟨hc0, hf0⟩ := bcell hbel
      have i0 : (0 : Int) ≤ (k : Int) := Int.natCast_nonneg _
      have i1 : (k : Int) < (L.length : Int) := by omega
      have u1 : g1 < wr.heap.size := by omega
      have HT := Lib.hid (fun W => markText_any (m + k) (by omega) (by omega) W)
      go_wp2_with fail
      refine wp_region_below (by kernel_rfl) (by kernel_rfl) ?_
      repeat (first | (apply wpB_take (hw := rfl); (intro wq hq; obtain ⟨hcq, hfq⟩ := bcell hq; unfold atB; go_simp; exact ⟨rfl, rfl⟩); simp only [Act.put, List.setIfInBounds_toArray, List.set_cons_zero, List.set_cons_succ]) | (apply wpB_take (hw := rfl); (intro wq hq; unfold atB; go_simp; exact ⟨rfl, HT.out _⟩); simp only [Act.put, List.setIfInBounds_toArray, List.set_cons_zero, List.set_cons_succ]))
      refine fun wn hbn => ?_
      try simp only [Act.put, List.setIfInBounds_toArray, List.set_cons_zero, List.set_cons_succ]
      go_wp2
      go_roundw
      case rel => exact ⟨k + 1, by omega, by go_num, ret_num (by omega), hbel.trans (hbn.mono hbel.size)⟩
      case measure => simp [intOf]; omega
    · obtain rfl : k = L.length := by omega
      go_wp2
      go_ret
      exact ⟨rfl, hbel⟩
theorem heldStringS_marked (L : List (List UInt8)) (v : Value) (b : Nat) (m : Int) (w : World) (r : XRow w b v (markedX L m L.length)) (hl : L.length ≤ 2000000) (m0 : 1 ≤ m) (m1 : m ≤ 1000000) :
    Calls Tryd.prog 17 #[v, .int .i64 m] w fun e w' => e = .returned (.int .i64 (m + L.length)) ∧ Below w.heap.size w w' := by
  have h := heldStringS_any (markedX L m L.length) v b m w r (fun j hj => markedX_get L m L.length j (by rw [markedX_length] at hj; exact hj) (Nat.le_refl _)) (by rw [markedX_length]; exact hl) m0 m1
  rw [markedX_length] at h
  exact h

/-! ### An argument -/
section
variable {H : Type} {enc : TypeId × Value → H} {w : World} {base : Nat} {spare : Nat → Bool} {held : Bool}
theorem open_texts {r : Reach} {b0 : Nat} {v : Value} {d : DataW H} {p : List MemPlace}
    (hv : Value.okWide Tryd.prog w r b0 22 v) (h : DataW.Trod enc Tryd.prog w base spare held 22 v d p) :
    ∃ (a : Option Addr) (c : Nat) (L : List (List UInt8)), v = .slice a L.length c ∧ XIn w a L ∧ (∀ x ∈ L, x.length ≤ maxLen) ∧ L.length ≤ maxLen := by
  obtain ⟨a0, len, cap, rfl⟩ := okWide_slice Tryd.underlying22 hv
  obtain ⟨fuel, hf⟩ := h
  rcases Go.Deep.open_strs Tryd.underlying22 Tryd.underlying9 Tryd.cellsString hf with ⟨hcs, -⟩ | ⟨a, len', cap', m, Sx, hcs, hb, hl, hm, hmm, -, hx⟩
  · simp [Value.cells] at hcs
    obtain ⟨rfl, rfl, rfl⟩ := hcs
    exact ⟨none, 0, [], rfl, fun k hk => absurd hk (Nat.not_lt_zero _), fun x hx => absurd hx List.not_mem_nil, Nat.zero_le _⟩
  · simp [Value.cells] at hcs
    obtain ⟨rfl, rfl, rfl⟩ := hcs
    have hlm : len ≤ m := by rw [hmm]; split <;> omega
    have hget : ∀ k, k < len → ((List.range len).map fun i => (Sx i).data.toList).getD k [] = (Sx k).data.toList := fun k hk => by simp [List.getD_eq_getElem?_getD, hk]
    refine ⟨some a, cap, (List.range len).map fun i => (Sx i).data.toList, by simp, fun k hk => ?_, fun y hy => ?_, by simp; omega⟩
    · have hk' : k < len := by simpa using hk
      rw [hget k hk']
      obtain ⟨h1, -⟩ := hx k (by omega)
      obtain ⟨b, off, sp⟩ := a
      have hsp : sp = none := by
        cases sp with
        | none => rfl
        | some y =>
          have h0 := (hx 0 (by omega)).1
          simp only [Addr.add, if_true] at h0
          simp only [World.cell?] at h0
          split at h0 <;> simp at h0
      subst hsp
      have g : ((⟨b, off, none⟩ : Addr).add k) = ⟨b, off + k, none⟩ := by
        unfold Addr.add
        by_cases e1 : k = 0 <;> simp [e1]
      rw [g] at h1
      have hlt : b < w.heap.size := by
        rcases Nat.lt_or_ge b w.heap.size with h' | h'
        · exact h'
        · simp [World.cell?, Array.getElem?_eq_none h'] at h1
      exact ⟨b, off, rfl, hlt, by simpa [str] using h1⟩
    · obtain ⟨k, hk, rfl⟩ := List.mem_map.1 hy
      have := (hx k (by have := List.mem_range.1 hk; omega)).2
      exact this
end

theorem made_zeroX (n : Nat) : (madeCells (str []).cells (n * 1)).toList = texts (List.replicate n []) := by
  apply List.ext_getElem?
  intro j
  by_cases hj : j < n
  · simp [texts, madeCells, Value.cells, hj, Nat.mod_one]
  · simp [texts, madeCells, hj]
theorem getD_set_selfX {L : List (List UInt8)} {k : Nat} {x : List UInt8} (hk : k < L.length) : (L.set k x).getD k [] = x := by
  rw [List.getD_eq_getElem?_getD, List.getElem?_set_self hk]; rfl
theorem getD_set_farX {L : List (List UInt8)} {k j : Nat} {x : List UInt8} (h : k ≠ j) : (L.set k x).getD j [] = L.getD j [] := by
  rw [List.getD_eq_getElem?_getD, List.getElem?_set_ne h, ← List.getD_eq_getElem?_getD]
theorem list_extX {L M : List (List UInt8)} (hl : L.length = M.length) (h : ∀ j, j < M.length → L.getD j [] = M.getD j []) : L = M := by
  apply List.ext_getElem hl
  intro i h1 h2
  have := h i h2
  simpa [List.getD_eq_getElem?_getD, h1, h2] using this

set_option maxHeartbeats 1600000 in
theorem toStringS_any (a : Option Addr) (c : Nat) (L : List (List UInt8)) (w : World) (hin : XIn w a L) (hl : L.length ≤ 1048576) :
    Calls Tryd.prog 9 #[.slice a L.length c] w fun e w' => ∃ v', e = .returned v' ∧ XRow w' w.heap.size v' L ∧ Below w.heap.size w w' := by
  have X1 := Lib.hid hin
  clear hin
  obtain ⟨i0, hi0, hz0, hz1, hz2⟩ := info_parts Tryd.infoString
  have I0 := Lib.hid hi0
  have Z0 := Lib.hid hz0
  have Z1 := Lib.hid hz1
  have Z2 := Lib.hid hz2
  clear hi0 hz0 hz1 hz2
  (go_enter Tryd.func9, Tryd.ntmps9)
  go_wp2_with (at_make; refine wpList_make_full _ rfl _ _ 22 rfl w.heap.size 9 i0 (str []) 1 Tryd.underlying22 I0.out Z0.out Z1.out .i64 .i64 _ _ L.length rfl rfl rfl rfl (by rw [Z2.out]; omega) (by unfold maxLen; omega) (by go_size) ?_; intro w0 hown0 hgrow0)
  rw [made_zeroX] at hown0
  have hb0 : Below w.heap.size w w0 := Below.grown (Below.refl _ _) hgrow0 (by go_size) (fun k hk => by cases hk)
  have hz0' := hgrow0.size
  have HO0 := Lib.hid hown0
  clear hown0 hgrow0
  go_wp2
  go_loopw [4] (fun i wr => ∃ (k : Nat) (dk : List (List UInt8)), k ≤ L.length ∧ i = .int .i64 k ∧ dk.length = L.length ∧ (∀ j, j < k → dk.getD j [] = L.getD j []) ∧ wr.ownsRow w.heap.size 9 1 (.slice (some ⟨w.heap.size, 0, none⟩) L.length L.length) L.length (texts dk) ∧ Below w.heap.size w wr) (fun i _ => L.length - (intOf i).toNat)
  case atStart => exact ⟨0, List.replicate L.length [], Nat.zero_le _, rfl, by simp, fun j hj => absurd hj (Nat.not_lt_zero _), HO0.out, hb0⟩
  case round =>
    obtain ⟨k, dk, hk, rfl, hdl, hall, hown, hbr⟩ := hrel
    have HA := Lib.hid hall
    have HO := Lib.hid hown
    have hzr := hbr.size
    have i0' : (0 : Int) ≤ (k : Int) := Int.natCast_nonneg _
    by_cases hlt : k < L.length
    · obtain ⟨b, off, rfl, e1, e2⟩ := X1.out k hlt
      have hglt : w.heap.size < wr.heap.size := by
        have h := World.ownsRow.lt hown w.heap.size rfl
        exact h.2
      have i1 : (k : Int) < (L.length : Int) := by omega
      obtain ⟨hcr, hfr⟩ := bcell hbr
      have f2 := (hcr b (off + k) e1).trans e2
      have u1 : b < wr.heap.size := by omega
      have z0 : wr.frozen? ⟨w.heap.size, k, none⟩ = false := World.ownsRow.frozenAt hown _
      have d0 := (World.ownsRow.cellAt hown k (by omega)).trans (texts_get dk k (by omega))
      have HN : Hid (∀ x, x = L.getD k [] → ∀ j, j < k + 1 → (dk.set k x).getD j [] = L.getD j []) := fun x hx j hj => by
        by_cases hjk : j = k
        · subst hjk; rw [getD_set_selfX (by omega), hx]
        · rw [getD_set_farX (by omega)]; exact HA.out j (by omega)
      clear e2 hcr hfr hall hown
      generalize dk.getD k [] = o1 at d0
      generalize L.getD k [] = x at *
      go_wp2
      go_roundw
      case rel =>
        have s1 := World.ownsRow.stored HO.out k (str x)
        refine ⟨k + 1, dk.set k x, by omega, by go_num, by simpa using hdl, HN.out _ rfl, ?_, ?_⟩
        · rw [← texts_set]
          exact s1.1
        · exact Below.grown hbr s1.2 (by omega) (fun j hj => some_le' hj (Nat.le_refl _))
      case measure => simp [intOf]; omega
    · obtain rfl : k = L.length := by omega
      have HE := Lib.hid (list_extX hdl HA.out)
      clear hall hown
      go_wp2
      go_ret
      refine ⟨_, rfl, ?_, hbr⟩
      rw [← HE.out]
      unfold XRow
      rw [hdl]
      exact HO.out
/-- What a function hands back that hands back a list and whether there is one: the list in memory of its own. -/
def TextsOut (w0 : World) (L : List (List UInt8)) (ok : Bool) (e : Ending) (w' : World) : Prop := ∃ v, e = .returned (.tuple #[v, .bool ok]) ∧ XRow w' w0.heap.size v L ∧ Below w0.heap.size w0 w'
theorem TextsOut.none {w0 w' : World} (h : Below w0.heap.size w0 w') : TextsOut w0 [] false (.returned (.tuple #[.slice none 0 0, .bool false])) w' :=
  ⟨_, rfl, XRow.nil _ _, h⟩
end Go.Proofs.YtijnppomeoaebaaDoor
