/- Rows of rows of two numbers in memory; the law's own functions over them. -/
import Derived.Test.YthdkbjjpbdledaaDIRow
import Derived.Laws.OwnMore
import Derived.OwnWalk
import Derived.Deep.AppendLies
set_option linter.unusedSimpArgs false
set_option linter.unusedVariables false
set_option maxRecDepth 100000
namespace Go.Proofs.Ythdkbjjpbdledaa
open Go.ChangeShapes Go.WideShapes Go.ChangeAt Go.RowKit

theorem ownsRow_sameI {W W' : World} {b n s : Nat} {e : TypeId} {v : Value} {xs : List Value} (h : W.ownsRow b e s v n xs) (hb : ∀ k, v.ownBlock = some k → W'.heap[k]? = W.heap[k]?) : W'.ownsRow b e s v n xs := by
  refine ⟨h.1, ?_⟩
  rcases h.2 with hn | ⟨g, cap, cur, h1, h2, h3, h4⟩
  · exact .inl hn
  · exact .inr ⟨g, cap, cur, h1, h2, (hb g (by rw [h1]; rfl)).trans h3, h4⟩
structure KeptI (M : Nat → Prop) (W W' : World) : Prop where
  os : W'.os = W.os
  tape : W'.tape = W.tape
  output : W'.output = W.output
  size : W.heap.size ≤ W'.heap.size
  block : ∀ k, k < W.heap.size → ¬ M k → W'.heap[k]? = W.heap[k]?
theorem KeptI.refl (M : Nat → Prop) (W : World) : KeptI M W W := ⟨rfl, rfl, rfl, Nat.le_refl _, fun _ _ _ => rfl⟩
theorem KeptI.trans {M : Nat → Prop} {A B C : World} (h : KeptI M A B) (k : KeptI M B C) : KeptI M A C :=
  ⟨k.os.trans h.os, k.tape.trans h.tape, k.output.trans h.output, Nat.le_trans h.size k.size, fun j hj hn => (k.block j (Nat.lt_of_lt_of_le hj h.size) hn).trans (h.block j hj hn)⟩
theorem KeptI.of_grown {M : Nat → Prop} {W W' : World} {row : Option Nat} (h : W.grownBy W' row) (hM : ∀ k, row = some k → M k) : KeptI M W W' :=
  ⟨h.os, h.tape, h.output, h.size, fun k hk hn => h.block k hk (fun e => hn (hM k e.symm))⟩
theorem KeptI.below {M : Nat → Prop} {W W' : World} {B : Nat} (h : KeptI M W W') (hB : B ≤ W.heap.size) (hM : ∀ k, k < B → ¬ M k) : Below B W W' :=
  ⟨h.os, h.tape, h.output, h.size, fun k hk => h.block k (Nat.lt_of_lt_of_le hk hB) (hM k hk)⟩
theorem Try.infoInts : (Try.prog.info? 52).map (fun i => (i.zero, i.size, i.bytes)) = some (some (.slice none 0 0), 1, 24) := by kernel_rfl
abbrev sl2 (g : Nat) : Value := .slice (some ⟨g, 0, none⟩) 2 2
/-- Rows of numbers, two in each, each row in a block; what the rows hold is told by their numbers. -/
def RAt (w : World) (b : Nat) (v : Value) (gs : List Nat) (C : Nat → List Int) : Prop :=
  w.ownsRow b 52 1 v gs.length (gs.map sl2) ∧ ∀ j (hj : j < gs.length), IRow w b (sl2 gs[j]) (C j) ∧ v.ownBlock ≠ some gs[j]
theorem RAt.inn {w : World} {b : Nat} {v : Value} {gs : List Nat} {C : Nat → List Int} (h : RAt w b v gs C) :
    ∃ (a : Option Addr) (c : Nat), v = .slice a gs.length c ∧ ∀ k (hk : k < gs.length), ∃ g, a = some ⟨g, 0, none⟩ ∧ b ≤ g ∧ g < w.heap.size ∧ w.cell? ⟨g, k, none⟩ = some (sl2 gs[k]) := by
  obtain ⟨h, -⟩ := h
  rcases h.2 with ⟨h1, h2⟩ | ⟨g, cap, cur, h1, h2, h3, h4, h5, h6, h7⟩
  · exact ⟨none, 0, by rw [h1, h2], fun k hk => absurd hk (by omega)⟩
  · refine ⟨some ⟨g, 0, none⟩, cap, h1, fun k hk => ⟨g, rfl, h2, ?_, ?_⟩⟩
    · rcases Nat.lt_or_ge g w.heap.size with hlt | hge
      · exact hlt
      · rw [Array.getElem?_eq_none hge] at h3; cases h3
    · rw [h1] at h
      rw [World.ownsRow.cellAt h k (by omega)]
      simp [hk]
theorem IRow.sameI {w w' : World} {b : Nat} {v : Value} {L : List Int} (h : IRow w b v L) (hb : ∀ k, v.ownBlock = some k → w'.heap[k]? = w.heap[k]?) : IRow w' b v L := ownsRow_sameI h hb
theorem RAt.lt {w : World} {b : Nat} {v : Value} {gs : List Nat} {C : Nat → List Int} (h : RAt w b v gs C) {j : Nat} (hj : j < gs.length) : b ≤ gs[j] ∧ gs[j] < w.heap.size := World.ownsRow.lt (h.2 j hj).1 _ rfl
theorem RAt.same {w w' : World} {b : Nat} {v : Value} {gs : List Nat} {C : Nat → List Int} (h : RAt w b v gs C) (hb : ∀ k, v.ownBlock = some k → w'.heap[k]? = w.heap[k]?) (hx : ∀ j (hj : j < gs.length), w'.heap[gs[j]]? = w.heap[gs[j]]?) : RAt w' b v gs C :=
  ⟨ownsRow_sameI h.1 hb, fun j hj => ⟨(h.2 j hj).1.sameI (fun k e => by cases e; exact hx j hj), (h.2 j hj).2⟩⟩
theorem RAt.below {w w' : World} {b : Nat} {v : Value} {gs : List Nat} {C : Nat → List Int} (h : RAt w b v gs C) (hb : Below w.heap.size w w') : RAt w' b v gs C :=
  h.same (fun k e => hb.block k (World.ownsRow.lt h.1 k e).2) (fun j hj => hb.block _ (h.lt hj).2)
set_option maxHeartbeats 3200000 in
theorem eqIntSS_same (gs hs : List Nat) (C : Nat → List Int) (v1 v2 : Value) (b1 b2 : Nat) (w : World) (r1 : RAt w b1 v1 gs C) (r2 : RAt w b2 v2 hs C) (hlen : hs.length = gs.length) (hC : ∀ j, j < gs.length → (C j).length = 2) (hmx : gs.length ≤ 2000000) :
    Calls Try.prog 48 #[v1, v2] w fun e w' => e = .returned (.bool true) ∧ Below w.heap.size w w' := by
  obtain ⟨a1, c1, rfl, x1⟩ := r1.inn
  obtain ⟨a2, c2, rfl, x2⟩ := r2.inn
  have X1 := Lib.hid x1
  have X2 := Lib.hid x2
  have R1 := Lib.hid r1
  have R2 := Lib.hid r2
  have HC := Lib.hid hC
  clear x1 x2 r1 r2 hC
  have hl2 : (hs.length : Int) = (gs.length : Int) := by omega
  (go_enter Try.func48, Try.ntmps48)
  go_wp2
  go_loopw [5] (fun i wr => ∃ k : Nat, k ≤ gs.length ∧ i = .int .i64 k ∧ Below w.heap.size w wr) (fun i _ => gs.length - (intOf i).toNat)
  case atStart => exact ⟨0, Nat.zero_le _, rfl, Below.refl _ _⟩
  case round =>
    obtain ⟨k, hk, rfl, hbel⟩ := hrel
    have hz := hbel.size
    have k0 : (0 : Int) ≤ (k : Int) := Int.natCast_nonneg _
    by_cases hlt : k < gs.length
    · have k1 : (k : Int) < (gs.length : Int) := by omega
      obtain ⟨g1, rfl, -, l1, y1⟩ := X1.out k hlt
      obtain ⟨g2, rfl, -, l2, y2⟩ := X2.out k (by omega)
      have k2 : (k : Int) < (hs.length : Int) := by omega
      have p1 := ((R1.out.below hbel).2 k hlt).1
      have p2 := ((R2.out.below hbel).2 k (by omega)).1
      obtain ⟨hc0, hf0⟩ := bcell hbel
      have u1 : g1 < wr.heap.size := by omega
      have u2 : g2 < wr.heap.size := by omega
      have z1 : wr.cell? ⟨g1, k, none⟩ = some (sl2 gs[k]) := (hc0 _ _ l1).trans y1
      have z2 : wr.cell? ⟨g2, k, none⟩ = some (sl2 hs[k]) := (hc0 _ _ l2).trans y2
      have h2k := HC.out k hlt
      have CE := Lib.hid (fun w (hq : Below wr.heap.size wr w) => eqIntS_same (C k) _ _ _ _ w (p1.below hq) (p2.below hq) (by omega))
      generalize gs[k] = ga at *
      generalize hs[k] = ha at *
      clear y1 y2 p1 p2 hc0 hf0
      simp only [sl2] at z1 z2 CE
      go_wp2_with fail
      refine wp_region_below (by kernel_rfl) (by kernel_rfl) ?_
      repeat (first | (apply wpB_take (hw := rfl); (intro wq hq; obtain ⟨hcq, hfq⟩ := bcell hq; unfold atB; go_simp; exact ⟨rfl, rfl⟩); simp only [Act.put, List.setIfInBounds_toArray, List.set_cons_zero, List.set_cons_succ]) | (apply wpB_take (hw := rfl); (intro wq hq; unfold atB; go_simp; exact ⟨rfl, CE.out _ hq⟩); simp only [Act.put, List.setIfInBounds_toArray, List.set_cons_zero, List.set_cons_succ]))
      refine fun wn hbn => ?_
      try simp only [Act.put, List.setIfInBounds_toArray, List.set_cons_zero, List.set_cons_succ]
      go_wp2
      go_roundw
      case rel => exact ⟨k + 1, by omega, by go_num, hbel.trans (hbn.mono hbel.size)⟩
      case measure => simp [intOf]; omega
    · have k1 : ¬ (k : Int) < (gs.length : Int) := by omega
      go_wp2
      go_ret
      exact ⟨rfl, hbel⟩
theorem mark2I {L : List Int} (h2 : L.length = 2) (v : Value) (b : Nat) (m : Int) (w : World) (r : IRow w b v L) (m0 : 0 ≤ m) (m1 : m ≤ 1000000) :
    Calls Try.prog 54 #[v, .int .i64 m] w fun e w' => e = .returned (.int .i64 (m + 2)) ∧ IRow w' b v (markedI L m 2) ∧ w.grownBy w' v.ownBlock := by
  have := markIntS_any L v b m w r (by omega) m0 m1
  rw [h2] at this
  exact this
theorem held2I {L : List Int} (h2 : L.length = 2) (v : Value) (b : Nat) (m : Int) (w : World) (r : IRow w b v (markedI L m 2)) (m0 : 0 ≤ m) (m1 : m ≤ 1000000) :
    Calls Try.prog 55 #[v, .int .i64 m] w fun e w' => e = .returned (.int .i64 (m + 2)) ∧ Below w.heap.size w w' := by
  have := heldIntS_marked L v b m w (by rw [h2]; exact r) (by omega) m0 m1
  rw [h2] at this
  exact this
def mkCI (C : Nat → List Int) (m : Int) (k : Nat) (j : Nat) : List Int := if j < k then markedI (C j) (m + 2 * (j : Int)) 2 else C j
theorem mkCI_other {C : Nat → List Int} {m : Int} {k j : Nat} (h : j ≠ k) : mkCI C m (k + 1) j = mkCI C m k j := by
  unfold mkCI
  by_cases h' : j < k
  · rw [if_pos h', if_pos (by omega)]
  · rw [if_neg h', if_neg (by omega)]
theorem nodup_neI {gs : List Nat} (hN : gs.Nodup) {j k : Nat} (hj : j < gs.length) (hk : k < gs.length) (h : j ≠ k) : gs[j] ≠ gs[k] := by
  have := List.pairwise_iff_getElem.1 hN
  rcases Nat.lt_or_gt_of_ne h with h | h
  · exact this j k hj hk h
  · exact (this k j hk hj h).symm
theorem own_memI {gs : List Nat} {k : Nat} (hk : k < gs.length) {y : Nat} (e : (sl2 gs[k]).ownBlock = some y) : y ∈ gs := by
  have : gs[k] = y := by simpa [Value.ownBlock] using e
  subst this
  exact List.getElem_mem _
def MkII (w wr : World) (b : Nat) (v : Value) (gs : List Nat) (C : Nat → List Int) (m : Int) (k : Nat) : Prop := RAt wr b v gs (mkCI C m k) ∧ KeptI (fun x => x ∈ gs) w wr
set_option maxHeartbeats 3200000 in
theorem markIntSS_any (gs : List Nat) (C : Nat → List Int) (v : Value) (b : Nat) (m : Int) (w : World) (r : RAt w b v gs C) (hN : gs.Nodup) (hC : ∀ j, j < gs.length → (C j).length = 2) (hmx : gs.length ≤ 200000) (m0 : 0 ≤ m) (m1 : m ≤ 1000) :
    Calls Try.prog 49 #[v, .int .i64 m] w fun e w' => e = .returned (.int .i64 (m + 2 * (gs.length : Int))) ∧ RAt w' b v gs (mkCI C m gs.length) ∧ KeptI (fun x => x ∈ gs) w w' := by
  obtain ⟨a1, c1, rfl, -⟩ := r.inn
  have R := Lib.hid r
  have HC := Lib.hid hC
  have HN := Lib.hid hN
  clear r hC hN
  (go_enter Try.func49, Try.ntmps49)
  go_wp2
  go_loopw [1, 5] (fun q i wr => ∃ k : Nat, k ≤ gs.length ∧ i = .int .i64 k ∧ q = .int .i64 (m + 2 * (k : Int)) ∧ MkII w wr b (.slice a1 gs.length c1) gs C m k) (fun _ i _ => gs.length - (intOf i).toNat)
  case atStart => exact ⟨0, Nat.zero_le _, rfl, by simp, by have h := R.out; rw [show mkCI C m 0 = C from by funext j; simp [mkCI]]; exact h, KeptI.refl _ _⟩
  case round =>
    obtain ⟨k, hk, rfl, rfl, hI⟩ := hrel
    have k0 : (0 : Int) ≤ (k : Int) := Int.natCast_nonneg _
    have HI := Lib.hid hI
    clear hI
    by_cases hlt : k < gs.length
    · have k1 : (k : Int) < (gs.length : Int) := by omega
      obtain ⟨a', c', e', x⟩ := HI.out.1.inn
      obtain ⟨rfl, -, rfl⟩ : a1 = a' ∧ True ∧ c1 = c' := by simpa using e'
      obtain ⟨g1, rfl, -, l1, y1⟩ := x k hlt
      have p1 := (HI.out.1.2 k hlt).1
      rw [show mkCI C m k k = C k from by simp [mkCI]] at p1
      have CM := Lib.hid (mark2I (HC.out k hlt) (sl2 gs[k]) b (m + 2 * (k : Int)) wr p1 (by omega) (by omega))
      clear x e' p1
      simp only [sl2] at y1 CM
      go_wp2_with fail
      refine CM.out.mono ?_
      rintro e2 w2 ⟨rfl, hr2, hg2⟩
      have HR2 := Lib.hid hr2
      have HG2 := Lib.hid hg2
      clear hr2 hg2
      go_wp2
      go_roundw
      case rel =>
        refine ⟨k + 1, by omega, by go_num, ret_num (by omega), ?_, ?_⟩
        · have hb : ∀ y, y < wr.heap.size → y ≠ gs[k] → w2.heap[y]? = wr.heap[y]? := fun y hy hne => HG2.out.block y hy (fun e => hne (by simpa [Value.ownBlock] using e))
          refine ⟨ownsRow_sameI HI.out.1.1 (fun y e => hb y (World.ownsRow.lt HI.out.1.1 y e).2 (fun e' => (HI.out.1.2 k hlt).2 (e' ▸ e))), fun j hj => ⟨?_, (HI.out.1.2 j hj).2⟩⟩
          by_cases hjk : j = k
          · subst hjk
            rw [show mkCI C m (j + 1) j = markedI (C j) (m + 2 * (j : Int)) 2 from by simp [mkCI]]
            exact HR2.out
          · rw [mkCI_other hjk]
            exact (HI.out.1.2 j hj).1.sameI (fun y e => by cases e; exact hb _ (HI.out.1.lt hj).2 (nodup_neI HN.out hj hlt hjk))
        · exact KeptI.trans HI.out.2 (KeptI.of_grown (M := fun x => x ∈ gs) HG2.out (fun y e => own_memI hlt e))
      case measure => simp [intOf]; omega
    · obtain rfl : k = gs.length := by omega
      go_wp2
      go_ret
      exact ⟨rfl, HI.out.1, HI.out.2⟩
set_option maxHeartbeats 3200000 in
theorem heldIntSS_marked (gs : List Nat) (C : Nat → List Int) (v : Value) (b : Nat) (m : Int) (w : World) (r : RAt w b v gs (mkCI C m gs.length)) (hC : ∀ j, j < gs.length → (C j).length = 2) (hmx : gs.length ≤ 200000) (m0 : 0 ≤ m) (m1 : m ≤ 1000) :
    Calls Try.prog 50 #[v, .int .i64 m] w fun e w' => e = .returned (.int .i64 (m + 2 * (gs.length : Int))) ∧ Below w.heap.size w w' := by
  obtain ⟨a1, c1, rfl, x1⟩ := r.inn
  have R := Lib.hid r
  have HC := Lib.hid hC
  have X1 := Lib.hid x1
  clear r hC x1
  (go_enter Try.func50, Try.ntmps50)
  go_wp2
  go_loopw [1, 5] (fun q i wr => ∃ k : Nat, k ≤ gs.length ∧ i = .int .i64 k ∧ q = .int .i64 (m + 2 * (k : Int)) ∧ Below w.heap.size w wr) (fun _ i _ => gs.length - (intOf i).toNat)
  case atStart => exact ⟨0, Nat.zero_le _, rfl, by simp, Below.refl _ _⟩
  case round =>
    obtain ⟨k, hk, rfl, rfl, hbel⟩ := hrel
    have k0 : (0 : Int) ≤ (k : Int) := Int.natCast_nonneg _
    have hz := hbel.size
    by_cases hlt : k < gs.length
    · have k1 : (k : Int) < (gs.length : Int) := by omega
      obtain ⟨g1, rfl, -, l1, y1⟩ := X1.out k hlt
      have p1 := ((R.out.below hbel).2 k hlt).1
      rw [show mkCI C m gs.length k = markedI (C k) (m + 2 * (k : Int)) 2 from by simp [mkCI, hlt]] at p1
      obtain ⟨hc0, hf0⟩ := bcell hbel
      have z1 : wr.cell? ⟨g1, k, none⟩ = some (sl2 gs[k]) := (hc0 _ _ l1).trans y1
      have u1 : g1 < wr.heap.size := by omega
      have CM := Lib.hid (held2I (HC.out k hlt) (sl2 gs[k]) b (m + 2 * (k : Int)) wr p1 (by omega) (by omega))
      have n1 : ¬ m + 2 * (k : Int) + 2 < 0 := by omega
      clear p1 y1 hc0 hf0
      simp only [sl2] at z1 CM
      go_wp2_with fail
      refine CM.out.mono ?_
      rintro e2 w2 ⟨rfl, hb2⟩
      go_wp2
      go_roundw
      case rel => exact ⟨k + 1, by omega, by go_num, ret_num (by omega), hbel.trans (hb2.mono hbel.size)⟩
      case measure => simp [intOf]; omega
    · obtain rfl : k = gs.length := by omega
      go_wp2
      go_ret
      exact ⟨rfl, hbel⟩
/-- A row of rows of two numbers, each row in a block of its own. -/
def RRow (w : World) (b : Nat) (v : Value) (ts : List (Nat × Int × Int)) : Prop :=
  w.ownsRow b 52 1 v ts.length (ts.map fun t => sl2 t.1) ∧ (∀ t, t ∈ ts → IRow w b (sl2 t.1) [t.2.1, t.2.2] ∧ v.ownBlock ≠ some t.1) ∧ (ts.map (·.1)).Nodup
def Cof2 (LL : List (Int × Int)) (j : Nat) : List Int := match LL[j]? with | some t => [t.1, t.2] | none => []
theorem Cof2_len {LL : List (Int × Int)} {j : Nat} (hj : j < LL.length) : (Cof2 LL j).length = 2 := by
  simp [Cof2, hj]
theorem RRow.rows {w : World} {b : Nat} {v : Value} {ts : List (Nat × Int × Int)} {LL : List (Int × Int)} (h : RRow w b v ts) (e : ts.map (·.2) = LL) : RAt w b v (ts.map (·.1)) (Cof2 LL) := by
  refine ⟨by have := h.1; rw [List.length_map, List.map_map]; exact this, fun j hj => ?_⟩
  have hj' : j < ts.length := by simpa using hj
  obtain ⟨h1, h2⟩ := h.2.1 ts[j] (List.getElem_mem hj')
  have hc : Cof2 LL j = [ts[j].2.1, ts[j].2.2] := by subst e; simp [Cof2, hj']
  rw [hc, List.getElem_map]
  exact ⟨h1, h2⟩
theorem newI {w : World} {b g : Nat} {l y : Int} (hb : b ≤ g) (hg : w.heap[g]? = some (.cells #[.int .i64 l, .int .i64 y] 3 (0, 0))) : IRow w b (sl2 g) [l, y] :=
  ⟨rfl, .inr ⟨g, 2, _, rfl, hb, hg, Nat.le_refl _, by unfold maxLen; omega, rfl, rfl⟩⟩
theorem RRow.push {wr w4 : World} {b : Nat} {v : Value} {ts : List (Nat × Int × Int)} (h : RRow wr b v ts) (hb : b ≤ wr.heap.size) {l y : Int} {g4 c4 : Nat}
    (hown : w4.ownsRow b 52 1 (.slice (some ⟨g4, 0, none⟩) (ts.length + 1) c4) (ts.length + 1) ((ts.map fun t => sl2 t.1) ++ [sl2 wr.heap.size]))
    (hgrow : ((wr.alloc (.cells #[.int .i64 l, .int .i64 y] 3)).alloc (.cells #[sl2 wr.heap.size] 52)).grownBy w4 v.ownBlock)
    (hat : v.ownBlock = some g4 ∨ g4 = wr.heap.size + 2) : RRow w4 b (.slice (some ⟨g4, 0, none⟩) (ts.length + 1) c4) (ts ++ [(wr.heap.size, l, y)]) := by
  have hv : ∀ k, v.ownBlock = some k → k < wr.heap.size := fun k e => (World.ownsRow.lt h.1 k e).2
  have hbl : Below wr.heap.size wr ((wr.alloc (.cells #[.int .i64 l, .int .i64 y] 3)).alloc (.cells #[sl2 wr.heap.size] 52)) := by (repeat' (first | (with_reducible exact Below.refl _ _) | (with_reducible assumption) | (with_reducible refine Below.alloc ?_ ?_ _) | (with_reducible refine Below.drew ?_) | (with_reducible refine below_drewN ?_ _) | (with_reducible refine Below.setCell ?_ ?_ _) | (with_reducible refine below_call ?_ ?_ (by assumption)) | go_size))
  have bl : ∀ k, k < wr.heap.size → v.ownBlock ≠ some k → w4.heap[k]? = wr.heap[k]? := fun k hk hne => (hgrow.block k (by simp; omega) (fun e => hne e.symm)).trans (hbl.block k hk)
  have hin : ∀ t, t ∈ ts → t.1 < wr.heap.size := fun t ht => (World.ownsRow.lt (h.2.1 t ht).1 _ rfl).2
  have hnew : w4.heap[wr.heap.size]? = some (.cells #[.int .i64 l, .int .i64 y] 3 (0, 0)) := by
    refine (hgrow.block wr.heap.size (by simp; omega) (fun e => by have := hv _ e.symm; omega)).trans ?_
    have e1 := heap_alloc_new wr (.cells #[.int .i64 l, .int .i64 y] 3)
    have e2 : Below (wr.alloc (.cells #[.int .i64 l, .int .i64 y] 3)).heap.size (wr.alloc (.cells #[.int .i64 l, .int .i64 y] 3)) ((wr.alloc (.cells #[.int .i64 l, .int .i64 y] 3)).alloc (.cells #[sl2 wr.heap.size] 52)) := by (repeat' (first | (with_reducible exact Below.refl _ _) | (with_reducible assumption) | (with_reducible refine Below.alloc ?_ ?_ _) | (with_reducible refine Below.drew ?_) | (with_reducible refine below_drewN ?_ _) | (with_reducible refine Below.setCell ?_ ?_ _) | (with_reducible refine below_call ?_ ?_ (by assumption)) | go_size))
    exact (e2.block wr.heap.size (by simp)).trans e1
  refine ⟨by rw [List.length_append, List.map_append]; exact hown, fun t ht => ?_, ?_⟩
  · rcases List.mem_append.1 ht with ht | ht
    · obtain ⟨p1, p2⟩ := h.2.1 t ht
      refine ⟨p1.sameI (fun k e => by cases e; exact bl _ (hin t ht) p2), fun e => ?_⟩
      have e' : g4 = t.1 := by simpa [Value.ownBlock] using e
      rcases hat with hat | hat
      · exact p2 (e' ▸ hat)
      · have := hin t ht; omega
    · obtain rfl : t = (wr.heap.size, l, y) := by simpa using ht
      refine ⟨newI hb hnew, fun e => ?_⟩
      have e' : g4 = wr.heap.size := by simpa [Value.ownBlock] using e
      rcases hat with hat | hat
      · have := hv _ hat; omega
      · omega
  · rw [List.map_append]
    refine List.nodup_append.2 ⟨h.2.2, by simp, ?_⟩
    intro a ha c hc e
    obtain ⟨t, ht, rfl⟩ := List.mem_map.1 ha
    have := hin t ht
    obtain rfl : c = wr.heap.size := by simpa using hc
    omega
theorem RRow.nil (w : World) (b : Nat) : RRow w b (.slice none 0 0) [] := ⟨World.ownsRow_nil _ _ _ _, by simp, by simp⟩
theorem RRow.one {w : World} {b : Nat} (hb : b ≤ w.heap.size) (l y : Int) : RRow ((w.alloc (.cells #[.int .i64 l, .int .i64 y] 3)).alloc (.cells #[sl2 w.heap.size] 52)) b (.slice (some ⟨w.heap.size + 1, 0, none⟩) 1 1) [(w.heap.size, l, y)] := by
  have e1 := heap_alloc_new w (.cells #[.int .i64 l, .int .i64 y] 3)
  have e2 : Below (w.alloc (.cells #[.int .i64 l, .int .i64 y] 3)).heap.size (w.alloc (.cells #[.int .i64 l, .int .i64 y] 3)) ((w.alloc (.cells #[.int .i64 l, .int .i64 y] 3)).alloc (.cells #[sl2 w.heap.size] 52)) := by (repeat' (first | (with_reducible exact Below.refl _ _) | (with_reducible assumption) | (with_reducible refine Below.alloc ?_ ?_ _) | (with_reducible refine Below.drew ?_) | (with_reducible refine below_drewN ?_ _) | (with_reducible refine Below.setCell ?_ ?_ _) | (with_reducible refine below_call ?_ ?_ (by assumption)) | go_size))
  have e3 := heap_alloc_new (w.alloc (.cells #[.int .i64 l, .int .i64 y] 3)) (.cells #[sl2 w.heap.size] 52)
  refine ⟨⟨rfl, .inr ⟨w.heap.size + 1, 1, _, rfl, by omega, by simpa using e3, Nat.le_refl _, by unfold maxLen; omega, rfl, rfl⟩⟩, fun t ht => ?_, by simp⟩
  obtain rfl : t = (w.heap.size, l, y) := by simpa using ht
  exact ⟨newI hb ((e2.block w.heap.size (by simp)).trans e1), by simp [Value.ownBlock]⟩
theorem RRow.below {w w' : World} {b : Nat} {v : Value} {ts : List (Nat × Int × Int)} (h : RRow w b v ts) (hb : Below w.heap.size w w') : RRow w' b v ts :=
  ⟨ownsRow_sameI h.1 (fun k e => hb.block k (World.ownsRow.lt h.1 k e).2), fun t ht => ⟨(h.2.1 t ht).1.below hb, (h.2.1 t ht).2⟩, h.2.2⟩
theorem RRow.inn {w : World} {b : Nat} {v : Value} {ts : List (Nat × Int × Int)} (h : RRow w b v ts) : ∃ a c, v = .slice a ts.length c := by
  rcases h.1.2 with ⟨h1, h2⟩ | ⟨g, cap, cur, h1, _⟩
  · exact ⟨none, 0, by rw [h1, h2]⟩
  · exact ⟨_, _, h1⟩
end Go.Proofs.Ythdkbjjpbdledaa
