/- MotionWorks by the model; the law's own functions over rows of rows. -/
import Derived.Test.YtaifcemdabcfjaaMw
set_option linter.unusedSimpArgs false
set_option linter.unusedVariables false
set_option maxRecDepth 100000
namespace Go.Proofs.Ytaifcemdabcfjaa
open Go.RowKit

def WorksIn (w0 : World) (r : List Tr × Bool) (e : Ending) (w' : World) : Prop :=
  ∃ v ts, e = .returned (.tuple #[v, .bool r.2]) ∧ ts.map (·.2) = r.1 ∧ TrRow w' w0.heap.size v ts ∧ Below w0.heap.size w0 w'
theorem WorksIn.none {w0 w' : World} (h : Below w0.heap.size w0 w') : WorksIn w0 ([], false) (.returned (.tuple #[.slice none 0 0, .bool false])) w' :=
  ⟨_, [], rfl, rfl, ⟨World.ownsRow_nil _ _ _ _, by simp⟩, h⟩
set_option maxHeartbeats 1600000 in
theorem specMotionWorks_any (h most : Int) (w : World) :
    Calls Try.prog 50 #[.int .i64 h, .int .i64 most] w (WorksIn w (mwR h most)) := by
  cases hh : inB h 2 24
  · have HM := Lib.hid (show mwR h most = ([], false) from by simp [mwR, askW, hh])
    (go_enter Try.func50, Try.ntmps50)
    go_wp2_with fail
    refine (diHours_is _ hh _).mono ?_
    (rintro e1 w1 ⟨rfl, rfl⟩)
    go_wp2
    go_ret2
    rw [HM.out]; exact WorksIn.none (by (repeat' (first | (with_reducible exact Below.refl _ _) | (with_reducible assumption) | (with_reducible refine Below.alloc ?_ ?_ _) | (with_reducible refine Below.drew ?_) | (with_reducible refine below_drewN ?_ _) | (with_reducible refine Below.setCell ?_ ?_ _) | (with_reducible refine below_call ?_ ?_ (by assumption)) | go_size)))
  · cases hw : wheelB most
    · have HM := Lib.hid (show mwR h most = ([], false) from by simp [mwR, askW, hw])
      (go_enter Try.func50, Try.ntmps50)
      go_wp2_with fail
      refine (diHours_is _ hh _).mono ?_
      (rintro e1 w1 ⟨rfl, rfl⟩)
      go_wp2_with fail
      refine (geWheel_is _ hw _).mono ?_
      (rintro e1 w1 ⟨rfl, rfl⟩)
      go_wp2
      go_ret2
      rw [HM.out]; exact WorksIn.none (by (repeat' (first | (with_reducible exact Below.refl _ _) | (with_reducible assumption) | (with_reducible refine Below.alloc ?_ ?_ _) | (with_reducible refine Below.drew ?_) | (with_reducible refine below_drewN ?_ _) | (with_reducible refine Below.setCell ?_ ?_ _) | (with_reducible refine below_call ?_ ?_ (by assumption)) | go_size)))
    · have ha : askW h most = true := by simp [askW, hh, hw]
      obtain ⟨⟨h1, h2⟩, m1, m2⟩ := askW_bd ha
      obtain ⟨n, rfl, hn, hn2⟩ := fm_n ha
      have HM := Lib.hid (show mwR h (5 + (n : Int)) = if (worksL h n).length ≤ 200 then (worksL h n, true) else ([], false) from by rw [mwR, if_pos ha, hn2])
      have CG := fun w => geWorks_any h n ⟨h1, h2⟩ hn w
      have CG := Lib.hid CG
      (go_enter Try.func50, Try.ntmps50)
      go_wp2_with fail
      refine (diHours_is _ hh _).mono ?_
      (rintro e1 w1 ⟨rfl, rfl⟩)
      go_wp2_with fail
      refine (geWheel_is _ hw _).mono ?_
      (rintro e1 w1 ⟨rfl, rfl⟩)
      go_wp2_with fail
      refine (CG.out _).mono ?_
      rintro e1 w1 ⟨v1, rfl, ts, t1, t2, hrow, hb1⟩
      obtain ⟨ra, rc, rfl, -⟩ := hrow.inn
      have HR := Lib.hid hrow
      by_cases hl : ts.length ≤ 200
      · have HQ := Lib.hid (show mwR h (5 + (n : Int)) = (worksL h n, true) by rw [HM.out, if_pos (by rw [← t1]; simpa using hl)])
        have T1 := Lib.hid t1
        have hl2 : ¬ (200 : Int) < (ts.length : Int) := by omega
        clear hrow t1
        go_wp2
        go_ret2
        rw [HQ.out]
        exact ⟨_, ts, rfl, T1.out, HR.out, hb1⟩
      · have HQ := Lib.hid (show mwR h (5 + (n : Int)) = ([], false) by rw [HM.out, if_neg (by rw [← t1]; simpa using hl)])
        have hl2 : (200 : Int) < (ts.length : Int) := by omega
        clear hrow t1
        go_wp2
        go_ret2
        rw [HQ.out]
        exact WorksIn.none hb1
abbrev slV (g : Nat) : Value := .slice (some ⟨g, 0, none⟩) 2 2
/-- Rows of pairs, two in each, each row in a block; what the rows hold is told by their numbers. -/
def RowsAt (w : World) (b : Nat) (v : Value) (gs : List Nat) (C : Nat → List (Int × Int)) : Prop :=
  w.ownsRow b 31 1 v gs.length (gs.map slV) ∧ ∀ j (hj : j < gs.length), RowPair w b (slV gs[j]) (C j) ∧ v.ownBlock ≠ some gs[j]
def Cof (LL : List Tr) (j : Nat) : List (Int × Int) := match LL[j]? with | some t => [t.1, t.2] | none => []
theorem TrRow.rows {w : World} {b : Nat} {v : Value} {ts : List (Nat × Tr)} {LL : List Tr} (h : TrRow w b v ts) (e : ts.map (·.2) = LL) : RowsAt w b v (ts.map (·.1)) (Cof LL) := by
  refine ⟨by have := h.1; rw [List.length_map, List.map_map]; exact this, fun j hj => ?_⟩
  have hj' : j < ts.length := by simpa using hj
  obtain ⟨h1, h2⟩ := h.2 ts[j] (List.getElem_mem hj')
  have hc : Cof LL j = [ts[j].2.1, ts[j].2.2] := by subst e; simp [Cof, hj']
  rw [hc, List.getElem_map]
  exact ⟨h1, h2⟩
theorem RowsAt.inn {w : World} {b : Nat} {v : Value} {gs : List Nat} {C : Nat → List (Int × Int)} (h : RowsAt w b v gs C) :
    ∃ (a : Option Addr) (c : Nat), v = .slice a gs.length c ∧ ∀ k (hk : k < gs.length), ∃ g, a = some ⟨g, 0, none⟩ ∧ b ≤ g ∧ g < w.heap.size ∧ w.cell? ⟨g, k, none⟩ = some (slV gs[k]) := by
  obtain ⟨h, -⟩ := h
  rcases h.2 with ⟨h1, h2⟩ | ⟨g, cap, cur, h1, h2, h3, h4, h5, h6, h7⟩
  · exact ⟨none, 0, by rw [h1, h2], fun k hk => absurd hk (by omega)⟩
  · refine ⟨some ⟨g, 0, none⟩, cap, h1, fun k hk => ⟨g, rfl, h2, ?_, ?_⟩⟩
    · rcases Nat.lt_or_ge g w.heap.size with hlt | hge
      · exact hlt
      · rw [Array.getElem?_eq_none hge] at h3; cases h3
    · rw [h1] at h
      rw [World.ownsRow.cellAt h k (by omega)]
      simp [hk]
theorem RowPair.same {w w' : World} {b : Nat} {v : Value} {L : List (Int × Int)} (h : RowPair w b v L) (hb : ∀ k, v.ownBlock = some k → w'.heap[k]? = w.heap[k]?) : RowPair w' b v L := ownsRow_same h hb
theorem RowsAt.lt {w : World} {b : Nat} {v : Value} {gs : List Nat} {C : Nat → List (Int × Int)} (h : RowsAt w b v gs C) {j : Nat} (hj : j < gs.length) : b ≤ gs[j] ∧ gs[j] < w.heap.size := World.ownsRow.lt (h.2 j hj).1 _ rfl
theorem RowsAt.same {w w' : World} {b : Nat} {v : Value} {gs : List Nat} {C : Nat → List (Int × Int)} (h : RowsAt w b v gs C) (hb : ∀ k, v.ownBlock = some k → w'.heap[k]? = w.heap[k]?) (hx : ∀ j (hj : j < gs.length), w'.heap[gs[j]]? = w.heap[gs[j]]?) : RowsAt w' b v gs C :=
  ⟨ownsRow_same h.1 hb, fun j hj => ⟨(h.2 j hj).1.same (fun k e => by cases e; exact hx j hj), (h.2 j hj).2⟩⟩
theorem RowsAt.below {w w' : World} {b : Nat} {v : Value} {gs : List Nat} {C : Nat → List (Int × Int)} (h : RowsAt w b v gs C) (hb : Below w.heap.size w w') : RowsAt w' b v gs C :=
  h.same (fun k e => hb.block k (World.ownsRow.lt h.1 k e).2) (fun j hj => hb.block _ (h.lt hj).2)
set_option maxHeartbeats 3200000 in
theorem eqPairSS_same (gs hs : List Nat) (C : Nat → List (Int × Int)) (v1 v2 : Value) (b1 b2 : Nat) (w : World) (r1 : RowsAt w b1 v1 gs C) (r2 : RowsAt w b2 v2 hs C) (hlen : hs.length = gs.length) (hC : ∀ j, j < gs.length → (C j).length = 2) (hmx : gs.length ≤ 2000000) :
    Calls Try.prog 52 #[v1, v2] w fun e w' => e = .returned (.bool true) ∧ Below w.heap.size w w' := by
  obtain ⟨a1, c1, rfl, x1⟩ := r1.inn
  obtain ⟨a2, c2, rfl, x2⟩ := r2.inn
  have X1 := Lib.hid x1
  have X2 := Lib.hid x2
  have R1 := Lib.hid r1
  have R2 := Lib.hid r2
  have HC := Lib.hid hC
  clear x1 x2 r1 r2 hC
  have hl2 : (hs.length : Int) = (gs.length : Int) := by omega
  (go_enter Try.func52, Try.ntmps52)
  go_wp2
  go_loopw [5] (fun i wr => ∃ k : Nat, k ≤ gs.length ∧ i = .int .i64 k ∧ Below w.heap.size w wr) (fun i _ => gs.length - (intOf i).toNat)
  case atStart => exact ⟨0, Nat.zero_le _, rfl, Below.refl _ _⟩
  case round =>
    obtain ⟨k, hk, rfl, hbel⟩ := hrel
    have hz := hbel.size
    have k0 : (0 : Int) ≤ (k : Int) := Int.natCast_nonneg _
    by_cases hlt : k < gs.length
    · have k1 : (k : Int) < (gs.length : Int) := by omega
      obtain ⟨g1, rfl, -, l1, y1⟩ := X1.out k hlt
      obtain ⟨g2, rfl, -, l2, y2⟩ := X2.out k (by omega)
      have k2 : (k : Int) < (hs.length : Int) := by omega
      have p1 := ((R1.out.below hbel).2 k hlt).1
      have p2 := ((R2.out.below hbel).2 k (by omega)).1
      obtain ⟨hc0, hf0⟩ := bcell hbel
      have u1 : g1 < wr.heap.size := by omega
      have u2 : g2 < wr.heap.size := by omega
      have z1 : wr.cell? ⟨g1, k, none⟩ = some (slV gs[k]) := (hc0 _ _ l1).trans y1
      have z2 : wr.cell? ⟨g2, k, none⟩ = some (slV hs[k]) := (hc0 _ _ l2).trans y2
      have h2k := HC.out k hlt
      have CE := Lib.hid (fun w (hq : Below wr.heap.size wr w) => eqPairS_same (C k) _ _ _ _ w (p1.below hq) (p2.below hq) (by omega))
      generalize gs[k] = ga at *
      generalize hs[k] = ha at *
      clear y1 y2 p1 p2 hc0 hf0
      simp only [slV] at z1 z2 CE
      go_wp2_with fail
      refine wp_region_below (by kernel_rfl) (by kernel_rfl) ?_
      repeat (first | (apply wpB_take (hw := rfl); (intro wq hq; obtain ⟨hcq, hfq⟩ := bcell hq; unfold atB; go_simp; exact ⟨rfl, rfl⟩); simp only [Act.put, List.setIfInBounds_toArray, List.set_cons_zero, List.set_cons_succ]) | (apply wpB_take (hw := rfl); (intro wq hq; unfold atB; go_simp; exact ⟨rfl, CE.out _ hq⟩); simp only [Act.put, List.setIfInBounds_toArray, List.set_cons_zero, List.set_cons_succ]))
      refine fun wn hbn => ?_
      try simp only [Act.put, List.setIfInBounds_toArray, List.set_cons_zero, List.set_cons_succ]
      go_wp2
      go_roundw
      case rel => exact ⟨k + 1, by omega, by go_num, hbel.trans (hbn.mono hbel.size)⟩
      case measure => simp [intOf]; omega
    · have k1 : ¬ (k : Int) < (gs.length : Int) := by omega
      go_wp2
      go_ret
      exact ⟨rfl, hbel⟩
theorem mark2 {L : List (Int × Int)} (h2 : L.length = 2) (v : Value) (b : Nat) (m : Int) (w : World) (r : RowPair w b v L) (m0 : 0 ≤ m) (m1 : m ≤ 1000000) :
    Calls Try.prog 35 #[v, .int .i64 m] w fun e w' => e = .returned (.int .i64 (m + 4)) ∧ RowPair w' b v (markedPair L m 2) ∧ w.grownBy w' v.ownBlock := by
  have := markPairS_any L v b m w r (by omega) m0 m1
  rw [h2] at this
  exact this
theorem held2 {L : List (Int × Int)} (h2 : L.length = 2) (v : Value) (b : Nat) (m : Int) (w : World) (r : RowPair w b v (markedPair L m 2)) (m0 : 0 ≤ m) (m1 : m ≤ 1000000) :
    Calls Try.prog 36 #[v, .int .i64 m] w fun e w' => e = .returned (.int .i64 (m + 4)) ∧ Below w.heap.size w w' := by
  have := heldPairS_marked L v b m w (by rw [h2]; exact r) (by omega) m0 m1
  rw [h2] at this
  exact this
def mkC (C : Nat → List (Int × Int)) (m : Int) (k : Nat) (j : Nat) : List (Int × Int) := if j < k then markedPair (C j) (m + 4 * (j : Int)) 2 else C j
theorem mkC_other {C : Nat → List (Int × Int)} {m : Int} {k j : Nat} (h : j ≠ k) : mkC C m (k + 1) j = mkC C m k j := by
  unfold mkC
  by_cases h' : j < k
  · rw [if_pos h', if_pos (by omega)]
  · rw [if_neg h', if_neg (by omega)]
theorem nodup_ne {gs : List Nat} (hN : gs.Nodup) {j k : Nat} (hj : j < gs.length) (hk : k < gs.length) (h : j ≠ k) : gs[j] ≠ gs[k] := by
  have := List.pairwise_iff_getElem.1 hN
  rcases Nat.lt_or_gt_of_ne h with h | h
  · exact this j k hj hk h
  · exact (this k j hk hj h).symm
theorem own_mem {gs : List Nat} {k : Nat} (hk : k < gs.length) {y : Nat} (e : (slV gs[k]).ownBlock = some y) : y ∈ gs := by
  have : gs[k] = y := by simpa [Value.ownBlock] using e
  subst this
  exact List.getElem_mem _
def MkI (w wr : World) (b : Nat) (v : Value) (gs : List Nat) (C : Nat → List (Int × Int)) (m : Int) (k : Nat) : Prop := RowsAt wr b v gs (mkC C m k) ∧ Kept (fun x => x ∈ gs) w wr
set_option maxHeartbeats 3200000 in
theorem markPairSS_any (gs : List Nat) (C : Nat → List (Int × Int)) (v : Value) (b : Nat) (m : Int) (w : World) (r : RowsAt w b v gs C) (hN : gs.Nodup) (hC : ∀ j, j < gs.length → (C j).length = 2) (hmx : gs.length ≤ 1000) (m0 : 0 ≤ m) (m1 : m ≤ 1000) :
    Calls Try.prog 53 #[v, .int .i64 m] w fun e w' => e = .returned (.int .i64 (m + 4 * (gs.length : Int))) ∧ RowsAt w' b v gs (mkC C m gs.length) ∧ Kept (fun x => x ∈ gs) w w' := by
  obtain ⟨a1, c1, rfl, -⟩ := r.inn
  have R := Lib.hid r
  have HC := Lib.hid hC
  have HN := Lib.hid hN
  clear r hC hN
  (go_enter Try.func53, Try.ntmps53)
  go_wp2
  go_loopw [1, 5] (fun q i wr => ∃ k : Nat, k ≤ gs.length ∧ i = .int .i64 k ∧ q = .int .i64 (m + 4 * (k : Int)) ∧ MkI w wr b (.slice a1 gs.length c1) gs C m k) (fun _ i _ => gs.length - (intOf i).toNat)
  case atStart => exact ⟨0, Nat.zero_le _, rfl, by simp, by have h := R.out; rw [show mkC C m 0 = C from by funext j; simp [mkC]]; exact h, Kept.refl _ _⟩
  case round =>
    obtain ⟨k, hk, rfl, rfl, hI⟩ := hrel
    have k0 : (0 : Int) ≤ (k : Int) := Int.natCast_nonneg _
    have HI := Lib.hid hI
    clear hI
    by_cases hlt : k < gs.length
    · have k1 : (k : Int) < (gs.length : Int) := by omega
      obtain ⟨a', c', e', x⟩ := HI.out.1.inn
      obtain ⟨rfl, -, rfl⟩ : a1 = a' ∧ True ∧ c1 = c' := by simpa using e'
      obtain ⟨g1, rfl, -, l1, y1⟩ := x k hlt
      have p1 := (HI.out.1.2 k hlt).1
      rw [show mkC C m k k = C k from by simp [mkC]] at p1
      have CM := Lib.hid (mark2 (HC.out k hlt) (slV gs[k]) b (m + 4 * (k : Int)) wr p1 (by omega) (by omega))
      clear x e' p1
      simp only [slV] at y1 CM
      go_wp2_with fail
      refine CM.out.mono ?_
      rintro e2 w2 ⟨rfl, hr2, hg2⟩
      have HR2 := Lib.hid hr2
      have HG2 := Lib.hid hg2
      clear hr2 hg2
      go_wp2
      go_roundw
      case rel =>
        refine ⟨k + 1, by omega, by go_num, ret_num (by omega), ?_, ?_⟩
        · have hb : ∀ y, y < wr.heap.size → y ≠ gs[k] → w2.heap[y]? = wr.heap[y]? := fun y hy hne => HG2.out.block y hy (fun e => hne (by simpa [Value.ownBlock] using e))
          refine ⟨ownsRow_same HI.out.1.1 (fun y e => hb y (World.ownsRow.lt HI.out.1.1 y e).2 (fun e' => (HI.out.1.2 k hlt).2 (e' ▸ e))), fun j hj => ⟨?_, (HI.out.1.2 j hj).2⟩⟩
          by_cases hjk : j = k
          · subst hjk
            rw [show mkC C m (j + 1) j = markedPair (C j) (m + 4 * (j : Int)) 2 from by simp [mkC]]
            exact HR2.out
          · rw [mkC_other hjk]
            exact (HI.out.1.2 j hj).1.same (fun y e => by cases e; exact hb _ (HI.out.1.lt hj).2 (nodup_ne HN.out hj hlt hjk))
        · exact Kept.trans HI.out.2 (Kept.of_grown (M := fun x => x ∈ gs) HG2.out (fun y e => own_mem hlt e)) (fun _ _ h => h) (fun _ _ h => h)
      case measure => simp [intOf]; omega
    · obtain rfl : k = gs.length := by omega
      go_wp2
      go_ret
      exact ⟨rfl, HI.out.1, HI.out.2⟩
set_option maxHeartbeats 3200000 in
theorem heldPairSS_marked (gs : List Nat) (C : Nat → List (Int × Int)) (v : Value) (b : Nat) (m : Int) (w : World) (r : RowsAt w b v gs (mkC C m gs.length)) (hC : ∀ j, j < gs.length → (C j).length = 2) (hmx : gs.length ≤ 1000) (m0 : 0 ≤ m) (m1 : m ≤ 1000) :
    Calls Try.prog 54 #[v, .int .i64 m] w fun e w' => e = .returned (.int .i64 (m + 4 * (gs.length : Int))) ∧ Below w.heap.size w w' := by
  obtain ⟨a1, c1, rfl, x1⟩ := r.inn
  have R := Lib.hid r
  have HC := Lib.hid hC
  have X1 := Lib.hid x1
  clear r hC x1
  (go_enter Try.func54, Try.ntmps54)
  go_wp2
  go_loopw [1, 5] (fun q i wr => ∃ k : Nat, k ≤ gs.length ∧ i = .int .i64 k ∧ q = .int .i64 (m + 4 * (k : Int)) ∧ Below w.heap.size w wr) (fun _ i _ => gs.length - (intOf i).toNat)
  case atStart => exact ⟨0, Nat.zero_le _, rfl, by simp, Below.refl _ _⟩
  case round =>
    obtain ⟨k, hk, rfl, rfl, hbel⟩ := hrel
    have k0 : (0 : Int) ≤ (k : Int) := Int.natCast_nonneg _
    have hz := hbel.size
    by_cases hlt : k < gs.length
    · have k1 : (k : Int) < (gs.length : Int) := by omega
      obtain ⟨g1, rfl, -, l1, y1⟩ := X1.out k hlt
      have p1 := ((R.out.below hbel).2 k hlt).1
      rw [show mkC C m gs.length k = markedPair (C k) (m + 4 * (k : Int)) 2 from by simp [mkC, hlt]] at p1
      obtain ⟨hc0, hf0⟩ := bcell hbel
      have z1 : wr.cell? ⟨g1, k, none⟩ = some (slV gs[k]) := (hc0 _ _ l1).trans y1
      have u1 : g1 < wr.heap.size := by omega
      have CM := Lib.hid (held2 (HC.out k hlt) (slV gs[k]) b (m + 4 * (k : Int)) wr p1 (by omega) (by omega))
      have n1 : ¬ m + 4 * (k : Int) + 4 < 0 := by omega
      clear p1 y1 hc0 hf0
      simp only [slV] at z1 CM
      go_wp2_with fail
      refine CM.out.mono ?_
      rintro e2 w2 ⟨rfl, hb2⟩
      go_wp2
      go_roundw
      case rel => exact ⟨k + 1, by omega, by go_num, ret_num (by omega), hbel.trans (hb2.mono hbel.size)⟩
      case measure => simp [intOf]; omega
    · obtain rfl : k = gs.length := by omega
      go_wp2
      go_ret
      exact ⟨rfl, hbel⟩
end Go.Proofs.Ytaifcemdabcfjaa
