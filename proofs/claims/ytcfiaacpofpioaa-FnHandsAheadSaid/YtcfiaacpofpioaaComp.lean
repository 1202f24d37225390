/- slices.Compact at a list of turns. -/
import Derived.Test.YtcfiaacpofpioaaSort
set_option linter.unusedSimpArgs false
set_option linter.unusedVariables false
set_option maxRecDepth 100000
namespace Go.Proofs.Ytcfiaacpofpioaa
open Go.RowKit
attribute [local go_sem ↓] Go.wp_at_zero Go.wp_at_succ
attribute [local go_sem ↓] run_eql_turn
attribute [local go_sem ↓] run_neq_turn

/-- Which places are kept: the first one, and each that is not the same as the one ahead of it. -/
def kpT (L : List (Int × Int)) (j : Nat) : Bool := decide (j = 0 ∨ L.getD j (0, 0) ≠ L.getD (j - 1) (0, 0))
def keptI (kp : Nat → Bool) (L : List (Int × Int)) (m : Nat) : List (Int × Int) := ((List.range m).filter kp).map fun j => L.getD j (0, 0)
theorem keptI_succ (kp : Nat → Bool) (L : List (Int × Int)) (m : Nat) : keptI kp L (m + 1) = keptI kp L m ++ (if kp m then [L.getD m (0, 0)] else []) := by
  unfold keptI
  rw [List.range_succ, List.filter_append, List.map_append]
  congr 1
  by_cases h : kp m <;> simp [h]
theorem keptI_all (kp : Nat → Bool) (L : List (Int × Int)) : ∀ (m : Nat), m ≤ L.length → (∀ j, j < m → kp j = true) → keptI kp L m = L.take m
  | 0, _, _ => by simp [keptI]
  | m + 1, hm, h => by
    rw [keptI_succ, keptI_all kp L m (by omega) (fun j hj => h j (by omega)), if_pos (h m (by omega)), take_snoc (by omega)]
def KI (kp : Nat → Bool) (L : List (Int × Int)) (j i : Nat) (dk : List (Int × Int)) : Prop :=
  dk.length = L.length ∧ i < j ∧ dk.take i = keptI kp L j ∧ ∀ t, i ≤ t → dk.getD t (0, 0) = L.getD t (0, 0)
theorem KI.start {kp : Nat → Bool} {L : List (Int × Int)} {k : Nat} (hk : k < L.length) (h : ∀ t, t < k → kp t = true) (hn : kp k = false) : KI kp L (k + 1) k L := by
  refine ⟨rfl, by omega, ?_, fun _ _ => rfl⟩
  rw [keptI_succ, keptI_all kp L k (by omega) h, hn]; simp
theorem KI.skip {kp : Nat → Bool} {L dk : List (Int × Int)} {i j : Nat} (h : KI kp L j i dk) (hn : kp j = false) : KI kp L (j + 1) i dk := by
  obtain ⟨h1, h2, h3, h4⟩ := h
  exact ⟨h1, by omega, by rw [keptI_succ, hn, h3]; simp, h4⟩
theorem KI.keep {kp : Nat → Bool} {L dk : List (Int × Int)} {i j : Nat} (h : KI kp L j i dk) (hj : j < L.length) (hn : kp j = true) : KI kp L (j + 1) (i + 1) (dk.set i (L.getD j (0, 0))) := by
  obtain ⟨h1, h2, h3, h4⟩ := h
  refine ⟨by simpa using h1, by omega, ?_, fun t ht => ?_⟩
  · rw [keptI_succ, ← h3, if_pos hn, take_snoc (by simp; omega)]
    congr 1
    · rw [List.take_set_of_le (Nat.le_refl i)]
    · rw [List.getD_eq_getElem?_getD, List.getElem?_set_self (by omega)]; rfl
  · rw [List.getD_eq_getElem?_getD, List.getElem?_set_ne (by omega), ← List.getD_eq_getElem?_getD]
    exact h4 t (by omega)
def compT (L : List (Int × Int)) : List (Int × Int) := keptI (kpT L) L L.length

set_option maxHeartbeats 1600000 in
theorem compact_any (L : List (Int × Int)) (g c1 B : Nat) (w : World) (r : TRow w B (.slice (some ⟨g, 0, none⟩) L.length c1) L) (hl : L.length ≤ 1000000) :
    Calls Try.prog 50 #[.slice (some ⟨g, 0, none⟩) L.length c1] w fun e w' => ∃ v', e = .returned v' ∧ TRow w' B v' (compT L) ∧ w.grownBy w' (some g) := by
  obtain ⟨a1, c1', e0, l1, m1, x1'⟩ := r.cells
  obtain ⟨rfl, rfl⟩ : some ⟨g, 0, none⟩ = a1 ∧ c1 = c1' := by simpa using e0
  have x1 : ∀ k, k < L.length → g < w.heap.size ∧ w.cell? ⟨g, k * 2, none⟩ = some (.int .i64 (L.getD k (0, 0)).1) ∧ w.cell? ⟨g, k * 2 + 1, none⟩ = some (.int .i64 (L.getD k (0, 0)).2) := fun k hk => by
    obtain ⟨g', hg, -, h2, h3, h4⟩ := x1' k hk
    obtain rfl : g = g' := by simpa using hg
    exact ⟨h2, h3, h4⟩
  have X1 := Lib.hid x1
  have R := Lib.hid r
  clear x1 x1' e0 r
  by_cases hs : L.length < 2
  · have HE : Hid (compT L = L) := by
      show compT L = L
      unfold compT
      rw [keptI_all _ _ _ (Nat.le_refl _) (fun j hj => by have : j = 0 := by omega
                                                          simp [kpT, this]), List.take_of_length_le (Nat.le_refl _)]
    have hs' : (L.length : Int) < 2 := by omega
    (go_enter Try.func50, Try.ntmps50)
    go_wp2
    go_ret
    refine ⟨_, rfl, ?_, grownBy_refl _ _⟩
    rw [HE.out]
    exact R.out
  · have hs' : ¬ (L.length : Int) < 2 := by omega
    (go_enter Try.func50, Try.ntmps50)
    go_wp2
    go_loopw [3] (fun i wr => ∃ m : Nat, m + 1 ≤ L.length ∧ i = .int .i64 ((m : Int) + 1) ∧ (∀ j, j < m + 1 → kpT L j = true) ∧ Below w.heap.size w wr) (fun i _ => L.length - (intOf i).toNat)
    case atStart => exact ⟨0, by omega, rfl, fun j hj => by have : j = 0 := by omega
                                                            simp [kpT, this], Below.refl _ _⟩
    case round =>
      obtain ⟨m, hm, rfl, hall, hbr⟩ := hrel
      have HA := Lib.hid hall
      clear hall
      have hzr := hbr.size
      have i0 : (0 : Int) ≤ (m : Int) := Int.natCast_nonneg _
      by_cases hlt : m + 1 < L.length
      · obtain ⟨u1, e3, e4⟩ := X1.out (m + 1) hlt
        obtain ⟨-, f3, f4⟩ := X1.out m (by omega)
        have i1 : (m : Int) + 1 < (L.length : Int) := by omega
        have i2 : (m : Int) < (L.length : Int) := by omega
        have hwm : IntKind.i64.wrap (m : Int) = m := by rw [IntKind.wrap_i64]; omega
        have HK : Hid (kpT L (m + 1) = decide (L.getD (m + 1) (0, 0) ≠ L.getD m (0, 0))) := by show kpT L (m + 1) = _; simp [kpT]
        generalize hp : L.getD (m + 1) (0, 0) = p at *
        generalize hq : L.getD m (0, 0) = q at *
        clear hp hq
        obtain ⟨pn, pd⟩ := p
        obtain ⟨qn, qd⟩ := q
        simp only at e3 e4 f3 f4
        obtain ⟨hcr, hfr⟩ := bcell hbr
        have e5 := (hcr _ _ u1).trans e3
        have e6 := (hcr _ _ u1).trans e4
        have f5 := (hcr _ _ u1).trans f3
        have f6 := (hcr _ _ u1).trans f4
        have u2 : g < wr.heap.size := by omega
        clear hcr hfr e3 e4 f3 f4
        by_cases he : pn = qn ∧ pd = qd
        · have hE : eqT pn pd qn qd = true := by simpa [eqT] using he
          have HN := Lib.hid (show kpT L (m + 1) = false from by rw [HK.out]; obtain ⟨rfl, rfl⟩ := he; simp)
          have S0 := Lib.hid (KI.start hlt HA.out HN.out)
          clear he HK
          go_wp2_with fail
          refine wp_region_below (by kernel_rfl) (by kernel_rfl) ?_
          repeat (apply wpB_take (hw := rfl); (intro wq hq; obtain ⟨hcq, hfq⟩ := bcell hq; unfold atB; go_simp; exact ⟨rfl, rfl⟩); simp only [Act.put, List.setIfInBounds_toArray, List.set_cons_zero, List.set_cons_succ])
          refine fun w1 hb1 => ?_
          have hcap : ¬ c1 = m + 1 := by omega
          have R1 := Lib.hid (TRow.below (TRow.below R.out hbr) hb1)
          have hz1 := hb1.size
          have hG1 := Lib.hid (grownBy_trans (row := some g) (grown_of hbr) (grown_of hb1))
          clear e5 e6 f5 f6
          have hz0 := hb1.size
          have hszw : w.heap.size ≤ w1.heap.size := by omega
          clear hb1 hbr
          go_wp2
          go_loopw [3, 5] (fun x y wv => ∃ (i t : Nat) (dk : List (Int × Int)), x = .int .i64 i ∧ y = .int .i64 ((t : Int) + 1) ∧ m + 1 + (t + 1) ≤ L.length ∧ KI (kpT L) L (m + 1 + (t + 1)) i dk ∧ m + 1 ≤ i ∧ TRow wv B (.slice (some ⟨g, 0, none⟩) L.length c1) dk ∧ w.grownBy wv (some g)) (fun _ y _ => L.length - (intOf y).toNat)
          case atStart => exact ⟨m + 1, 0, L, by go_num, by go_num, by omega, S0.out, by omega, R1.out, hG1.out⟩
          case round =>
            obtain ⟨i, t, dk, rfl, rfl, hj, hk, hmi, hr, hg⟩ := hrel
            have hij := hk.2.1
            have hkl := hk.1
            have hzr2 := hg.size
            have RR := Lib.hid hr
            have HG := Lib.hid hg
            have HKK := Lib.hid hk
            clear hr hg hk
            have i0' : (0 : Int) ≤ (i : Int) := Int.natCast_nonneg _
            have j0 : (0 : Int) ≤ (t : Int) := Int.natCast_nonneg _
            by_cases hlt2 : m + 1 + (t + 1) < L.length
            · obtain ⟨a', c', e', -, -, x⟩ := RR.out.cells
              rw [hkl] at e' x
              obtain ⟨rfl, rfl⟩ : some ⟨g, 0, none⟩ = a' ∧ c1 = c' := by simpa using e'
              obtain ⟨g2, hg2, -, v1, e3, e4⟩ := x (m + 1 + (t + 1)) hlt2
              obtain rfl : g = g2 := by simpa using hg2
              obtain ⟨g3, hg3, -, -, f3, f4⟩ := x (m + 1 + t) (by omega)
              obtain rfl : g = g3 := by simpa using hg3
              obtain ⟨g4, hg4, -, -, d3, d4⟩ := x i (by omega)
              obtain rfl : g = g4 := by simpa using hg4
              rw [HKK.out.2.2.2 _ (by omega)] at e3 e4 f3 f4
              have z3 : wr.frozen? ⟨g, i * 2, none⟩ = false := World.ownsRow.frozenAt (by have := RR.out; unfold TRow at this; rw [hkl] at this; exact this) _
              have z4 : wr.frozen? ⟨g, i * 2 + 1, none⟩ = false := World.ownsRow.frozenAt (by have := RR.out; unfold TRow at this; rw [hkl] at this; exact this) _
              have HK : Hid (kpT L (m + 1 + (t + 1)) = decide (L.getD (m + 1 + (t + 1)) (0, 0) ≠ L.getD (m + 1 + t) (0, 0))) := by show kpT L (m + 1 + (t + 1)) = _; simp [kpT]
              have HSK := Lib.hid (KI.skip (kp := kpT L) (j := m + 1 + (t + 1)) HKK.out)
              have HKP := Lib.hid (KI.keep (kp := kpT L) (j := m + 1 + (t + 1)) HKK.out hlt2)
              generalize hp : L.getD (m + 1 + (t + 1)) (0, 0) = p at *
              generalize hq : L.getD (m + 1 + t) (0, 0) = q at *
              clear hp hq x e' hg2 hg3 hg4
              obtain ⟨pn, pd⟩ := p
              obtain ⟨qn, qd⟩ := q
              simp only at e3 e4 f3 f4
              generalize (dk.getD i (0, 0)).1 = o1 at d3
              generalize (dk.getD i (0, 0)).2 = o2 at d4
              have e5 : wr.cell? ⟨g, (m + 1) * 2 + (t + 1) * 2, none⟩ = some (.int .i64 pn) := by rw [show (m + 1) * 2 + (t + 1) * 2 = (m + 1 + (t + 1)) * 2 by omega]; exact e3
              have e6 : wr.cell? ⟨g, (m + 1) * 2 + (t + 1) * 2 + 1, none⟩ = some (.int .i64 pd) := by rw [show (m + 1) * 2 + (t + 1) * 2 = (m + 1 + (t + 1)) * 2 by omega]; exact e4
              have f5 : wr.cell? ⟨g, (m + 1) * 2 + t * 2, none⟩ = some (.int .i64 qn) := by rw [show (m + 1) * 2 + t * 2 = (m + 1 + t) * 2 by omega]; exact f3
              have f6 : wr.cell? ⟨g, (m + 1) * 2 + t * 2 + 1, none⟩ = some (.int .i64 qd) := by rw [show (m + 1) * 2 + t * 2 = (m + 1 + t) * 2 by omega]; exact f4
              clear e3 e4 f3 f4
              have hwt : IntKind.i64.wrap (t : Int) = t := by rw [IntKind.wrap_i64]; omega
              have t1 : (t : Int) + 1 < ((L.length - (m + 1) : Nat) : Int) := by omega
              have t2 : (t : Int) < ((L.length - (m + 1) : Nat) : Int) := by omega
              have t3 : (i : Int) < (L.length : Int) := by omega
              have hjl : (L.length : Int) ≤ 1000000 := by omega
              by_cases he : pn = qn ∧ pd = qd
              · have hE : eqT pn pd qn qd = true := by simpa [eqT] using he
                have HN := Lib.hid (HSK.out (by rw [HK.out]; obtain ⟨rfl, rfl⟩ := he; simp))
                clear he HK
                go_wp2_with fail
                refine wp_region_below (by kernel_rfl) (by kernel_rfl) ?_
                repeat (apply wpB_take (hw := rfl); (intro wq hq; obtain ⟨hcq, hfq⟩ := bcell hq; unfold atB; go_simp; exact ⟨rfl, rfl⟩); simp only [Act.put, List.setIfInBounds_toArray, List.set_cons_zero, List.set_cons_succ])
                refine fun w2 hb2 => ?_
                go_wp2
                go_roundw
                case rel => exact ⟨i, t + 1, dk, rfl, by go_num, by omega, HN.out, hmi, TRow.below RR.out hb2, grownBy_trans HG.out (grown_of hb2)⟩
                case measure => simp [intOf]; omega
              · have hE : eqT pn pd qn qd = false := by simpa [eqT] using he
                have HN := Lib.hid (HKP.out (by rw [HK.out, decide_eq_true_eq]; intro hc; exact he (by simpa using hc)))
                clear he HK
                go_wp2_with fail
                refine wp_region_below (by kernel_rfl) (by kernel_rfl) ?_
                repeat (apply wpB_take (hw := rfl); (intro wq hq; obtain ⟨hcq, hfq⟩ := bcell hq; unfold atB; go_simp; exact ⟨rfl, rfl⟩); simp only [Act.put, List.setIfInBounds_toArray, List.set_cons_zero, List.set_cons_succ])
                refine fun w2 hb2 => ?_
                obtain ⟨hc2, hf2⟩ := bcell hb2
                have hz2 := hb2.size
                go_wp2
                go_roundw
                case rel =>
                  have r2 := TRow.below RR.out hb2
                  unfold TRow at r2
                  rw [hkl] at r2
                  have s1 := World.ownsRow.stored r2 (i * 2) (.int .i64 pn)
                  refine ⟨i + 1, t + 1, dk.set i (pn, pd), by go_num, by go_num, by omega, HN.out, by omega, ?_, ?_⟩
                  · unfold TRow
                    rw [List.length_set, hkl, ← flat_set]
                    exact (World.ownsRow.stored s1.1 (i * 2 + 1) (.int .i64 pd)).1
                  · exact grownBy_trans HG.out (grownBy_trans (grown_of hb2) (grownBy_trans s1.2 (World.ownsRow.stored s1.1 (i * 2 + 1) (.int .i64 pd)).2))
                case measure => simp [intOf]; omega
            · have hje : m + 1 + (t + 1) = L.length := by omega
              have t1 : ¬ (t : Int) + 1 < ((L.length - (m + 1) : Nat) : Int) := by omega
              obtain ⟨w2, hcl, ho2, hg2⟩ := clear_tail (w := wr) 0 (by have := RR.out; unfold TRow at this; rw [hkl] at this; exact this) i (c1 - i) (by omega)
              rw [flat_take, HKK.out.2.2.1, hje] at ho2
              have HO := Lib.hid ho2
              have HG2 := Lib.hid hg2
              have HE := Lib.hid (show i = (compT L).length from by
                have h := congrArg List.length HKK.out.2.2.1
                rw [hje, List.length_take] at h
                show i = (keptI (kpT L) L L.length).length
                omega)
              clear ho2 hg2
              have hcap2 : ¬ c1 = i := by omega
              have hil : (i : Int) ≤ (L.length : Int) := by omega
              go_wp2
              go_ret
              refine ⟨_, rfl, ?_, grownBy_trans HG.out HG2.out⟩
              have h := HO.out
              unfold TRow
              rw [← HE.out]
              exact h
        · have hE : eqT pn pd qn qd = false := by simpa [eqT] using he
          have HN := Lib.hid (show ∀ j, j < m + 1 + 1 → kpT L j = true from fun j hj => by
            by_cases hjm : j = m + 1
            · subst hjm; rw [HK.out, decide_eq_true_eq]; intro hc; exact he (by simpa using hc)
            · exact HA.out j (by omega))
          clear he HK
          go_wp2_with fail
          refine wp_region_below (by kernel_rfl) (by kernel_rfl) ?_
          repeat (apply wpB_take (hw := rfl); (intro wq hq; obtain ⟨hcq, hfq⟩ := bcell hq; unfold atB; go_simp; exact ⟨rfl, rfl⟩); simp only [Act.put, List.setIfInBounds_toArray, List.set_cons_zero, List.set_cons_succ])
          refine fun w1 hb1 => ?_
          have hbw := hbr.trans (hb1.mono hbr.size)
          clear e5 e6 f5 f6
          go_wp2
          go_roundw
          case rel => exact ⟨m + 1, by omega, by go_num, HN.out, hbw⟩
          case measure => simp [intOf]; omega
      · obtain hm' : m + 1 = L.length := by omega
        have HE : Hid (compT L = L) := by
          show compT L = L
          unfold compT
          rw [keptI_all _ _ _ (Nat.le_refl _) (fun j hj => HA.out j (by omega)), List.take_of_length_le (Nat.le_refl _)]
        have i1 : ¬ (m : Int) + 1 < (L.length : Int) := by omega
        have R1 := Lib.hid (TRow.below R.out hbr)
        go_wp2
        go_ret
        refine ⟨_, rfl, ?_, grown_of hbr⟩
        rw [HE.out]
        exact R1.out
end Go.Proofs.Ytcfiaacpofpioaa
