/- The first motion work with the fewest teeth: by the model. -/
import Derived.Test.YtaifcemdabcfjaaGeW
set_option linter.unusedSimpArgs false
set_option linter.unusedVariables false
set_option maxRecDepth 100000
namespace Go.Proofs.Ytaifcemdabcfjaa
open Go.RowKit

theorem TrRow.inn {w : World} {b : Nat} {v : Value} {ts : List (Nat × Tr)} (h : TrRow w b v ts) :
    ∃ (a : Option Addr) (c : Nat), v = .slice a ts.length c ∧ ts.length ≤ c ∧ c ≤ maxLen ∧ ∀ k (hk : k < ts.length), ∃ g, a = some ⟨g, 0, none⟩ ∧ b ≤ g ∧ g < w.heap.size ∧ w.cell? ⟨g, k, none⟩ = some (trV ts[k]) := by
  obtain ⟨h, -⟩ := h
  rcases h.2 with ⟨h1, h2⟩ | ⟨g, cap, cur, h1, h2, h3, h4, h5, h6, h7⟩
  · exact ⟨none, 0, by rw [h1, h2], by omega, by unfold maxLen; omega, fun k hk => absurd hk (by omega)⟩
  · refine ⟨some ⟨g, 0, none⟩, cap, h1, h4, h5, fun k hk => ⟨g, rfl, h2, ?_, ?_⟩⟩
    · rcases Nat.lt_or_ge g w.heap.size with hlt | hge
      · exact hlt
      · rw [Array.getElem?_eq_none hge] at h3; cases h3
    · rw [h1] at h
      rw [World.ownsRow.cellAt h k (by omega)]
      simp [hk]
/-- What the loop knows: the best one of those that have been looked at. -/
def FwI (w1 : World) (b : Nat) (pre : List Tr) (vb vl : Value) : Prop := match bestT true pre with
  | none => vl = .int .i64 0
  | some t => okTr t ∧ sameB t = true ∧ (∃ g, vb = .slice (some ⟨g, 0, none⟩) 2 2 ∧ TrAt b (g, t) w1) ∧ vl = .int .i64 (t.1.1 + t.1.2)
theorem bestT_next (fw : Bool) (pre : List Tr) (t : Tr) : bestT fw (pre ++ [t]) = stepT fw (bestT fw pre) t := by simp [bestT]
theorem same_sum {t : Tr} (h : sameB t = true) : sumTr t = 2 * (t.1.1 + t.1.2) := by
  simp [sameB, sumT] at h
  unfold sumTr
  omega
theorem takes_next {α : Type} {L : List α} {k : Nat} (hk : k < L.length) : L.take (k + 1) = L.take k ++ [L[k]] := by simp
set_option maxHeartbeats 3200000 in
theorem specFirstMotionWork_any (h most : Int) (w : World) :
    Calls Try.prog 55 #[.int .i64 h, .int .i64 most] w (TrainOut w.heap.size w (fmR h most)) := by
  cases hh : inB h 2 24
  · have HM := Lib.hid (show fmR h most = none from by simp [fmR, askW, hh])
    (go_enter Try.func55, Try.ntmps55)
    go_wp2_with fail
    refine (diHours_is _ hh _).mono ?_
    (rintro e1 w1 ⟨rfl, rfl⟩)
    go_wp2
    go_ret2
    rw [HM.out]; exact TrainOut.none (by (repeat' (first | (with_reducible exact Below.refl _ _) | (with_reducible assumption) | (with_reducible refine Below.alloc ?_ ?_ _) | (with_reducible refine Below.drew ?_) | (with_reducible refine below_drewN ?_ _) | (with_reducible refine Below.setCell ?_ ?_ _) | (with_reducible refine below_call ?_ ?_ (by assumption)) | go_size)))
  · cases hw : wheelB most
    · have HM := Lib.hid (show fmR h most = none from by simp [fmR, askW, hw])
      (go_enter Try.func55, Try.ntmps55)
      go_wp2_with fail
      refine (diHours_is _ hh _).mono ?_
      (rintro e1 w1 ⟨rfl, rfl⟩)
      go_wp2_with fail
      refine (geWheel_is _ hw _).mono ?_
      (rintro e1 w1 ⟨rfl, rfl⟩)
      go_wp2
      go_ret2
      rw [HM.out]; exact TrainOut.none (by (repeat' (first | (with_reducible exact Below.refl _ _) | (with_reducible assumption) | (with_reducible refine Below.alloc ?_ ?_ _) | (with_reducible refine Below.drew ?_) | (with_reducible refine below_drewN ?_ _) | (with_reducible refine Below.setCell ?_ ?_ _) | (with_reducible refine below_call ?_ ?_ (by assumption)) | go_size)))
    · have ha : askW h most = true := by simp [askW, hh, hw]
      obtain ⟨⟨h1, h2⟩, m1, m2⟩ := askW_bd ha
      obtain ⟨n, rfl, hn, hn2⟩ := fm_n ha
      have HM := Lib.hid (show fmR h (5 + (n : Int)) = bestT true (worksL h n) from by rw [fmR, if_pos ha, hn2])
      have CG := fun w => geWorks_any h n ⟨h1, h2⟩ hn w
      have CG := Lib.hid CG
      (go_enter Try.func55, Try.ntmps55)
      go_wp2_with fail
      refine (diHours_is _ hh _).mono ?_
      (rintro e1 w1 ⟨rfl, rfl⟩)
      go_wp2_with fail
      refine (geWheel_is _ hw _).mono ?_
      (rintro e1 w1 ⟨rfl, rfl⟩)
      go_wp2_with fail
      refine (CG.out _).mono ?_
      rintro e1 w1 ⟨v1, rfl, ts, t1, t2, hrow, hb1⟩
      have hw1 : w.heap.size ≤ w1.heap.size := by have := hb1.size; simp at this; omega
      have hbw : Below w.heap.size w w1 := Below.trans (by (repeat' (first | (with_reducible exact Below.refl _ _) | (with_reducible assumption) | (with_reducible refine Below.alloc ?_ ?_ _) | (with_reducible refine Below.drew ?_) | (with_reducible refine below_drewN ?_ _) | (with_reducible refine Below.setCell ?_ ?_ _) | (with_reducible refine below_call ?_ ?_ (by assumption)) | go_size))) (hb1.mono (by simp))
      obtain ⟨ra, rc, rfl, hrc1, hrc2, hcell⟩ := hrow.inn
      have hat : ∀ k (hk : k < ts.length), TrAt w.heap.size ts[k] w1 := fun k hk => (hrow.2 _ (List.getElem_mem hk)).1.mono (by simp)
      have hok : ∀ k (hk : k < ts.length), okTr ts[k].2 ∧ sameB ts[k].2 = true := fun k hk => by
        have : ts[k].2 ∈ worksL h n := by rw [← t1]; exact List.mem_map.2 ⟨_, List.getElem_mem hk, rfl⟩
        exact ⟨works_ok hn this, (List.mem_filter.1 this).2⟩
      have HC := Lib.hid hcell
      have HT := Lib.hid hat
      have HO := Lib.hid hok
      have HS := Lib.hid t1
      clear hrow hcell hat hok t1 hb1
      go_wp2
      go_loopw [6, 7, 24] (fun vb vl vi wr => ∃ k : Nat, k ≤ ts.length ∧ vi = .int .i64 k ∧ FwI w1 w.heap.size ((ts.take k).map (·.2)) vb vl ∧ Below w1.heap.size w1 wr) (fun _ _ vi _ => ts.length - (intOf vi).toNat)
      case atStart => exact ⟨0, Nat.zero_le _, rfl, by simp [FwI, bestT], Below.refl _ _⟩
      case round =>
        obtain ⟨k, hk, rfl, hI, hbel⟩ := hrel
        have HI := Lib.hid hI
        have hz := hbel.size
        have k0 : (0 : Int) ≤ (k : Int) := Int.natCast_nonneg _
        clear hI
        by_cases hlt : k < ts.length
        · have k1 : (k : Int) < (ts.length : Int) := by omega
          obtain ⟨g, rfl, -, hg, hc0⟩ := HC.out k hlt
          have ht := HT.out k hlt
          obtain ⟨hok, hsm⟩ := HO.out k hlt
          have HN := Lib.hid (show bestT true ((ts.take (k + 1)).map (·.2)) = stepT true (bestT true ((ts.take k).map (·.2))) ts[k].2 by rw [takes_next hlt, List.map_append]; exact bestT_next _ _ _)
          have HI2 := HI.out
          unfold FwI at HI2
          generalize ts[k] = y at *
          obtain ⟨gx, ⟨a, b⟩, ⟨c, d⟩⟩ := y
          obtain ⟨⟨⟨a1, a2⟩, a3, a4⟩, -⟩ : ((6 ≤ a ∧ a ≤ 120) ∧ 6 ≤ b ∧ b ≤ 120) ∧ True := ⟨pairB_bd hok.1, trivial⟩
          obtain ⟨g0, g1, -, -⟩ := ht.cells
          have gl := ht.lt
          have hsum := same_sum hsm
          simp only [trV] at hc0
          have r0 : wr.cell? ⟨g, k, none⟩ = some (.slice (some ⟨gx, 0, none⟩) 2 2) := ((bcell hbel).1 _ _ hg).trans hc0
          have r1 : wr.cell? ⟨gx, 0, none⟩ = some (.int .i64 a) := ((bcell hbel).1 _ _ gl).trans g0
          have r2 : wr.cell? ⟨gx, 1, none⟩ = some (.int .i64 b) := ((bcell hbel).1 _ _ gl).trans g1
          have s0 : g < wr.heap.size := by omega
          have s1 : gx < wr.heap.size := by omega
          have W1 : IntKind.i64.wrap (a + b) = a + b := w64 ⟨by omega, by omega⟩
          have HK := Lib.hid (And.intro hok (And.intro hsm ht))
          clear hc0 g0 g1 hok hsm ht
          go_wp2_with fail
          refine wp_region_below (by kernel_rfl) (by kernel_rfl) ?_
          (apply wpB_take (hw := rfl); (intro wq hq; obtain ⟨hcq, hfq⟩ := bcell hq; unfold atB; go_simp; exact ⟨rfl, rfl⟩); simp only [Act.put, List.setIfInBounds_toArray, List.set_cons_zero, List.set_cons_succ])
          (apply wpB_take (hw := rfl); (intro wq hq; obtain ⟨hcq, hfq⟩ := bcell hq; unfold atB; go_simp; exact ⟨rfl, rfl⟩); simp only [Act.put, List.setIfInBounds_toArray, List.set_cons_zero, List.set_cons_succ])
          (apply wpB_take (hw := rfl); (intro wq hq; obtain ⟨hcq, hfq⟩ := bcell hq; unfold atB; go_simp; exact ⟨rfl, rfl⟩); simp only [Act.put, List.setIfInBounds_toArray, List.set_cons_zero, List.set_cons_succ])
          (apply wpB_take (hw := rfl); (intro wq hq; obtain ⟨hcq, hfq⟩ := bcell hq; unfold atB; go_simp; exact ⟨rfl, rfl⟩); simp only [Act.put, List.setIfInBounds_toArray, List.set_cons_zero, List.set_cons_succ])
          (apply wpB_take (hw := rfl); (intro wq hq; obtain ⟨hcq, hfq⟩ := bcell hq; unfold atB; go_simp; exact ⟨rfl, rfl⟩); simp only [Act.put, List.setIfInBounds_toArray, List.set_cons_zero, List.set_cons_succ])
          (apply wpB_take (hw := rfl); (intro wq hq; obtain ⟨hcq, hfq⟩ := bcell hq; unfold atB; go_simp; exact ⟨rfl, rfl⟩); simp only [Act.put, List.setIfInBounds_toArray, List.set_cons_zero, List.set_cons_succ])
          (apply wpB_take (hw := rfl); (intro wq hq; obtain ⟨hcq, hfq⟩ := bcell hq; unfold atB; go_simp; exact ⟨rfl, rfl⟩); simp only [Act.put, List.setIfInBounds_toArray, List.set_cons_zero, List.set_cons_succ])
          (apply wpB_take (hw := rfl); (intro wq hq; obtain ⟨hcq, hfq⟩ := bcell hq; unfold atB; go_simp; exact ⟨rfl, rfl⟩); simp only [Act.put, List.setIfInBounds_toArray, List.set_cons_zero, List.set_cons_succ])
          (apply wpB_take (hw := rfl); (intro wq hq; obtain ⟨hcq, hfq⟩ := bcell hq; unfold atB; go_simp; exact ⟨rfl, rfl⟩); simp only [Act.put, List.setIfInBounds_toArray, List.set_cons_zero, List.set_cons_succ])
          (apply wpB_take (hw := rfl); (intro wq hq; obtain ⟨hcq, hfq⟩ := bcell hq; unfold atB; go_simp; exact ⟨rfl, rfl⟩); simp only [Act.put, List.setIfInBounds_toArray, List.set_cons_zero, List.set_cons_succ])
          refine fun wn hbn => ?_
          have hzn := hbn.size
          have bn : Below w1.heap.size w1 wn := hbel.trans (hbn.mono hbel.size)
          clear r0 r1 r2
          cases hbt : bestT true ((ts.take k).map (·.2)) with
          | none =>
            rw [hbt] at HI2
            have hu : u7 = .int .i64 0 := HI2
            subst hu
            have HF := Lib.hid (show FwI w1 w.heap.size ((ts.take (k + 1)).map (·.2)) (.slice (some ⟨gx, 0, none⟩) 2 2) (.int .i64 (a + b)) by
              unfold FwI
              rw [HN.out, hbt]
              exact ⟨HK.out.1, HK.out.2.1, ⟨gx, rfl, HK.out.2.2⟩, rfl⟩)
            go_wp2
            go_roundw
            case rel => exact ⟨k + 1, by omega, by go_num, HF.out, bn⟩
            case measure => simp [intOf]; omega
          | some t =>
            rw [hbt] at HI2
            obtain ⟨q1, q2, ⟨gt, hu6, q4⟩, hu7⟩ := HI2
            have hst := same_sum q2
            obtain ⟨⟨x1, x2⟩, x3, x4⟩ := pairB_bd q1.1
            subst hu6 hu7
            by_cases hless : a + b < t.1.1 + t.1.2
            · have HF := Lib.hid (show FwI w1 w.heap.size ((ts.take (k + 1)).map (·.2)) (.slice (some ⟨gx, 0, none⟩) 2 2) (.int .i64 (a + b)) by
                unfold FwI
                rw [HN.out, hbt]
                simp only [stepT, Bool.true_and]
                rw [if_pos (by rw [decide_eq_true_eq]; omega)]
                exact ⟨HK.out.1, HK.out.2.1, ⟨gx, rfl, HK.out.2.2⟩, rfl⟩)
              have hne : ¬ t.1.1 + t.1.2 = 0 := by omega
              clear hst hsum
              generalize t.1.1 + t.1.2 = s at *
              go_wp2
              go_roundw
              case rel => exact ⟨k + 1, by omega, by go_num, HF.out, bn⟩
              case measure => simp [intOf]; omega
            · have HF := Lib.hid (show FwI w1 w.heap.size ((ts.take (k + 1)).map (·.2)) (.slice (some ⟨gt, 0, none⟩) 2 2) (.int .i64 (t.1.1 + t.1.2)) by
                unfold FwI
                rw [HN.out, hbt]
                simp only [stepT, Bool.true_and]
                rw [if_neg (by rw [decide_eq_true_eq]; first | omega | (simp only at hsum; omega))]
                exact ⟨q1, q2, ⟨gt, rfl, q4⟩, rfl⟩)
              have hne : ¬ t.1.1 + t.1.2 = 0 := by omega
              clear hst hsum
              generalize t.1.1 + t.1.2 = s at *
              go_wp2
              go_roundw
              case rel => exact ⟨k + 1, by omega, by go_num, HF.out, bn⟩
              case measure => simp [intOf]; omega
        · obtain rfl : k = ts.length := by omega
          have HI2 := HI.out
          unfold FwI at HI2
          rw [List.take_length, HS.out, ← HM.out] at HI2
          have b9 : Below w.heap.size w wr := hbw.trans (hbel.mono hbw.size)
          cases hbt : fmR h (5 + (n : Int)) with
          | none =>
            rw [hbt] at HI2
            have hu : u7 = .int .i64 0 := HI2
            subst hu
            go_wp2
            go_ret2
            try rw [hbt]
            exact TrainOut.none b9
          | some t =>
            rw [hbt] at HI2
            obtain ⟨q1, q2, ⟨gt, hu6, q4⟩, hu7⟩ := HI2
            obtain ⟨⟨x1, x2⟩, x3, x4⟩ := pairB_bd q1.1
            subst hu6 hu7
            have hne : ¬ t.1.1 + t.1.2 = 0 := by omega
            have HQ := Lib.hid (q4.below q4.lt hbel)
            go_wp2
            go_ret2
            try rw [hbt]
            exact ⟨_, rfl, HQ.out, b9⟩
end Go.Proofs.Ytaifcemdabcfjaa
