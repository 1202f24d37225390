/- A span read by the model. -/
import Derived.Test.YtnokjdcgokfdhaaDoorSp2
import Derived.Test.YtnokjdcgokfdhaaDoorPtW2
import Derived.Test.YtnokjdcgokfdhaaDoorLate0
import Derived.Test.YtnokjdcgokfdhaaDoorLate4
set_option linter.unusedSimpArgs false
set_option linter.unusedVariables false
set_option maxRecDepth 100000
namespace Go.Proofs.YtnokjdcgokfdhaaDoor
open Go.RowKit

set_option maxHeartbeats 6400000 in
theorem specParseSpan_any (l : List UInt8) (hl : l.length ≤ 1048576) (w : World) :
    Calls Tryd.prog 8 #[str l] w fun e w' => e = .returned (rv (specP l)) ∧ Below w.heap.size w w' := by
  have hLp := splitL_ne 47 l
  have HLEN : Hid (∀ y, y ∈ splitL 47 l → y.length ≤ 1048576) := fun y hy => by have := splitL_short 47 l y hy; omega
  have HSP : Hid (∀ W : World, Calls Tryd.prog 15 #[str l, .int .u8 47] W fun e w' => ∃ v, e = .returned v ∧ SRow w' W.heap.size v (splitL 47 l) ∧ Below W.heap.size W w') := fun W => l1Split_any l 47 hl W
  have HS : Hid (specP l = if l.length ≤ 20 ∧ (splitL 47 l).length = 2 then limS (numP ((splitL 47 l).getD 0 [])) (readN ((splitL 47 l).getD 1 [])) else fail3) := rfl
  generalize splitL 47 l = L at *
  by_cases h20 : l.length ≤ 20
  · by_cases h2 : L.length = 2
    · obtain ⟨a, b, rfl⟩ : ∃ a b, L = [a, b] := by
        match L, h2 with
        | [a, b], _ => exact ⟨a, b, rfl⟩
      have i20 : (l.length : Int) ≤ 20 := by omega
      have RA := Lib.hid (fun W : World => l1Read_any a (HLEN.out a (by simp)) W)
      have RB := Lib.hid (fun W : World => l1Read_any b (HLEN.out b (by simp)) W)
      have HM0 : Hid (specP l = limS (numP a) (readN b)) := Lib.hid (by rw [HS.out, if_pos ⟨h20, rfl⟩]; rfl)
      clear HS HLEN h2
      by_cases ha : a = [49, 48, 48, 48, 48, 48, 48]
      · have ha' : (a == [49, 48, 48, 48, 48, 48, 48]) = true := by simpa using ha
        have hnum : numP a = 1000000 := by unfold numP; rw [if_pos ha]
        rw [hnum] at HM0
        clear hnum ha
        cases gk : spanB 1000000 (readN b)
        · have HM := Lib.hid (show fail3 = specP l from by rw [HM0.out]; simp [limS, gk])
          clear HM0
          (go_enter Tryd.func8, Tryd.ntmps8)
          go_wp2_with fail
          refine (HSP.out _).mono ?_
          rintro e1 w1 ⟨v1, rfl, hrow, hb1⟩
          obtain ⟨g4, c4, rfl, gl4, gm4, gb4, gs4, gx4⟩ := hrow.cells hLp
          clear hrow
          obtain ⟨hc1, hf1⟩ := bcell hb1
          have hz1 := hb1.size
          simp only [World.size_alloc] at hz1 gb4
          have c1_0_0 : w1.cell? ⟨w.heap.size, 0, none⟩ = some (.int .i64 0) := (hc1 _ _ (by first | go_size | (simp; omega) | simp)).trans (by go_simp)
          have f1_0_0 : w1.frozen? ⟨w.heap.size, 0, none⟩ = false := (hf1 _ _ (by first | go_size | (simp; omega) | simp)).trans (by go_simp)
          have c1_0_1 : w1.cell? ⟨w.heap.size, 1, none⟩ = some (.int .i64 0) := (hc1 _ _ (by first | go_size | (simp; omega) | simp)).trans (by go_simp)
          have f1_0_1 : w1.frozen? ⟨w.heap.size, 1, none⟩ = false := (hf1 _ _ (by first | go_size | (simp; omega) | simp)).trans (by go_simp)
          have B1 : Below w.heap.size w w1 := by (repeat' (first | (with_reducible exact Below.refl _ _) | (with_reducible assumption) | (with_reducible refine Below.alloc ?_ ?_ _) | (with_reducible refine Below.drew ?_) | (with_reducible refine below_drewN ?_ _) | (with_reducible refine Below.setCell ?_ ?_ _) | (with_reducible refine below_call ?_ ?_ (by assumption)) | go_size))
          have q1 : w.heap.size < w1.heap.size := by omega
          clear hc1 hf1 hb1
          have c10 : w1.cell? ⟨g4, 0, none⟩ = some (str a) := gx4 0 (by simp)
          have c11 : w1.cell? ⟨g4, 1, none⟩ = some (str b) := gx4 1 (by simp)
          clear gx4
          generalize readN a = u at *
          generalize readN b = v at *
          go_wp2_with fail
          refine wp_region_late0 9 (t := 5) #[.int .i64 0, .int .i64 0] #[.int .i64 u, .int .i64 v] 26 (by kernel_rfl) rfl (by kernel_rfl) rfl rfl rfl rfl rfl rfl (fun a w => ?run) ?_
          case run => go_simp
          simp only [List.take_succ_cons, List.take_zero, List.drop_succ_cons, List.drop_zero]
          (apply wpB_take (hw := rfl); (intro wq hq; obtain ⟨hcq, hfq⟩ := bcell hq; unfold atB; go_simp; exact ⟨rfl, rfl⟩); simp only [Act.put, List.setIfInBounds_toArray, List.set_cons_zero, List.set_cons_succ])
          (apply wpB_take (hw := rfl); (intro wq hq; obtain ⟨hcq, hfq⟩ := bcell hq; unfold atB; go_simp; exact ⟨rfl, rfl⟩); simp only [Act.put, List.setIfInBounds_toArray, List.set_cons_zero, List.set_cons_succ])
          (apply wpB_take (hw := rfl); (intro wq hq; obtain ⟨hcq, hfq⟩ := bcell hq; unfold atB; go_simp; exact ⟨rfl, rfl⟩); simp only [Act.put, List.setIfInBounds_toArray, List.set_cons_zero, List.set_cons_succ])
          (apply wpB_take (hw := rfl); (intro wq hq; unfold atB; go_simp; exact ⟨rfl, RA.out _⟩); simp only [Act.put, List.setIfInBounds_toArray, List.set_cons_zero, List.set_cons_succ])
          (apply wpB_take (hw := rfl); (intro wq hq; obtain ⟨hcq, hfq⟩ := bcell hq; unfold atB; go_simp; exact ⟨rfl, rfl⟩); simp only [Act.put, List.setIfInBounds_toArray, List.set_cons_zero, List.set_cons_succ])
          (apply wpB_take (hw := rfl); (intro wq hq; obtain ⟨hcq, hfq⟩ := bcell hq; unfold atB; go_simp; exact ⟨rfl, rfl⟩); simp only [Act.put, List.setIfInBounds_toArray, List.set_cons_zero, List.set_cons_succ])
          (apply wpB_take (hw := rfl); (intro wq hq; obtain ⟨hcq, hfq⟩ := bcell hq; unfold atB; go_simp; exact ⟨rfl, rfl⟩); simp only [Act.put, List.setIfInBounds_toArray, List.set_cons_zero, List.set_cons_succ])
          (apply wpB_take (hw := rfl); (intro wq hq; unfold atB; go_simp; exact ⟨rfl, RB.out _⟩); simp only [Act.put, List.setIfInBounds_toArray, List.set_cons_zero, List.set_cons_succ])
          (apply wpB_take (hw := rfl); (intro wq hq; obtain ⟨hcq, hfq⟩ := bcell hq; unfold atB; go_simp; exact ⟨rfl, rfl⟩); simp only [Act.put, List.setIfInBounds_toArray, List.set_cons_zero, List.set_cons_succ])
          refine ⟨fun p => fillOK2 fun b w hp hcq hfq => ?_, fun b2 w2 hb2 hq2 hp2 hv2 hn2 => ?_⟩
          · subst hp
            go_simp
          obtain ⟨hc2, hf2⟩ := bcell hb2
          have hz2 := hb2.size
          have q2 : w.heap.size < w2.heap.size := by omega
          have gs2 : g4 < w2.heap.size := by omega
          have gn1 : ¬ b2 = g4 := by omega
          have gn2 : ¬ b2 = w.heap.size := by omega
          have gn3 : ¬ g4 = b2 := by omega
          have gn4 : ¬ w.heap.size = b2 := by omega
          have c20 := (hc2 g4 0 gs4).trans c10
          have k20 := (hc2 w.heap.size 0 q1).trans c1_0_0
          have k21 := (hc2 w.heap.size 1 q1).trans c1_0_1
          have j20 := (hf2 w.heap.size 0 q1).trans f1_0_0
          have j21 := (hf2 w.heap.size 1 q1).trans f1_0_1
          have d0 := hv2 0
          have d1 := hv2 1
          simp only [List.getElem?_toArray, List.getElem?_cons_zero, List.getElem?_cons_succ] at d0 d1
          have d2 := hn2 0
          have d3 := hn2 1
          have B2 : Below w.heap.size w w2 := B1.trans (hb2.mono B1.size)
          clear hc2 hf2 hb2 hv2 hn2 c10 c11 c1_0_0 c1_0_1 f1_0_0 f1_0_1
          go_wp2_with fail
          refine (drGood_is _ _ gk _).mono ?_
          rintro e3 w3 ⟨rfl, hb3⟩
          obtain ⟨hc3, hf3⟩ := bcell hb3
          have hz3 := hb3.size
          try simp only [World.size_setCell] at hz3
          have q3 : w.heap.size < w3.heap.size := by omega
          have q3b : b2 < w3.heap.size := by omega
          have c3_0_0 : w3.cell? ⟨w.heap.size, 0, none⟩ = some (.int .i64 0) := (hc3 _ _ (by first | go_size | (simp; omega) | simp)).trans (by go_simp)
          have f3_0_0 : w3.frozen? ⟨w.heap.size, 0, none⟩ = false := (hf3 _ _ (by first | go_size | (simp; omega) | simp)).trans (by go_simp)
          have c3_0_1 : w3.cell? ⟨w.heap.size, 1, none⟩ = some (.int .i64 0) := (hc3 _ _ (by first | go_size | (simp; omega) | simp)).trans (by go_simp)
          have f3_0_1 : w3.frozen? ⟨w.heap.size, 1, none⟩ = false := (hf3 _ _ (by first | go_size | (simp; omega) | simp)).trans (by go_simp)
          have c3_1_0 : w3.cell? ⟨b2, 0, none⟩ = some (.int .i64 1000000) := (hc3 _ _ (by first | go_size | (simp; omega) | simp)).trans (by go_simp)
          have f3_1_0 : w3.frozen? ⟨b2, 0, none⟩ = false := (hf3 _ _ (by first | go_size | (simp; omega) | simp)).trans (by go_simp)
          have c3_1_1 : w3.cell? ⟨b2, 1, none⟩ = some (.int .i64 v) := (hc3 _ _ (by first | go_size | (simp; omega) | simp)).trans (by go_simp)
          have f3_1_1 : w3.frozen? ⟨b2, 1, none⟩ = false := (hf3 _ _ (by first | go_size | (simp; omega) | simp)).trans (by go_simp)
          have B3 : Below w.heap.size w w3 := by (repeat' (first | (with_reducible exact Below.refl _ _) | (with_reducible assumption) | (with_reducible refine Below.alloc ?_ ?_ _) | (with_reducible refine Below.drew ?_) | (with_reducible refine below_drewN ?_ _) | (with_reducible refine Below.setCell ?_ ?_ _) | (with_reducible refine below_call ?_ ?_ (by assumption)) | go_size))
          clear hc3 hf3 hb3
          go_wp2
          (refine bodyPost_ret (by simp [results, Tryd.results8, go_sem, *]; try rfl) rfl ?_)
          exact ⟨ret_rv HM.out, by (repeat' (first | (with_reducible exact Below.refl _ _) | (with_reducible assumption) | (with_reducible refine Below.alloc ?_ ?_ _) | (with_reducible refine Below.drew ?_) | (with_reducible refine below_drewN ?_ _) | (with_reducible refine Below.setCell ?_ ?_ _) | (with_reducible refine below_call ?_ ?_ (by assumption)) | go_size))⟩
        · have HM := Lib.hid (show (1000000, readN b, true) = specP l from by rw [HM0.out]; simp [limS, gk])
          clear HM0
          (go_enter Tryd.func8, Tryd.ntmps8)
          go_wp2_with fail
          refine (HSP.out _).mono ?_
          rintro e1 w1 ⟨v1, rfl, hrow, hb1⟩
          obtain ⟨g4, c4, rfl, gl4, gm4, gb4, gs4, gx4⟩ := hrow.cells hLp
          clear hrow
          obtain ⟨hc1, hf1⟩ := bcell hb1
          have hz1 := hb1.size
          simp only [World.size_alloc] at hz1 gb4
          have c1_0_0 : w1.cell? ⟨w.heap.size, 0, none⟩ = some (.int .i64 0) := (hc1 _ _ (by first | go_size | (simp; omega) | simp)).trans (by go_simp)
          have f1_0_0 : w1.frozen? ⟨w.heap.size, 0, none⟩ = false := (hf1 _ _ (by first | go_size | (simp; omega) | simp)).trans (by go_simp)
          have c1_0_1 : w1.cell? ⟨w.heap.size, 1, none⟩ = some (.int .i64 0) := (hc1 _ _ (by first | go_size | (simp; omega) | simp)).trans (by go_simp)
          have f1_0_1 : w1.frozen? ⟨w.heap.size, 1, none⟩ = false := (hf1 _ _ (by first | go_size | (simp; omega) | simp)).trans (by go_simp)
          have B1 : Below w.heap.size w w1 := by (repeat' (first | (with_reducible exact Below.refl _ _) | (with_reducible assumption) | (with_reducible refine Below.alloc ?_ ?_ _) | (with_reducible refine Below.drew ?_) | (with_reducible refine below_drewN ?_ _) | (with_reducible refine Below.setCell ?_ ?_ _) | (with_reducible refine below_call ?_ ?_ (by assumption)) | go_size))
          have q1 : w.heap.size < w1.heap.size := by omega
          clear hc1 hf1 hb1
          have c10 : w1.cell? ⟨g4, 0, none⟩ = some (str a) := gx4 0 (by simp)
          have c11 : w1.cell? ⟨g4, 1, none⟩ = some (str b) := gx4 1 (by simp)
          clear gx4
          generalize readN a = u at *
          generalize readN b = v at *
          go_wp2_with fail
          refine wp_region_late0 9 (t := 5) #[.int .i64 0, .int .i64 0] #[.int .i64 u, .int .i64 v] 26 (by kernel_rfl) rfl (by kernel_rfl) rfl rfl rfl rfl rfl rfl (fun a w => ?run) ?_
          case run => go_simp
          simp only [List.take_succ_cons, List.take_zero, List.drop_succ_cons, List.drop_zero]
          (apply wpB_take (hw := rfl); (intro wq hq; obtain ⟨hcq, hfq⟩ := bcell hq; unfold atB; go_simp; exact ⟨rfl, rfl⟩); simp only [Act.put, List.setIfInBounds_toArray, List.set_cons_zero, List.set_cons_succ])
          (apply wpB_take (hw := rfl); (intro wq hq; obtain ⟨hcq, hfq⟩ := bcell hq; unfold atB; go_simp; exact ⟨rfl, rfl⟩); simp only [Act.put, List.setIfInBounds_toArray, List.set_cons_zero, List.set_cons_succ])
          (apply wpB_take (hw := rfl); (intro wq hq; obtain ⟨hcq, hfq⟩ := bcell hq; unfold atB; go_simp; exact ⟨rfl, rfl⟩); simp only [Act.put, List.setIfInBounds_toArray, List.set_cons_zero, List.set_cons_succ])
          (apply wpB_take (hw := rfl); (intro wq hq; unfold atB; go_simp; exact ⟨rfl, RA.out _⟩); simp only [Act.put, List.setIfInBounds_toArray, List.set_cons_zero, List.set_cons_succ])
          (apply wpB_take (hw := rfl); (intro wq hq; obtain ⟨hcq, hfq⟩ := bcell hq; unfold atB; go_simp; exact ⟨rfl, rfl⟩); simp only [Act.put, List.setIfInBounds_toArray, List.set_cons_zero, List.set_cons_succ])
          (apply wpB_take (hw := rfl); (intro wq hq; obtain ⟨hcq, hfq⟩ := bcell hq; unfold atB; go_simp; exact ⟨rfl, rfl⟩); simp only [Act.put, List.setIfInBounds_toArray, List.set_cons_zero, List.set_cons_succ])
          (apply wpB_take (hw := rfl); (intro wq hq; obtain ⟨hcq, hfq⟩ := bcell hq; unfold atB; go_simp; exact ⟨rfl, rfl⟩); simp only [Act.put, List.setIfInBounds_toArray, List.set_cons_zero, List.set_cons_succ])
          (apply wpB_take (hw := rfl); (intro wq hq; unfold atB; go_simp; exact ⟨rfl, RB.out _⟩); simp only [Act.put, List.setIfInBounds_toArray, List.set_cons_zero, List.set_cons_succ])
          (apply wpB_take (hw := rfl); (intro wq hq; obtain ⟨hcq, hfq⟩ := bcell hq; unfold atB; go_simp; exact ⟨rfl, rfl⟩); simp only [Act.put, List.setIfInBounds_toArray, List.set_cons_zero, List.set_cons_succ])
          refine ⟨fun p => fillOK2 fun b w hp hcq hfq => ?_, fun b2 w2 hb2 hq2 hp2 hv2 hn2 => ?_⟩
          · subst hp
            go_simp
          obtain ⟨hc2, hf2⟩ := bcell hb2
          have hz2 := hb2.size
          have q2 : w.heap.size < w2.heap.size := by omega
          have gs2 : g4 < w2.heap.size := by omega
          have gn1 : ¬ b2 = g4 := by omega
          have gn2 : ¬ b2 = w.heap.size := by omega
          have gn3 : ¬ g4 = b2 := by omega
          have gn4 : ¬ w.heap.size = b2 := by omega
          have c20 := (hc2 g4 0 gs4).trans c10
          have k20 := (hc2 w.heap.size 0 q1).trans c1_0_0
          have k21 := (hc2 w.heap.size 1 q1).trans c1_0_1
          have j20 := (hf2 w.heap.size 0 q1).trans f1_0_0
          have j21 := (hf2 w.heap.size 1 q1).trans f1_0_1
          have d0 := hv2 0
          have d1 := hv2 1
          simp only [List.getElem?_toArray, List.getElem?_cons_zero, List.getElem?_cons_succ] at d0 d1
          have d2 := hn2 0
          have d3 := hn2 1
          have B2 : Below w.heap.size w w2 := B1.trans (hb2.mono B1.size)
          clear hc2 hf2 hb2 hv2 hn2 c10 c11 c1_0_0 c1_0_1 f1_0_0 f1_0_1
          go_wp2_with fail
          refine (drGood_is _ _ gk _).mono ?_
          rintro e3 w3 ⟨rfl, hb3⟩
          obtain ⟨hc3, hf3⟩ := bcell hb3
          have hz3 := hb3.size
          try simp only [World.size_setCell] at hz3
          have q3 : w.heap.size < w3.heap.size := by omega
          have q3b : b2 < w3.heap.size := by omega
          have c3_0_0 : w3.cell? ⟨w.heap.size, 0, none⟩ = some (.int .i64 0) := (hc3 _ _ (by first | go_size | (simp; omega) | simp)).trans (by go_simp)
          have f3_0_0 : w3.frozen? ⟨w.heap.size, 0, none⟩ = false := (hf3 _ _ (by first | go_size | (simp; omega) | simp)).trans (by go_simp)
          have c3_0_1 : w3.cell? ⟨w.heap.size, 1, none⟩ = some (.int .i64 0) := (hc3 _ _ (by first | go_size | (simp; omega) | simp)).trans (by go_simp)
          have f3_0_1 : w3.frozen? ⟨w.heap.size, 1, none⟩ = false := (hf3 _ _ (by first | go_size | (simp; omega) | simp)).trans (by go_simp)
          have c3_1_0 : w3.cell? ⟨b2, 0, none⟩ = some (.int .i64 1000000) := (hc3 _ _ (by first | go_size | (simp; omega) | simp)).trans (by go_simp)
          have f3_1_0 : w3.frozen? ⟨b2, 0, none⟩ = false := (hf3 _ _ (by first | go_size | (simp; omega) | simp)).trans (by go_simp)
          have c3_1_1 : w3.cell? ⟨b2, 1, none⟩ = some (.int .i64 v) := (hc3 _ _ (by first | go_size | (simp; omega) | simp)).trans (by go_simp)
          have f3_1_1 : w3.frozen? ⟨b2, 1, none⟩ = false := (hf3 _ _ (by first | go_size | (simp; omega) | simp)).trans (by go_simp)
          have B3 : Below w.heap.size w w3 := by (repeat' (first | (with_reducible exact Below.refl _ _) | (with_reducible assumption) | (with_reducible refine Below.alloc ?_ ?_ _) | (with_reducible refine Below.drew ?_) | (with_reducible refine below_drewN ?_ _) | (with_reducible refine Below.setCell ?_ ?_ _) | (with_reducible refine below_call ?_ ?_ (by assumption)) | go_size))
          clear hc3 hf3 hb3
          go_wp2
          (refine bodyPost_ret (by simp [results, Tryd.results8, go_sem, *]; try rfl) rfl ?_)
          exact ⟨ret_rv HM.out, by (repeat' (first | (with_reducible exact Below.refl _ _) | (with_reducible assumption) | (with_reducible refine Below.alloc ?_ ?_ _) | (with_reducible refine Below.drew ?_) | (with_reducible refine below_drewN ?_ _) | (with_reducible refine Below.setCell ?_ ?_ _) | (with_reducible refine below_call ?_ ?_ (by assumption)) | go_size))⟩
      · have ha' : (a == [49, 48, 48, 48, 48, 48, 48]) = false := by simpa using ha
        have hnum : numP a = readN a := by unfold numP; rw [if_neg ha]
        rw [hnum] at HM0
        clear hnum ha
        cases gk : spanB (readN a) (readN b)
        · have HM := Lib.hid (show fail3 = specP l from by rw [HM0.out]; simp [limS, gk])
          clear HM0
          (go_enter Tryd.func8, Tryd.ntmps8)
          go_wp2_with fail
          refine (HSP.out _).mono ?_
          rintro e1 w1 ⟨v1, rfl, hrow, hb1⟩
          obtain ⟨g4, c4, rfl, gl4, gm4, gb4, gs4, gx4⟩ := hrow.cells hLp
          clear hrow
          obtain ⟨hc1, hf1⟩ := bcell hb1
          have hz1 := hb1.size
          simp only [World.size_alloc] at hz1 gb4
          have c1_0_0 : w1.cell? ⟨w.heap.size, 0, none⟩ = some (.int .i64 0) := (hc1 _ _ (by first | go_size | (simp; omega) | simp)).trans (by go_simp)
          have f1_0_0 : w1.frozen? ⟨w.heap.size, 0, none⟩ = false := (hf1 _ _ (by first | go_size | (simp; omega) | simp)).trans (by go_simp)
          have c1_0_1 : w1.cell? ⟨w.heap.size, 1, none⟩ = some (.int .i64 0) := (hc1 _ _ (by first | go_size | (simp; omega) | simp)).trans (by go_simp)
          have f1_0_1 : w1.frozen? ⟨w.heap.size, 1, none⟩ = false := (hf1 _ _ (by first | go_size | (simp; omega) | simp)).trans (by go_simp)
          have B1 : Below w.heap.size w w1 := by (repeat' (first | (with_reducible exact Below.refl _ _) | (with_reducible assumption) | (with_reducible refine Below.alloc ?_ ?_ _) | (with_reducible refine Below.drew ?_) | (with_reducible refine below_drewN ?_ _) | (with_reducible refine Below.setCell ?_ ?_ _) | (with_reducible refine below_call ?_ ?_ (by assumption)) | go_size))
          have q1 : w.heap.size < w1.heap.size := by omega
          clear hc1 hf1 hb1
          have c10 : w1.cell? ⟨g4, 0, none⟩ = some (str a) := gx4 0 (by simp)
          have c11 : w1.cell? ⟨g4, 1, none⟩ = some (str b) := gx4 1 (by simp)
          clear gx4
          generalize readN a = u at *
          generalize readN b = v at *
          go_wp2_with fail
          refine wp_region_late0 9 (t := 5) #[.int .i64 0, .int .i64 0] #[.int .i64 u, .int .i64 v] 26 (by kernel_rfl) rfl (by kernel_rfl) rfl rfl rfl rfl rfl rfl (fun a w => ?run) ?_
          case run => go_simp
          simp only [List.take_succ_cons, List.take_zero, List.drop_succ_cons, List.drop_zero]
          (apply wpB_take (hw := rfl); (intro wq hq; obtain ⟨hcq, hfq⟩ := bcell hq; unfold atB; go_simp; exact ⟨rfl, rfl⟩); simp only [Act.put, List.setIfInBounds_toArray, List.set_cons_zero, List.set_cons_succ])
          (apply wpB_take (hw := rfl); (intro wq hq; obtain ⟨hcq, hfq⟩ := bcell hq; unfold atB; go_simp; exact ⟨rfl, rfl⟩); simp only [Act.put, List.setIfInBounds_toArray, List.set_cons_zero, List.set_cons_succ])
          (apply wpB_take (hw := rfl); (intro wq hq; obtain ⟨hcq, hfq⟩ := bcell hq; unfold atB; go_simp; exact ⟨rfl, rfl⟩); simp only [Act.put, List.setIfInBounds_toArray, List.set_cons_zero, List.set_cons_succ])
          (apply wpB_take (hw := rfl); (intro wq hq; unfold atB; go_simp; exact ⟨rfl, RA.out _⟩); simp only [Act.put, List.setIfInBounds_toArray, List.set_cons_zero, List.set_cons_succ])
          (apply wpB_take (hw := rfl); (intro wq hq; obtain ⟨hcq, hfq⟩ := bcell hq; unfold atB; go_simp; exact ⟨rfl, rfl⟩); simp only [Act.put, List.setIfInBounds_toArray, List.set_cons_zero, List.set_cons_succ])
          (apply wpB_take (hw := rfl); (intro wq hq; obtain ⟨hcq, hfq⟩ := bcell hq; unfold atB; go_simp; exact ⟨rfl, rfl⟩); simp only [Act.put, List.setIfInBounds_toArray, List.set_cons_zero, List.set_cons_succ])
          (apply wpB_take (hw := rfl); (intro wq hq; obtain ⟨hcq, hfq⟩ := bcell hq; unfold atB; go_simp; exact ⟨rfl, rfl⟩); simp only [Act.put, List.setIfInBounds_toArray, List.set_cons_zero, List.set_cons_succ])
          (apply wpB_take (hw := rfl); (intro wq hq; unfold atB; go_simp; exact ⟨rfl, RB.out _⟩); simp only [Act.put, List.setIfInBounds_toArray, List.set_cons_zero, List.set_cons_succ])
          (apply wpB_take (hw := rfl); (intro wq hq; obtain ⟨hcq, hfq⟩ := bcell hq; unfold atB; go_simp; exact ⟨rfl, rfl⟩); simp only [Act.put, List.setIfInBounds_toArray, List.set_cons_zero, List.set_cons_succ])
          refine ⟨fun p => fillOK2 fun b w hp hcq hfq => ?_, fun b2 w2 hb2 hq2 hp2 hv2 hn2 => ?_⟩
          · subst hp
            go_simp
          obtain ⟨hc2, hf2⟩ := bcell hb2
          have hz2 := hb2.size
          have q2 : w.heap.size < w2.heap.size := by omega
          have gs2 : g4 < w2.heap.size := by omega
          have gn1 : ¬ b2 = g4 := by omega
          have gn2 : ¬ b2 = w.heap.size := by omega
          have gn3 : ¬ g4 = b2 := by omega
          have gn4 : ¬ w.heap.size = b2 := by omega
          have c20 := (hc2 g4 0 gs4).trans c10
          have k20 := (hc2 w.heap.size 0 q1).trans c1_0_0
          have k21 := (hc2 w.heap.size 1 q1).trans c1_0_1
          have j20 := (hf2 w.heap.size 0 q1).trans f1_0_0
          have j21 := (hf2 w.heap.size 1 q1).trans f1_0_1
          have d0 := hv2 0
          have d1 := hv2 1
          simp only [List.getElem?_toArray, List.getElem?_cons_zero, List.getElem?_cons_succ] at d0 d1
          have d2 := hn2 0
          have d3 := hn2 1
          have B2 : Below w.heap.size w w2 := B1.trans (hb2.mono B1.size)
          clear hc2 hf2 hb2 hv2 hn2 c10 c11 c1_0_0 c1_0_1 f1_0_0 f1_0_1
          go_wp2_with fail
          refine (drGood_is _ _ gk _).mono ?_
          rintro e3 w3 ⟨rfl, hb3⟩
          obtain ⟨hc3, hf3⟩ := bcell hb3
          have hz3 := hb3.size
          try simp only [World.size_setCell] at hz3
          have q3 : w.heap.size < w3.heap.size := by omega
          have q3b : b2 < w3.heap.size := by omega
          have c3_0_0 : w3.cell? ⟨w.heap.size, 0, none⟩ = some (.int .i64 0) := (hc3 _ _ (by first | go_size | (simp; omega) | simp)).trans (by go_simp)
          have f3_0_0 : w3.frozen? ⟨w.heap.size, 0, none⟩ = false := (hf3 _ _ (by first | go_size | (simp; omega) | simp)).trans (by go_simp)
          have c3_0_1 : w3.cell? ⟨w.heap.size, 1, none⟩ = some (.int .i64 0) := (hc3 _ _ (by first | go_size | (simp; omega) | simp)).trans (by go_simp)
          have f3_0_1 : w3.frozen? ⟨w.heap.size, 1, none⟩ = false := (hf3 _ _ (by first | go_size | (simp; omega) | simp)).trans (by go_simp)
          have c3_1_0 : w3.cell? ⟨b2, 0, none⟩ = some (.int .i64 u) := (hc3 _ _ (by first | go_size | (simp; omega) | simp)).trans (by go_simp)
          have f3_1_0 : w3.frozen? ⟨b2, 0, none⟩ = false := (hf3 _ _ (by first | go_size | (simp; omega) | simp)).trans (by go_simp)
          have c3_1_1 : w3.cell? ⟨b2, 1, none⟩ = some (.int .i64 v) := (hc3 _ _ (by first | go_size | (simp; omega) | simp)).trans (by go_simp)
          have f3_1_1 : w3.frozen? ⟨b2, 1, none⟩ = false := (hf3 _ _ (by first | go_size | (simp; omega) | simp)).trans (by go_simp)
          have B3 : Below w.heap.size w w3 := by (repeat' (first | (with_reducible exact Below.refl _ _) | (with_reducible assumption) | (with_reducible refine Below.alloc ?_ ?_ _) | (with_reducible refine Below.drew ?_) | (with_reducible refine below_drewN ?_ _) | (with_reducible refine Below.setCell ?_ ?_ _) | (with_reducible refine below_call ?_ ?_ (by assumption)) | go_size))
          clear hc3 hf3 hb3
          go_wp2
          (refine bodyPost_ret (by simp [results, Tryd.results8, go_sem, *]; try rfl) rfl ?_)
          exact ⟨ret_rv HM.out, by (repeat' (first | (with_reducible exact Below.refl _ _) | (with_reducible assumption) | (with_reducible refine Below.alloc ?_ ?_ _) | (with_reducible refine Below.drew ?_) | (with_reducible refine below_drewN ?_ _) | (with_reducible refine Below.setCell ?_ ?_ _) | (with_reducible refine below_call ?_ ?_ (by assumption)) | go_size))⟩
        · have HM := Lib.hid (show (readN a, readN b, true) = specP l from by rw [HM0.out]; simp [limS, gk])
          clear HM0
          (go_enter Tryd.func8, Tryd.ntmps8)
          go_wp2_with fail
          refine (HSP.out _).mono ?_
          rintro e1 w1 ⟨v1, rfl, hrow, hb1⟩
          obtain ⟨g4, c4, rfl, gl4, gm4, gb4, gs4, gx4⟩ := hrow.cells hLp
          clear hrow
          obtain ⟨hc1, hf1⟩ := bcell hb1
          have hz1 := hb1.size
          simp only [World.size_alloc] at hz1 gb4
          have c1_0_0 : w1.cell? ⟨w.heap.size, 0, none⟩ = some (.int .i64 0) := (hc1 _ _ (by first | go_size | (simp; omega) | simp)).trans (by go_simp)
          have f1_0_0 : w1.frozen? ⟨w.heap.size, 0, none⟩ = false := (hf1 _ _ (by first | go_size | (simp; omega) | simp)).trans (by go_simp)
          have c1_0_1 : w1.cell? ⟨w.heap.size, 1, none⟩ = some (.int .i64 0) := (hc1 _ _ (by first | go_size | (simp; omega) | simp)).trans (by go_simp)
          have f1_0_1 : w1.frozen? ⟨w.heap.size, 1, none⟩ = false := (hf1 _ _ (by first | go_size | (simp; omega) | simp)).trans (by go_simp)
          have B1 : Below w.heap.size w w1 := by (repeat' (first | (with_reducible exact Below.refl _ _) | (with_reducible assumption) | (with_reducible refine Below.alloc ?_ ?_ _) | (with_reducible refine Below.drew ?_) | (with_reducible refine below_drewN ?_ _) | (with_reducible refine Below.setCell ?_ ?_ _) | (with_reducible refine below_call ?_ ?_ (by assumption)) | go_size))
          have q1 : w.heap.size < w1.heap.size := by omega
          clear hc1 hf1 hb1
          have c10 : w1.cell? ⟨g4, 0, none⟩ = some (str a) := gx4 0 (by simp)
          have c11 : w1.cell? ⟨g4, 1, none⟩ = some (str b) := gx4 1 (by simp)
          clear gx4
          generalize readN a = u at *
          generalize readN b = v at *
          go_wp2_with fail
          refine wp_region_late0 9 (t := 5) #[.int .i64 0, .int .i64 0] #[.int .i64 u, .int .i64 v] 26 (by kernel_rfl) rfl (by kernel_rfl) rfl rfl rfl rfl rfl rfl (fun a w => ?run) ?_
          case run => go_simp
          simp only [List.take_succ_cons, List.take_zero, List.drop_succ_cons, List.drop_zero]
          (apply wpB_take (hw := rfl); (intro wq hq; obtain ⟨hcq, hfq⟩ := bcell hq; unfold atB; go_simp; exact ⟨rfl, rfl⟩); simp only [Act.put, List.setIfInBounds_toArray, List.set_cons_zero, List.set_cons_succ])
          (apply wpB_take (hw := rfl); (intro wq hq; obtain ⟨hcq, hfq⟩ := bcell hq; unfold atB; go_simp; exact ⟨rfl, rfl⟩); simp only [Act.put, List.setIfInBounds_toArray, List.set_cons_zero, List.set_cons_succ])
          (apply wpB_take (hw := rfl); (intro wq hq; obtain ⟨hcq, hfq⟩ := bcell hq; unfold atB; go_simp; exact ⟨rfl, rfl⟩); simp only [Act.put, List.setIfInBounds_toArray, List.set_cons_zero, List.set_cons_succ])
          (apply wpB_take (hw := rfl); (intro wq hq; unfold atB; go_simp; exact ⟨rfl, RA.out _⟩); simp only [Act.put, List.setIfInBounds_toArray, List.set_cons_zero, List.set_cons_succ])
          (apply wpB_take (hw := rfl); (intro wq hq; obtain ⟨hcq, hfq⟩ := bcell hq; unfold atB; go_simp; exact ⟨rfl, rfl⟩); simp only [Act.put, List.setIfInBounds_toArray, List.set_cons_zero, List.set_cons_succ])
          (apply wpB_take (hw := rfl); (intro wq hq; obtain ⟨hcq, hfq⟩ := bcell hq; unfold atB; go_simp; exact ⟨rfl, rfl⟩); simp only [Act.put, List.setIfInBounds_toArray, List.set_cons_zero, List.set_cons_succ])
          (apply wpB_take (hw := rfl); (intro wq hq; obtain ⟨hcq, hfq⟩ := bcell hq; unfold atB; go_simp; exact ⟨rfl, rfl⟩); simp only [Act.put, List.setIfInBounds_toArray, List.set_cons_zero, List.set_cons_succ])
          (apply wpB_take (hw := rfl); (intro wq hq; unfold atB; go_simp; exact ⟨rfl, RB.out _⟩); simp only [Act.put, List.setIfInBounds_toArray, List.set_cons_zero, List.set_cons_succ])
          (apply wpB_take (hw := rfl); (intro wq hq; obtain ⟨hcq, hfq⟩ := bcell hq; unfold atB; go_simp; exact ⟨rfl, rfl⟩); simp only [Act.put, List.setIfInBounds_toArray, List.set_cons_zero, List.set_cons_succ])
          refine ⟨fun p => fillOK2 fun b w hp hcq hfq => ?_, fun b2 w2 hb2 hq2 hp2 hv2 hn2 => ?_⟩
          · subst hp
            go_simp
          obtain ⟨hc2, hf2⟩ := bcell hb2
          have hz2 := hb2.size
          have q2 : w.heap.size < w2.heap.size := by omega
          have gs2 : g4 < w2.heap.size := by omega
          have gn1 : ¬ b2 = g4 := by omega
          have gn2 : ¬ b2 = w.heap.size := by omega
          have gn3 : ¬ g4 = b2 := by omega
          have gn4 : ¬ w.heap.size = b2 := by omega
          have c20 := (hc2 g4 0 gs4).trans c10
          have k20 := (hc2 w.heap.size 0 q1).trans c1_0_0
          have k21 := (hc2 w.heap.size 1 q1).trans c1_0_1
          have j20 := (hf2 w.heap.size 0 q1).trans f1_0_0
          have j21 := (hf2 w.heap.size 1 q1).trans f1_0_1
          have d0 := hv2 0
          have d1 := hv2 1
          simp only [List.getElem?_toArray, List.getElem?_cons_zero, List.getElem?_cons_succ] at d0 d1
          have d2 := hn2 0
          have d3 := hn2 1
          have B2 : Below w.heap.size w w2 := B1.trans (hb2.mono B1.size)
          clear hc2 hf2 hb2 hv2 hn2 c10 c11 c1_0_0 c1_0_1 f1_0_0 f1_0_1
          go_wp2_with fail
          refine (drGood_is _ _ gk _).mono ?_
          rintro e3 w3 ⟨rfl, hb3⟩
          obtain ⟨hc3, hf3⟩ := bcell hb3
          have hz3 := hb3.size
          try simp only [World.size_setCell] at hz3
          have q3 : w.heap.size < w3.heap.size := by omega
          have q3b : b2 < w3.heap.size := by omega
          have c3_0_0 : w3.cell? ⟨w.heap.size, 0, none⟩ = some (.int .i64 0) := (hc3 _ _ (by first | go_size | (simp; omega) | simp)).trans (by go_simp)
          have f3_0_0 : w3.frozen? ⟨w.heap.size, 0, none⟩ = false := (hf3 _ _ (by first | go_size | (simp; omega) | simp)).trans (by go_simp)
          have c3_0_1 : w3.cell? ⟨w.heap.size, 1, none⟩ = some (.int .i64 0) := (hc3 _ _ (by first | go_size | (simp; omega) | simp)).trans (by go_simp)
          have f3_0_1 : w3.frozen? ⟨w.heap.size, 1, none⟩ = false := (hf3 _ _ (by first | go_size | (simp; omega) | simp)).trans (by go_simp)
          have c3_1_0 : w3.cell? ⟨b2, 0, none⟩ = some (.int .i64 u) := (hc3 _ _ (by first | go_size | (simp; omega) | simp)).trans (by go_simp)
          have f3_1_0 : w3.frozen? ⟨b2, 0, none⟩ = false := (hf3 _ _ (by first | go_size | (simp; omega) | simp)).trans (by go_simp)
          have c3_1_1 : w3.cell? ⟨b2, 1, none⟩ = some (.int .i64 v) := (hc3 _ _ (by first | go_size | (simp; omega) | simp)).trans (by go_simp)
          have f3_1_1 : w3.frozen? ⟨b2, 1, none⟩ = false := (hf3 _ _ (by first | go_size | (simp; omega) | simp)).trans (by go_simp)
          have B3 : Below w.heap.size w w3 := by (repeat' (first | (with_reducible exact Below.refl _ _) | (with_reducible assumption) | (with_reducible refine Below.alloc ?_ ?_ _) | (with_reducible refine Below.drew ?_) | (with_reducible refine below_drewN ?_ _) | (with_reducible refine Below.setCell ?_ ?_ _) | (with_reducible refine below_call ?_ ?_ (by assumption)) | go_size))
          clear hc3 hf3 hb3
          go_wp2
          (refine bodyPost_ret (by simp [results, Tryd.results8, go_sem, *]; try rfl) rfl ?_)
          exact ⟨ret_rv HM.out, by (repeat' (first | (with_reducible exact Below.refl _ _) | (with_reducible assumption) | (with_reducible refine Below.alloc ?_ ?_ _) | (with_reducible refine Below.drew ?_) | (with_reducible refine below_drewN ?_ _) | (with_reducible refine Below.setCell ?_ ?_ _) | (with_reducible refine below_call ?_ ?_ (by assumption)) | go_size))⟩
    · have HM := Lib.hid (show fail3 = specP l from by rw [HS.out, if_neg (fun h => h2 h.2)])
      have i20 : (l.length : Int) ≤ 20 := by omega
      have i2 : ¬ (L.length : Int) = 2 := by omega
      have i2' : ((L.length : Int) != 2) = true := by simpa using i2
      (go_enter Tryd.func8, Tryd.ntmps8)
      go_wp2_with fail
      refine (HSP.out _).mono ?_
      rintro e1 w1 ⟨v1, rfl, hrow, hb1⟩
      obtain ⟨g4, c4, rfl, gl4, gm4, gb4, gs4, gx4⟩ := hrow.cells hLp
      clear hrow
      obtain ⟨hc1, hf1⟩ := bcell hb1
      have hz1 := hb1.size
      simp only [World.size_alloc] at hz1 gb4
      have c1_0_0 : w1.cell? ⟨w.heap.size, 0, none⟩ = some (.int .i64 0) := (hc1 _ _ (by first | go_size | (simp; omega) | simp)).trans (by go_simp)
      have f1_0_0 : w1.frozen? ⟨w.heap.size, 0, none⟩ = false := (hf1 _ _ (by first | go_size | (simp; omega) | simp)).trans (by go_simp)
      have c1_0_1 : w1.cell? ⟨w.heap.size, 1, none⟩ = some (.int .i64 0) := (hc1 _ _ (by first | go_size | (simp; omega) | simp)).trans (by go_simp)
      have f1_0_1 : w1.frozen? ⟨w.heap.size, 1, none⟩ = false := (hf1 _ _ (by first | go_size | (simp; omega) | simp)).trans (by go_simp)
      have B1 : Below w.heap.size w w1 := by (repeat' (first | (with_reducible exact Below.refl _ _) | (with_reducible assumption) | (with_reducible refine Below.alloc ?_ ?_ _) | (with_reducible refine Below.drew ?_) | (with_reducible refine below_drewN ?_ _) | (with_reducible refine Below.setCell ?_ ?_ _) | (with_reducible refine below_call ?_ ?_ (by assumption)) | go_size))
      have q1 : w.heap.size < w1.heap.size := by omega
      clear hc1 hf1 hb1
      go_wp2
      (refine bodyPost_ret (by simp [results, Tryd.results8, go_sem, *]; try rfl) rfl ?_)
      exact ⟨ret_rv HM.out, by (repeat' (first | (with_reducible exact Below.refl _ _) | (with_reducible assumption) | (with_reducible refine Below.alloc ?_ ?_ _) | (with_reducible refine Below.drew ?_) | (with_reducible refine below_drewN ?_ _) | (with_reducible refine Below.setCell ?_ ?_ _) | (with_reducible refine below_call ?_ ?_ (by assumption)) | go_size))⟩
  · have HM := Lib.hid (show fail3 = specP l from by rw [HS.out, if_neg (fun h => h20 h.1)])
    have i20 : 20 < (l.length : Int) := by omega
    (go_enter Tryd.func8, Tryd.ntmps8)
    go_wp2_with fail
    refine (HSP.out _).mono ?_
    rintro e1 w1 ⟨v1, rfl, hrow, hb1⟩
    obtain ⟨g4, c4, rfl, gl4, gm4, gb4, gs4, gx4⟩ := hrow.cells hLp
    clear hrow
    obtain ⟨hc1, hf1⟩ := bcell hb1
    have hz1 := hb1.size
    simp only [World.size_alloc] at hz1 gb4
    have c1_0_0 : w1.cell? ⟨w.heap.size, 0, none⟩ = some (.int .i64 0) := (hc1 _ _ (by first | go_size | (simp; omega) | simp)).trans (by go_simp)
    have f1_0_0 : w1.frozen? ⟨w.heap.size, 0, none⟩ = false := (hf1 _ _ (by first | go_size | (simp; omega) | simp)).trans (by go_simp)
    have c1_0_1 : w1.cell? ⟨w.heap.size, 1, none⟩ = some (.int .i64 0) := (hc1 _ _ (by first | go_size | (simp; omega) | simp)).trans (by go_simp)
    have f1_0_1 : w1.frozen? ⟨w.heap.size, 1, none⟩ = false := (hf1 _ _ (by first | go_size | (simp; omega) | simp)).trans (by go_simp)
    have B1 : Below w.heap.size w w1 := by (repeat' (first | (with_reducible exact Below.refl _ _) | (with_reducible assumption) | (with_reducible refine Below.alloc ?_ ?_ _) | (with_reducible refine Below.drew ?_) | (with_reducible refine below_drewN ?_ _) | (with_reducible refine Below.setCell ?_ ?_ _) | (with_reducible refine below_call ?_ ?_ (by assumption)) | go_size))
    have q1 : w.heap.size < w1.heap.size := by omega
    clear hc1 hf1 hb1
    go_wp2
    (refine bodyPost_ret (by simp [results, Tryd.results8, go_sem, *]; try rfl) rfl ?_)
    exact ⟨ret_rv HM.out, by (repeat' (first | (with_reducible exact Below.refl _ _) | (with_reducible assumption) | (with_reducible refine Below.alloc ?_ ?_ _) | (with_reducible refine Below.drew ?_) | (with_reducible refine below_drewN ?_ _) | (with_reducible refine Below.setCell ?_ ?_ _) | (with_reducible refine below_call ?_ ?_ (by assumption)) | go_size))⟩
end Go.Proofs.YtnokjdcgokfdhaaDoor
