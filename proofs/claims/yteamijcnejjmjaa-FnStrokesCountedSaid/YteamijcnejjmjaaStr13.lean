/- How many halves are alone with their number: by the program and by the model. -/
import Derived.Test.YteamijcnejjmjaaStr10
set_option linter.unusedSimpArgs false
set_option linter.unusedVariables false
set_option maxRecDepth 100000
namespace Go.Proofs.Yteamijcnejjmjaa
open Go.ChangeShapes Go.WideShapes Go.ChangeAt Go.RowKit Go.Maps

def choR (h : Int) : Int × Bool := if inB h 2 24 then (h - 1, true) else (0, false)
theorem mi_under : Try.prog.underlying 48 = some (.map 3 3) := by kernel_rfl
theorem filter_drop (p : Nat → Bool) (j0 : Nat) (hp : p j0 = true) : ∀ m, j0 < m → ((List.range m).filter (fun j => p j && !(j == j0))).length + 1 = ((List.range m).filter p).length := by
  intro m
  induction m with
  | zero => intro h; omega
  | succ m ih =>
    intro h
    simp only [List.range_succ, List.filter_append, List.length_append]
    by_cases hj : j0 = m
    · subst hj
      have e : (List.range j0).filter (fun j => p j && !(j == j0)) = (List.range j0).filter p := List.filter_congr fun j hj => by
        have : j ≠ j0 := by have := List.mem_range.1 hj; omega
        simp [this]
      simp [e, hp]
    · have hi := ih (by omega)
      have e : ([m].filter fun j => p j && !(j == j0)) = [m].filter p := List.filter_congr fun j hjm => by
        have : j ≠ j0 := by simp at hjm; omega
        simp [this]
      rw [e]; omega
/-- How many numbers from 2 on are still to come. -/
def lf (h : Int) (left : Lit → Bool) : Nat := ((List.range (h - 1).toNat).filter (fun j : Nat => left (kI ((j : Int) + 2)))).length
theorem lf_le (h : Int) (left : Lit → Bool) : lf h left ≤ (h - 1).toNat := Nat.le_trans (List.length_filter_le _ _) (by simp)
theorem lf_all {h : Int} {left : Lit → Bool} (e : ∀ j : Nat, j < (h - 1).toNat → left (kI ((j : Int) + 2)) = true) : lf h left = (h - 1).toNat := by
  unfold lf
  rw [List.filter_eq_self.2 fun j hj => e j (List.mem_range.1 hj)]; simp
theorem lf_none {h : Int} {left : Lit → Bool} (e : ∀ kl, left kl = false) : lf h left = 0 := by
  unfold lf
  rw [List.filter_eq_nil_iff.2 fun j _ => by rw [e]; simp]; rfl
theorem sameKey_kI (x y : Int) : (kI x).sameKey (kI y) = decide (x = y) := by
  by_cases e : x = y
  · subst e; simp [Lit.sameKey]
  · rw [sameKey_ne (kI_ne e)]; simp [e]
theorem lf_other {h x : Int} {left : Lit → Bool} (hx : x < 2) : lf h (fun z => left z && !z.sameKey (kI x)) = lf h left := by
  unfold lf
  congr 1
  refine List.filter_congr fun j _ => ?_
  show (left (kI ((j : Int) + 2)) && !(kI ((j : Int) + 2)).sameKey (kI x)) = left (kI ((j : Int) + 2))
  rw [sameKey_kI]
  have : ¬ ((j : Int) + 2 = x) := by omega
  simp [this]
theorem lf_one {h x : Int} {left : Lit → Bool} (h0 : 2 ≤ x) (h1 : x ≤ h) (hl : left (kI x) = true) : lf h (fun z => left z && !z.sameKey (kI x)) + 1 = lf h left := by
  unfold lf
  have := filter_drop (fun j : Nat => left (kI ((j : Int) + 2))) (x - 2).toNat (by show left (kI ((((x - 2).toNat : Nat) : Int) + 2)) = true; rw [show (((x - 2).toNat : Nat) : Int) + 2 = x by omega]; exact hl) (h - 1).toNat (by omega)
  rw [← this]
  congr 2
  refine List.filter_congr fun j _ => ?_
  show (left (kI ((j : Int) + 2)) && !(kI ((j : Int) + 2)).sameKey (kI x)) = (left (kI ((j : Int) + 2)) && !(j == (x - 2).toNat))
  rw [sameKey_kI]
  congr 2
  rw [Bool.eq_iff_iff]
  simp only [decide_eq_true_eq, beq_iff_eq]
  omega
theorem cnt_succ (h v : Int) (k : Nat) {t : Int} (ht : stM h k = t) : cnt h v (k + 1) = cnt h v k + (if t = v then 1 else 0) := by subst ht; rfl

set_option maxHeartbeats 1600000 in
theorem specCountHeardOnce_any (h : Int) (w : World) :
    Calls Try.prog 12 #[.int .i64 h] w fun e w' => e = .returned (nv (choR h)) ∧ Below w.heap.size w w' := by
  cases ga : inB h 2 24
  · have HM := Lib.hid (show (0, false) = choR h from by simp [choR, ga])
    (go_enter Try.func12, Try.ntmps12)
    go_wp2_with fail
    refine (diHours_is _ ga _).mono ?_
    (rintro e1 w1 ⟨rfl, rfl⟩)
    go_wp2
    (refine bodyPost_ret (by simp [results, Try.results12, go_sem, *]; try rfl) rfl ?_)
    exact ⟨ret_nv HM.out, by (repeat' (first | (with_reducible exact Below.refl _ _) | (with_reducible assumption) | (with_reducible refine Below.alloc ?_ ?_ _) | (with_reducible refine Below.drew ?_) | (with_reducible refine below_drewN ?_ _) | (with_reducible refine Below.setCell ?_ ?_ _) | (with_reducible refine below_call ?_ ?_ (by assumption)) | go_size))⟩
  · have hh := inB_bd ga
    have hw2 := w64 (n := 2 * h) (by omega)
    obtain ⟨R, hR⟩ : ∃ R : Nat, (R : Int) = 2 * h := ⟨(2 * h).toNat, by omega⟩
    have HM : Hid ((((aloneK h R : Nat) : Int), true) = choR h) := Lib.hid (by rw [choR, ga, show R = (2 * h).toNat by omega, alone_all hh]; rfl)
    (go_enter Try.func12, Try.ntmps12)
    go_wp2_with fail
    refine (diHours_is _ ga _).mono ?_
    (rintro e1 w1 ⟨rfl, rfl⟩)
    go_wp2
    go_loopw [4, 5] (fun o i wr => ∃ k : Nat, k ≤ R ∧ i = .int .i64 k ∧ o = .int .i64 (aloneK h k) ∧ Below w.heap.size w wr) (fun _ i _ => R - (RowKit.intOf i).toNat)
    case atStart => exact ⟨0, Nat.zero_le _, rfl, rfl, Below.refl _ _⟩
    case round =>
      obtain ⟨k, hk, rfl, rfl, hbel⟩ := hrel
      have hzr := hbel.size
      have i0' : (0 : Int) ≤ (k : Int) := Int.natCast_nonneg _
      have hal := aloneK_le h k
      by_cases hlt : (k : Int) < 2 * h
      · go_wp2_with fail
        refine (stFrom_any h k 1 hh (by omega) (by omega) _).mono ?_
        rintro e1 w1 ⟨v1, rfl, hr1, hb1⟩
        obtain ⟨a1, cc1, rfl, hin1, -, -⟩ := hr1.inn
        have X3 := Lib.hid hin1
        have hz1 := hb1.size
        rw [hl_length]
        clear hin1 hr1
        go_wp2_with fail
        refine (stHalves_any h (hl h k 1) 1 (hl_length _ _ _) a1 cc1 (by omega) hh _ X3.out).mono ?_
        rintro e2 w2 ⟨v2, rfl, hr2, hb2⟩
        obtain ⟨a2, cc2, rfl, -, -, -⟩ := hr2.inn
        have hB2 : Below w.heap.size w w2 := hbel.trans ((hb1.trans (hb2.mono hz1)).mono hzr)
        clear hr2
        have hlen := hvs_len hh (hl h k 1)
        by_cases hm : (hvs h (hl h k 1)).length = 1
        · have HN : Hid (aloneK h (k + 1) = aloneK h k + 1) := Lib.hid (by simp only [aloneK]; rw [if_pos hm])
          generalize (hvs h (hl h k 1)).length = m at *
          subst hm
          generalize aloneK h k = q at *
          go_wp2
          go_roundw
          case rel => exact ⟨k + 1, by omega, by go_num, by rw [HN.out]; go_num, hB2⟩
          case measure => simp [RowKit.intOf]; omega
        · have HN : Hid (aloneK h (k + 1) = aloneK h k) := Lib.hid (by simp only [aloneK]; rw [if_neg hm]; omega)
          generalize (hvs h (hl h k 1)).length = m at *
          have hm2 : ((m : Int) == 1) = false := by simp; omega
          generalize aloneK h k = q at *
          go_wp2
          go_roundw
          case rel => exact ⟨k + 1, by omega, by go_num, by rw [HN.out], hB2⟩
          case measure => simp [RowKit.intOf]; omega
      · obtain rfl : k = R := by omega
        generalize aloneK h k = q at *
        go_wp2
        (refine bodyPost_ret (by simp [results, Try.results12, go_sem, *]; try rfl) rfl ?_)
        exact ⟨ret_nv HM.out, hbel⟩

set_option maxHeartbeats 1600000 in
theorem implCountHeardOnce_any (h : Int) (w : World) :
    Calls Try.prog 11 #[.int .i64 h] w fun e w' => e = .returned (nv (choR h)) ∧ Below w.heap.size w w' := by
  cases ga : inB h 2 24
  · have HM := Lib.hid (show (0, false) = choR h from by simp [choR, ga])
    (go_enter Try.func11, Try.ntmps11)
    go_wp2_with fail
    refine (isDial_is _ ga _).mono ?_
    (rintro e1 w1 ⟨rfl, rfl⟩)
    go_wp2
    (refine bodyPost_ret (by simp [results, Try.results11, go_sem, *]; try rfl) rfl ?_)
    exact ⟨ret_nv HM.out, by (repeat' (first | (with_reducible exact Below.refl _ _) | (with_reducible assumption) | (with_reducible refine Below.alloc ?_ ?_ _) | (with_reducible refine Below.drew ?_) | (with_reducible refine below_drewN ?_ _) | (with_reducible refine Below.setCell ?_ ?_ _) | (with_reducible refine below_call ?_ ?_ (by assumption)) | go_size))⟩
  · have hmm := @run_makeMap Try.prog
    have hh := inB_bd ga
    have hw2 := w64 (n := 2 * h) (by omega)
    obtain ⟨R, hR⟩ : ∃ R : Nat, (R : Int) = 2 * h := ⟨(2 * h).toNat, by omega⟩
    have hR' : R = (2 * h).toNat := by omega
    have HM : Hid ((h - 1, true) = choR h) := Lib.hid (by rw [choR, ga]; rfl)
    have HC1 : Hid (cnt h 1 R ≠ 1) := Lib.hid (by rw [hR']; exact cnt_one hh)
    have HC2 : Hid (∀ j : Nat, j < (h - 1).toNat → cnt h ((j : Int) + 2) R = 1) := Lib.hid (by rw [hR']; exact cnt_other hh)
    clear hR'
    (go_enter Try.func11, Try.ntmps11)
    go_wp2_with fail
    refine (isDial_is _ ga _).mono ?_
    (rintro e1 w1 ⟨rfl, rfl⟩)
    go_wp2_with fail
    refine (strokesOf_any h _).mono ?_
    (rintro e1 w1 ⟨rfl, rfl⟩)
    go_wp2
    go_loopw [18] (fun i wr => ∃ (k : Nat) (D : DataW Unit), k ≤ R ∧ i = .int .i64 k ∧ wr.ownsMap Try.prog 3 (plainElem Try.prog 3) w.heap.size k D ∧ (∀ v, D.atKey (kI v) (.lit (.int .i64 0)) = .lit (.int .i64 (cnt h v k))) ∧ (∀ v, has D (kI v) = decide (0 < cnt h v k)) ∧ Below w.heap.size w wr ∧ wr.cell? ⟨w.heap.size + 1, 0, none⟩ = some (.int .i64 h) ∧ w.heap.size + 1 < wr.heap.size) (fun i _ => R - (RowKit.intOf i).toNat)
    case atStart => exact ⟨0, .map [], Nat.zero_le _, rfl, (World.ownsMap_made _ _ _ _).alloc _, fun v => rfl, fun v => by simp [has, cnt], by (repeat' (first | (with_reducible exact Below.refl _ _) | (with_reducible assumption) | (with_reducible refine Below.alloc ?_ ?_ _) | (with_reducible refine Below.drew ?_) | (with_reducible refine below_drewN ?_ _) | (with_reducible refine Below.setCell ?_ ?_ _) | (with_reducible refine below_call ?_ ?_ (by assumption)) | go_size)), by go_simp, by go_size⟩
    case round =>
      obtain ⟨k, D, hk, rfl, hown, hat, hhas, hbel, hcell, hsz⟩ := hrel
      have HA := Lib.hid hat
      have HH := Lib.hid hhas
      have HO := Lib.hid hown
      clear hat hhas hown
      have hzr := hbel.size
      have i0 : (0 : Int) ≤ (k : Int) := Int.natCast_nonneg _
      by_cases hlt : (k : Int) < 2 * h
      · have i1 : (k : Int) < (R : Int) := by omega
        obtain ⟨t, hte⟩ : ∃ t, stM h k = t := ⟨_, rfl⟩
        have hst := stM_bd (h := h) (k : Int) hh
        rw [hte] at hst
        have HT := Lib.hid hte
        have hcb : (cnt h t k : Int) ≤ 48 := by have := cnt_le h t k; omega
        have hcb0 : (0 : Int) ≤ (cnt h t k : Int) := Int.natCast_nonneg _
        have HS := Lib.hid (fun v => cnt_succ h v k hte)
        clear hte
        go_wp2_with fail
        refine (strokes_is h (k : Int) (w.heap.size + 1) _ hcell hh (by omega) (by omega) HT.out).mono ?_
        (rintro e1 w1 ⟨rfl, rfl⟩)
        go_wp2_with (first
          | (at_lookup; refine wpList_lookup_own_int _ rfl _ _ 48 rfl 3 3 .i64 mb_law mi_under mb_int (Try.zeroValue3 _) w.heap.size k D rfl HO.out _ _ rfl (keyOf_int_mk mb_int (wf_small (by omega))) ?_; intro c hac hwc; obtain rfl : c = (cnt h t k : Int) := (by have h1 := HA.out t; rw [hac] at h1; simpa using h1); clear hac hwc)
          | (at_mapUpdate; refine wpList_mapUpdate_own _ rfl _ _ _ 48 rfl 3 3 mb_law mi_under _ w.heap.size k _ rfl HO.out (by unfold maxLen; omega) _ _ _ rfl rfl (keyOf_int_mk mb_int (wf_small (by omega))) _ [] (plainElem_int mb_int (wf_small (by omega))) ?_; intro w1 hown1 hgrow1)
          | go_in)
        go_roundw
        case rel =>
          refine ⟨k + 1, _, by omega, by go_num, hown1, fun v => ?_, fun v => ?_, Below.grown hbel hgrow1 hzr (fun j hj => by cases hj; exact Nat.le_refl _), far_cell hgrow1 hcell hsz (by omega), Nat.lt_of_lt_of_le hsz hgrow1.size⟩
          · by_cases hv : t = v
            · subst hv
              rw [atKey_put_same (k := kI t) HO.out.isMap trivial, HS.out, if_pos rfl]
              congr 2
            · rw [atKey_put_other (kI_ne (fun e => hv e.symm)), HA.out, HS.out, if_neg hv]; rfl
          · by_cases hv : t = v
            · subst hv
              rw [has_put_same (k := kI t) HO.out.isMap trivial, HS.out, if_pos rfl]; simp
            · rw [has_put_other (kI_ne (fun e => hv e.symm)), HH.out, HS.out, if_neg hv]; rfl
        case measure => simp [RowKit.intOf]; omega
      · obtain rfl : k = R := by omega
        obtain ⟨wo, hwo⟩ : ∃ wo : World, wo = wr := ⟨_, rfl⟩
        subst hwo
        go_wp2_with (first | (at_range; refine wpList_range_own _ rfl _ 48 rfl 3 3 mb_law mi_under _ w.heap.size k _ rfl HO.out ?_; intro w0 hrg0 hg0 hs0) | go_in)
        try go_frame
        go_loopw [7] (fun o wq => ∃ (left : Lit → Bool) (c : Nat), wq.ranges Try.prog 3 (plainElem Try.prog 3) w.heap.size wo.heap.size k D left c ∧ o = .int .i64 (h - 1 - (lf h left : Int)) ∧ wo.grownBy wq (some wo.heap.size)) (fun _ wq => wq.rangeLeft w.heap.size wo.heap.size)
        case atStart =>
          refine ⟨_, _, hrg0, ?_, hg0.but _⟩
          rw [lf_all (fun j hj => by rw [HH.out, HC2.out j hj]; rfl)]
          congr 1; omega
        case round =>
          obtain ⟨left, c, hrg, rfl, hgw⟩ := hrel
          have hlf := lf_le h left
          go_wp2_with (first | (at_next; refine wpList_next_ranges_ii _ rfl _ rfl 3 3 .i64 .i64 mb_law mb_int mb_int w.heap.size wo.heap.size k _ _ _ rfl hrg ?_ ?_) | go_in)
          · intro _ hl0
            have HL := Lib.hid (lf_none (h := h) hl0)
            generalize lf h left = q at *
            go_wp2
            (refine bodyPost_ret (by simp [results, Try.results11, go_sem, *]; try rfl) rfl ?_)
            refine ⟨?_, Below.grown hbel hgw hzr (fun j hj => by cases hj; exact hzr)⟩
            rw [HL.out, ← HM.out]
            exact ret_nv (a := (h - 1 - ((0 : Nat) : Int), true)) (b := (h - 1, true)) (by rw [show h - 1 - ((0 : Nat) : Int) = h - 1 by omega])
          · intro x cc w1 cnt1 hwx hwc hlk hac hrg1 hlt1 hg1 hs1 hen
            have hgw1 := hgw.andThen hg1 (fun j hj => by cases hj; exact Or.inl (Nat.le_refl _))
            obtain rfl : cc = (cnt h x k : Int) := by
              have h1 := HA.out x
              rw [hac] at h1
              simpa using h1
            have hpos : 0 < cnt h x k := by
              have h1 := HH.out x
              rw [has_true_of_atKey hac] at h1
              simpa using h1.symm
            obtain ⟨x1, x2⟩ := cnt_pos_bd hh k hpos
            clear hpos
            by_cases hx : x = 1
            · have hc : ((cnt h x k : Int) == 1) = false := by have := HC1.out; rw [← hx] at this; simp; omega
              have HL := Lib.hid (lf_other (h := h) (x := x) (left := left) (by omega))
              clear hx
              generalize cnt h x k = q at *
              go_wp2
              go_roundw
              case rel => exact ⟨_, cnt1, hrg1, by rw [HL.out], hgw1⟩
              case measure => rw [hrg1.left_eq, hrg.left_eq]; exact hlt1
            · have hc : cnt h x k = 1 := by have := HC2.out (x - 2).toNat (by omega); rwa [show (((x - 2).toNat : Nat) : Int) + 2 = x by omega] at this
              have HL := Lib.hid (lf_one (h := h) (x := x) (left := left) (by omega) (by omega) hlk)
              have hlp : 1 ≤ lf h left := by have := HL.out; omega
              clear hx
              generalize cnt h x k = q at *
              subst hc
              go_wp2
              go_roundw
              case rel =>
                refine ⟨_, cnt1, hrg1, ?_, hgw1⟩
                refine ret_num ?_
                have h1 : lf h (fun z => left z && !z.sameKey (.int .i64 x)) + 1 = lf h left := HL.out
                generalize lf h (fun z => left z && !z.sameKey (.int .i64 x)) = q2 at *
                omega
              case measure => rw [hrg1.left_eq, hrg.left_eq]; exact hlt1

end Go.Proofs.Yteamijcnejjmjaa
