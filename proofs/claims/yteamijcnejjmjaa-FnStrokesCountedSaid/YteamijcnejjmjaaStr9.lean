/- What is heard: lists compared, the halves that a list leaves, when one knows: by the model. -/
import Derived.Test.YteamijcnejjmjaaStr8
set_option linter.unusedSimpArgs false
set_option linter.unusedVariables false
set_option maxRecDepth 100000
namespace Go.Proofs.Yteamijcnejjmjaa
open Go.ChangeShapes Go.WideShapes Go.ChangeAt Go.RowKit Go.Maps

theorem getD_mem {L : List Int} {j : Nat} (hj : j < L.length) : L.getD j 0 ∈ L := by
  rw [List.getD_eq_getElem?_getD, List.getElem?_eq_getElem hj]; exact List.getElem_mem hj
theorem all_of {L : List Int} {p : Int → Bool} (h : ∀ j, j < L.length → p (L.getD j 0) = true) : L.all p = true := by
  rw [List.all_eq_true]
  intro x hx
  obtain ⟨j, hj, rfl⟩ := List.mem_iff_getElem.1 hx
  have := h j hj
  rwa [List.getD_eq_getElem?_getD, List.getElem?_eq_getElem hj] at this
theorem all_not {L : List Int} {p : Int → Bool} {j : Nat} (hj : j < L.length) (h : p (L.getD j 0) = false) : L.all p = false := by
  cases e : L.all p
  · rfl
  · rw [List.all_eq_true] at e
    rw [e _ (getD_mem hj)] at h; cases h
set_option maxHeartbeats 1600000 in
theorem l1Same_is {r : Bool} (L M : List Int) (n m : Nat) (hn : L.length = n) (hm : M.length = m) (a1 a2 : Option Addr) (c1 c2 : Nat) (hr : decide (L = M) = r) (hle : n ≤ 2000000 ∧ m ≤ 2000000) (w : World) (h1 : IIn w a1 L) (h2 : IIn w a2 M) :
    Calls Try.prog 55 #[.slice a1 n c1, .slice a2 m c2] w (fun e w' => e = .returned (.bool r) ∧ Below w.heap.size w w') := by
  have X1 := Lib.hid h1
  have X2 := Lib.hid h2
  have HN1 := Lib.hid hn
  have HN2 := Lib.hid hm
  obtain ⟨hl1, hl2⟩ := hle
  by_cases hnm : n = m
  · subst hnm
    have HT : Hid ((∀ j, j < n → L.getD j 0 = M.getD j 0) → r = true) := fun h => by rw [← hr, decide_eq_true_eq]; exact list_extI (by omega) (fun j hj => h j (by omega))
    have HF : Hid (∀ j, L.getD j 0 ≠ M.getD j 0 → r = false) := fun j h => by rw [← hr, decide_eq_false_iff_not]; intro e; exact h (by rw [e])
    clear h1 h2 hn hm hr
    (go_enter Try.func55, Try.ntmps55)
    go_wp2
    go_loopw [13] (fun i wr => ∃ k : Nat, k ≤ n ∧ i = .int .i64 k ∧ (∀ j, j < k → L.getD j 0 = M.getD j 0) ∧ Below w.heap.size w wr) (fun i _ => n - (RowKit.intOf i).toNat)
    case atStart => exact ⟨0, Nat.zero_le _, rfl, fun j hj => absurd hj (Nat.not_lt_zero _), Below.refl _ _⟩
    case round =>
      obtain ⟨k, hk, rfl, hall, hbel⟩ := hrel
      have HA := Lib.hid hall
      clear hall
      have i0 : (0 : Int) ≤ (k : Int) := Int.natCast_nonneg _
      by_cases hlt : k < n
      · obtain ⟨g1, o1, rfl, e1, e2⟩ := X1.out k (by have := HN1.out; omega)
        obtain ⟨g2, o2, rfl, f1, f2⟩ := X2.out k (by have := HN2.out; omega)
        obtain ⟨hc0, hf0⟩ := bcell hbel
        have hz := hbel.size
        have z1 := (hc0 g1 (o1 + k) e1).trans e2
        have z2 := (hc0 g2 (o2 + k) f1).trans f2
        have u1 : g1 < wr.heap.size := by omega
        have u2 : g2 < wr.heap.size := by omega
        have i1 : (k : Int) < (n : Int) := by omega
        clear e2 f2 hc0 hf0
        by_cases hxy : L.getD k 0 = M.getD k 0
        · have HA2 : Hid (∀ j, j < k + 1 → L.getD j 0 = M.getD j 0) := fun j hj => by
            by_cases hjk : j = k
            · subst hjk; exact hxy
            · exact HA.out j (by omega)
          rw [← hxy] at z2
          clear hxy
          generalize L.getD k 0 = x at z1 z2
          go_wp2_with fail
          refine wp_region_below (by kernel_rfl) (by kernel_rfl) ?_
          (apply wpB_take (hw := rfl); (intro wq hq; obtain ⟨hcq, hfq⟩ := bcell hq; unfold atB; go_simp; exact ⟨rfl, rfl⟩); simp only [Act.put, List.setIfInBounds_toArray, List.set_cons_zero, List.set_cons_succ])
          (apply wpB_take (hw := rfl); (intro wq hq; obtain ⟨hcq, hfq⟩ := bcell hq; unfold atB; go_simp; exact ⟨rfl, rfl⟩); simp only [Act.put, List.setIfInBounds_toArray, List.set_cons_zero, List.set_cons_succ])
          (apply wpB_take (hw := rfl); (intro wq hq; obtain ⟨hcq, hfq⟩ := bcell hq; unfold atB; go_simp; exact ⟨rfl, rfl⟩); simp only [Act.put, List.setIfInBounds_toArray, List.set_cons_zero, List.set_cons_succ])
          (apply wpB_take (hw := rfl); (intro wq hq; obtain ⟨hcq, hfq⟩ := bcell hq; unfold atB; go_simp; exact ⟨rfl, rfl⟩); simp only [Act.put, List.setIfInBounds_toArray, List.set_cons_zero, List.set_cons_succ])
          (apply wpB_take (hw := rfl); (intro wq hq; obtain ⟨hcq, hfq⟩ := bcell hq; unfold atB; go_simp; exact ⟨rfl, rfl⟩); simp only [Act.put, List.setIfInBounds_toArray, List.set_cons_zero, List.set_cons_succ])
          (apply wpB_take (hw := rfl); (intro wq hq; obtain ⟨hcq, hfq⟩ := bcell hq; unfold atB; go_simp; exact ⟨rfl, rfl⟩); simp only [Act.put, List.setIfInBounds_toArray, List.set_cons_zero, List.set_cons_succ])
          (apply wpB_take (hw := rfl); (intro wq hq; obtain ⟨hcq, hfq⟩ := bcell hq; unfold atB; go_simp; exact ⟨rfl, rfl⟩); simp only [Act.put, List.setIfInBounds_toArray, List.set_cons_zero, List.set_cons_succ])
          (apply wpB_take (hw := rfl); (intro wq hq; obtain ⟨hcq, hfq⟩ := bcell hq; unfold atB; go_simp; exact ⟨rfl, rfl⟩); simp only [Act.put, List.setIfInBounds_toArray, List.set_cons_zero, List.set_cons_succ])
          (apply wpB_take (hw := rfl); (intro wq hq; obtain ⟨hcq, hfq⟩ := bcell hq; unfold atB; go_simp; exact ⟨rfl, rfl⟩); simp only [Act.put, List.setIfInBounds_toArray, List.set_cons_zero, List.set_cons_succ])
          refine fun wn hbn => ?_
          try simp only [Act.put, List.setIfInBounds_toArray, List.set_cons_zero, List.set_cons_succ]
          go_wp2
          go_roundw
          case rel => exact ⟨k + 1, by omega, by go_num, HA2.out, hbel.trans (hbn.mono hbel.size)⟩
          case measure => simp [RowKit.intOf]; omega
        · have HR := Lib.hid (HF.out k hxy)
          have HXY := hxy
          generalize L.getD k 0 = x at z1 HXY
          generalize M.getD k 0 = y at z2 HXY
          have hne : (x != y) = true := by simpa using HXY
          clear hxy
          go_wp2_with fail
          refine wp_region_below (by kernel_rfl) (by kernel_rfl) ?_
          (apply wpB_take (hw := rfl); (intro wq hq; obtain ⟨hcq, hfq⟩ := bcell hq; unfold atB; go_simp; exact ⟨rfl, rfl⟩); simp only [Act.put, List.setIfInBounds_toArray, List.set_cons_zero, List.set_cons_succ])
          (apply wpB_take (hw := rfl); (intro wq hq; obtain ⟨hcq, hfq⟩ := bcell hq; unfold atB; go_simp; exact ⟨rfl, rfl⟩); simp only [Act.put, List.setIfInBounds_toArray, List.set_cons_zero, List.set_cons_succ])
          (apply wpB_take (hw := rfl); (intro wq hq; obtain ⟨hcq, hfq⟩ := bcell hq; unfold atB; go_simp; exact ⟨rfl, rfl⟩); simp only [Act.put, List.setIfInBounds_toArray, List.set_cons_zero, List.set_cons_succ])
          (apply wpB_take (hw := rfl); (intro wq hq; obtain ⟨hcq, hfq⟩ := bcell hq; unfold atB; go_simp; exact ⟨rfl, rfl⟩); simp only [Act.put, List.setIfInBounds_toArray, List.set_cons_zero, List.set_cons_succ])
          (apply wpB_take (hw := rfl); (intro wq hq; obtain ⟨hcq, hfq⟩ := bcell hq; unfold atB; go_simp; exact ⟨rfl, rfl⟩); simp only [Act.put, List.setIfInBounds_toArray, List.set_cons_zero, List.set_cons_succ])
          (apply wpB_take (hw := rfl); (intro wq hq; obtain ⟨hcq, hfq⟩ := bcell hq; unfold atB; go_simp; exact ⟨rfl, rfl⟩); simp only [Act.put, List.setIfInBounds_toArray, List.set_cons_zero, List.set_cons_succ])
          (apply wpB_take (hw := rfl); (intro wq hq; obtain ⟨hcq, hfq⟩ := bcell hq; unfold atB; go_simp; exact ⟨rfl, rfl⟩); simp only [Act.put, List.setIfInBounds_toArray, List.set_cons_zero, List.set_cons_succ])
          (apply wpB_take (hw := rfl); (intro wq hq; obtain ⟨hcq, hfq⟩ := bcell hq; unfold atB; go_simp; exact ⟨rfl, rfl⟩); simp only [Act.put, List.setIfInBounds_toArray, List.set_cons_zero, List.set_cons_succ])
          (apply wpB_take (hw := rfl); (intro wq hq; obtain ⟨hcq, hfq⟩ := bcell hq; unfold atB; go_simp; exact ⟨rfl, rfl⟩); simp only [Act.put, List.setIfInBounds_toArray, List.set_cons_zero, List.set_cons_succ])
          refine fun wn hbn => ?_
          try simp only [Act.put, List.setIfInBounds_toArray, List.set_cons_zero, List.set_cons_succ]
          go_wp2
          go_ret
          exact ⟨ret_bool HR.out.symm, hbel.trans (hbn.mono hbel.size)⟩
      · obtain rfl : k = n := by omega
        have HR := Lib.hid (HT.out HA.out)
        go_wp2
        go_ret
        exact ⟨ret_bool HR.out.symm, hbel⟩
  · have HR : Hid (r = false) := Lib.hid (by rw [← hr, decide_eq_false_iff_not]; intro e; exact hnm (by rw [← hn, ← hm, e]))
    have hne : ((n : Int) != (m : Int)) = true := by simp; omega
    clear h1 h2 hn hm hr
    (go_enter Try.func55, Try.ntmps55)
    go_wp2
    go_ret
    exact ⟨ret_bool HR.out.symm, Below.refl _ _⟩

/-- A dial and a list that may be heard. -/
def heardB (h : Int) (L : List Int) : Bool := inB h 2 24 && (inB L.length 1 60 && L.all fun x => inB x 1 24)
theorem heardB_bd {h : Int} {L : List Int} (k : heardB h L = true) : (2 ≤ h ∧ h ≤ 24) ∧ 1 ≤ L.length ∧ L.length ≤ 60 := by
  simp only [heardB, Bool.and_eq_true] at k
  have := inB_bd k.1
  have := inB_bd k.2.1
  omega
set_option maxHeartbeats 1600000 in
theorem stHalves_any (h : Int) (L : List Int) (n : Nat) (hn : L.length = n) (a : Option Addr) (c : Nat) (hle : n ≤ 1000) (hh : 2 ≤ h ∧ h ≤ 24) (w : World) (h1 : IIn w a L) :
    Calls Try.prog 39 #[.int .i64 h, .slice a n c] w (fun e w' => ∃ v, e = .returned v ∧ IRow w' w.heap.size v (hvs h L) ∧ Below w.heap.size w w') := by
  obtain ⟨i0, hi0, hz0, hz1, hz2⟩ := info_parts Try.infoInt
  have I0 := Lib.hid hi0
  have Z0 := Lib.hid hz0
  have Z1 := Lib.hid hz1
  have Z2 := Lib.hid hz2
  clear hi0 hz0 hz1 hz2
  have X1 := Lib.hid h1
  have HN := Lib.hid hn
  have hw2 := w64 (n := 2 * h) (by omega)
  obtain ⟨R, hR⟩ : ∃ R : Nat, (R : Int) = 2 * h := ⟨(2 * h).toNat, by omega⟩
  have HV : Hid (hvK h L R = hvs h L) := by unfold hvs; rw [show (2 * h).toNat = R by omega]; exact rfl
  clear h1 hn
  (go_enter Try.func39, Try.ntmps39)
  go_wp2
  go_loopw [5, 6] (fun o i wr => ∃ k : Nat, k ≤ R ∧ i = .int .i64 k ∧ IRow wr w.heap.size o (hvK h L k) ∧ Below w.heap.size w wr) (fun _ i _ => R - (RowKit.intOf i).toNat)
  case atStart => exact ⟨0, Nat.zero_le _, rfl, IRow.nil _ _, Below.refl _ _⟩
  case round =>
    obtain ⟨k, hk, rfl, hown, hbel⟩ := hrel
    have HO := Lib.hid hown
    have hzr := hbel.size
    have hlen := hvK_len h L k
    have i0' : (0 : Int) ≤ (k : Int) := Int.natCast_nonneg _
    by_cases hlt : (k : Int) < 2 * h
    · have X2 := Lib.hid (IIn.below X1.out hbel)
      have HLT := Lib.hid (IRow.low HO.out)
      clear hown
      go_wp2_with fail
      refine (stFrom_any h k n hh (by omega) (by omega) _).mono ?_
      rintro e1 w1 ⟨v1, rfl, hr1, hb1⟩
      obtain ⟨a1, cc1, rfl, hin1, -, -⟩ := hr1.inn
      have X3 := Lib.hid hin1
      have hz1 := hb1.size
      have HL1 := Lib.hid (hl_length h k n)
      have X4 := Lib.hid (IIn.below X2.out hb1)
      rw [hl_length]
      clear hin1 hr1
      cases hb : hvB h L k
      · have HB : Hid (decide (hl h k n = L) = false) := by have h2 := hb; unfold hvB at h2; rw [HN.out] at h2; exact h2
        have HS := Lib.hid (hvK_no hb)
        clear hb
        go_wp2_with fail
        refine (l1Same_is (hl h k n) L n n HL1.out HN.out a1 a cc1 c HB.out ⟨by omega, by omega⟩ _ X3.out X4.out).mono ?_
        rintro e2 w2 ⟨rfl, hb2⟩
        have hB2 : Below w.heap.size w w2 := hbel.trans ((hb1.trans (hb2.mono hz1)).mono hzr)
        go_wp2
        go_roundw
        case rel =>
          refine ⟨k + 1, by omega, by go_num, ?_, hB2⟩
          rw [HS.out]
          exact IRow.below (IRow.below HO.out hb1) hb2
        case measure => simp [RowKit.intOf]; omega
      · have HB : Hid (decide (hl h k n = L) = true) := by have h2 := hb; unfold hvB at h2; rw [HN.out] at h2; exact h2
        have HS := Lib.hid (hvK_yes hb)
        clear hb
        go_wp2_with fail
        refine (l1Same_is (hl h k n) L n n HL1.out HN.out a1 a cc1 c HB.out ⟨by omega, by omega⟩ _ X3.out X4.out).mono ?_
        rintro e2 w2 ⟨rfl, hb2⟩
        have hB2 : Below w.heap.size w w2 := hbel.trans ((hb1.trans (hb2.mono hz1)).mono hzr)
        have hz2 := hb2.size
        have HO2 : Hid (w2.ownsRow w.heap.size 3 1 u5 (hvK h L k).length (ints (hvK h L k))) := IRow.below (IRow.below HO.out hb1) hb2
        go_wp2_with (at_builtin; refine wpList_append_lies _ rfl _ _ _ rfl (w.heap.size) 3 i0 _ 1 8 Try.underlying30 I0.out Z0.out Z1.out Z2.out rfl (by omega) u5 ((hvK h L k).length) _ rfl (HO2.out.alloc _) ⟨w2.heap.size, 0, none⟩ 1 1 [.int .i64 ((k : Int))] rfl rfl (World.news_of_block (cs := #[.int .i64 ((k : Int))]) (t := 3) (fr := (0, 0)) (by simpa using heap_alloc_new w2 _)) (by simp [Value.oneCell']) (by omega) (by unfold maxLen; omega) (by omega) (by simp; omega) (w2.heap.size + 1) (by simp) ?_; intro g cap w3 hown3 hgrow hat hlt3)
        go_wp2
        go_roundw
        case rel =>
          refine ⟨k + 1, by omega, by go_num, ?_, ?_⟩
          · rw [HS.out]
            unfold IRow
            rw [show (hvK h L k ++ [(k : Int)]).length = (hvK h L k).length + 1 by simp, show ints (hvK h L k ++ [(k : Int)]) = ints (hvK h L k) ++ [.int .i64 k] by simp [ints]]
            exact hown3
          · exact Below.grown (by (repeat' (first | (with_reducible exact Below.refl _ _) | (with_reducible assumption) | (with_reducible refine Below.alloc ?_ ?_ _) | (with_reducible refine Below.drew ?_) | (with_reducible refine below_drewN ?_ _) | (with_reducible refine Below.setCell ?_ ?_ _) | (with_reducible refine below_call ?_ ?_ (by assumption)) | go_size))) hgrow (by simp; omega) HLT.out
        case measure => simp [RowKit.intOf]; omega
    · obtain rfl : k = R := by omega
      go_wp2
      go_ret
      refine ⟨_, rfl, ?_, hbel⟩
      rw [← HV.out]
      exact HO.out

end Go.Proofs.Yteamijcnejjmjaa
