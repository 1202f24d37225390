/- The next quarter at which a bell is played: by the program. -/
import Derived.Test.YtijnppomeoaebaaDoorBel11
set_option linter.unusedSimpArgs false
set_option linter.unusedVariables false
set_option maxRecDepth 100000
namespace Go.Proofs.YtijnppomeoaebaaDoor
open Go.RowKit

/-! ### By the program -/
theorem inTexts_idx {l : List UInt8} {c : UInt8} : (0 ≤ Lib.indexByte l c) ↔ c ∈ l := by
  induction l with
  | nil => simp [Lib.indexByte]
  | cons x r ih =>
    unfold Lib.indexByte
    by_cases h : x = c
    · subst h; simp
    · have h1 : (x == c) = false := by simpa using h
      have h2 : ¬ c = x := fun e => h e.symm
      simp only [h1, Bool.false_eq_true, if_false, List.mem_cons, h2, false_or]
      rw [← ih]
      have := Lib.indexByte_ge r c
      by_cases h3 : Lib.indexByte r c = -1
      · simp [h3]
      · have h4 : (Lib.indexByte r c == -1) = false := by simpa using h3
        simp only [h4, Bool.false_eq_true, if_false]
        omega
theorem containsNote_any (b : Int) (l : List UInt8) (w : World) :
    Calls Tryd.prog 36 #[str l, str [ntB b]] w fun e w' => e = .returned (.bool (decide (0 < cntN b l))) ∧ w = w' :=
  (Tryd.strings_Contains_one ⟨l.toArray⟩ (ntB b) w).mono fun e w' ⟨he, hw⟩ => ⟨by
    rw [he]
    refine ret_bool ?_
    have h1 : (0 ≤ Lib.indexByte (⟨l.toArray⟩ : ByteArray).data.toList (ntB b)) ↔ 0 < cntN b l := by
      rw [cntN_pos]; exact inTexts_idx
    exact decide_eq_decide.2 h1, hw.symm⟩
set_option maxHeartbeats 1600000 in
theorem indexI_any (L : List Int) (x : Int) (v : Value) (B : Nat) (hl : L.length ≤ 1000) (w : World) (r : IRow w B v L) :
    Calls Tryd.prog 57 #[v, .int .i64 x] w fun e w' => ∃ i : Int, e = .returned (.int .i64 i) ∧ (0 ≤ i ↔ x ∈ L) ∧ w = w' := by
  obtain ⟨a1, c1, rfl, l1, m1, x1⟩ := r.cells
  have X1 := Lib.hid x1
  clear x1 r
  (go_enter Tryd.func57, Tryd.ntmps57)
  go_wp2
  go_loop [8] (fun i => ∃ k : Nat, k ≤ L.length ∧ i = .int .i64 k ∧ ∀ j, j < k → L.getD j 0 ≠ x) (fun i => L.length - (RowKit.intOf i).toNat)
  case atStart => exact ⟨0, Nat.zero_le _, rfl, fun j hj => absurd hj (Nat.not_lt_zero _)⟩
  case round =>
    obtain ⟨k, hk, rfl, hno⟩ := hrel
    have HNO := Lib.hid hno
    clear hno
    have i0 : (0 : Int) ≤ (k : Int) := Int.natCast_nonneg _
    by_cases hlt : k < L.length
    · obtain ⟨g1, rfl, e1, e2, e3⟩ := X1.out k hlt
      have i1 : (k : Int) < (L.length : Int) := by omega
      have HG : Hid (L.getD k 0 ∈ L) := Lib.hid (by rw [List.getD_eq_getElem?_getD, List.getElem?_eq_getElem hlt]; exact List.getElem_mem hlt)
      have HNX : Hid (L.getD k 0 ≠ x → ∀ j, j < k + 1 → L.getD j 0 ≠ x) := Lib.hid (fun h j hj => by
        by_cases e : j = k
        · subst e; exact h
        · exact HNO.out j (by omega))
      generalize L.getD k 0 = y at *
      by_cases he : y = x
      · subst he
        have HE : Hid (0 ≤ (k : Int) ↔ y ∈ L) := Lib.hid ⟨fun _ => HG.out, fun _ => i0⟩
        go_wp2
        go_ret
        exact ⟨k, rfl, HE.out, rfl⟩
      · have he2 : ¬ x = y := fun e => he e.symm
        have he3 : (x == y) = false := by simpa using he2
        have HE := Lib.hid (HNX.out he)
        go_wp2
        go_round
        case rel => exact ⟨k + 1, by omega, by go_num, HE.out⟩
        case measure => simp [RowKit.intOf]; omega
    · have HE : Hid (0 ≤ (-1 : Int) ↔ x ∈ L) := Lib.hid ⟨fun h => absurd h (by omega), fun hx => by
        obtain ⟨j, hj, e⟩ := List.mem_iff_getElem.1 hx
        refine absurd ?_ (HNO.out j (by omega))
        rw [List.getD_eq_getElem?_getD, List.getElem?_eq_getElem hj]; exact e⟩
      go_wp2
      go_ret
      exact ⟨-1, rfl, HE.out, rfl⟩
set_option maxHeartbeats 800000 in
theorem containsI_is {r : Bool} (L : List Int) (x : Int) (v : Value) (B : Nat) (hl : L.length ≤ 1000) (hr : decide (x ∈ L) = r) (w : World) (h : IRow w B v L) :
    Calls Tryd.prog 34 #[v, .int .i64 x] w fun e w' => e = .returned (.bool r) ∧ w = w' := by
  have HI := Lib.hid (indexI_any L x v B hl w h)
  clear h
  (go_enter Tryd.func34, Tryd.ntmps34)
  go_wp2_with fail
  refine HI.out.mono ?_
  rintro e1 w1 ⟨i, rfl, hi, rfl⟩
  have HE : Hid (decide (0 ≤ i) = r) := Lib.hid ((decide_eq_decide.2 hi).trans hr)
  clear hi hr
  go_wp2
  go_ret
  exact ⟨ret_bool HE.out, rfl⟩
theorem bell_in {T : List (List UInt8)} {b : Int} (h : 1 ≤ b ∧ b ≤ 8) : decide (b ∈ belK T 8) = hasB T b := by
  have := (belK_all T 8).2.1 b
  cases hb : hasB T b
  · refine decide_eq_false fun hm => ?_
    rw [(this.1 hm).2.2] at hb; cases hb
  · exact decide_eq_true (this.2 ⟨h.1, by omega, hb⟩)
set_option maxHeartbeats 3200000 in
theorem implNextQuarterWith_any (a : Option Addr) (c : Nat) (T : List (List UInt8)) (b t : Int) (hm : T.length ≤ maxLen) (hs : ∀ k, k < T.length → (T.getD k []).length ≤ maxLen) (w : World) (hin : XIn w a T) :
    Calls Tryd.prog 13 #[.slice a T.length c, .int .i64 b, .int .i64 t] w fun e w' => e = .returned (jv (nqR T b t)) ∧ Below w.heap.size w w' := by
  have X := Lib.hid hin
  have HSZ := Lib.hid hs
  clear hin hs
  cases ht : okT T
  · have HM := Lib.hid (show ((0 : Int), false) = nqR T b t from by simp [nqR, askB, ht])
    (go_enter Tryd.func13, Tryd.ntmps13)
    go_wp2_with fail
    refine (isTune_is a c T HSZ.out ht _ X.out).mono ?_
    (rintro e1 w1 ⟨rfl, hb1⟩; obtain ⟨hc1, hf1⟩ := bcell hb1; have hz1 := hb1.size; (try simp only [World.size_alloc, World.size_setCell, World.size_drew] at hz1); have q1 : w.heap.size ≤ w1.heap.size := (by omega); (try have q1_0 : w.heap.size < w1.heap.size := (by omega)); (try have q1_1 : w.heap.size + 1 < w1.heap.size := (by omega)); (try have q1_2 : w.heap.size + 2 < w1.heap.size := (by omega)); (try have q1_3 : w.heap.size + 3 < w1.heap.size := (by omega)))
    go_wp2
    (refine bodyPost_ret (by simp [results, Tryd.results13, go_sem, *]; try rfl) rfl ?_)
    exact ⟨ret_jv HM.out, by (repeat' (first | (with_reducible exact Below.refl _ _) | (with_reducible assumption) | (with_reducible refine Below.alloc ?_ ?_ _) | (with_reducible refine Below.drew ?_) | (with_reducible refine below_drewN ?_ _) | (with_reducible refine Below.setCell ?_ ?_ _) | (with_reducible refine below_call ?_ ?_ (by assumption)) | go_size))⟩
  · cases gb : inB b 1 8
    · have HM := Lib.hid (show ((0 : Int), false) = nqR T b t from by simp [nqR, gb])
      (go_enter Tryd.func13, Tryd.ntmps13)
      go_wp2_with fail
      refine (isTune_is a c T HSZ.out ht _ X.out).mono ?_
      (rintro e1 w1 ⟨rfl, hb1⟩; obtain ⟨hc1, hf1⟩ := bcell hb1; have hz1 := hb1.size; (try simp only [World.size_alloc, World.size_setCell, World.size_drew] at hz1); have q1 : w.heap.size ≤ w1.heap.size := (by omega); (try have q1_0 : w.heap.size < w1.heap.size := (by omega)); (try have q1_1 : w.heap.size + 1 < w1.heap.size := (by omega)); (try have q1_2 : w.heap.size + 2 < w1.heap.size := (by omega)); (try have q1_3 : w.heap.size + 3 < w1.heap.size := (by omega)))
      go_wp2_with fail
      refine (isBell_is b gb _).mono ?_
      (rintro e1 w1 ⟨rfl, rfl⟩)
      go_wp2
      (refine bodyPost_ret (by simp [results, Tryd.results13, go_sem, *]; try rfl) rfl ?_)
      exact ⟨ret_jv HM.out, by (repeat' (first | (with_reducible exact Below.refl _ _) | (with_reducible assumption) | (with_reducible refine Below.alloc ?_ ?_ _) | (with_reducible refine Below.drew ?_) | (with_reducible refine below_drewN ?_ _) | (with_reducible refine Below.setCell ?_ ?_ _) | (with_reducible refine below_call ?_ ?_ (by assumption)) | go_size))⟩
    · cases gq : inB t 0 1000000
      · have HM := Lib.hid (show ((0 : Int), false) = nqR T b t from by simp [nqR, askB, gq])
        (go_enter Tryd.func13, Tryd.ntmps13)
        go_wp2_with fail
        refine (isTune_is a c T HSZ.out ht _ X.out).mono ?_
        (rintro e1 w1 ⟨rfl, hb1⟩; obtain ⟨hc1, hf1⟩ := bcell hb1; have hz1 := hb1.size; (try simp only [World.size_alloc, World.size_setCell, World.size_drew] at hz1); have q1 : w.heap.size ≤ w1.heap.size := (by omega); (try have q1_0 : w.heap.size < w1.heap.size := (by omega)); (try have q1_1 : w.heap.size + 1 < w1.heap.size := (by omega)); (try have q1_2 : w.heap.size + 2 < w1.heap.size := (by omega)); (try have q1_3 : w.heap.size + 3 < w1.heap.size := (by omega)))
        go_wp2_with fail
        refine (isBell_is b gb _).mono ?_
        (rintro e1 w1 ⟨rfl, rfl⟩)
        go_wp2_with fail
        refine (isQuarter_is t gq _).mono ?_
        (rintro e1 w1 ⟨rfl, rfl⟩)
        go_wp2
        (refine bodyPost_ret (by simp [results, Tryd.results13, go_sem, *]; try rfl) rfl ?_)
        exact ⟨ret_jv HM.out, by (repeat' (first | (with_reducible exact Below.refl _ _) | (with_reducible assumption) | (with_reducible refine Below.alloc ?_ ?_ _) | (with_reducible refine Below.drew ?_) | (with_reducible refine below_drewN ?_ _) | (with_reducible refine Below.setCell ?_ ?_ _) | (with_reducible refine below_call ?_ ?_ (by assumption)) | go_size))⟩
      · have hq := inB_bd gq
        have hbb := inB_bd gb
        obtain ⟨q, rfl⟩ := Int.eq_ofNat_of_zero_le hq.1
        obtain ⟨hn, -⟩ := okT_bd ht
        have HT := Lib.hid ht
        have HR := Lib.hid (fun r => nqR_is (T := T) (b := b) (q := q) (by simp [askB, ht, gq]) gb (r := r))
        have hlen := (belK_all T 8).2.2
        have HBI := Lib.hid (bell_in (T := T) hbb)
        have BELLS := Lib.hid (fun W (hx : XIn W a T) => bellsIn_any a c T HT.out W hx)
        cases hh : hasB T b
        · have HM := Lib.hid (HR.out _ (none_first hn.1 hh q))
          have HF : Hid (decide (b ∈ belK T 8) = false) := Lib.hid (HBI.out.trans hh)
          generalize belK T 8 = M at *
          (go_enter Tryd.func13, Tryd.ntmps13)
          go_wp2_with fail
          refine (isTune_is a c T HSZ.out ht _ X.out).mono ?_
          rintro e1 w1 ⟨rfl, hb1⟩
          have hz1 := hb1.size
          go_wp2_with fail
          refine (isBell_is b gb _).mono ?_
          (rintro e1 w1 ⟨rfl, rfl⟩)
          go_wp2_with fail
          refine (isQuarter_is (q : Int) gq _).mono ?_
          (rintro e1 w1 ⟨rfl, rfl⟩)
          go_wp2_with fail
          refine (BELLS.out _ (X.out.below hb1)).mono ?_
          rintro e2 w2 ⟨v2, rfl, hr2, hb2⟩
          have HR2 := Lib.hid hr2
          clear hr2
          go_wp2_with fail
          refine (containsI_is M b v2 _ (by omega) HF.out _ HR2.out).mono ?_
          (rintro e1 w1 ⟨rfl, rfl⟩)
          go_wp2
          (refine bodyPost_ret (by simp [results, Tryd.results13, go_sem, *]; try rfl) rfl ?_)
          exact ⟨ret_jv HM.out, hb1.trans (hb2.mono hz1)⟩
        · obtain ⟨k0, hk1, hk2, hk3, hk4⟩ := some_first hn hh q
          have hhb := hrN_bd T.length hn
          have hk48 : k0 < 48 := by omega
          have HM := Lib.hid (HR.out _ hk1)
          have HHIT := Lib.hid hk3
          have HNO := Lib.hid hk4
          have HF : Hid (decide (b ∈ belK T 8) = true) := Lib.hid (HBI.out.trans hh)
          clear hk1 hk2 hk3 hk4 hhb
          generalize belK T 8 = M at *
          (go_enter Tryd.func13, Tryd.ntmps13)
          go_wp2_with fail
          refine (isTune_is a c T HSZ.out ht _ X.out).mono ?_
          rintro e1 w1 ⟨rfl, hb1⟩
          have hz1 := hb1.size
          go_wp2_with fail
          refine (isBell_is b gb _).mono ?_
          (rintro e1 w1 ⟨rfl, rfl⟩)
          go_wp2_with fail
          refine (isQuarter_is (q : Int) gq _).mono ?_
          (rintro e1 w1 ⟨rfl, rfl⟩)
          go_wp2_with fail
          refine (BELLS.out _ (X.out.below hb1)).mono ?_
          rintro e2 w2 ⟨v2, rfl, hr2, hb2⟩
          have HR2 := Lib.hid hr2
          have hbB := hb1.trans (hb2.mono hz1)
          clear hr2
          go_wp2_with fail
          refine (containsI_is M b v2 _ (by omega) HF.out _ HR2.out).mono ?_
          (rintro e1 w1 ⟨rfl, rfl⟩)
          go_wp2
          go_loopw [2] (fun i wr => ∃ j : Nat, j ≤ k0 ∧ i = .int .i64 ((q : Int) + (j : Int)) ∧ Below w.heap.size w wr) (fun i _ => q + k0 + 1 - (RowKit.intOf i).toNat)
          case atStart => exact ⟨0, Nat.zero_le _, ret_num (by omega), hbB⟩
          case round =>
            obtain ⟨j, hj, rfl, hbr⟩ := hrel
            have hzr := hbr.size
            have XR := Lib.hid (X.out.below hbr)
            have hcast : ((q + j : Nat) : Int) = (q : Int) + j := by push_cast; rfl
            have HCN := Lib.hid (fun W (hx : XIn W a T) => notesAt_any a c T (q + j) HT.out (by omega) W hx)
            rw [hcast] at HCN
            clear hcast
            have HC := Lib.hid (fun W => containsNote_any b (ntL T (q + j)) W)
            have HH : Hid (hitB T b (q + j) = decide (0 < cntN b (ntL T (q + j)))) := Lib.hid rfl
            generalize ntL T (q + j) = l at *
            by_cases he : j = k0
            · have hd : decide (0 < cntN b l) = true := by rw [← HH.out, he]; exact HHIT.out
              rw [hd] at HC
              clear hd
              have HVAL : Hid (((q : Int) + (j : Int), true) = nqR T b (q : Int)) := Lib.hid (by rw [← HM.out]; show _ = ((q : Int) + (k0 : Int), true); rw [he])
              clear he
              go_wp2_with fail
              refine (HCN.out _ XR.out).mono ?_
              rintro e4 w4 ⟨rfl, hb4⟩
              go_wp2_with fail
              refine (itoa_bell b hbb _).mono ?_
              (rintro e1 w1 ⟨rfl, rfl⟩)
              go_wp2_with fail
              refine (HC.out _).mono ?_
              (rintro e1 w1 ⟨rfl, rfl⟩)
              go_wp2
              (refine bodyPost_ret (by simp [results, Tryd.results13, go_sem, *]; try rfl) rfl ?_)
              exact ⟨ret_jv HVAL.out, hbr.trans (hb4.mono hzr)⟩
            · have hd : decide (0 < cntN b l) = false := by rw [← HH.out]; exact HNO.out j (by omega)
              rw [hd] at HC
              clear hd
              have f1 := w64 (n := (q : Int) + j + 1) (by omega)
              go_wp2_with fail
              refine (HCN.out _ XR.out).mono ?_
              rintro e4 w4 ⟨rfl, hb4⟩
              go_wp2_with fail
              refine (itoa_bell b hbb _).mono ?_
              (rintro e1 w1 ⟨rfl, rfl⟩)
              go_wp2_with fail
              refine (HC.out _).mono ?_
              (rintro e1 w1 ⟨rfl, rfl⟩)
              go_wp2
              go_roundw
              case rel => exact ⟨j + 1, by omega, ret_num (by push_cast; first | rfl | omega), hbr.trans (hb4.mono hzr)⟩
              case measure => simp [RowKit.intOf]; omega

end Go.Proofs.YtijnppomeoaebaaDoor
