/- FnStrokesWaited: called with any arguments, the law returns true, and its arguments read behind the call as before. Conditions: none but the row's own. -/
import Derived.Test.YtloppndldnepfaaFacts
import Derived.Test.YtloppndldnepfaaRow
import Derived.Test.YtloppndldnepfaaWt0
import Derived.Test.YtloppndldnepfaaKl
import Derived.Test.YtloppndldnepfaaLate
import Derived.Deep.DeepCutAuto
import Derived.Test.YtloppndldnepfaaCur2
import Derived.Test.YtloppndldnepfaaBArg
set_option linter.unusedSimpArgs false
set_option linter.unusedVariables false
set_option maxRecDepth 100000
namespace Go.Proofs.Ytloppndldnepfaa.fnStrokesWaited
open Go.ChangeShapes Go.WideShapes Go.ChangeAt Go.RowKit

set_option maxHeartbeats 16000000 in
theorem walk (w : World) (p1 p2 : Option Addr) (q1 q2 : Nat) (L1 L2 : List Int) (hi1 : BIn w p1 L1) (hi2 : BIn w p2 L2) (hm1 : L1.length ≤ maxLen) (hm2 : L2.length ≤ maxLen) :
    Calls Try.prog 7 #[.slice p1 L1.length q1, .slice p2 L2.length q2] w fun e w' => e = .returned (.bool true) ∧ Below w.heap.size w w' := by
  have HB1 := Lib.hid hi1
  have HB2 := Lib.hid hi2
  clear hi1 hi2
  cases hbg : bigB L1.length L2.length
  · obtain ⟨hlen1, hlen2⟩ := bigB_no hbg
    have HBG := Lib.hid hbg
    clear hbg
    (go_enter Try.func7, Try.ntmps7)
    go_wp2_with fail
    refine (big_is p1 p2 L1.length L2.length q1 q2 hm1 HBG.out _).mono ?_
    rintro e0 w0 ⟨rfl, rfl⟩
    go_wp2_with fail
    refine (DrawWaitForStrokes_any L1 p1 L1.length q1 rfl hlen1 _ HB1.out).mono ?_
    rintro e1 w1 ⟨a0, a1, a2, rfl, hb1⟩
    have B1 := hb1
    obtain ⟨wv, wok, hW⟩ : ∃ v b, waitR a0 a1 a2 = (v, b) := ⟨_, _, rfl⟩
    have C1 := Lib.hid (fun W => (show Calls Try.prog 46 #[.int .i64 a0, .int .i64 a1, .int .i64 a2] W fun e w' => e = .returned (.tuple #[.int .i64 wv, .bool wok]) ∧ Below W.heap.size W w' from by have := implWaitForStrokes_any a0 a1 a2 W; rw [hW] at this; exact this))
    have C2 := Lib.hid (fun W => (show Calls Try.prog 47 #[.int .i64 a0, .int .i64 a1, .int .i64 a2] W fun e w' => e = .returned (.tuple #[.int .i64 wv, .bool wok]) ∧ Below W.heap.size W w' from by have := specWaitForStrokes_any a0 a1 a2 W; rw [hW] at this; exact this))
    have F1 : Hid (wok = true → (2 ≤ a0 ∧ a0 ≤ 24) ∧ (0 ≤ a1 ∧ a1 < 2 * a0) ∧ (0 ≤ wv ∧ wv < 2 * a0 ∧ stM a0 (a1 + wv) = a2 ∧ ∀ m : Nat, (m : Int) < wv → stM a0 (a1 + m) ≠ a2)) := Lib.hid (fun e => by
      subst e
      unfold waitR at hW
      split at hW
      · rename_i k
        simp only [Bool.and_eq_true] at k
        obtain ⟨hh, hx⟩ := halfB_bd k.1
        obtain ⟨s1, s2⟩ := inB_bd k.2
        obtain ⟨rfl, -⟩ := Prod.mk.inj hW
        exact ⟨hh, hx, wt_spec hh s1 s2 hx⟩
      · cases (Prod.mk.inj hW).2)
    clear hW
    go_wp2_with fail
    refine (C1.out _).mono ?_
    rintro e2 w2 ⟨rfl, hb2⟩
    have B2 : Below w.heap.size w w2 := B1.trans (hb2.mono B1.size)
    go_wp2_with fail
    refine (C2.out _).mono ?_
    rintro e3 w3 ⟨rfl, hb3⟩
    have B3 : Below w.heap.size w w3 := B2.trans (hb3.mono B2.size)
    go_wp2_with fail
    refine (DrawHeardFrom_any L2 p2 L2.length q2 rfl hlen2 _ (BIn.below HB2.out B3)).mono ?_
    rintro e4 w4 ⟨a3, a4, a5, rfl, hb4⟩
    have B4 : Below w.heap.size w w4 := B3.trans (hb4.mono B3.size)
    obtain ⟨M, hL⟩ : ∃ M, frL a3 a4 a5 = M := ⟨_, rfl⟩
    obtain ⟨hok, hK⟩ : ∃ b, frOk a3 a4 a5 = b := ⟨_, rfl⟩
    have C3 := Lib.hid (fun W => (show Calls Try.prog 18 #[.int .i64 a3, .int .i64 a4, .int .i64 a5] W (IntsOut W M hok) from by have := implHeardFrom_any a3 a4 a5 W; rw [hL, hK] at this; exact this))
    have C4 := Lib.hid (fun W => (show Calls Try.prog 49 #[.int .i64 a3, .int .i64 a4, .int .i64 a5] W (IntsOut W M hok) from by have := specHeardFrom_any a3 a4 a5 W; rw [hL, hK] at this; exact this))
    have F2 : Hid (hok = true → (2 ≤ a3 ∧ a3 ≤ 24) ∧ (0 ≤ a4 ∧ a4 < 2 * a3) ∧ 1 ≤ a5 ∧ a5 ≤ 60 ∧ M = hl a3 a4 a5.toNat) := Lib.hid (fun e => by
      rw [← hK] at e
      have hL2 := hL
      unfold frL at hL2
      rw [if_pos e] at hL2
      simp only [frOk, Bool.and_eq_true] at e
      obtain ⟨hh, hx⟩ := halfB_bd e.1
      obtain ⟨s1, s2⟩ := inB_bd e.2
      exact ⟨hh, hx, s1, s2, hL2.symm⟩)
    have F2N : Hid (M.length ≤ 1000000) := Lib.hid (by rw [← hL]; exact frL_len a3 a4 a5)
    clear hL hK
    go_wp2_with fail
    refine (C3.out _).mono ?_
    rintro e5 w5 ⟨v5, rfl, hr5, hb5⟩
    have HR5 := Lib.hid hr5
    clear hr5
    have B5 : Below w.heap.size w w5 := B4.trans (hb5.mono B4.size)
    go_wp2_with fail
    refine (C4.out _).mono ?_
    rintro e6 w6 ⟨v6, rfl, hr6, hb6⟩
    have HR6 := Lib.hid hr6
    clear hr6
    have B6 : Below w.heap.size w w6 := B5.trans (hb6.mono B5.size)
    go_wp2_with fail
    refine (DrawMostInHalves_any L2 p2 L2.length q2 rfl hlen2 _ (BIn.below HB2.out B6)).mono ?_
    rintro e7 w7 ⟨a6, a7, rfl, hb7⟩
    have B7 : Below w.heap.size w w7 := B6.trans (hb7.mono B6.size)
    obtain ⟨mf, mm, mok, hM⟩ : ∃ v u b, mostR a6 a7 = (v, u, b) := ⟨_, _, _, rfl⟩
    have C5 := Lib.hid (fun W => (show Calls Try.prog 51 #[.int .i64 a6, .int .i64 a7] W fun e w' => e = .returned (.tuple #[.int .i64 mf, .int .i64 mm, .bool mok]) ∧ Below W.heap.size W w' from by have := implMostInHalves_any a6 a7 W; rw [hM] at this; exact this))
    have C6 := Lib.hid (fun W => (show Calls Try.prog 52 #[.int .i64 a6, .int .i64 a7] W fun e w' => e = .returned (.tuple #[.int .i64 mf, .int .i64 mm, .bool mok]) ∧ Below W.heap.size W w' from by have := specMostInHalves_any a6 a7 W; rw [hM] at this; exact this))
    have F3 : Hid (mok = true → (2 ≤ a6 ∧ a6 ≤ 24) ∧ (1 ≤ a7 ∧ a7 ≤ 2 * a6) ∧ (∀ x : Nat, (x : Int) < 2 * a6 → ws a6 x a7.toNat ≤ mm) ∧ ∃ f : Nat, mf = f ∧ ws a6 f a7.toNat = mm ∧ ∀ x : Nat, x < f → ws a6 x a7.toNat < mm) := Lib.hid (fun e => by
      subst e
      unfold mostR at hM
      split at hM
      · rename_i k
        simp only [Bool.and_eq_true] at k
        have hh := inB_bd k.1
        have s := inB_bd k.2
        obtain ⟨e1, e2⟩ := Prod.mk.inj hM
        obtain ⟨e2, -⟩ := Prod.mk.inj e2
        obtain ⟨b1, b2⟩ := bestK_spec hh a7.toNat (by omega) (2 * a6).toNat
        obtain ⟨f, f1, f2, f3, f4⟩ := b2 (by omega)
        rw [e1] at f1
        rw [e2] at b1 f3 f4
        exact ⟨hh, s, fun x hx => b1 x (by omega), f, f1, f3, f4⟩
      · cases (Prod.mk.inj (Prod.mk.inj hM).2).2)
    clear hM
    go_wp2_with fail
    refine (C5.out _).mono ?_
    rintro e8 w8 ⟨rfl, hb8⟩
    have B8 : Below w.heap.size w w8 := B7.trans (hb8.mono B7.size)
    go_wp2_with fail
    refine (C6.out _).mono ?_
    rintro e9 w9 ⟨rfl, hb9⟩
    have B9 : Below w.heap.size w w9 := B8.trans (hb9.mono B8.size)
    go_wp2_with fail
    refine (DrawStrokesAt_any L2 p2 L2.length q2 rfl hlen2 _ (BIn.below HB2.out B9)).mono ?_
    rintro e10 w10 ⟨a8, a9, rfl, hb10⟩
    have B10 : Below w.heap.size w w10 := B9.trans (hb10.mono B9.size)
    obtain ⟨sv, sok, hS⟩ : ∃ v b, atR a8 a9 = (v, b) := ⟨_, _, rfl⟩
    have C7 := Lib.hid (fun W => (show Calls Try.prog 33 #[.int .i64 a8, .int .i64 a9] W fun e w' => e = .returned (.tuple #[.int .i64 sv, .bool sok]) ∧ Below W.heap.size W w' from by have := implStrokesAt_any a8 a9 W; rw [hS] at this; exact this))
    have C8 := Lib.hid (fun W => (show Calls Try.prog 54 #[.int .i64 a8, .int .i64 a9] W fun e w' => e = .returned (.tuple #[.int .i64 sv, .bool sok]) ∧ Below W.heap.size W w' from by have := specStrokesAt_any a8 a9 W; rw [hS] at this; exact this))
    clear hS
    go_wp2_with fail
    refine (C7.out _).mono ?_
    rintro e11 w11 ⟨rfl, hb11⟩
    have B11 : Below w.heap.size w w11 := B10.trans (hb11.mono B10.size)
    go_wp2_with fail
    refine (C8.out _).mono ?_
    rintro e12 w12 ⟨rfl, hb12⟩
    have B12 : Below w.heap.size w w12 := B11.trans (hb12.mono B11.size)
    have X5 := Lib.hid (IRow.below (IRow.below (IRow.below (IRow.below (IRow.below (IRow.below (IRow.below HR5.out hb6) hb7) hb8) hb9) hb10) hb11) hb12)
    have X6 := Lib.hid (IRow.below (IRow.below (IRow.below (IRow.below (IRow.below (IRow.below HR6.out hb7) hb8) hb9) hb10) hb11) hb12)
    clear HR5 HR6
    obtain ⟨l5, c5, rfl, hi5, -, -⟩ := X5.out.inn
    have I5 := Lib.hid hi5
    clear hi5
    obtain ⟨l6, c6, rfl, hi6, -, -⟩ := X6.out.inn
    have I6 := Lib.hid hi6
    clear hi6
    go_wp2_with fail
    refine (kSame_is M M M.length M.length rfl rfl l5 l6 c5 c6 (decide_eq_true rfl) ⟨Nat.le_trans F2N.out (by omega), Nat.le_trans F2N.out (by omega)⟩ _ I5.out I6.out).mono ?_
    rintro e13 w13 ⟨rfl, hb13⟩
    have B13 : Below w.heap.size w w13 := B12.trans (hb13.mono B12.size)
    have IA := Lib.hid (IIn.below I5.out hb13)
    clear hb1 hb2 hb3 hb4 hb5 hb6 hb7 hb8 hb9 hb10 hb11 hb12 hb13
    go_upto_if 166 with fail
    go_cut [] (fun wx => Below w13.heap.size w13 wx)
    case first =>
      as_aux_lemma =>
        cases wok
        · go_wp2_with fail
          go_meet
          case rel => exact Below.refl _ _
        · obtain ⟨hh, hx, w0, w1, hwt, hall⟩ := F1.out rfl
          have hw2 := w64 (n := 2 * a0) (by omega)
          have hz3 : ¬ (2 * a0 = 0) := by omega
          have HWT := Lib.hid hwt
          have HALL := Lib.hid hall
          clear hwt hall
          go_wp2_with fail
          go_loopw [33] (fun i wr => ∃ k : Nat, (k : Int) ≤ wv + 1 ∧ i = .int .i64 k ∧ Below w13.heap.size w13 wr) (fun i _ => (wv + 1 - intOf i).toNat)
          case atStart => exact ⟨0, by omega, rfl, Below.refl _ _⟩
          case round =>
            obtain ⟨k, hk, rfl, hbel⟩ := hrel
            have hzr := hbel.size
            have i0 : (0 : Int) ≤ (k : Int) := Int.natCast_nonneg _
            by_cases hlt : (k : Int) ≤ wv
            · have hr := t64 (n := a1 + k) (g := 2 * a0) (by omega) (by omega) (by omega)
              obtain ⟨t, hte⟩ : ∃ t, stM a0 (a1 + k) = t := ⟨_, rfl⟩
              have HAT := Lib.hid (fun W => (show Calls Try.prog 33 #[.int .i64 a0, .int .i64 ((a1 + k) % (2 * a0))] W fun e w' => e = .returned (.tuple #[.int .i64 t, .bool true]) ∧ Below W.heap.size W w' from by have := implStrokesAt_any a0 ((a1 + k) % (2 * a0)) W; rw [atR_mod hh, hte] at this; exact this))
              by_cases hkw : (k : Int) = wv
              · have hta : t = a2 := by rw [← hte, hkw, HWT.out]
                clear hte
                subst hta
                obtain rfl : wv = (k : Int) := hkw.symm
                go_wp2_with fail
                refine (HAT.out _).mono ?_
                rintro ex wx ⟨rfl, hbx⟩
                go_wp2
                go_roundw
                case rel => exact ⟨k + 1, by omega, by go_num, hbel.trans (hbx.mono hzr)⟩
                case measure => first | (simp [intOf]; done) | (simp [intOf]; omega)
              · have h2 : (t == a2) = false := by rw [← hte]; simpa using HALL.out k (by omega)
                have h3 : ((k : Int) == wv) = false := by simpa using hkw
                clear hte
                go_wp2_with fail
                refine (HAT.out _).mono ?_
                rintro ex wx ⟨rfl, hbx⟩
                go_wp2
                go_roundw
                case rel => exact ⟨k + 1, by omega, by go_num, hbel.trans (hbx.mono hzr)⟩
                case measure => first | (simp [intOf]; done) | (simp [intOf]; omega)
            · go_wp2_with fail
              go_meet
              case rel => exact hbel
    case rest =>
      have ha1 := hcut
      have BA : Below w.heap.size w wc := B13.trans (hcut.mono B13.size)
      have IB := Lib.hid (IIn.below IA.out hcut)
      obtain ⟨wd, hwd⟩ : ∃ wd : World, wd = wc := ⟨_, rfl⟩
      subst hwd
      clear hcut ha1
      go_upto_if 198 with fail
      go_cut [] (fun wx => Below wd.heap.size wd wx)
      case first =>
        as_aux_lemma =>
          cases hok
          · go_wp2_with fail
            go_meet
            case rel => exact Below.refl _ _
          · obtain ⟨hh, hx, n1, n2, hMM⟩ := F2.out rfl
            have hw2 := w64 (n := 2 * a3) (by omega)
            have hz3 : ¬ (2 * a3 = 0) := by omega
            have hl5 : (M.length : Int) = a5 := by rw [hMM, hl_length]; omega
            have HG : Hid (∀ k : Nat, k < M.length → M.getD k 0 = stM a3 (a4 + k)) := Lib.hid (fun k hk => by
              have e : M.getD k 0 = (hl a3 a4 a5.toNat).getD k 0 := congrArg (fun l => l.getD k 0) hMM
              rw [e]; exact hl_get a3 a4 (by omega))
            clear hMM
            subst hl5
            go_wp2_with fail
            go_loopw [201] (fun i wr => ∃ k : Nat, k ≤ M.length ∧ i = .int .i64 k ∧ Below wd.heap.size wd wr) (fun i _ => M.length - (intOf i).toNat)
            case atStart => exact ⟨0, Nat.zero_le _, rfl, Below.refl _ _⟩
            case round =>
              obtain ⟨k, hk, rfl, hbel⟩ := hrel
              have hzr := hbel.size
              have i0 : (0 : Int) ≤ (k : Int) := Int.natCast_nonneg _
              by_cases hlt : k < M.length
              · obtain ⟨g1, o1, rfl, e1, e2⟩ := IB.out k (hlt)
                obtain ⟨hcr, hfr⟩ := bcell hbel
                have f2 := (hcr g1 (o1 + k) e1).trans e2
                have u1 : g1 < wr.heap.size := by omega
                have i1 : (k : Int) < (M.length : Int) := by omega
                have hr := t64 (n := a4 + k) (g := 2 * a3) (by omega) (by omega) (by omega)
                rw [HG.out k hlt] at f2
                have HAT := Lib.hid (fun W => (show Calls Try.prog 33 #[.int .i64 a3, .int .i64 ((a4 + k) % (2 * a3))] W fun e w' => e = .returned (.tuple #[.int .i64 (stM a3 (a4 + k)), .bool true]) ∧ Below W.heap.size W w' from by have := implStrokesAt_any a3 ((a4 + k) % (2 * a3)) W; rw [atR_mod hh] at this; exact this))
                clear e2 hcr hfr
                generalize stM a3 (a4 + k) = t at *
                go_wp2_with fail
                refine (HAT.out _).mono ?_
                rintro ex wx ⟨rfl, hbx⟩
                go_wp2
                go_roundw
                case rel => exact ⟨k + 1, by omega, by go_num, hbel.trans (hbx.mono hzr)⟩
                case measure => first | (simp [intOf]; done) | (simp [intOf]; omega)
              · obtain rfl : k = M.length := by omega
                go_wp2_with fail
                go_meet
                case rel => exact hbel
      case rest =>
        have BB : Below w.heap.size w wc := BA.trans (hcut.mono BA.size)
        obtain ⟨we, hwe⟩ : ∃ we : World, we = wc := ⟨_, rfl⟩
        subst hwe
        clear hcut
        cases mok
        · go_wp2
          go_ret
          exact ⟨rfl, BB⟩
        · as_aux_lemma =>
            obtain ⟨hh, hx, hall, f, rfl, hf, hlow⟩ := F3.out rfl
            have hw2 := w64 (n := 2 * a6) (by omega)
            have HALL := Lib.hid hall
            have HF := Lib.hid hf
            have HLOW := Lib.hid hlow
            clear hall hf hlow
            obtain ⟨N, hN⟩ : ∃ N : Nat, a7 = N := ⟨a7.toNat, by omega⟩
            subst hN
            simp only [Int.toNat_natCast] at HALL HF HLOW
            obtain ⟨R, hR⟩ : ∃ R : Nat, (R : Int) = 2 * a6 := ⟨(2 * a6).toNat, by omega⟩
            go_wp2_with fail
            go_loopw [40] (fun i wr => ∃ k : Nat, k ≤ R ∧ i = .int .i64 k ∧ Below we.heap.size we wr) (fun i _ => R - (intOf i).toNat)
            case atStart => exact ⟨0, Nat.zero_le _, rfl, Below.refl _ _⟩
            case round =>
              obtain ⟨k, hk, rfl, hbel⟩ := hrel
              have hzr := hbel.size
              have i0 : (0 : Int) ≤ (k : Int) := Int.natCast_nonneg _
              by_cases hlt : (k : Int) < 2 * a6
              · obtain ⟨t, hte⟩ : ∃ t, ws a6 k N = t := ⟨_, rfl⟩
                have HAT := Lib.hid (fun W => (show Calls Try.prog 27 #[.int .i64 a6, .int .i64 k, .int .i64 ((k : Int) + N - 1)] W fun e w' => e = .returned (.tuple #[.int .i64 t, .bool true]) ∧ Below W.heap.size W w' from by have := implStrokesBetween_any a6 k ((k : Int) + N - 1) W; rw [betw_ws hh k N (by omega) (by omega), hte] at this; exact this))
                have hle : ¬ (mm : Int) < t := by have := HALL.out k hlt; omega
                have h1 : (k : Int) < (f : Int) → (t == mm) = false := fun e => by have := HLOW.out k (by omega); simp; omega
                have h2 : (k : Int) = (f : Int) → (t != mm) = false := fun e => by have e' : k = f := by omega
                                                                                   have := HF.out; rw [← e', hte] at this; simp [this]
                by_cases c1 : (k : Int) < (f : Int)
                · have h3 := h1 c1
                  have h4 : ((k : Int) == (f : Int)) = false := by simp; omega
                  clear hte h1 h2
                  go_wp2_with fail
                  refine (HAT.out _).mono ?_
                  rintro ex wx ⟨rfl, hbx⟩
                  go_wp2
                  go_roundw
                  case rel => exact ⟨k + 1, by omega, by go_num, hbel.trans (hbx.mono hzr)⟩
                  case measure => first | (simp [intOf]; done) | (simp [intOf]; omega)
                · by_cases c2 : (k : Int) = (f : Int)
                  · have h3 : t = mm := by have e' : k = f := by omega
                                           rw [← hte, e', HF.out]
                    clear hte h1 h2
                    obtain rfl : k = f := by omega
                    subst h3
                    clear c2
                    go_wp2_with fail
                    refine (HAT.out _).mono ?_
                    rintro ex wx ⟨rfl, hbx⟩
                    go_wp2
                    go_roundw
                    case rel => exact ⟨k + 1, by omega, by go_num, hbel.trans (hbx.mono hzr)⟩
                    case measure => first | (simp [intOf]; done) | (simp [intOf]; omega)
                  · have h4 : ((k : Int) == (f : Int)) = false := by simp; omega
                    clear hte h1 h2
                    go_wp2_with fail
                    refine (HAT.out _).mono ?_
                    rintro ex wx ⟨rfl, hbx⟩
                    go_wp2
                    go_roundw
                    case rel => exact ⟨k + 1, by omega, by go_num, hbel.trans (hbx.mono hzr)⟩
                    case measure => first | (simp [intOf]; done) | (simp [intOf]; omega)
              · obtain rfl : k = R := by omega
                go_wp2
                go_ret
                exact ⟨rfl, BB.trans (hbel.mono BB.size)⟩
  · have HBG := Lib.hid hbg
    clear hbg
    (go_enter Try.func7, Try.ntmps7)
    go_wp2_with fail
    refine (big_is p1 p2 L1.length L2.length q1 q2 hm1 HBG.out _).mono ?_
    rintro e0 w0 ⟨rfl, rfl⟩
    go_wp2
    go_ret
    exact ⟨rfl, Below.refl _ _⟩

set_option maxRecDepth 100000 in
theorem lifted (os : Os) (started : os.Started) (H : Type) (enc : TypeId × Value → H) :
    ReturnsInHanded {} Try.checked os 7 .any (Rows.fnStrokesWaitedSpec.pre6 enc Try.prog Try.f7 Rows.fnStrokesWaitedRow.domain false) (Rows.fnStrokesWaitedSpec.post enc Try.prog Try.f7 false true false false) := by
  refine returnsInHanded_of_change (C := Try.checked) Try.own started (by kernel_rfl) Try.func7
    (ChangeSpec.witness6 (enc := enc) (C := Try.checked) false ⟨#[], #[.slice none 0 0, .slice none 0 0], []⟩ 8 (by kernel_rfl) (by kernel_rfl) (by kernel_rfl) (by kernel_rfl)) ?_
  intro W base args ds gs before hval0 hW hcnd _
  have hval : ∀ (j : Nat) t v, Try.f7.params[j]? = some t → args[j]? = some v → Value.okWide Try.prog W .any base t v := hval0
  have hW' := hW
  obtain ⟨p, q, hA0, hV, rfl, hfz, hnd⟩ := hW
  have hA : DataW.TrodAll enc Try.prog W 0 (fun _ => true) true Try.f7.params.toList args.toList ds p := hA0
  rw [Try.params7] at hA hval
  obtain ⟨v0, vs0, d_0, ds0, p0, q0, hargs, rfl, rfl, h0, r0⟩ := trodAll_cons hA
  obtain ⟨v1, vs1, d_1, ds1, p1, q1, rfl, rfl, rfl, h1, r1⟩ := trodAll_cons r0
  obtain ⟨rfl, rfl, rfl⟩ := trodAll_nil r1
  obtain rfl : args = #[v0, v1] := by cases args; simp_all
  obtain ⟨rfl, rfl⟩ := trodVars_none hV
  have h0k := h0
  have h1k := h1
  obtain ⟨p1', q1', L1, rfl, hi1, hm1⟩ := open_bytes' (hval 0 22 v0 rfl rfl) h0
  obtain ⟨p2', q2', L2, rfl, hi2, hm2⟩ := open_bytes' (hval 1 22 v1 rfl rfl) h1
  clear hA0 hval0
  simp only [List.append_nil, List.nil_append] at hW'
  have hlt0 : ∀ y ∈ p0, y.block < W.heap.size := fun y hy => by simpa using hW'.lt y (by simp [hy])
  have hlt1 : ∀ y ∈ p1, y.block < W.heap.size := fun y hy => by simpa using hW'.lt y (by simp [hy])
  refine (walk W p1' p2' q1' q2' L1 L2 hi1 hi2 hm1 hm2).mono fun e W' ⟨he, bel⟩ => ?_
  subst he
  have harg0 : DataW.Trod enc Try.prog W' 0 (fun b => decide (b < W.heap.size)) true 22 (.slice p1' L1.length q1') d_0 p0 :=
    Below.trod Try.laidOut (by kernel_rfl) (of_decide_eq_true (by kernel_rfl)) h0k bel hlt0
  have harg1 : DataW.Trod enc Try.prog W' 0 (fun b => decide (b < W.heap.size)) true 22 (.slice p2' L2.length q2') d_1 p1 :=
    Below.trod Try.laidOut (by kernel_rfl) (of_decide_eq_true (by kernel_rfl)) h1k bel hlt1
  exact ⟨_, rfl, _, _, _, [], _, [], hW', trodAll_mk1 (shut_bool Try.underlying4 _), (trodAll_cons_mk harg0 (trodAll_cons_mk harg1 trodAll_mk0)), rfl, bel.frame _, fun h => by cases h⟩

theorem closed : joinedFacts Try.prog 7 Try.f7 Rows.fnStrokesWaitedSpec Rows.fnStrokesWaitedRow = true := by
  unfold joinedFacts
  rw [Try.fMake, Try.fEnter, Try.fLifts, Try.fMaps, Try.fLaid, Try.fHeard, Try.fKeys]
  kernel_rfl
theorem over : Rows.fnStrokesWaitedRow.holds Try.pinned (OpenSpec.ofChange Rows.fnStrokesWaitedSpec) :=
  OpenClaim.holds_of_wide 7 Try.f7 rfl rfl rfl rfl rfl rfl rfl ⟨rfl, rfl, rfl, rfl, rfl⟩ rfl rfl rfl rfl rfl (by kernel_rfl) Try.func7
    closed (of_decide_eq_true (by kernel_rfl)) (by unfold Func.isWrapper; first | (rw [if_pos (by decide +kernel)]; kernel_rfl) | (rw [if_neg (by decide +kernel)]; exact ⟨rfl, rfl⟩))
    (fun os started H enc _ => lifted os started H enc)

end Go.Proofs.Ytloppndldnepfaa.fnStrokesWaited
namespace Go.Proofs.Ytloppndldnepfaa
/-- The statement. -/
theorem fnStrokesWaited_proved : Rows.FnStrokesWaitedSaid := fnStrokesWaited.over
#print axioms fnStrokesWaited_proved
end Go.Proofs.Ytloppndldnepfaa