/- FnStrokesCounted: called with any arguments, the law returns true, and its arguments read behind the call as before. Conditions: none but the row's own. -/
import Derived.Test.YteamijcnejjmjaaFacts
import Derived.Test.YteamijcnejjmjaaRow
import Derived.Test.YteamijcnejjmjaaCt0
import Derived.Test.YteamijcnejjmjaaCur2
import Derived.Test.YteamijcnejjmjaaLate
import Derived.Deep.DeepCutAuto
import Derived.Test.YteamijcnejjmjaaCur3
import Derived.Test.YteamijcnejjmjaaBArg
set_option linter.unusedSimpArgs false
set_option linter.unusedVariables false
set_option maxRecDepth 100000
namespace Go.Proofs.Yteamijcnejjmjaa.fnStrokesCounted
open Go.ChangeShapes Go.WideShapes Go.ChangeAt Go.RowKit

set_option maxHeartbeats 16000000 in
theorem walk (w : World) (p1 p2 : Option Addr) (q1 q2 : Nat) (L1 L2 : List Int) (hi1 : BIn w p1 L1) (hi2 : BIn w p2 L2) (hm1 : L1.length ≤ maxLen) (hm2 : L2.length ≤ maxLen) :
    Calls Try.prog 3 #[.slice p1 L1.length q1, .slice p2 L2.length q2] w fun e w' => e = .returned (.bool true) ∧ Below w.heap.size w w' := by
  have HB1 := Lib.hid hi1
  have HB2 := Lib.hid hi2
  clear hi1 hi2
  cases hbg : bigB L1.length L2.length
  · obtain ⟨hlen1, hlen2⟩ := bigB_no hbg
    have HBG := Lib.hid hbg
    clear hbg
    (go_enter Try.func3, Try.ntmps3)
    go_wp2_with fail
    refine (big_is p1 p2 L1.length L2.length q1 q2 hm1 HBG.out _).mono ?_
    rintro e0 w0 ⟨rfl, rfl⟩
    go_wp2_with fail
    refine (DrawStrokesBetween_any L1 p1 L1.length q1 rfl hlen1 _ HB1.out).mono ?_
    rintro e1 w1 ⟨a0, a1, a2, rfl, hb1⟩
    have B1 := hb1
    clear hb1
    obtain ⟨cv, cok, hE1⟩ : ∃ v b, betwR a0 a1 a2 = (v, b) := ⟨_, _, rfl⟩
    obtain ⟨gd, hgd⟩ : ∃ g, inB a0 2 24 = g := ⟨_, rfl⟩
    obtain ⟨tv, hE2⟩ : ∃ v, turnR a0 = (v, gd) := ⟨(turnR a0).1, by rw [← hgd]; unfold turnR; split <;> simp_all⟩
    obtain ⟨ov, hE3⟩ : ∃ v, choR a0 = (v, gd) := ⟨(choR a0).1, by rw [← hgd]; unfold choR; split <;> simp_all⟩
    have C1 := Lib.hid (fun W => (show Calls Try.prog 7 #[.int .i64 a0, .int .i64 a1, .int .i64 a2] W fun e w' => e = .returned (.tuple #[.int .i64 cv, .bool cok]) ∧ Below W.heap.size W w' from by have := implStrokesBetween_any a0 a1 a2 W; rw [hE1] at this; exact this))
    have C2 := Lib.hid (fun W => (show Calls Try.prog 8 #[.int .i64 a0, .int .i64 a1, .int .i64 a2] W fun e w' => e = .returned (.tuple #[.int .i64 cv, .bool cok]) ∧ Below W.heap.size W w' from by have := specStrokesBetween_any a0 a1 a2 W; rw [hE1] at this; exact this))
    have C3 := Lib.hid (fun W => (show Calls Try.prog 9 #[.int .i64 a0] W fun e w' => e = .returned (.tuple #[.int .i64 tv, .bool gd]) ∧ Below W.heap.size W w' from by have := implStrokesOfTurn_any a0 W; rw [hE2] at this; exact this))
    have C4 := Lib.hid (fun W => (show Calls Try.prog 10 #[.int .i64 a0] W fun e w' => e = .returned (.tuple #[.int .i64 tv, .bool gd]) ∧ Below W.heap.size W w' from by have := specStrokesOfTurn_any a0 W; rw [hE2] at this; exact this))
    have C5 := Lib.hid (fun W => (show Calls Try.prog 11 #[.int .i64 a0] W fun e w' => e = .returned (.tuple #[.int .i64 ov, .bool gd]) ∧ Below W.heap.size W w' from by have := implCountHeardOnce_any a0 W; rw [hE3] at this; exact this))
    have C6 := Lib.hid (fun W => (show Calls Try.prog 12 #[.int .i64 a0] W fun e w' => e = .returned (.tuple #[.int .i64 ov, .bool gd]) ∧ Below W.heap.size W w' from by have := specCountHeardOnce_any a0 W; rw [hE3] at this; exact this))
    have F1 : Hid (cok = true → (2 ≤ a0 ∧ a0 ≤ 24) ∧ (0 ≤ a1 ∧ a1 ≤ 1000000) ∧ (0 ≤ a2 ∧ a2 ≤ 1000000) ∧ (a1 ≤ a2 → cv = sb a0 (a2 + 1) - sb a0 a1)) := Lib.hid (fun e => by subst e; exact betw_of hE1)
    have F0 : Hid (cok = true → gd = true) := Lib.hid (fun e => by subst e; obtain ⟨h1, -⟩ := betw_of hE1; rw [← hgd]; simp [inB]; omega)
    have F2 : Hid (gd = true → (2 ≤ a0 ∧ a0 ≤ 24) ∧ tv = stT a0 ∧ ov = a0 - 1) := Lib.hid (fun e => by
      rw [e] at hgd hE2 hE3
      refine ⟨inB_bd hgd, ?_, ?_⟩
      · unfold turnR at hE2; rw [if_pos hgd] at hE2; exact (Prod.mk.inj hE2).1.symm
      · unfold choR at hE3; rw [if_pos hgd] at hE3; exact (Prod.mk.inj hE3).1.symm)
    clear hE1 hE2 hE3 hgd
    go_wp2_with fail
    refine (C1.out _).mono ?_
    rintro e2 w2 ⟨rfl, hb2⟩
    have B2 : Below w.heap.size w w2 := B1.trans (hb2.mono B1.size)
    clear hb2
    go_wp2_with fail
    refine (C2.out _).mono ?_
    rintro e3 w3 ⟨rfl, hb3⟩
    have B3 : Below w.heap.size w w3 := B2.trans (hb3.mono B2.size)
    clear hb3
    go_wp2_with fail
    refine (C3.out _).mono ?_
    rintro e4 w4 ⟨rfl, hb4⟩
    have B4 : Below w.heap.size w w4 := B3.trans (hb4.mono B3.size)
    clear hb4
    go_wp2_with fail
    refine (C4.out _).mono ?_
    rintro e5 w5 ⟨rfl, hb5⟩
    have B5 : Below w.heap.size w w5 := B4.trans (hb5.mono B4.size)
    clear hb5
    go_wp2_with fail
    refine (C5.out _).mono ?_
    rintro e6 w6 ⟨rfl, hb6⟩
    have B6 : Below w.heap.size w w6 := B5.trans (hb6.mono B5.size)
    clear hb6
    go_wp2_with fail
    refine (C6.out _).mono ?_
    rintro e7 w7 ⟨rfl, hb7⟩
    have B7 : Below w.heap.size w w7 := B6.trans (hb7.mono B6.size)
    clear hb7
    go_upto_region 10 with fail
    go_cut [149] from 999 to 999 (fun s149 wx => s149 = .bool false ∧ Below w7.heap.size w7 wx)
    case first =>
      as_aux_lemma =>
        cases cok
        · go_wp2_with fail
          go_meet
          case rel => exact ⟨rfl, Below.refl _ _⟩
        · have hg1 := F0.out rfl
          subst hg1
          go_wp2_with fail
          go_meet
          case rel => exact ⟨rfl, Below.refl _ _⟩
    case rest =>
      as_aux_lemma =>
        obtain ⟨rfl, hcutb⟩ := hcut
        obtain ⟨w8, hwv⟩ : ∃ v : World, v = wc := ⟨_, rfl⟩
        subst hwv
        have B8 : Below w.heap.size w w8 := B7.trans (hcutb.mono B7.size)
        clear hcutb
        obtain ⟨b1, hb1⟩ : ∃ b, (cok && decide (a1 ≤ a2)) = b := ⟨_, rfl⟩
        have HB1' := Lib.hid hb1
        clear hb1
        go_upto_region 12 with fail
        go_cut [155] from 999 to 999 (fun s155 wx => s155 = .bool b1 ∧ Below w8.heap.size w8 wx)
        case first =>
          as_aux_lemma =>
            cases cok
            · have e := HB1'.out
              simp only [Bool.false_and] at e
              subst e
              go_wp2_with fail
              go_meet
              case rel => exact ⟨rfl, Below.refl _ _⟩
            · have e := HB1'.out
              simp only [Bool.true_and] at e
              subst e
              go_wp2_with fail
              go_meet
              case rel => exact ⟨rfl, Below.refl _ _⟩
        case rest =>
          as_aux_lemma =>
            obtain ⟨rfl, hcutb⟩ := hcut
            obtain ⟨w9, hwv⟩ : ∃ v : World, v = wc := ⟨_, rfl⟩
            subst hwv
            have B9 : Below w.heap.size w w9 := B8.trans (hcutb.mono B8.size)
            clear hcutb
            go_upto_if 155 with fail
            go_cut [] from 999 to 999 (fun wx => Below w9.heap.size w9 wx)
            case first =>
              as_aux_lemma =>
                cases b1
                · go_wp2_with fail
                  go_meet
                  case rel => exact Below.refl _ _
                · have e := HB1'.out
                  rw [Bool.and_eq_true, decide_eq_true_eq] at e
                  obtain ⟨hh, ha, hb, hcv⟩ := F1.out e.1
                  have hab := e.2
                  have hw2 := w64 (n := 2 * a0) (by omega)
                  have hz3 : ¬ (2 * a0 = 0) := by omega
                  have hr := t64 (n := a2) (g := 2 * a0) (by omega) (by omega) (by omega)
                  have hs1 := sb_succ hh hb.1
                  have hv := hcv hab
                  have sb1 := sb_bd hh (n := a2 + 1) (by omega) (by omega)
                  have sb2 := sb_bd hh (n := a1) (by omega) (by omega)
                  have sb3 := sb_bd hh (n := a2) (by omega) (by omega)
                  have hst := stM_bd (h := a0) a2 hh
                  have H1 := Lib.hid (fun W => (show Calls Try.prog 13 #[.int .i64 a0, .int .i64 (a2 % (2 * a0))] W fun e w' => e = .returned (.tuple #[.int .i64 (stM a0 a2), .bool true]) ∧ Below W.heap.size W w' from by have := implStrokesAt_any a0 (a2 % (2 * a0)) W; rw [atR_mod hh] at this; exact this))
                  clear hcv e
                  by_cases hlt : a1 < a2
                  · have H2 := Lib.hid (fun W => (show Calls Try.prog 7 #[.int .i64 a0, .int .i64 a1, .int .i64 (a2 - 1)] W fun e w' => e = .returned (.tuple #[.int .i64 (sb a0 a2 - sb a0 a1), .bool true]) ∧ Below W.heap.size W w' from by have := implStrokesBetween_any a0 a1 (a2 - 1) W; rw [betw_is hh ha (by omega) (by omega), show a2 - 1 + 1 = a2 by omega] at this; exact this))
                    generalize sb a0 (a2 + 1) = z1 at *
                    generalize sb a0 a1 = z2 at *
                    generalize sb a0 a2 = z3 at *
                    generalize stM a0 a2 = t at *
                    have hsum : (z3 - z2 + t != cv) = false := by simp; omega
                    clear hs1 hv
                    go_wp2_with fail
                    refine (H1.out _).mono ?_
                    rintro f1 x1 ⟨rfl, hd1⟩
                    have D1 := hd1
                    go_wp2_with fail
                    refine (H2.out _).mono ?_
                    rintro f2 x2 ⟨rfl, hd2⟩
                    have D2 := D1.trans (hd2.mono D1.size)
                    go_wp2_with fail
                    go_meet
                    case rel => exact D2
                  · have hab2 : a1 = a2 := by omega
                    subst hab2
                    generalize sb a0 (a1 + 1) = z1 at *
                    generalize sb a0 a1 = z2 at *
                    generalize stM a0 a1 = t at *
                    have hsum : (t != cv) = false := by simp; omega
                    clear hs1 hv
                    go_wp2_with fail
                    refine (H1.out _).mono ?_
                    rintro f1 x1 ⟨rfl, hd1⟩
                    have D1 := hd1
                    go_wp2_with fail
                    go_meet
                    case rel => exact D1
            case rest =>
              as_aux_lemma =>
                have hcutb := hcut
                clear hcut
                obtain ⟨w10, hwv⟩ : ∃ v : World, v = wc := ⟨_, rfl⟩
                subst hwv
                have B10 : Below w.heap.size w w10 := B9.trans (hcutb.mono B9.size)
                clear hcutb
                go_upto_if 188 with fail
                go_cut [] from 999 to 999 (fun wx => Below w10.heap.size w10 wx)
                case first =>
                  as_aux_lemma =>
                    cases gd
                    · go_wp2_with fail
                      go_meet
                      case rel => exact Below.refl _ _
                    · obtain ⟨hh, htv, hov⟩ := F2.out rfl
                      have hw2 := w64 (n := 2 * a0) (by omega)
                      have hw3 := w64 (n := 2 * a0 - 1) (by omega)
                      have hT := stT_bd hh
                      have hmb := mul_bd hh
                      have hm1 := w64 (n := a0 * (a0 + 1)) (by omega)
                      have hm2 := q64 (n := a0 * (a0 + 1)) (g := 2) (by omega) (by omega) (by omega)
                      have hm3 := w64 (n := a0 * (a0 + 1) / 2 + a0) (by omega)
                      have htt : (tv != a0 * (a0 + 1) / 2 + a0) = false := by rw [htv]; simp [stT]
                      have HOV := Lib.hid hov
                      clear hov
                      have HCN := Lib.hid (fun (k : Nat) (hk : (k : Int) < a0) => halves_one hh k hk)
                      have HHB := Lib.hid (fun (k : Nat) (hk : (k : Int) < a0) => heard_one hh ((k : Int) + 1) (by omega))
                      have H1 := Lib.hid (fun W => (show Calls Try.prog 7 #[.int .i64 a0, .int .i64 0, .int .i64 (2 * a0 - 1)] W fun e w' => e = .returned (.tuple #[.int .i64 tv, .bool true]) ∧ Below W.heap.size W w' from by have := implStrokesBetween_any a0 0 (2 * a0 - 1) W; rw [betw_whole hh, ← htv] at this; exact this))
                      clear htv
                      go_wp2_with fail
                      refine (H1.out _).mono ?_
                      rintro f1 x1 ⟨rfl, hd1⟩
                      have D1 := hd1
                      obtain ⟨A, hA⟩ : ∃ A : Nat, (A : Int) = a0 := ⟨a0.toNat, by omega⟩
                      go_wp2_with fail
                      go_loopw [27, 28] (fun s i wr => ∃ k : Nat, (k : Int) ≤ a0 ∧ i = .int .i64 ((k : Int) + 1) ∧ s = .int .i64 ((k - 1 : Nat) : Int) ∧ Below w10.heap.size w10 wr) (fun _ i _ => (a0 + 1 - intOf i).toNat)
                      case atStart => exact ⟨0, by omega, rfl, rfl, D1⟩
                      case round =>
                        obtain ⟨k, hk, rfl, rfl, hbel⟩ := hrel
                        have hzr := hbel.size
                        have i0 : (0 : Int) ≤ (k : Int) := Int.natCast_nonneg _
                        by_cases hlt : (k : Int) < a0
                        · have hcn := HCN.out k hlt
                          have HHK := Lib.hid (HHB.out k hlt)
                          have X1 : Hid (IIn (wr.alloc (.cells #[.int .i64 ((k : Int) + 1)] 3)) (some ⟨wr.heap.size, 0, none⟩) [(k : Int) + 1]) := Lib.hid (iin_one wr _)
                          obtain ⟨m, hmm⟩ : ∃ m, (hoL a0 [(k : Int) + 1]).length = m := ⟨_, rfl⟩
                          have HX := Lib.hid (implHalvesOfHeard_any a0 [(k : Int) + 1] 1 rfl (some ⟨wr.heap.size, 0, none⟩) 1 (by omega) _ X1.out)
                          rw [hmm] at hcn
                          have HMM := Lib.hid hmm
                          have hm48 : m ≤ 1000000 := by rw [← hmm]; exact hoL_len _ _
                          clear hmm
                          by_cases hk1 : 1 ≤ k
                          · have hm : m = 1 := hcn.2 hk1
                            subst hm
                            have hkk : ((k - 1 : Nat) : Int) + 1 = ((k + 1 - 1 : Nat) : Int) := by omega
                            clear hcn
                            go_wp2_with fail
                            refine HX.out.mono ?_
                            rintro f2 x2 ⟨v2, rfl, hr2, hd2⟩
                            obtain ⟨al, cl, rfl, -, -, -⟩ := hr2.inn
                            clear hr2
                            rw [HHK.out, HMM.out]
                            generalize hq : ((k - 1 : Nat) : Int) = q at *
                            go_wp2
                            go_roundw
                            case rel => exact ⟨k + 1, by omega, by go_num, ret_num (by omega), hbel.trans (((Below.refl _ _).alloc (Nat.le_refl _) _).trans (hd2.mono (by simp)) |>.mono hzr)⟩
                            case measure => first | (simp [intOf]; done) | (simp [intOf]; omega)
                          · have hm : ((m : Int) == 1) = false := by have : m ≠ 1 := fun e => hk1 (hcn.1 e); simp; omega
                            have hk0 : k = 0 := by omega
                            subst hk0
                            clear hcn
                            go_wp2_with fail
                            refine HX.out.mono ?_
                            rintro f2 x2 ⟨v2, rfl, hr2, hd2⟩
                            obtain ⟨al, cl, rfl, -, -, -⟩ := hr2.inn
                            clear hr2
                            rw [HHK.out, HMM.out]
                            go_wp2
                            go_roundw
                            case rel => exact ⟨1, by omega, by go_num, by rfl, hbel.trans (((Below.refl _ _).alloc (Nat.le_refl _) _).trans (hd2.mono (by simp)) |>.mono hzr)⟩
                            case measure => first | (simp [intOf]; done) | (simp [intOf]; omega)
                        · have hka : (((k - 1 : Nat) : Int) != ov) = false := by have := HOV.out; simp; omega
                          generalize ((k - 1 : Nat) : Int) = q at *
                          go_wp2_with fail
                          go_meet
                          case rel => exact hbel
                case rest =>
                  as_aux_lemma =>
                    have hcutb := hcut
                    clear hcut
                    obtain ⟨w11, hwv⟩ : ∃ v : World, v = wc := ⟨_, rfl⟩
                    subst hwv
                    have B11 : Below w.heap.size w w11 := B10.trans (hcutb.mono B10.size)
                    clear hcutb
                    go_wp2_with fail
                    refine (DrawStrokeNumber_any L2 p2 L2.length q2 rfl hlen2 _ (BIn.below HB2.out B11)).mono ?_
                    rintro e12 w12 ⟨a3, a4, rfl, hb12⟩
                    have B12 : Below w.heap.size w w12 := B11.trans (hb12.mono B11.size)
                    clear hb12
                    obtain ⟨ny, ns, nok, hE4⟩ : ∃ v u b, numR a3 a4 = (v, u, b) := ⟨_, _, _, rfl⟩
                    have C7 := Lib.hid (fun W => (show Calls Try.prog 16 #[.int .i64 a3, .int .i64 a4] W fun e w' => e = .returned (.tuple #[.int .i64 ny, .int .i64 ns, .bool nok]) ∧ Below W.heap.size W w' from by have := implStrokeNumber_any a3 a4 W; rw [hE4] at this; exact this))
                    have C8 := Lib.hid (fun W => (show Calls Try.prog 17 #[.int .i64 a3, .int .i64 a4] W fun e w' => e = .returned (.tuple #[.int .i64 ny, .int .i64 ns, .bool nok]) ∧ Below W.heap.size W w' from by have := specStrokeNumber_any a3 a4 W; rw [hE4] at this; exact this))
                    have F3 : Hid (nok = true → (2 ≤ a3 ∧ a3 ≤ 24) ∧ 0 ≤ ny ∧ 1 ≤ ns ∧ ns ≤ stM a3 ny ∧ sb a3 ny + ns = a4) := Lib.hid (fun e => by
                      subst e
                      unfold numR at hE4
                      split at hE4
                      · rename_i k
                        simp only [Bool.and_eq_true] at k
                        have hh := inB_bd k.1
                        have hn := inB_bd k.2
                        obtain ⟨e1, e2⟩ := Prod.mk.inj hE4
                        obtain ⟨e2, -⟩ := Prod.mk.inj e2
                        have := num_all hh hn.1
                        rw [e1, e2] at this
                        exact ⟨hh, this⟩
                      · cases (Prod.mk.inj (Prod.mk.inj hE4).2).2)
                    clear hE4
                    go_wp2_with fail
                    refine (C7.out _).mono ?_
                    rintro e13 w13 ⟨rfl, hb13⟩
                    have B13 : Below w.heap.size w w13 := B12.trans (hb13.mono B12.size)
                    clear hb13
                    go_wp2_with fail
                    refine (C8.out _).mono ?_
                    rintro e14 w14 ⟨rfl, hb14⟩
                    have B14 : Below w.heap.size w w14 := B13.trans (hb14.mono B13.size)
                    clear hb14
                    go_wp2_with fail
                    refine (DrawHalfOfWheel_any L2 p2 L2.length q2 rfl hlen2 _ (BIn.below HB2.out B14)).mono ?_
                    rintro e15 w15 ⟨a5, a6, rfl, hb15⟩
                    have B15 : Below w.heap.size w w15 := B14.trans (hb15.mono B14.size)
                    clear hb15
                    obtain ⟨wv, wok, hE5⟩ : ∃ v b, whlR a5 a6 = (v, b) := ⟨_, _, rfl⟩
                    have C9 := Lib.hid (fun W => (show Calls Try.prog 19 #[.int .i64 a5, .int .i64 a6] W fun e w' => e = .returned (.tuple #[.int .i64 wv, .bool wok]) ∧ Below W.heap.size W w' from by have := implHalfOfWheel_any a5 a6 W; rw [hE5] at this; exact this))
                    have C10 := Lib.hid (fun W => (show Calls Try.prog 20 #[.int .i64 a5, .int .i64 a6] W fun e w' => e = .returned (.tuple #[.int .i64 wv, .bool wok]) ∧ Below W.heap.size W w' from by have := specHalfOfWheel_any a5 a6 W; rw [hE5] at this; exact this))
                    have F4 : Hid (wok = true → (2 ≤ a5 ∧ a5 ≤ 24) ∧ (0 ≤ a6 ∧ a6 ≤ 1000000000) ∧ wv = hw a5 0 (a6 % stT a5)) := Lib.hid (fun e => by
                      subst e
                      unfold whlR at hE5
                      split at hE5
                      · rename_i k
                        simp only [Bool.and_eq_true] at k
                        exact ⟨inB_bd k.1, inB_bd k.2, (Prod.mk.inj hE5).1.symm⟩
                      · cases (Prod.mk.inj hE5).2)
                    clear hE5
                    go_wp2_with fail
                    refine (C9.out _).mono ?_
                    rintro e16 w16 ⟨rfl, hb16⟩
                    have B16 : Below w.heap.size w w16 := B15.trans (hb16.mono B15.size)
                    clear hb16
                    go_wp2_with fail
                    refine (C10.out _).mono ?_
                    rintro e17 w17 ⟨rfl, hb17⟩
                    have B17 : Below w.heap.size w w17 := B16.trans (hb17.mono B16.size)
                    clear hb17
                    obtain ⟨b3, hb3⟩ : ∃ b, (nok && decide (ny ≤ 1000000)) = b := ⟨_, rfl⟩
                    have HB3' := Lib.hid hb3
                    clear hb3
                    go_upto_region 45 with fail
                    go_cut [300] from 999 to 999 (fun s300 wx => s300 = .bool b3 ∧ Below w17.heap.size w17 wx)
                    case first =>
                      as_aux_lemma =>
                        cases nok
                        · have e := HB3'.out
                          simp only [Bool.false_and] at e
                          subst e
                          go_wp2_with fail
                          go_meet
                          case rel => exact ⟨rfl, Below.refl _ _⟩
                        · have e := HB3'.out
                          simp only [Bool.true_and] at e
                          subst e
                          go_wp2_with fail
                          go_meet
                          case rel => exact ⟨rfl, Below.refl _ _⟩
                    case rest =>
                      as_aux_lemma =>
                        obtain ⟨rfl, hcutb⟩ := hcut
                        obtain ⟨w18, hwv⟩ : ∃ v : World, v = wc := ⟨_, rfl⟩
                        subst hwv
                        have B18 : Below w.heap.size w w18 := B17.trans (hcutb.mono B17.size)
                        clear hcutb
                        go_upto_if 300 with fail
                        go_cut [] from 999 to 999 (fun wx => Below w18.heap.size w18 wx)
                        case first =>
                          as_aux_lemma =>
                            cases b3
                            · go_wp2_with fail
                              go_meet
                              case rel => exact Below.refl _ _
                            · have e := HB3'.out
                              rw [Bool.and_eq_true, decide_eq_true_eq] at e
                              obtain ⟨hh, n0, n1, n2, n3⟩ := F3.out e.1
                              have n4 := e.2
                              have hw2 := w64 (n := 2 * a3) (by omega)
                              have hz3 : ¬ (2 * a3 = 0) := by omega
                              have hr := t64 (n := ny) (g := 2 * a3) (by omega) (by omega) (by omega)
                              have hst := stM_bd (h := a3) ny hh
                              have sb1 := sb_bd hh (n := ny) (by omega) (by omega)
                              have H1 := Lib.hid (fun W => (show Calls Try.prog 13 #[.int .i64 a3, .int .i64 (ny % (2 * a3))] W fun e w' => e = .returned (.tuple #[.int .i64 (stM a3 ny), .bool true]) ∧ Below W.heap.size W w' from by have := implStrokesAt_any a3 (ny % (2 * a3)) W; rw [atR_mod hh] at this; exact this))
                              have H2 := Lib.hid (fun W => (show Calls Try.prog 7 #[.int .i64 a3, .int .i64 0, .int .i64 ny] W fun e w' => e = .returned (.tuple #[.int .i64 (sb a3 ny + stM a3 ny), .bool true]) ∧ Below W.heap.size W w' from by have := implStrokesBetween_any a3 0 ny W; rw [betw_is hh (by omega) (by omega) n0, sb_zero, sb_succ hh n0, Int.sub_zero] at this; exact this))
                              generalize sb a3 ny = z at *
                              generalize stM a3 ny = t at *
                              have hfin : (z + t - t + ns != a4) = false := by simp; omega
                              have hfin2 : (z + ns != a4) = false := by simp; omega
                              have hns1 : ¬ ns < 1 := by omega
                              have hns2 : ¬ t < ns := by omega
                              have hN3 := Lib.hid n3
                              clear n3 e
                              go_wp2_with fail
                              refine (H1.out _).mono ?_
                              rintro f1 x1 ⟨rfl, hd1⟩
                              have D1 := hd1
                              go_wp2_with fail
                              refine (H2.out _).mono ?_
                              rintro f2 x2 ⟨rfl, hd2⟩
                              have D2 := D1.trans (hd2.mono D1.size)
                              go_wp2_with fail
                              go_meet
                              case rel => exact D2
                        case rest =>
                          as_aux_lemma =>
                            have hcutb := hcut
                            clear hcut
                            obtain ⟨w19, hwv⟩ : ∃ v : World, v = wc := ⟨_, rfl⟩
                            subst hwv
                            have B19 : Below w.heap.size w w19 := B18.trans (hcutb.mono B18.size)
                            clear hcutb
                            obtain ⟨b4, hb4⟩ : ∃ b, (wok && decide (0 < a6)) = b := ⟨_, rfl⟩
                            have HB4' := Lib.hid hb4
                            clear hb4
                            go_upto_region 50 with fail
                            go_cut [344] from 999 to 999 (fun s344 wx => s344 = .bool b4 ∧ Below w19.heap.size w19 wx)
                            case first =>
                              as_aux_lemma =>
                                cases wok
                                · have e := HB4'.out
                                  simp only [Bool.false_and] at e
                                  subst e
                                  go_wp2_with fail
                                  go_meet
                                  case rel => exact ⟨rfl, Below.refl _ _⟩
                                · have e := HB4'.out
                                  simp only [Bool.true_and] at e
                                  subst e
                                  go_wp2_with fail
                                  go_meet
                                  case rel => exact ⟨rfl, Below.refl _ _⟩
                            case rest =>
                              as_aux_lemma =>
                                obtain ⟨rfl, hcutb⟩ := hcut
                                obtain ⟨w20, hwv⟩ : ∃ v : World, v = wc := ⟨_, rfl⟩
                                subst hwv
                                have B20 : Below w.heap.size w w20 := B19.trans (hcutb.mono B19.size)
                                clear hcutb
                                go_upto_if 344 with fail
                                go_cut [] from 999 to 999 (fun wx => Below w20.heap.size w20 wx)
                                case first =>
                                  as_aux_lemma =>
                                    cases b4
                                    · go_wp2_with fail
                                      go_meet
                                      case rel => exact Below.refl _ _
                                    · have e := HB4'.out
                                      rw [Bool.and_eq_true, decide_eq_true_eq] at e
                                      obtain ⟨hh, s0, hwv⟩ := F4.out e.1
                                      have s1 := e.2
                                      have hw2 := w64 (n := 2 * a5) (by omega)
                                      have hz3 : ¬ (2 * a5 = 0) := by omega
                                      have H1 := Lib.hid (fun W => (show Calls Try.prog 13 #[.int .i64 a5, .int .i64 0] W fun e w' => e = .returned (.tuple #[.int .i64 a5, .bool true]) ∧ Below W.heap.size W w' from by have := implStrokesAt_any a5 0 W; rw [atR_top hh] at this; exact this))
                                      have HE := Lib.hid e
                                      clear e
                                      by_cases hc : a6 ≤ 1000000000 - a5
                                      · obtain ⟨N1, N2, hN, hN0, hN1⟩ : ∃ v u, numR a5 (a6 + a5) = (v, u, true) ∧ 0 ≤ v ∧ v % (2 * a5) = wv := num_wheel hh s0 hwv hc
                                        have H2 := Lib.hid (fun W => (show Calls Try.prog 16 #[.int .i64 a5, .int .i64 (a6 + a5)] W fun e w' => e = .returned (.tuple #[.int .i64 N1, .int .i64 N2, .bool true]) ∧ Below W.heap.size W w' from by have := implStrokeNumber_any a5 (a6 + a5) W; rw [hN] at this; exact this))
                                        have hbd := num_top hh s0 hc hN
                                        have hr := t64 (n := N1) (g := 2 * a5) (by omega) (by omega) (by omega)
                                        have hfin : (N1 % (2 * a5) != wv) = false := by simp [hN1]
                                        have HW := Lib.hid hwv
                                        clear hwv hN hN1
                                        go_wp2_with fail
                                        refine (H1.out _).mono ?_
                                        rintro f1 x1 ⟨rfl, hd1⟩
                                        have D1 := hd1
                                        go_wp2_with fail
                                        refine (H2.out _).mono ?_
                                        rintro f2 x2 ⟨rfl, hd2⟩
                                        have D2 := D1.trans (hd2.mono D1.size)
                                        go_wp2_with fail
                                        go_meet
                                        case rel => exact D2
                                      · have HW := Lib.hid hwv
                                        clear hwv
                                        go_wp2_with fail
                                        refine (H1.out _).mono ?_
                                        rintro f1 x1 ⟨rfl, hd1⟩
                                        have D1 := hd1
                                        go_wp2_with fail
                                        go_meet
                                        case rel => exact D1
                                case rest =>
                                  as_aux_lemma =>
                                    have hcutb := hcut
                                    clear hcut
                                    obtain ⟨w21, hwv⟩ : ∃ v : World, v = wc := ⟨_, rfl⟩
                                    subst hwv
                                    have B21 : Below w.heap.size w w21 := B20.trans (hcutb.mono B20.size)
                                    clear hcutb
                                    go_wp2_with fail
                                    refine (DrawStepsBack_any L2 p2 L2.length q2 rfl hlen2 _ (BIn.below HB2.out B21)).mono ?_
                                    rintro e22 w22 ⟨a7, a8, a9, rfl, hb22⟩
                                    have B22 : Below w.heap.size w w22 := B21.trans (hb22.mono B21.size)
                                    clear hb22
                                    obtain ⟨bok, hbk⟩ : ∃ b, (halfB a7 a8 && halfB a7 a9) = b := ⟨_, rfl⟩
                                    obtain ⟨bs, hE6⟩ : ∃ v, backR a7 a8 a9 = (v, bok) := ⟨(backR a7 a8 a9).1, by rw [← hbk]; unfold backR; split <;> simp_all⟩
                                    obtain ⟨bm, hE7⟩ : ∃ v, mendR a7 a8 a9 = (v, bok) := ⟨(mendR a7 a8 a9).1, by rw [← hbk]; unfold mendR; split <;> simp_all⟩
                                    have C11 := Lib.hid (fun W => (show Calls Try.prog 22 #[.int .i64 a7, .int .i64 a8, .int .i64 a9] W fun e w' => e = .returned (.tuple #[.int .i64 bs, .bool bok]) ∧ Below W.heap.size W w' from by have := implStepsBack_any a7 a8 a9 W; rw [hE6] at this; exact this))
                                    have C12 := Lib.hid (fun W => (show Calls Try.prog 23 #[.int .i64 a7, .int .i64 a8, .int .i64 a9] W fun e w' => e = .returned (.tuple #[.int .i64 bs, .bool bok]) ∧ Below W.heap.size W w' from by have := specStepsBack_any a7 a8 a9 W; rw [hE6] at this; exact this))
                                    have C13 := Lib.hid (fun W => (show Calls Try.prog 24 #[.int .i64 a7, .int .i64 a8, .int .i64 a9] W fun e w' => e = .returned (.tuple #[.int .i64 bm, .bool bok]) ∧ Below W.heap.size W w' from by have := implStrokesToMend_any a7 a8 a9 W; rw [hE7] at this; exact this))
                                    have C14 := Lib.hid (fun W => (show Calls Try.prog 25 #[.int .i64 a7, .int .i64 a8, .int .i64 a9] W fun e w' => e = .returned (.tuple #[.int .i64 bm, .bool bok]) ∧ Below W.heap.size W w' from by have := specStrokesToMend_any a7 a8 a9 W; rw [hE7] at this; exact this))
                                    have F5 : Hid (bok = true → (2 ≤ a7 ∧ a7 ≤ 24) ∧ (0 ≤ a8 ∧ a8 < 2 * a7) ∧ (0 ≤ a9 ∧ a9 < 2 * a7) ∧ bs = gapW a7 a8 a9 ∧ bm = md a7 a8 a9) := Lib.hid (fun e => by
                                      rw [e] at hbk hE6 hE7
                                      have hbk2 := hbk
                                      simp only [Bool.and_eq_true] at hbk2
                                      obtain ⟨hh, h1⟩ := halfB_bd hbk2.1
                                      obtain ⟨-, h2⟩ := halfB_bd hbk2.2
                                      refine ⟨hh, h1, h2, ?_, ?_⟩
                                      · unfold backR at hE6; rw [if_pos hbk] at hE6; exact (Prod.mk.inj hE6).1.symm
                                      · unfold mendR at hE7; rw [if_pos hbk] at hE7; exact (Prod.mk.inj hE7).1.symm)
                                    clear hE6 hE7 hbk
                                    go_wp2_with fail
                                    refine (C11.out _).mono ?_
                                    rintro e23 w23 ⟨rfl, hb23⟩
                                    have B23 : Below w.heap.size w w23 := B22.trans (hb23.mono B22.size)
                                    clear hb23
                                    go_wp2_with fail
                                    refine (C12.out _).mono ?_
                                    rintro e24 w24 ⟨rfl, hb24⟩
                                    have B24 : Below w.heap.size w w24 := B23.trans (hb24.mono B23.size)
                                    clear hb24
                                    go_wp2_with fail
                                    refine (C13.out _).mono ?_
                                    rintro e25 w25 ⟨rfl, hb25⟩
                                    have B25 : Below w.heap.size w w25 := B24.trans (hb25.mono B24.size)
                                    clear hb25
                                    go_wp2_with fail
                                    refine (C14.out _).mono ?_
                                    rintro e26 w26 ⟨rfl, hb26⟩
                                    have B26 : Below w.heap.size w w26 := B25.trans (hb26.mono B25.size)
                                    clear hb26
                                    cases bok
                                    · as_aux_lemma =>
                                        go_wp2
                                        go_ret
                                        exact ⟨rfl, B26⟩
                                    · as_aux_lemma =>
                                        obtain ⟨hh, h1, h2, hbs, hbm⟩ := F5.out rfl
                                        have hw2 := w64 (n := 2 * a7) (by omega)
                                        have hz3 : ¬ (2 * a7 = 0) := by omega
                                        have hgb := gap_bd h1 h2
                                        rw [← hbs] at hgb
                                        have hr := t64 (n := a9 + bs) (g := 2 * a7) (by omega) (by omega) (by omega)
                                        have hl : ((a9 + bs) % (2 * a7) != a8) = false := by rw [hbs, gap_lands h1 h2]; simp
                                        have hn0 : ¬ bs < 0 := by omega
                                        have hn1 : ¬ 2 * a7 ≤ bs := by omega
                                        by_cases hp : 0 < bs
                                        · have H1 := Lib.hid (fun W => (show Calls Try.prog 7 #[.int .i64 a7, .int .i64 (a9 + 1), .int .i64 (a9 + bs)] W fun e w' => e = .returned (.tuple #[.int .i64 bm, .bool true]) ∧ Below W.heap.size W w' from by have := implStrokesBetween_any a7 (a9 + 1) (a9 + bs) W; rw [hbs, mend_is hh h1 h2 (by rw [← hbs]; exact hp), ← hbm] at this; rw [hbs]; exact this))
                                          clear hbs hbm
                                          go_wp2_with fail
                                          refine (H1.out _).mono ?_
                                          rintro f1 x1 ⟨rfl, hd1⟩
                                          have E1 := hd1
                                          go_wp2
                                          go_ret
                                          exact ⟨rfl, B26.trans (hd1.mono B26.size)⟩
                                        · have hb0 : (bm != 0) = false := by rw [hbm, mend_zero (by omega)]; rfl
                                          clear hbs hbm
                                          go_wp2
                                          go_ret
                                          exact ⟨rfl, B26⟩
  · have HBG := Lib.hid hbg
    clear hbg
    (go_enter Try.func3, Try.ntmps3)
    go_wp2_with fail
    refine (big_is p1 p2 L1.length L2.length q1 q2 hm1 HBG.out _).mono ?_
    rintro e0 w0 ⟨rfl, rfl⟩
    go_wp2
    go_ret
    exact ⟨rfl, Below.refl _ _⟩

set_option maxRecDepth 100000 in
theorem lifted (os : Os) (started : os.Started) (H : Type) (enc : TypeId × Value → H) :
    ReturnsInHanded {} Try.checked os 3 .any (Rows.fnStrokesCountedSpec.pre6 enc Try.prog Try.f3 Rows.fnStrokesCountedRow.domain false) (Rows.fnStrokesCountedSpec.post enc Try.prog Try.f3 false true false false) := by
  refine returnsInHanded_of_change (C := Try.checked) Try.own started (by kernel_rfl) Try.func3
    (ChangeSpec.witness6 (enc := enc) (C := Try.checked) false ⟨#[], #[.slice none 0 0, .slice none 0 0], []⟩ 8 (by kernel_rfl) (by kernel_rfl) (by kernel_rfl) (by kernel_rfl)) ?_
  intro W base args ds gs before hval0 hW hcnd _
  have hval : ∀ (j : Nat) t v, Try.f3.params[j]? = some t → args[j]? = some v → Value.okWide Try.prog W .any base t v := hval0
  have hW' := hW
  obtain ⟨p, q, hA0, hV, rfl, hfz, hnd⟩ := hW
  have hA : DataW.TrodAll enc Try.prog W 0 (fun _ => true) true Try.f3.params.toList args.toList ds p := hA0
  rw [Try.params3] at hA hval
  obtain ⟨v0, vs0, d_0, ds0, p0, q0, hargs, rfl, rfl, h0, r0⟩ := trodAll_cons hA
  obtain ⟨v1, vs1, d_1, ds1, p1, q1, rfl, rfl, rfl, h1, r1⟩ := trodAll_cons r0
  obtain ⟨rfl, rfl, rfl⟩ := trodAll_nil r1
  obtain rfl : args = #[v0, v1] := by cases args; simp_all
  obtain ⟨rfl, rfl⟩ := trodVars_none hV
  have h0k := h0
  have h1k := h1
  obtain ⟨p1', q1', L1, rfl, hi1, hm1⟩ := open_bytes' (hval 0 22 v0 rfl rfl) h0
  obtain ⟨p2', q2', L2, rfl, hi2, hm2⟩ := open_bytes' (hval 1 22 v1 rfl rfl) h1
  clear hA0 hval0
  simp only [List.append_nil, List.nil_append] at hW'
  have hlt0 : ∀ y ∈ p0, y.block < W.heap.size := fun y hy => by simpa using hW'.lt y (by simp [hy])
  have hlt1 : ∀ y ∈ p1, y.block < W.heap.size := fun y hy => by simpa using hW'.lt y (by simp [hy])
  refine (walk W p1' p2' q1' q2' L1 L2 hi1 hi2 hm1 hm2).mono fun e W' ⟨he, bel⟩ => ?_
  subst he
  have harg0 : DataW.Trod enc Try.prog W' 0 (fun b => decide (b < W.heap.size)) true 22 (.slice p1' L1.length q1') d_0 p0 :=
    Below.trod Try.laidOut (by kernel_rfl) (of_decide_eq_true (by kernel_rfl)) h0k bel hlt0
  have harg1 : DataW.Trod enc Try.prog W' 0 (fun b => decide (b < W.heap.size)) true 22 (.slice p2' L2.length q2') d_1 p1 :=
    Below.trod Try.laidOut (by kernel_rfl) (of_decide_eq_true (by kernel_rfl)) h1k bel hlt1
  exact ⟨_, rfl, _, _, _, [], _, [], hW', trodAll_mk1 (shut_bool Try.underlying4 _), (trodAll_cons_mk harg0 (trodAll_cons_mk harg1 trodAll_mk0)), rfl, bel.frame _, fun h => by cases h⟩

theorem closed : joinedFacts Try.prog 3 Try.f3 Rows.fnStrokesCountedSpec Rows.fnStrokesCountedRow = true := by
  unfold joinedFacts
  rw [Try.fMake, Try.fEnter, Try.fLifts, Try.fMaps, Try.fLaid, Try.fHeard, Try.fKeys]
  kernel_rfl
theorem over : Rows.fnStrokesCountedRow.holds Try.pinned (OpenSpec.ofChange Rows.fnStrokesCountedSpec) :=
  OpenClaim.holds_of_wide 3 Try.f3 rfl rfl rfl rfl rfl rfl rfl ⟨rfl, rfl, rfl, rfl, rfl⟩ rfl rfl rfl rfl rfl (by kernel_rfl) Try.func3
    closed (of_decide_eq_true (by kernel_rfl)) (by unfold Func.isWrapper; first | (rw [if_pos (by decide +kernel)]; kernel_rfl) | (rw [if_neg (by decide +kernel)]; exact ⟨rfl, rfl⟩))
    (fun os started H enc _ => lifted os started H enc)

end Go.Proofs.Yteamijcnejjmjaa.fnStrokesCounted
namespace Go.Proofs.Yteamijcnejjmjaa
/-- The statement. -/
theorem fnStrokesCounted_proved : Rows.FnStrokesCountedSaid := fnStrokesCounted.over
#print axioms fnStrokesCounted_proved
end Go.Proofs.Yteamijcnejjmjaa