/- FnStrokesWaitedOfAll: called with any arguments, the law returns true, and its arguments read behind the call as before. Conditions: none but the row's own. -/
import Derived.Test.YtloppndldnepfaaFacts
import Derived.Test.YtloppndldnepfaaRow
import Derived.Test.YtloppndldnepfaaWt0
import Derived.Test.YtloppndldnepfaaKl
import Derived.Test.YtloppndldnepfaaLate
import Derived.Deep.DeepCutAuto
set_option linter.unusedSimpArgs false
set_option linter.unusedVariables false
set_option maxRecDepth 100000
namespace Go.Proofs.Ytloppndldnepfaa.fnStrokesWaitedOfAll
open Go.ChangeShapes Go.WideShapes Go.ChangeAt Go.RowKit

set_option maxHeartbeats 8000000 in
theorem walk (a0 : Int) (a1 : Int) (a2 : Int) (a3 : Int) (a4 : Int) (a5 : Int) (a6 : Int) (a7 : Int) (a8 : Int) (a9 : Int) (k0 : I64 a0) (k1 : I64 a1) (k2 : I64 a2) (k3 : I64 a3) (k4 : I64 a4) (k5 : I64 a5) (k6 : I64 a6) (k7 : I64 a7) (k8 : I64 a8) (k9 : I64 a9) (w : World) :
    Calls Try.prog 8 #[.int .i64 a0, .int .i64 a1, .int .i64 a2, .int .i64 a3, .int .i64 a4, .int .i64 a5, .int .i64 a6, .int .i64 a7, .int .i64 a8, .int .i64 a9] w fun e w' => e = .returned (.bool true) ∧ Below w.heap.size w w' := by
  obtain ⟨wv, wok, hW⟩ : ∃ v b, waitR a0 a1 a2 = (v, b) := ⟨_, _, rfl⟩
  obtain ⟨mf, mm, mok, hM⟩ : ∃ v u b, mostR a6 a7 = (v, u, b) := ⟨_, _, _, rfl⟩
  obtain ⟨sv, sok, hS⟩ : ∃ v b, atR a8 a9 = (v, b) := ⟨_, _, rfl⟩
  obtain ⟨M, hL⟩ : ∃ M, frL a3 a4 a5 = M := ⟨_, rfl⟩
  obtain ⟨hok, hK⟩ : ∃ b, frOk a3 a4 a5 = b := ⟨_, rfl⟩
  have C1 := Lib.hid (fun W => (show Calls Try.prog 46 #[.int .i64 a0, .int .i64 a1, .int .i64 a2] W fun e w' => e = .returned (.tuple #[.int .i64 wv, .bool wok]) ∧ Below W.heap.size W w' from by have := implWaitForStrokes_any a0 a1 a2 W; rw [hW] at this; exact this))
  have C2 := Lib.hid (fun W => (show Calls Try.prog 47 #[.int .i64 a0, .int .i64 a1, .int .i64 a2] W fun e w' => e = .returned (.tuple #[.int .i64 wv, .bool wok]) ∧ Below W.heap.size W w' from by have := specWaitForStrokes_any a0 a1 a2 W; rw [hW] at this; exact this))
  have C3 := Lib.hid (fun W => (show Calls Try.prog 18 #[.int .i64 a3, .int .i64 a4, .int .i64 a5] W (IntsOut W M hok) from by have := implHeardFrom_any a3 a4 a5 W; rw [hL, hK] at this; exact this))
  have C4 := Lib.hid (fun W => (show Calls Try.prog 49 #[.int .i64 a3, .int .i64 a4, .int .i64 a5] W (IntsOut W M hok) from by have := specHeardFrom_any a3 a4 a5 W; rw [hL, hK] at this; exact this))
  have C5 := Lib.hid (fun W => (show Calls Try.prog 51 #[.int .i64 a6, .int .i64 a7] W fun e w' => e = .returned (.tuple #[.int .i64 mf, .int .i64 mm, .bool mok]) ∧ Below W.heap.size W w' from by have := implMostInHalves_any a6 a7 W; rw [hM] at this; exact this))
  have C6 := Lib.hid (fun W => (show Calls Try.prog 52 #[.int .i64 a6, .int .i64 a7] W fun e w' => e = .returned (.tuple #[.int .i64 mf, .int .i64 mm, .bool mok]) ∧ Below W.heap.size W w' from by have := specMostInHalves_any a6 a7 W; rw [hM] at this; exact this))
  have C7 := Lib.hid (fun W => (show Calls Try.prog 33 #[.int .i64 a8, .int .i64 a9] W fun e w' => e = .returned (.tuple #[.int .i64 sv, .bool sok]) ∧ Below W.heap.size W w' from by have := implStrokesAt_any a8 a9 W; rw [hS] at this; exact this))
  have C8 := Lib.hid (fun W => (show Calls Try.prog 54 #[.int .i64 a8, .int .i64 a9] W fun e w' => e = .returned (.tuple #[.int .i64 sv, .bool sok]) ∧ Below W.heap.size W w' from by have := specStrokesAt_any a8 a9 W; rw [hS] at this; exact this))
  have F1 : Hid (wok = true → (2 ≤ a0 ∧ a0 ≤ 24) ∧ (0 ≤ a1 ∧ a1 < 2 * a0) ∧ (0 ≤ wv ∧ wv < 2 * a0 ∧ stM a0 (a1 + wv) = a2 ∧ ∀ m : Nat, (m : Int) < wv → stM a0 (a1 + m) ≠ a2)) := Lib.hid (fun e => by
    subst e
    unfold waitR at hW
    split at hW
    · rename_i k
      simp only [Bool.and_eq_true] at k
      obtain ⟨hh, hx⟩ := halfB_bd k.1
      obtain ⟨s1, s2⟩ := inB_bd k.2
      obtain ⟨rfl, -⟩ := Prod.mk.inj hW
      exact ⟨hh, hx, wt_spec hh s1 s2 hx⟩
    · cases (Prod.mk.inj hW).2)
  have F2 : Hid (hok = true → (2 ≤ a3 ∧ a3 ≤ 24) ∧ (0 ≤ a4 ∧ a4 < 2 * a3) ∧ 1 ≤ a5 ∧ a5 ≤ 60 ∧ M = hl a3 a4 a5.toNat) := Lib.hid (fun e => by
    rw [← hK] at e
    have hL2 := hL
    unfold frL at hL2
    rw [if_pos e] at hL2
    simp only [frOk, Bool.and_eq_true] at e
    obtain ⟨hh, hx⟩ := halfB_bd e.1
    obtain ⟨s1, s2⟩ := inB_bd e.2
    exact ⟨hh, hx, s1, s2, hL2.symm⟩)
  have F2N : Hid (M.length ≤ 1000000) := Lib.hid (by rw [← hL]; exact frL_len a3 a4 a5)
  have F3 : Hid (mok = true → (2 ≤ a6 ∧ a6 ≤ 24) ∧ (1 ≤ a7 ∧ a7 ≤ 2 * a6) ∧ (∀ x : Nat, (x : Int) < 2 * a6 → ws a6 x a7.toNat ≤ mm) ∧ ∃ f : Nat, mf = f ∧ ws a6 f a7.toNat = mm ∧ ∀ x : Nat, x < f → ws a6 x a7.toNat < mm) := Lib.hid (fun e => by
    subst e
    unfold mostR at hM
    split at hM
    · rename_i k
      simp only [Bool.and_eq_true] at k
      have hh := inB_bd k.1
      have s := inB_bd k.2
      obtain ⟨e1, e2⟩ := Prod.mk.inj hM
      obtain ⟨e2, -⟩ := Prod.mk.inj e2
      obtain ⟨b1, b2⟩ := bestK_spec hh a7.toNat (by omega) (2 * a6).toNat
      obtain ⟨f, f1, f2, f3, f4⟩ := b2 (by omega)
      rw [e1] at f1
      rw [e2] at b1 f3 f4
      exact ⟨hh, s, fun x hx => b1 x (by omega), f, f1, f3, f4⟩
    · cases (Prod.mk.inj (Prod.mk.inj hM).2).2)
  clear hW hM hS hL hK
  (go_enter Try.func8, Try.ntmps8)
  go_wp2_with fail
  refine (C1.out _).mono ?_
  rintro e1 w1 ⟨rfl, hb1⟩
  have B1 := hb1
  go_wp2_with fail
  refine (C2.out _).mono ?_
  rintro e2 w2 ⟨rfl, hb2⟩
  have B2 : Below w.heap.size w w2 := B1.trans (hb2.mono B1.size)
  go_wp2_with fail
  refine (C3.out _).mono ?_
  rintro e3 w3 ⟨v3, rfl, hr3, hb3⟩
  have HR3 := Lib.hid hr3
  clear hr3
  have B3 : Below w.heap.size w w3 := B2.trans (hb3.mono B2.size)
  go_wp2_with fail
  refine (C4.out _).mono ?_
  rintro e4 w4 ⟨v4, rfl, hr4, hb4⟩
  have HR4 := Lib.hid hr4
  clear hr4
  have B4 : Below w.heap.size w w4 := B3.trans (hb4.mono B3.size)
  go_wp2_with fail
  refine (C5.out _).mono ?_
  rintro e5 w5 ⟨rfl, hb5⟩
  have B5 : Below w.heap.size w w5 := B4.trans (hb5.mono B4.size)
  go_wp2_with fail
  refine (C6.out _).mono ?_
  rintro e6 w6 ⟨rfl, hb6⟩
  have B6 : Below w.heap.size w w6 := B5.trans (hb6.mono B5.size)
  go_wp2_with fail
  refine (C7.out _).mono ?_
  rintro e7 w7 ⟨rfl, hb7⟩
  have B7 : Below w.heap.size w w7 := B6.trans (hb7.mono B6.size)
  go_wp2_with fail
  refine (C8.out _).mono ?_
  rintro e8 w8 ⟨rfl, hb8⟩
  have B8 : Below w.heap.size w w8 := B7.trans (hb8.mono B7.size)
  have X3 := Lib.hid (IRow.below (IRow.below (IRow.below (IRow.below (IRow.below HR3.out hb4) hb5) hb6) hb7) hb8)
  have X4 := Lib.hid (IRow.below (IRow.below (IRow.below (IRow.below HR4.out hb5) hb6) hb7) hb8)
  clear HR3 HR4
  obtain ⟨l3, c3, rfl, hi3, -, -⟩ := X3.out.inn
  have I3 := Lib.hid hi3
  clear hi3
  obtain ⟨l4, c4, rfl, hi4, -, -⟩ := X4.out.inn
  have I4 := Lib.hid hi4
  clear hi4
  go_wp2_with fail
  refine (kSame_is M M M.length M.length rfl rfl l3 l4 c3 c4 (decide_eq_true rfl) ⟨Nat.le_trans F2N.out (by omega), Nat.le_trans F2N.out (by omega)⟩ _ I3.out I4.out).mono ?_
  rintro e9 w9 ⟨rfl, hb9⟩
  have B9 : Below w.heap.size w w9 := B8.trans (hb9.mono B8.size)
  have IA := Lib.hid (IIn.below I3.out hb9)
  clear hb1 hb2 hb3 hb4 hb5 hb6 hb7 hb8 hb9
  go_upto_if 147 with fail
  go_cut [] (fun wx => Below w9.heap.size w9 wx)
  case first =>
    cases wok
    · go_wp2_with fail
      go_meet
      case rel => exact Below.refl _ _
    · obtain ⟨hh, hx, w0, w1, hwt, hall⟩ := F1.out rfl
      have hw2 := w64 (n := 2 * a0) (by omega)
      have hz3 : ¬ (2 * a0 = 0) := by omega
      have HWT := Lib.hid hwt
      have HALL := Lib.hid hall
      clear hwt hall
      go_wp2_with fail
      go_loopw [39] (fun i wr => ∃ k : Nat, (k : Int) ≤ wv + 1 ∧ i = .int .i64 k ∧ Below w9.heap.size w9 wr) (fun i _ => (wv + 1 - intOf i).toNat)
      case atStart => exact ⟨0, by omega, rfl, Below.refl _ _⟩
      case round =>
        obtain ⟨k, hk, rfl, hbel⟩ := hrel
        have hzr := hbel.size
        have i0 : (0 : Int) ≤ (k : Int) := Int.natCast_nonneg _
        by_cases hlt : (k : Int) ≤ wv
        · have hr := t64 (n := a1 + k) (g := 2 * a0) (by omega) (by omega) (by omega)
          obtain ⟨t, hte⟩ : ∃ t, stM a0 (a1 + k) = t := ⟨_, rfl⟩
          have HAT := Lib.hid (fun W => (show Calls Try.prog 33 #[.int .i64 a0, .int .i64 ((a1 + k) % (2 * a0))] W fun e w' => e = .returned (.tuple #[.int .i64 t, .bool true]) ∧ Below W.heap.size W w' from by have := implStrokesAt_any a0 ((a1 + k) % (2 * a0)) W; rw [atR_mod hh, hte] at this; exact this))
          by_cases hkw : (k : Int) = wv
          · have hta : t = a2 := by rw [← hte, hkw, HWT.out]
            clear hte
            subst hta
            obtain rfl : wv = (k : Int) := hkw.symm
            go_wp2_with fail
            refine (HAT.out _).mono ?_
            rintro ex wx ⟨rfl, hbx⟩
            go_wp2
            go_roundw
            case rel => exact ⟨k + 1, by omega, by go_num, hbel.trans (hbx.mono hzr)⟩
            case measure => first | (simp [intOf]; done) | (simp [intOf]; omega)
          · have h2 : (t == a2) = false := by rw [← hte]; simpa using HALL.out k (by omega)
            have h3 : ((k : Int) == wv) = false := by simpa using hkw
            clear hte
            go_wp2_with fail
            refine (HAT.out _).mono ?_
            rintro ex wx ⟨rfl, hbx⟩
            go_wp2
            go_roundw
            case rel => exact ⟨k + 1, by omega, by go_num, hbel.trans (hbx.mono hzr)⟩
            case measure => first | (simp [intOf]; done) | (simp [intOf]; omega)
        · go_wp2_with fail
          go_meet
          case rel => exact hbel
  case rest =>
    have ha1 := hcut
    have BA : Below w.heap.size w wc := B9.trans (hcut.mono B9.size)
    have IB := Lib.hid (IIn.below IA.out hcut)
    obtain ⟨wd, hwd⟩ : ∃ wd : World, wd = wc := ⟨_, rfl⟩
    subst hwd
    clear hcut ha1
    go_upto_if 179 with fail
    go_cut [] (fun wx => Below wd.heap.size wd wx)
    case first =>
      cases hok
      · go_wp2_with fail
        go_meet
        case rel => exact Below.refl _ _
      · obtain ⟨hh, hx, n1, n2, hMM⟩ := F2.out rfl
        have hw2 := w64 (n := 2 * a3) (by omega)
        have hz3 : ¬ (2 * a3 = 0) := by omega
        have hl5 : (M.length : Int) = a5 := by rw [hMM, hl_length]; omega
        have HG : Hid (∀ k : Nat, k < M.length → M.getD k 0 = stM a3 (a4 + k)) := Lib.hid (fun k hk => by
          have e : M.getD k 0 = (hl a3 a4 a5.toNat).getD k 0 := congrArg (fun l => l.getD k 0) hMM
          rw [e]; exact hl_get a3 a4 (by omega))
        clear hMM
        subst hl5
        go_wp2_with fail
        go_loopw [182] (fun i wr => ∃ k : Nat, k ≤ M.length ∧ i = .int .i64 k ∧ Below wd.heap.size wd wr) (fun i _ => M.length - (intOf i).toNat)
        case atStart => exact ⟨0, Nat.zero_le _, rfl, Below.refl _ _⟩
        case round =>
          obtain ⟨k, hk, rfl, hbel⟩ := hrel
          have hzr := hbel.size
          have i0 : (0 : Int) ≤ (k : Int) := Int.natCast_nonneg _
          by_cases hlt : k < M.length
          · obtain ⟨g1, o1, rfl, e1, e2⟩ := IB.out k (hlt)
            obtain ⟨hcr, hfr⟩ := bcell hbel
            have f2 := (hcr g1 (o1 + k) e1).trans e2
            have u1 : g1 < wr.heap.size := by omega
            have i1 : (k : Int) < (M.length : Int) := by omega
            have hr := t64 (n := a4 + k) (g := 2 * a3) (by omega) (by omega) (by omega)
            rw [HG.out k hlt] at f2
            have HAT := Lib.hid (fun W => (show Calls Try.prog 33 #[.int .i64 a3, .int .i64 ((a4 + k) % (2 * a3))] W fun e w' => e = .returned (.tuple #[.int .i64 (stM a3 (a4 + k)), .bool true]) ∧ Below W.heap.size W w' from by have := implStrokesAt_any a3 ((a4 + k) % (2 * a3)) W; rw [atR_mod hh] at this; exact this))
            clear e2 hcr hfr
            generalize stM a3 (a4 + k) = t at *
            go_wp2_with fail
            refine (HAT.out _).mono ?_
            rintro ex wx ⟨rfl, hbx⟩
            go_wp2
            go_roundw
            case rel => exact ⟨k + 1, by omega, by go_num, hbel.trans (hbx.mono hzr)⟩
            case measure => first | (simp [intOf]; done) | (simp [intOf]; omega)
          · obtain rfl : k = M.length := by omega
            go_wp2_with fail
            go_meet
            case rel => exact hbel
    case rest =>
      have BB : Below w.heap.size w wc := BA.trans (hcut.mono BA.size)
      obtain ⟨we, hwe⟩ : ∃ we : World, we = wc := ⟨_, rfl⟩
      subst hwe
      clear hcut
      cases mok
      · go_wp2
        go_ret
        exact ⟨rfl, BB⟩
      · obtain ⟨hh, hx, hall, f, rfl, hf, hlow⟩ := F3.out rfl
        have hw2 := w64 (n := 2 * a6) (by omega)
        have HALL := Lib.hid hall
        have HF := Lib.hid hf
        have HLOW := Lib.hid hlow
        clear hall hf hlow
        obtain ⟨N, hN⟩ : ∃ N : Nat, a7 = N := ⟨a7.toNat, by omega⟩
        subst hN
        simp only [Int.toNat_natCast] at HALL HF HLOW
        obtain ⟨R, hR⟩ : ∃ R : Nat, (R : Int) = 2 * a6 := ⟨(2 * a6).toNat, by omega⟩
        go_wp2_with fail
        go_loopw [46] (fun i wr => ∃ k : Nat, k ≤ R ∧ i = .int .i64 k ∧ Below we.heap.size we wr) (fun i _ => R - (intOf i).toNat)
        case atStart => exact ⟨0, Nat.zero_le _, rfl, Below.refl _ _⟩
        case round =>
          obtain ⟨k, hk, rfl, hbel⟩ := hrel
          have hzr := hbel.size
          have i0 : (0 : Int) ≤ (k : Int) := Int.natCast_nonneg _
          by_cases hlt : (k : Int) < 2 * a6
          · obtain ⟨t, hte⟩ : ∃ t, ws a6 k N = t := ⟨_, rfl⟩
            have HAT := Lib.hid (fun W => (show Calls Try.prog 27 #[.int .i64 a6, .int .i64 k, .int .i64 ((k : Int) + N - 1)] W fun e w' => e = .returned (.tuple #[.int .i64 t, .bool true]) ∧ Below W.heap.size W w' from by have := implStrokesBetween_any a6 k ((k : Int) + N - 1) W; rw [betw_ws hh k N (by omega) (by omega), hte] at this; exact this))
            have hle : ¬ (mm : Int) < t := by have := HALL.out k hlt; omega
            have h1 : (k : Int) < (f : Int) → (t == mm) = false := fun e => by have := HLOW.out k (by omega); simp; omega
            have h2 : (k : Int) = (f : Int) → (t != mm) = false := fun e => by have e' : k = f := by omega
                                                                               have := HF.out; rw [← e', hte] at this; simp [this]
            by_cases c1 : (k : Int) < (f : Int)
            · have h3 := h1 c1
              have h4 : ((k : Int) == (f : Int)) = false := by simp; omega
              clear hte h1 h2
              go_wp2_with fail
              refine (HAT.out _).mono ?_
              rintro ex wx ⟨rfl, hbx⟩
              go_wp2
              go_roundw
              case rel => exact ⟨k + 1, by omega, by go_num, hbel.trans (hbx.mono hzr)⟩
              case measure => first | (simp [intOf]; done) | (simp [intOf]; omega)
            · by_cases c2 : (k : Int) = (f : Int)
              · have h3 : t = mm := by have e' : k = f := by omega
                                       rw [← hte, e', HF.out]
                clear hte h1 h2
                obtain rfl : k = f := by omega
                subst h3
                clear c2
                go_wp2_with fail
                refine (HAT.out _).mono ?_
                rintro ex wx ⟨rfl, hbx⟩
                go_wp2
                go_roundw
                case rel => exact ⟨k + 1, by omega, by go_num, hbel.trans (hbx.mono hzr)⟩
                case measure => first | (simp [intOf]; done) | (simp [intOf]; omega)
              · have h4 : ((k : Int) == (f : Int)) = false := by simp; omega
                clear hte h1 h2
                go_wp2_with fail
                refine (HAT.out _).mono ?_
                rintro ex wx ⟨rfl, hbx⟩
                go_wp2
                go_roundw
                case rel => exact ⟨k + 1, by omega, by go_num, hbel.trans (hbx.mono hzr)⟩
                case measure => first | (simp [intOf]; done) | (simp [intOf]; omega)
          · obtain rfl : k = R := by omega
            go_wp2
            go_ret
            exact ⟨rfl, BB.trans (hbel.mono BB.size)⟩

set_option maxRecDepth 100000 in
theorem lifted (os : Os) (started : os.Started) (H : Type) (enc : TypeId × Value → H) :
    ReturnsInHanded {} Try.checked os 8 .any (Rows.fnStrokesWaitedOfAllSpec.pre6 enc Try.prog Try.f8 Rows.fnStrokesWaitedOfAllRow.domain false) (Rows.fnStrokesWaitedOfAllSpec.post enc Try.prog Try.f8 false true false false) := by
  refine returnsInHanded_of_change (C := Try.checked) Try.own started (by kernel_rfl) Try.func8
    (ChangeSpec.witness6 (enc := enc) (C := Try.checked) false ⟨#[], #[.int .i64 0, .int .i64 0, .int .i64 0, .int .i64 0, .int .i64 0, .int .i64 0, .int .i64 0, .int .i64 0, .int .i64 0, .int .i64 0], []⟩ 8 (by kernel_rfl) (by kernel_rfl) (by kernel_rfl) (by kernel_rfl)) ?_
  intro W base args ds gs before hval0 hW hcnd _
  have hval : ∀ (j : Nat) t v, Try.f8.params[j]? = some t → args[j]? = some v → Value.okWide Try.prog W .any base t v := hval0
  have hW' := hW
  obtain ⟨p, q, hA0, hV, rfl, hfz, hnd⟩ := hW
  have hA : DataW.TrodAll enc Try.prog W 0 (fun _ => true) true Try.f8.params.toList args.toList ds p := hA0
  rw [Try.params8] at hA hval
  obtain ⟨v0, vs0, d_0, ds0, p0, q0, hargs, rfl, rfl, h0, r0⟩ := trodAll_cons hA
  obtain ⟨v1, vs1, d_1, ds1, p1, q1, rfl, rfl, rfl, h1, r1⟩ := trodAll_cons r0
  obtain ⟨v2, vs2, d_2, ds2, p2, q2, rfl, rfl, rfl, h2, r2⟩ := trodAll_cons r1
  obtain ⟨v3, vs3, d_3, ds3, p3, q3, rfl, rfl, rfl, h3, r3⟩ := trodAll_cons r2
  obtain ⟨v4, vs4, d_4, ds4, p4, q4, rfl, rfl, rfl, h4, r4⟩ := trodAll_cons r3
  obtain ⟨v5, vs5, d_5, ds5, p5, q5, rfl, rfl, rfl, h5, r5⟩ := trodAll_cons r4
  obtain ⟨v6, vs6, d_6, ds6, p6, q6, rfl, rfl, rfl, h6, r6⟩ := trodAll_cons r5
  obtain ⟨v7, vs7, d_7, ds7, p7, q7, rfl, rfl, rfl, h7, r7⟩ := trodAll_cons r6
  obtain ⟨v8, vs8, d_8, ds8, p8, q8, rfl, rfl, rfl, h8, r8⟩ := trodAll_cons r7
  obtain ⟨v9, vs9, d_9, ds9, p9, q9, rfl, rfl, rfl, h9, r9⟩ := trodAll_cons r8
  obtain ⟨rfl, rfl, rfl⟩ := trodAll_nil r9
  obtain rfl : args = #[v0, v1, v2, v3, v4, v5, v6, v7, v8, v9] := by cases args; simp_all
  obtain ⟨rfl, rfl⟩ := trodVars_none hV
  obtain ⟨a0, rfl, rfl, rfl, w0⟩ := open_int Try.underlying3 (hval 0 3 v0 rfl rfl) h0
  obtain ⟨a1, rfl, rfl, rfl, w1⟩ := open_int Try.underlying3 (hval 1 3 v1 rfl rfl) h1
  obtain ⟨a2, rfl, rfl, rfl, w2⟩ := open_int Try.underlying3 (hval 2 3 v2 rfl rfl) h2
  obtain ⟨a3, rfl, rfl, rfl, w3⟩ := open_int Try.underlying3 (hval 3 3 v3 rfl rfl) h3
  obtain ⟨a4, rfl, rfl, rfl, w4⟩ := open_int Try.underlying3 (hval 4 3 v4 rfl rfl) h4
  obtain ⟨a5, rfl, rfl, rfl, w5⟩ := open_int Try.underlying3 (hval 5 3 v5 rfl rfl) h5
  obtain ⟨a6, rfl, rfl, rfl, w6⟩ := open_int Try.underlying3 (hval 6 3 v6 rfl rfl) h6
  obtain ⟨a7, rfl, rfl, rfl, w7⟩ := open_int Try.underlying3 (hval 7 3 v7 rfl rfl) h7
  obtain ⟨a8, rfl, rfl, rfl, w8⟩ := open_int Try.underlying3 (hval 8 3 v8 rfl rfl) h8
  obtain ⟨a9, rfl, rfl, rfl, w9⟩ := open_int Try.underlying3 (hval 9 3 v9 rfl rfl) h9
  clear hA0 hval0
  refine (walk a0 a1 a2 a3 a4 a5 a6 a7 a8 a9 (i64_of_wf w0) (i64_of_wf w1) (i64_of_wf w2) (i64_of_wf w3) (i64_of_wf w4) (i64_of_wf w5) (i64_of_wf w6) (i64_of_wf w7) (i64_of_wf w8) (i64_of_wf w9) W).mono fun e W' ⟨he, bel⟩ => ?_
  subst he
  exact ⟨_, rfl, _, _, _, [], _, [], hW', trodAll_mk1 (shut_bool Try.underlying4 _), (trodAll_cons_mk (shut_int Try.underlying3 w0) (trodAll_cons_mk (shut_int Try.underlying3 w1) (trodAll_cons_mk (shut_int Try.underlying3 w2) (trodAll_cons_mk (shut_int Try.underlying3 w3) (trodAll_cons_mk (shut_int Try.underlying3 w4) (trodAll_cons_mk (shut_int Try.underlying3 w5) (trodAll_cons_mk (shut_int Try.underlying3 w6) (trodAll_cons_mk (shut_int Try.underlying3 w7) (trodAll_cons_mk (shut_int Try.underlying3 w8) (trodAll_cons_mk (shut_int Try.underlying3 w9) trodAll_mk0)))))))))), rfl, bel.frame _, fun h => by cases h⟩

theorem closed : joinedFacts Try.prog 8 Try.f8 Rows.fnStrokesWaitedOfAllSpec Rows.fnStrokesWaitedOfAllRow = true := by
  unfold joinedFacts
  rw [Try.fMake, Try.fEnter, Try.fLifts, Try.fMaps, Try.fLaid, Try.fHeard, Try.fKeys]
  kernel_rfl
theorem over : Rows.fnStrokesWaitedOfAllRow.holds Try.pinned (OpenSpec.ofChange Rows.fnStrokesWaitedOfAllSpec) :=
  OpenClaim.holds_of_wide 8 Try.f8 rfl rfl rfl rfl rfl rfl rfl ⟨rfl, rfl, rfl, rfl, rfl⟩ rfl rfl rfl rfl rfl (by kernel_rfl) Try.func8
    closed (of_decide_eq_true (by kernel_rfl)) (by unfold Func.isWrapper; first | (rw [if_pos (by decide +kernel)]; kernel_rfl) | (rw [if_neg (by decide +kernel)]; exact ⟨rfl, rfl⟩))
    (fun os started H enc _ => lifted os started H enc)

end Go.Proofs.Ytloppndldnepfaa.fnStrokesWaitedOfAll
namespace Go.Proofs.Ytloppndldnepfaa
/-- The statement. -/
theorem fnStrokesWaitedOfAll_proved : Rows.FnStrokesWaitedOfAllSaid := fnStrokesWaitedOfAll.over
#print axioms fnStrokesWaitedOfAll_proved
end Go.Proofs.Ytloppndldnepfaa
