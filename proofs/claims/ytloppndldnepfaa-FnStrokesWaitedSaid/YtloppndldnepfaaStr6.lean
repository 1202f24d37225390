/- From which half on the most strokes are struck: by the program and by the model. -/
import Derived.Test.YtloppndldnepfaaStr5
set_option linter.unusedSimpArgs false
set_option linter.unusedVariables false
set_option maxRecDepth 100000
namespace Go.Proofs.Ytloppndldnepfaa
open Go.ChangeShapes Go.WideShapes Go.ChangeAt Go.RowKit

/-- The best one among the first halves, and how many its strokes are. -/
def bestK (h : Int) (N : Nat) : Nat → Int × Int
  | 0 => (0, 0)
  | k + 1 => if ws h k N > (bestK h N k).2 then ((k : Int), ws h k N) else bestK h N k
def mostR (h c : Int) : Int × Int × Bool := if inB h 2 24 && inB c 1 (2 * h) then ((bestK h c.toNat (2 * h).toNat).1, (bestK h c.toNat (2 * h).toNat).2, true) else (0, 0, false)
theorem bestK_bd {h : Int} (hh : 2 ≤ h ∧ h ≤ 24) (N k : Nat) : 0 ≤ (bestK h N k).2 ∧ (bestK h N k).2 ≤ 24 * N := by
  induction k with
  | zero => simp only [bestK]; omega
  | succ k ih =>
    have := ws_bd (h := h) (x := (k : Int)) hh N
    simp only [bestK]
    split
    · show 0 ≤ ws h k N ∧ ws h k N ≤ 24 * N
      omega
    · exact ih
theorem hl_ws (h x : Int) (k : Nat) {N : Nat} (hk : k < N) : ws h x (k + 1) = ws h x k + (hl h x N).getD k 0 := by rw [hl_get h x hk]; rfl

set_option maxHeartbeats 1600000 in
theorem implMostInHalves_any (h c : Int) (w : World) :
    Calls Try.prog 51 #[.int .i64 h, .int .i64 c] w fun e w' => e = .returned (nnv (mostR h c)) ∧ Below w.heap.size w w' := by
  cases ga : inB h 2 24
  · have HM := Lib.hid (show (0, 0, false) = mostR h c from by simp [mostR, ga])
    (go_enter Try.func51, Try.ntmps51)
    go_wp2_with fail
    refine (isDial_is _ ga _).mono ?_
    (rintro e1 w1 ⟨rfl, rfl⟩)
    go_wp2
    (refine bodyPost_ret (by simp [results, Try.results51, go_sem, *]; try rfl) rfl ?_)
    exact ⟨ret_nnv HM.out, by (repeat' (first | (with_reducible exact Below.refl _ _) | (with_reducible assumption) | (with_reducible refine Below.alloc ?_ ?_ _) | (with_reducible refine Below.drew ?_) | (with_reducible refine below_drewN ?_ _) | (with_reducible refine Below.setCell ?_ ?_ _) | (with_reducible refine below_call ?_ ?_ (by assumption)) | go_size))⟩
  · have hh := inB_bd ga
    have hw2 := w64 (n := 2 * h) (by omega)
    cases gb : inB c 1 (2 * h)
    · have HM := Lib.hid (show (0, 0, false) = mostR h c from by simp [mostR, ga, gb])
      (go_enter Try.func51, Try.ntmps51)
      go_wp2_with fail
      refine (isDial_is _ ga _).mono ?_
      (rintro e1 w1 ⟨rfl, rfl⟩)
      go_wp2_with fail
      refine (isWithin_is _ _ _ gb _).mono ?_
      (rintro e1 w1 ⟨rfl, rfl⟩)
      go_wp2
      (refine bodyPost_ret (by simp [results, Try.results51, go_sem, *]; try rfl) rfl ?_)
      exact ⟨ret_nnv HM.out, by (repeat' (first | (with_reducible exact Below.refl _ _) | (with_reducible assumption) | (with_reducible refine Below.alloc ?_ ?_ _) | (with_reducible refine Below.drew ?_) | (with_reducible refine below_drewN ?_ _) | (with_reducible refine Below.setCell ?_ ?_ _) | (with_reducible refine below_call ?_ ?_ (by assumption)) | go_size))⟩
    · obtain ⟨c1, c2⟩ := inB_bd gb
      obtain ⟨N, rfl⟩ : ∃ N : Nat, c = N := ⟨c.toNat, by omega⟩
      obtain ⟨R, hR⟩ : ∃ R : Nat, (R : Int) = 2 * h := ⟨(2 * h).toNat, by omega⟩
      have HM := Lib.hid (show ((bestK h N R).1, (bestK h N R).2, true) = mostR h N from by rw [mostR, ga, gb, show (2 * h).toNat = R by omega]; rfl)
      (go_enter Try.func51, Try.ntmps51)
      go_wp2_with fail
      refine (isDial_is _ ga _).mono ?_
      (rintro e1 w1 ⟨rfl, rfl⟩)
      go_wp2_with fail
      refine (isWithin_is _ _ _ gb _).mono ?_
      (rintro e1 w1 ⟨rfl, rfl⟩)
      go_wp2
      go_loopw [7, 8, 23] (fun a b i wr => ∃ k : Nat, k ≤ R ∧ i = .int .i64 k ∧ a = .int .i64 (bestK h N k).1 ∧ b = .int .i64 (bestK h N k).2 ∧ Below w.heap.size w wr) (fun _ _ i _ => R - (intOf i).toNat)
      case atStart => exact ⟨0, Nat.zero_le _, rfl, rfl, rfl, Below.refl _ _⟩
      case round =>
        obtain ⟨k, hk, rfl, rfl, rfl, hbel⟩ := hrel
        have hzr := hbel.size
        have i0' : (0 : Int) ≤ (k : Int) := Int.natCast_nonneg _
        have hws := ws_bd (h := h) (x := (k : Int)) hh N
        have hbb := bestK_bd hh N k
        have HB1 : Hid (ws h k N > (bestK h N k).2 → bestK h N (k + 1) = ((k : Int), ws h k N)) := fun hc => by simp only [bestK]; rw [if_pos hc]
        have HB2 : Hid (ws h k N ≤ (bestK h N k).2 → bestK h N (k + 1) = bestK h N k) := fun hc => by simp only [bestK]; rw [if_neg (by omega)]
        by_cases hlt : (k : Int) < 2 * h
        · have h1 := sb_bd (h := h) (n := (k : Int) + N) hh (by omega) (by omega)
          have h2 := sb_bd (h := h) (n := (k : Int)) hh (by omega) (by omega)
          have h3 := sb_ws (h := h) (x := (k : Int)) hh (by omega) N
          have HC1 : Hid (∀ W : World, Calls Try.prog 80 #[.int .i64 h, .int .i64 ((k : Int) + N)] W fun e w' => e = .returned (.int .i64 (sb h k + ws h k N)) ∧ Below W.heap.size W w') := fun W => by rw [← h3]; exact strokesBefore_any h _ hh (by omega) (by omega) W
          have HC2 : Hid (∀ W : World, Calls Try.prog 80 #[.int .i64 h, .int .i64 (k : Int)] W fun e w' => e = .returned (.int .i64 (sb h k)) ∧ Below W.heap.size W w') := fun W => strokesBefore_any h _ hh (by omega) (by omega) W
          clear h1 h3
          generalize sb h k = s0 at *
          generalize ws h k N = s at *
          have he : s0 + s - s0 = s := by omega
          by_cases hc : s > (bestK h N k).2
          · have HN := Lib.hid (HB1.out hc)
            generalize bestK h N k = p at *
            go_wp2_with fail
            refine (HC1.out _).mono ?_
            rintro e1 w1 ⟨rfl, hb1⟩
            go_wp2_with fail
            refine (HC2.out _).mono ?_
            rintro e2 w2 ⟨rfl, hb2⟩
            have hz1 := hb1.size
            go_wp2
            go_roundw
            case rel => exact ⟨k + 1, by omega, by go_num, by rw [HN.out], by rw [HN.out], hbel.trans ((hb1.trans (hb2.mono hz1)).mono hzr)⟩
            case measure => simp [intOf]; omega
          · have HN := Lib.hid (HB2.out (Int.not_lt.1 hc))
            generalize bestK h N k = p at *
            go_wp2_with fail
            refine (HC1.out _).mono ?_
            rintro e1 w1 ⟨rfl, hb1⟩
            go_wp2_with fail
            refine (HC2.out _).mono ?_
            rintro e2 w2 ⟨rfl, hb2⟩
            have hz1 := hb1.size
            go_wp2
            go_roundw
            case rel => exact ⟨k + 1, by omega, by go_num, by rw [HN.out], by rw [HN.out], hbel.trans ((hb1.trans (hb2.mono hz1)).mono hzr)⟩
            case measure => simp [intOf]; omega
        · obtain rfl : k = R := by omega
          generalize bestK h N k = p at *
          go_wp2
          (refine bodyPost_ret (by simp [results, Try.results51, go_sem, *]; try rfl) rfl ?_)
          exact ⟨ret_nnv HM.out, hbel⟩

set_option maxHeartbeats 1600000 in
theorem specMostInHalves_any (h c : Int) (w : World) :
    Calls Try.prog 52 #[.int .i64 h, .int .i64 c] w fun e w' => e = .returned (nnv (mostR h c)) ∧ Below w.heap.size w w' := by
  cases ga : inB h 2 24
  · have HM := Lib.hid (show (0, 0, false) = mostR h c from by simp [mostR, ga])
    (go_enter Try.func52, Try.ntmps52)
    go_wp2_with fail
    refine (diHours_is _ ga _).mono ?_
    (rintro e1 w1 ⟨rfl, rfl⟩)
    go_wp2
    (refine bodyPost_ret (by simp [results, Try.results52, go_sem, *]; try rfl) rfl ?_)
    exact ⟨ret_nnv HM.out, by (repeat' (first | (with_reducible exact Below.refl _ _) | (with_reducible assumption) | (with_reducible refine Below.alloc ?_ ?_ _) | (with_reducible refine Below.drew ?_) | (with_reducible refine below_drewN ?_ _) | (with_reducible refine Below.setCell ?_ ?_ _) | (with_reducible refine below_call ?_ ?_ (by assumption)) | go_size))⟩
  · have hh := inB_bd ga
    have hw2 := w64 (n := 2 * h) (by omega)
    cases gb : inB c 1 (2 * h)
    · have HM := Lib.hid (show (0, 0, false) = mostR h c from by simp [mostR, ga, gb])
      (go_enter Try.func52, Try.ntmps52)
      go_wp2_with fail
      refine (diHours_is _ ga _).mono ?_
      (rintro e1 w1 ⟨rfl, rfl⟩)
      go_wp2_with fail
      refine (l1In_is _ _ _ gb _).mono ?_
      (rintro e1 w1 ⟨rfl, rfl⟩)
      go_wp2
      (refine bodyPost_ret (by simp [results, Try.results52, go_sem, *]; try rfl) rfl ?_)
      exact ⟨ret_nnv HM.out, by (repeat' (first | (with_reducible exact Below.refl _ _) | (with_reducible assumption) | (with_reducible refine Below.alloc ?_ ?_ _) | (with_reducible refine Below.drew ?_) | (with_reducible refine below_drewN ?_ _) | (with_reducible refine Below.setCell ?_ ?_ _) | (with_reducible refine below_call ?_ ?_ (by assumption)) | go_size))⟩
    · obtain ⟨c1, c2⟩ := inB_bd gb
      obtain ⟨N, rfl⟩ : ∃ N : Nat, c = N := ⟨c.toNat, by omega⟩
      obtain ⟨R, hR⟩ : ∃ R : Nat, (R : Int) = 2 * h := ⟨(2 * h).toNat, by omega⟩
      have HM := Lib.hid (show ((bestK h N R).1, (bestK h N R).2, true) = mostR h N from by rw [mostR, ga, gb, show (2 * h).toNat = R by omega]; rfl)
      (go_enter Try.func52, Try.ntmps52)
      go_wp2_with fail
      refine (diHours_is _ ga _).mono ?_
      (rintro e1 w1 ⟨rfl, rfl⟩)
      go_wp2_with fail
      refine (l1In_is _ _ _ gb _).mono ?_
      (rintro e1 w1 ⟨rfl, rfl⟩)
      go_wp2
      go_loopw [7, 8, 9] (fun a b i wr => ∃ k : Nat, k ≤ R ∧ i = .int .i64 k ∧ a = .int .i64 (bestK h N k).1 ∧ b = .int .i64 (bestK h N k).2 ∧ Below w.heap.size w wr) (fun _ _ i _ => R - (intOf i).toNat)
      case atStart => exact ⟨0, Nat.zero_le _, rfl, rfl, rfl, Below.refl _ _⟩
      case round =>
        obtain ⟨k, hk, rfl, rfl, rfl, hbel⟩ := hrel
        have hzr := hbel.size
        have i0' : (0 : Int) ≤ (k : Int) := Int.natCast_nonneg _
        have hws := ws_bd (h := h) (x := (k : Int)) hh N
        have hbb := bestK_bd hh N k
        have HB1 : Hid (ws h k N > (bestK h N k).2 → bestK h N (k + 1) = ((k : Int), ws h k N)) := fun hc => by simp only [bestK]; rw [if_pos hc]
        have HB2 : Hid (ws h k N ≤ (bestK h N k).2 → bestK h N (k + 1) = bestK h N k) := fun hc => by simp only [bestK]; rw [if_neg (by omega)]
        by_cases hlt : (k : Int) < 2 * h
        · go_wp2_with fail
          refine (stFrom_any h k N hh (by omega) (by omega) _).mono ?_
          rintro e1 w1 ⟨v1, rfl, hr1, hb1⟩
          obtain ⟨a1, cc1, rfl, l1, mx1, x1⟩ := hr1.cells
          rw [hl_length] at l1 x1 ⊢
          have X1 := Lib.hid x1
          clear x1 hr1
          have hz1 := hb1.size
          obtain ⟨wo, hwo⟩ : ∃ wo : World, wo = wr := ⟨_, rfl⟩
          rw [← hwo] at hbel hzr hb1 hz1
          clear hwo
          go_wp2
          go_loop [10, 34] (fun s j => ∃ m : Nat, m ≤ N ∧ j = .int .i64 m ∧ s = .int .i64 (ws h k m)) (fun _ j => N - (intOf j).toNat)
          case atStart => exact ⟨0, Nat.zero_le _, rfl, rfl⟩
          case round =>
            obtain ⟨m, hm, rfl, rfl⟩ := hrel
            have hwm := ws_bd (h := h) (x := (k : Int)) hh m
            have j0 : (0 : Int) ≤ (m : Int) := Int.natCast_nonneg _
            by_cases hlt2 : m < N
            · obtain ⟨g1, rfl, e1, e2, e3⟩ := X1.out m hlt2
              have hs := stM_bd (h := h) ((k : Int) + m) hh
              have HW := Lib.hid (hl_ws h k m hlt2)
              rw [hl_get h k hlt2] at e3 
              have HW2 : Hid (ws h k (m + 1) = ws h k m + stM h ((k : Int) + m)) := rfl
              have j1 : (m : Int) < (N : Int) := by omega
              generalize stM h ((k : Int) + m) = t at *
              generalize ws h k m = s at *
              go_wp2
              go_round
              case rel => exact ⟨m + 1, by omega, by go_num, ret_num (by rw [HW2.out])⟩
              case measure => simp [intOf]; omega
            · obtain rfl : m = N := by omega
              generalize ws h k m = s at *
              by_cases hc : s > (bestK h m k).2
              · have HN := Lib.hid (HB1.out hc)
                generalize bestK h m k = p at *
                go_wp2
                go_roundw
                case rel => exact ⟨k + 1, by omega, by go_num, by rw [HN.out], by rw [HN.out], hbel.trans (hb1.mono hzr)⟩
                case measure => simp [intOf]; omega
              · have HN := Lib.hid (HB2.out (Int.not_lt.1 hc))
                generalize bestK h m k = p at *
                go_wp2
                go_roundw
                case rel => exact ⟨k + 1, by omega, by go_num, by rw [HN.out], by rw [HN.out], hbel.trans (hb1.mono hzr)⟩
                case measure => simp [intOf]; omega
        · obtain rfl : k = R := by omega
          generalize bestK h N k = p at *
          go_wp2
          (refine bodyPost_ret (by simp [results, Try.results52, go_sem, *]; try rfl) rfl ?_)
          exact ⟨ret_nnv HM.out, hbel⟩

end Go.Proofs.Ytloppndldnepfaa
