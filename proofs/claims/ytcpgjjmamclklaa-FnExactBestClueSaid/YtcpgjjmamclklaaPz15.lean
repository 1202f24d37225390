/- Puzzles: the best clue: by the program and by the model. -/
import Derived.Test.YtcpgjjmamclklaaPz14
import Derived.OwnWalk
set_option linter.unusedSimpArgs false
set_option linter.unusedVariables false
set_option maxRecDepth 100000
namespace Go.Proofs.Ytcpgjjmamclklaa
open Go.RowKit

/-- How many minutes fit the clue with the index k alone. -/
def cntO (h : Int) (L : List (Int × Int × Int)) (k : Nat) : Int := (sol h ((L.take (k + 1)).drop k)).length
theorem cntO_bd {h : Int} (hh : 2 ≤ h ∧ h ≤ 24) (L : List (Int × Int × Int)) (k : Nat) : 0 ≤ cntO h L k ∧ cntO h L k ≤ 1440 := by
  have := sol_len hh.2 ((L.take (k + 1)).drop k)
  unfold cntO
  omega
/-- The best of the first k, and how many it leaves. -/
def bst (f : Nat → Int) : Nat → Nat × Int
  | 0 => (0, 0)
  | k + 1 => if k = 0 ∨ f k < (bst f k).2 then (k, f k) else bst f k
theorem bst_props (f : Nat → Int) : ∀ k, 1 ≤ k → (bst f k).1 < k ∧ f (bst f k).1 = (bst f k).2 ∧ (∀ j, j < k → (bst f k).2 ≤ f j) ∧ ∀ j, j < (bst f k).1 → f j ≠ (bst f k).2
  | 0, h => absurd h (by omega)
  | 1, _ => ⟨by simp [bst], by simp [bst], fun j hj => by simp [bst, show j = 0 by omega], fun j hj => by simp [bst] at hj⟩
  | k + 2, _ => by
    obtain ⟨h1, h2, h3, h4⟩ := bst_props f (k + 1) (by omega)
    have e : bst f (k + 2) = if f (k + 1) < (bst f (k + 1)).2 then (k + 1, f (k + 1)) else bst f (k + 1) := by
      show (if k + 1 = 0 ∨ f (k + 1) < (bst f (k + 1)).2 then (k + 1, f (k + 1)) else bst f (k + 1)) = _
      simp
    rw [e]
    by_cases c : f (k + 1) < (bst f (k + 1)).2
    · rw [if_pos c]
      refine ⟨by simp, rfl, fun j hj => ?_, fun j hj => ?_⟩
      · by_cases hjk : j = k + 1
        · subst hjk; exact Int.le_refl _
        · have := h3 j (by omega); simp only; omega
      · have := h3 j (by simpa using hj); simp only; omega
    · rw [if_neg c]
      refine ⟨by omega, h2, fun j hj => ?_, h4⟩
      by_cases hjk : j = k + 1
      · subst hjk; omega
      · exact h3 j (by omega)
theorem bst_step (f : Nat → Int) (k : Nat) (hk : 1 ≤ k) : (bst f (k + 1)).2 = if f k < (bst f k).2 then f k else (bst f k).2 := by
  show (if k = 0 ∨ f k < (bst f k).2 then (k, f k) else bst f k).2 = _
  by_cases c : f k < (bst f k).2
  · simp [c]
  · simp [c, show ¬ k = 0 by omega]
theorem bst_first (f : Nat → Int) {n i : Nat} (hn : 1 ≤ n) (hi : i < n) (h : f i = (bst f n).2) (hj : ∀ j, j < i → f j ≠ (bst f n).2) : i = (bst f n).1 := by
  obtain ⟨h1, h2, h3, h4⟩ := bst_props f n hn
  rcases Nat.lt_trichotomy i (bst f n).1 with c | c | c
  · exact absurd h (h4 i c)
  · exact c
  · exact absurd h2 (hj _ c)
theorem bst_bd {f : Nat → Int} (hf : ∀ k, 0 ≤ f k ∧ f k ≤ 1440) (k : Nat) : 0 ≤ (bst f k).2 ∧ (bst f k).2 ≤ 1440 := by
  rcases Nat.eq_zero_or_pos k with rfl | h
  · simp [bst]
  · obtain ⟨-, h2, -, -⟩ := bst_props f k h
    rw [← h2]; exact hf _
def besR (h : Int) (L : List (Int × Int × Int)) : Int × Bool := if okZ h L && !decide (L.length = 0) then ((bst (cntO h L) L.length).1, true) else (0, false)
set_option maxHeartbeats 800000 in
theorem minI_any (f : Nat → Int) (a : Option Addr) (n c : Nat) (S : List Int) (hS : S.length = n) (hf : ∀ k, k < n → S.getD k 0 = f k) (hn : 1 ≤ n) (hn2 : n ≤ 1048576) (w : World) (hin : IIn w a S) :
    Calls Try.prog 116 #[.slice a n c] w fun e w' => e = .returned (.int .i64 (bst f n).2) ∧ w = w' := by
  have X := Lib.hid hin
  have HF := Lib.hid hf
  have h0 : (bst f 1).2 = f 0 := by simp [bst]
  have HP := Lib.hid (bst_step f)
  obtain ⟨b, off, rfl, l1, y1⟩ := hin 0 (by omega)
  have y2 : w.cell? ⟨b, off, none⟩ = some (.int .i64 (f 0)) := by rw [hf 0 (by omega)] at y1; simpa using y1
  have hn1 : ¬ ((n : Int) < 1) := by omega
  have H0 := Lib.hid h0
  have HSL := Lib.hid hS
  clear hin hf y1 h0 hS
  have hn3 : (0 : Int) < (n : Int) := by omega
  (go_enter Try.func116, Try.ntmps116)
  go_wp2
  go_loop [3, 4] (fun q i => ∃ k : Nat, 1 ≤ k ∧ k ≤ n ∧ i = .int .i64 k ∧ q = .int .i64 (bst f k).2) (fun _ i => n - (intOf i).toNat)
  case atStart => exact ⟨1, Nat.le_refl _, hn, rfl, by rw [H0.out]⟩
  case round =>
    obtain ⟨k, hk1, hk, rfl, rfl⟩ := hrel
    have k0 : (0 : Int) ≤ (k : Int) := Int.natCast_nonneg _
    by_cases hlt : k < n
    · have k1 : (k : Int) < (n : Int) := by omega
      obtain ⟨b', off', e0, e1, e2⟩ := X.out k (by rw [HSL.out]; exact hlt)
      obtain ⟨rfl, rfl⟩ : b = b' ∧ off = off' := by simpa using e0
      rw [HF.out k hlt] at e2
      have HS := Lib.hid (HP.out k hk1)
      clear e0
      generalize (bst f k).2 = m at *
      generalize f k = x at *
      have HMX : Hid (∀ q : Int, q = x ∨ q = m → q ≤ x → q ≤ m → q = (bst f (k + 1)).2) := Lib.hid (fun q h1 h2 h3 => by rw [HS.out]; split <;> omega)
      go_wp2
      all_goals
        go_round
      all_goals first
        | (case rel => exact ⟨k + 1, by omega, by omega, by go_num, ret_num (HMX.out _ (by omega) (by omega) (by omega))⟩)
        | skip
      all_goals (simp [intOf]; omega)
    · obtain rfl : k = n := by omega
      go_wp2
      go_ret
      exact ⟨rfl, rfl⟩
set_option maxHeartbeats 800000 in
theorem indexI_any (f : Nat → Int) (a : Option Addr) (n c : Nat) (S : List Int) (hS : S.length = n) (hf : ∀ k, k < n → S.getD k 0 = f k) (hn : 1 ≤ n) (hn2 : n ≤ 1048576) (w : World) (hin : IIn w a S) :
    Calls Try.prog 115 #[.slice a n c, .int .i64 (bst f n).2] w fun e w' => e = .returned (.int .i64 (bst f n).1) ∧ w = w' := by
  have X := Lib.hid hin
  have HF := Lib.hid hf
  have HP := Lib.hid (fun i => bst_first f (n := n) (i := i) hn)
  have HQ := Lib.hid (bst_props f n hn)
  have HSL := Lib.hid hS
  clear hin hf hS
  (go_enter Try.func115, Try.ntmps115)
  go_wp2
  go_loop [8] (fun i => ∃ k : Nat, k ≤ (bst f n).1 ∧ i = .int .i64 k ∧ (∀ j, j < k → f j ≠ (bst f n).2)) (fun i => n - (intOf i).toNat)
  case atStart => exact ⟨0, Nat.zero_le _, rfl, fun j hj => absurd hj (Nat.not_lt_zero _)⟩
  case round =>
    obtain ⟨k, hk, rfl, hall⟩ := hrel
    have k0 : (0 : Int) ≤ (k : Int) := Int.natCast_nonneg _
    have hkn : k < n := by have := HQ.out.1; omega
    have k1 : (k : Int) < (n : Int) := by omega
    obtain ⟨b, off, rfl, e1, e2⟩ := X.out k (by rw [HSL.out]; exact hkn)
    rw [HF.out k hkn] at e2
    have HA := Lib.hid hall
    clear hall
    by_cases hx : f k = (bst f n).2
    · have HE := Lib.hid (HP.out k hkn hx HA.out)
      have hx' : ((bst f n).2 == f k) = true := by rw [beq_iff_eq]; exact hx.symm
      clear hx
      generalize (bst f n).2 = m at *
      go_wp2
      go_ret
      exact ⟨by rw [HE.out]; rfl, rfl⟩
    · have hx' : ((bst f n).2 == f k) = false := by rw [beq_eq_false_iff_ne]; exact fun e => hx e.symm
      have HK : Hid (k + 1 ≤ (bst f n).1) := Lib.hid (by
        rcases Nat.lt_or_ge k (bst f n).1 with h | h
        · exact h
        · have : k = (bst f n).1 := by omega
          exact absurd (this ▸ HQ.out.2.1) hx)
      have HN : Hid (∀ j, j < k + 1 → f j ≠ (bst f n).2) := Lib.hid (fun j hj => by
        by_cases hjk : j = k
        · subst hjk; exact hx
        · exact HA.out j (by omega))
      clear hx
      go_wp2
      go_round
      case rel => exact ⟨k + 1, HK.out, by go_num, HN.out⟩
      case measure => simp [intOf]; omega
theorem CIn.one {w : World} {a : Option Addr} {L : List (Int × Int × Int)} (h : CIn w a L) (k m : Nat) (hm : k + 1 ≤ m) : CIn w (cutA a k m) ((L.take (k + 1)).drop k) := h.cut k (k + 1) m hm
theorem one_len {L : List (Int × Int × Int)} {k : Nat} (hk : k < L.length) : ((L.take (k + 1)).drop k).length = 1 := by simp only [List.length_drop, List.length_take]; omega
set_option maxHeartbeats 400000 in
theorem countOne_any (h : Int) (a : Option Addr) (c : Nat) (L : List (Int × Int × Int)) (k : Nat) (hk : k < L.length) (hh : 2 ≤ h ∧ h ≤ 24) (hok : L.all (okC h) = true) (w : World) (hin : CIn w a L) :
    Calls Try.prog 79 #[pzv h (.slice (cutA a k (k + 1)) 1 1)] w fun e w' => e = .returned (.int .i64 (cntO h L k)) ∧ Below w.heap.size w w' := by
  have := countSolutions_any h (cutA a k (k + 1)) 1 ((L.take (k + 1)).drop k) hh (all_cut hok k (k + 1)) (by rw [one_len hk]; omega) w (hin.one k (k + 1) (Nat.le_refl _))
  rw [one_len hk] at this
  exact this
theorem pzOne_any (h : Int) (a : Option Addr) (c : Nat) (L : List (Int × Int × Int)) (k : Nat) (hk : k < L.length) (hc : L.length ≤ c) (hh : 2 ≤ h ∧ h ≤ 24) (hok : L.all (okC h) = true) (w : World) (hin : CIn w a L) :
    Calls Try.prog 74 #[.int .i64 h, .slice (cutA a k c) 1 (c - k)] w fun e w' => ∃ v, e = .returned v ∧ IRow w' w.heap.size v (sol h ((L.take (k + 1)).drop k)) ∧ Below w.heap.size w w' := by
  have := pzAll_any h (cutA a k c) (c - k) ((L.take (k + 1)).drop k) hh (all_cut hok k (k + 1)) (by rw [one_len hk]; omega) w (hin.one k c (by omega))
  rw [one_len hk] at this
  exact this
set_option maxHeartbeats 1600000 in
theorem bestClue_any (h : Int) (a : Option Addr) (c : Nat) (L : List (Int × Int × Int)) (hn : 1 ≤ L.length) (hh : 2 ≤ h ∧ h ≤ 24) (hok : L.all (okC h) = true) (hc : L.length ≤ c) (hcm : c ≤ maxLen) (hl : L.length ≤ 1048576) (w : World) (hin : CIn w a L) :
    Calls Try.prog 97 #[pzv h (.slice a L.length c)] w fun e w' => e = .returned (.int .i64 (bst (cntO h L) L.length).1) ∧ Below w.heap.size w w' := by
  obtain ⟨i0, hi0, hz0, hz1, hz2⟩ := info_parts Try.infoInt
  have I0 := Lib.hid hi0
  have Z0 := Lib.hid hz0
  have Z1 := Lib.hid hz1
  have Z2 := Lib.hid hz2
  clear hi0 hz0 hz1 hz2
  have HC1 := Lib.hid (fun (k : Nat) (hk : k < L.length) W => cut_any h a L.length c k (k + 1) (by omega) (by omega) hcm W)
  have HC2 := Lib.hid (fun (k : Nat) (hk : k < L.length) W (hb : Below w.heap.size w W) => countOne_any h a c L k hk hh hok W (hin.below hb))
  have HB := Lib.hid (fun k => cntO_bd hh L k)
  clear hin hok
  have hlm := hcm
  unfold maxLen at hlm
  (go_enter Try.func97, Try.ntmps97)
  go_wp2_with (at_make; refine wpList_make_full _ rfl _ _ 42 rfl (w.heap.size + 1) 3 i0 (.int .i64 0) 1 Try.underlying42 I0.out Z0.out Z1.out .i64 .i64 _ _ L.length rfl rfl (by simp) (by simp) (by rw [Z2.out]; omega) (by unfold maxLen; omega) (by go_size) ?_; intro w0 hown0 hgrow0)
  rw [made_zeroI] at hown0
  have hb0 : Below w.heap.size w w0 := Below.grown (w := w.alloc (Obj.cells #[Value.int .i64 h, Value.slice a L.length c] 72)) (by (repeat' (first | (with_reducible exact Below.refl _ _) | (with_reducible assumption) | (with_reducible refine Below.alloc ?_ ?_ _) | (with_reducible refine Below.drew ?_) | (with_reducible refine below_drewN ?_ _) | (with_reducible refine Below.setCell ?_ ?_ _) | (with_reducible refine below_call ?_ ?_ (by assumption)) | go_size))) hgrow0 (by go_size) (fun k hk => by cases hk)
  have hz0' := hgrow0.size
  simp only [World.size_alloc] at hz0' hown0
  have y0 : w0.cell? ⟨w.heap.size, 0, none⟩ = some (.int .i64 h) := (cell_of_heap (hgrow0.block _ (by simp) (by simp))).trans (by go_simp)
  have y1 : w0.cell? ⟨w.heap.size, 1, none⟩ = some (.slice a L.length c) := (cell_of_heap (hgrow0.block _ (by simp) (by simp))).trans (by go_simp)
  have HO0 := Lib.hid hown0
  clear hown0 hgrow0
  go_wp2
  go_loopw [11] (fun i wr => ∃ (k : Nat) (dk : List Int), k ≤ L.length ∧ i = .int .i64 k ∧ dk.length = L.length ∧ (∀ j, j < k → dk.getD j 0 = cntO h L j) ∧ wr.ownsRow (w.heap.size + 1) 3 1 (.slice (some ⟨w.heap.size + 1, 0, none⟩) L.length L.length) L.length (ints dk) ∧ wr.cell? ⟨w.heap.size, 0, none⟩ = some (.int .i64 h) ∧ wr.cell? ⟨w.heap.size, 1, none⟩ = some (.slice a L.length c) ∧ Below w.heap.size w wr) (fun i _ => L.length - (intOf i).toNat)
  case atStart => exact ⟨0, List.replicate L.length 0, Nat.zero_le _, rfl, by simp, fun j hj => absurd hj (Nat.not_lt_zero _), HO0.out, y0, y1, hb0⟩
  case round =>
    obtain ⟨k, dk, hk, rfl, hdl, hall, hown, c0, c1, hbr⟩ := hrel
    have HA := Lib.hid hall
    have HO := Lib.hid hown
    have hzr := hbr.size
    have i0' : (0 : Int) ≤ (k : Int) := Int.natCast_nonneg _
    have hglt : w.heap.size + 1 < wr.heap.size := by
      rcases hown.2 with ⟨h1, h2⟩ | ⟨g, cap, cur, h1, h2, h3, -⟩
      · omega
      · obtain ⟨rfl, -⟩ : w.heap.size + 1 = g ∧ L.length = cap := by simpa using h1
        exact (Array.getElem?_eq_some_iff.1 h3).1
    have HDL := Lib.hid hdl
    by_cases hlt : k < L.length
    · have p0 : w.heap.size < wr.heap.size := by omega
      have i1 : (k : Int) < (L.length : Int) := by omega
      have v1 := zw64 (n := (k : Int) + 1) (by omega)
      have hcc : (((k + 1 : Nat)) : Int) = (k : Int) + 1 := by omega
      have HD1 := Lib.hid (HC1.out k hlt)
      rw [hcc] at HD1
      have HD2 := Lib.hid (HC2.out k hlt)
      have HF : Hid (cntO h L k = cntO h L k) := Lib.hid rfl
      have hb := HB.out k
      obtain ⟨x, hx⟩ : ∃ x, cntO h L k = x := ⟨_, rfl⟩
      rw [hx] at HD2
      have HX := Lib.hid hx
      clear hall hown hdl hcc HF hx hb
      go_wp2_with fail
      refine (HD1.out _).mono ?_
      rintro e1 w1 ⟨rfl, hb1⟩
      have hz1 := hb1.size
      go_wp2_with fail
      refine (HD2.out _ (hbr.trans (hb1.mono hbr.size))).mono ?_
      rintro e2 w3 ⟨rfl, hb2⟩
      have hb3 : Below wr.heap.size wr w3 := hb1.trans (hb2.mono hb1.size)
      obtain ⟨hc3, hf3⟩ := bcell hb3
      have x0 := (hc3 _ _ p0).trans c0
      have x1 := (hc3 _ _ p0).trans c1
      have HO3 := Lib.hid (World.ownsRow.kept HO.out (row := none) ⟨hb3.os, hb3.tape, hb3.output, hb3.size, fun k hk _ => hb3.block k hk⟩ (by simp [Value.ownBlock]))
      have z0 : w3.frozen? ⟨w.heap.size + 1, k, none⟩ = false := World.ownsRow.frozenAt HO3.out _
      have d0 := (World.ownsRow.cellAt HO3.out k (by omega)).trans (ints_get dk k (by rw [HDL.out]; omega))
      have hs3 := hb3.size
      have hg3 : w.heap.size + 1 < w3.heap.size := by omega
      have hbr3 : Below w.heap.size w w3 := hbr.trans (hb3.mono hbr.size)
      generalize dk.getD k 0 = o1 at d0
      clear hc3 hf3 hb1 hb2 hb3
      go_wp2
      go_roundw
      case rel =>
        have s1 := World.ownsRow.stored HO3.out k (.int .i64 (x))
        refine ⟨k + 1, dk.set k (x), by omega, by go_num, by simpa using HDL.out, fun j hj => ?_, ?_, ?_, ?_, ?_⟩
        · by_cases hjk : j = k
          · subst hjk; rw [getD_set_self (by rw [HDL.out]; omega)]; exact HX.out.symm
          · rw [getD_set_far (by omega)]; exact HA.out j (by omega)
        · rw [← ints_set]
          exact s1.1
        · go_simp
        · go_simp
        · exact Below.grown hbr3 s1.2 (by omega) (fun j hj => some_le' hj (by omega))
      case measure => simp [intOf]; omega
    · obtain rfl : k = L.length := by omega
      have hIN : IIn wr (some ⟨w.heap.size + 1, 0, none⟩) dk := by
        have hr : IRow wr (w.heap.size + 1) (.slice (some ⟨w.heap.size + 1, 0, none⟩) L.length L.length) dk := by unfold IRow; rw [HDL.out]; exact HO.out
        obtain ⟨a', c', e', hi', -, -⟩ := hr.inn
        obtain ⟨rfl, -⟩ : some ⟨w.heap.size + 1, 0, none⟩ = a' ∧ True := by simp at e'; exact ⟨e'.1, trivial⟩
        exact hi'
      have HM1 := Lib.hid (minI_any (cntO h L) (some ⟨w.heap.size + 1, 0, none⟩) L.length L.length dk HDL.out HA.out hn hl wr hIN)
      have HM2 := Lib.hid (indexI_any (cntO h L) (some ⟨w.heap.size + 1, 0, none⟩) L.length L.length dk HDL.out HA.out hn hl wr hIN)
      clear hall hown hdl hIN
      go_wp2_with fail
      refine HM1.out.mono ?_
      (rintro e1 w1 ⟨rfl, rfl⟩)
      go_wp2_with fail
      refine HM2.out.mono ?_
      (rintro e1 w1 ⟨rfl, rfl⟩)
      go_wp2
      go_ret
      exact ⟨rfl, hbr⟩
end Go.Proofs.Ytcpgjjmamclklaa
