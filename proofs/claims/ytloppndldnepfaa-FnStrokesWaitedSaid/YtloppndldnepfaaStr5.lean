/- What is heard at halves one behind the other, and where the most is: by the program and by the model. -/
import Derived.Test.YtloppndldnepfaaIRow
set_option linter.unusedSimpArgs false
set_option linter.unusedVariables false
set_option maxRecDepth 100000
namespace Go.Proofs.Ytloppndldnepfaa
open Go.ChangeShapes Go.WideShapes Go.ChangeAt Go.RowKit

/-- What is heard at so many halves. -/
def hl (h x : Int) (n : Nat) : List Int := (List.range n).map fun k : Nat => stM h (x + k)
theorem hl_length (h x : Int) (n : Nat) : (hl h x n).length = n := by simp [hl]
theorem hl_get (h x : Int) {n j : Nat} (hj : j < n) : (hl h x n).getD j 0 = stM h (x + j) := by simp [hl, List.getD_eq_getElem?_getD, hj]
theorem snocI (f : Nat → Int) (k : Nat) : ints ((List.range k).map f) ++ [.int .i64 (f k)] = ints ((List.range (k + 1)).map f) := by
  simp [ints, List.range_succ]
theorem hl_snoc (h x : Int) (k : Nat) {t : Int} (ht : stM h (x + k) = t) : ints (hl h x k) ++ [.int .i64 t] = ints (hl h x (k + 1)) := by subst ht; exact snocI _ k
def frOk (h x c : Int) : Bool := halfB h x && inB c 1 60
def frL (h x c : Int) : List Int := if frOk h x c then hl h x c.toNat else []
theorem frL_len (h x c : Int) : (frL h x c).length ≤ 1000000 := by
  unfold frL
  split
  · rename_i k
    simp only [frOk, Bool.and_eq_true] at k
    have := inB_bd k.2
    rw [hl_length]; omega
  · simp

set_option maxHeartbeats 1600000 in
theorem stFrom_any (h x : Int) (N : Nat) (hh : 2 ≤ h ∧ h ≤ 24) (hx : 0 ≤ x ∧ x < 2 * h) (hN : N ≤ 1000) (w : World) :
    Calls Try.prog 85 #[.int .i64 h, .int .i64 x, .int .i64 N] w (fun e w' => ∃ v, e = .returned v ∧ IRow w' w.heap.size v (hl h x N) ∧ Below w.heap.size w w') := by
  obtain ⟨i0, hi0, hz0, hz1, hz2⟩ := info_parts Try.infoInt
  have I0 := Lib.hid hi0
  have Z0 := Lib.hid hz0
  have Z1 := Lib.hid hz1
  have Z2 := Lib.hid hz2
  clear hi0 hz0 hz1 hz2
  have hw2 := w64 (n := 2 * h) (by omega)
  have hz3 : ¬ (2 * h = 0) := by omega
  (go_enter Try.func85, Try.ntmps85)
  go_wp2
  go_loopw [7, 8] (fun o i wr => ∃ k : Nat, k ≤ N ∧ i = .int .i64 k ∧ wr.ownsRow w.heap.size 3 1 o k (ints (hl h x k)) ∧ Below w.heap.size w wr) (fun _ i _ => N - (intOf i).toNat)
  case atStart => exact ⟨0, by omega, rfl, World.ownsRow_nil _ _ _ _, Below.refl _ _⟩
  case round =>
    obtain ⟨k, hk, rfl, hown, hbel⟩ := hrel
    have HO := Lib.hid hown
    have hzr := hbel.size
    have i0' : (0 : Int) ≤ (k : Int) := Int.natCast_nonneg _
    by_cases hlt : k < N
    · have hr := t64 (n := x + k) (g := 2 * h) (by omega) (by omega) (by omega)
      obtain ⟨m1, m2⟩ := mod_bd (x + k) hh
      obtain ⟨t, hte⟩ : ∃ t, stM h (x + k) = t := ⟨_, rfl⟩
      have HT := Lib.hid hte
      have HLT : ∀ k, u7.ownBlock = some k → w.heap.size ≤ k := fun k hk => (World.ownsRow.lt HO.out k hk).1
      clear hte hown
      have i1 : (k : Int) < (N : Int) := by omega
      go_wp2_with fail
      refine (stAt_is h ((x + k) % (2 * h)) m1 (by omega) HT.out _).mono ?_
      (rintro e1 w1 ⟨rfl, rfl⟩)
      go_wp2_with (at_builtin; refine wpList_append_lies _ rfl _ _ _ rfl (w.heap.size) 3 i0 _ 1 8 Try.underlying24 I0.out Z0.out Z1.out Z2.out rfl (by omega) u7 (k) _ rfl (HO.out.alloc _) ⟨wr.heap.size, 0, none⟩ 1 1 [.int .i64 (t)] rfl rfl (World.news_of_block (cs := #[.int .i64 (t)]) (t := 3) (fr := (0, 0)) (by simpa using heap_alloc_new wr _)) (by simp [Value.oneCell']) (by omega) (by unfold maxLen; omega) (by omega) (by simp; omega) (wr.heap.size + 1) (by simp) ?_; intro g cap w3 hown3 hgrow hat hlt3)
      go_wp2
      go_roundw
      case rel =>
        refine ⟨k + 1, by omega, by go_num, ?_, ?_⟩
        · rw [← hl_snoc h x k HT.out]; exact hown3
        · exact Below.grown (by (repeat' (first | (with_reducible exact Below.refl _ _) | (with_reducible assumption) | (with_reducible refine Below.alloc ?_ ?_ _) | (with_reducible refine Below.drew ?_) | (with_reducible refine below_drewN ?_ _) | (with_reducible refine Below.setCell ?_ ?_ _) | (with_reducible refine below_call ?_ ?_ (by assumption)) | go_size))) hgrow (by simp; omega) HLT
      case measure => simp [intOf]; omega
    · obtain rfl : k = N := by omega
      go_wp2
      go_ret
      refine ⟨_, rfl, ?_, hbel⟩
      unfold IRow
      rw [hl_length]
      exact HO.out

set_option maxHeartbeats 1600000 in
theorem specHeardFrom_any (h x c : Int) (w : World) :
    Calls Try.prog 49 #[.int .i64 h, .int .i64 x, .int .i64 c] w (IntsOut w (frL h x c) (frOk h x c)) := by
  cases ga : halfB h x
  · have HM := Lib.hid (show (([] : List Int), false) = (frL h x c, frOk h x c) from by simp [frL, frOk, ga])
    (go_enter Try.func49, Try.ntmps49)
    go_wp2_with fail
    refine (stHalf_is _ _ ga _).mono ?_
    (rintro e1 w1 ⟨rfl, rfl⟩)
    go_wp2
    (refine bodyPost_ret (by simp [results, Try.results49, go_sem, *]; try rfl) rfl ?_)
    rw [show frL h x c = ([] : List Int) from (congrArg Prod.fst HM.out).symm, show frOk h x c = false from (congrArg Prod.snd HM.out).symm]
    exact IntsOut.none (by (repeat' (first | (with_reducible exact Below.refl _ _) | (with_reducible assumption) | (with_reducible refine Below.alloc ?_ ?_ _) | (with_reducible refine Below.drew ?_) | (with_reducible refine below_drewN ?_ _) | (with_reducible refine Below.setCell ?_ ?_ _) | (with_reducible refine below_call ?_ ?_ (by assumption)) | go_size)))
  · cases gb : inB c 1 60
    · have HM := Lib.hid (show (([] : List Int), false) = (frL h x c, frOk h x c) from by simp [frL, frOk, ga, gb])
      (go_enter Try.func49, Try.ntmps49)
      go_wp2_with fail
      refine (stHalf_is _ _ ga _).mono ?_
      (rintro e1 w1 ⟨rfl, rfl⟩)
      go_wp2_with fail
      refine (l1In_is _ _ _ gb _).mono ?_
      (rintro e1 w1 ⟨rfl, rfl⟩)
      go_wp2
      (refine bodyPost_ret (by simp [results, Try.results49, go_sem, *]; try rfl) rfl ?_)
      rw [show frL h x c = ([] : List Int) from (congrArg Prod.fst HM.out).symm, show frOk h x c = false from (congrArg Prod.snd HM.out).symm]
      exact IntsOut.none (by (repeat' (first | (with_reducible exact Below.refl _ _) | (with_reducible assumption) | (with_reducible refine Below.alloc ?_ ?_ _) | (with_reducible refine Below.drew ?_) | (with_reducible refine below_drewN ?_ _) | (with_reducible refine Below.setCell ?_ ?_ _) | (with_reducible refine below_call ?_ ?_ (by assumption)) | go_size)))
    · obtain ⟨hh, hx⟩ := halfB_bd ga
      obtain ⟨c1, c2⟩ := inB_bd gb
      obtain ⟨N, rfl⟩ : ∃ N : Nat, c = N := ⟨c.toNat, by omega⟩
      have HL := Lib.hid (show hl h x N = frL h x N from by simp [frL, frOk, ga, gb])
      have HK := Lib.hid (show true = frOk h x N from by simp [frOk, ga, gb])
      (go_enter Try.func49, Try.ntmps49)
      go_wp2_with fail
      refine (stHalf_is _ _ ga _).mono ?_
      (rintro e1 w1 ⟨rfl, rfl⟩)
      go_wp2_with fail
      refine (l1In_is _ _ _ gb _).mono ?_
      (rintro e1 w1 ⟨rfl, rfl⟩)
      go_wp2_with fail
      refine (stFrom_any h x N hh hx (by omega) _).mono ?_
      rintro e1 w1 ⟨v, rfl, hr1, hb1⟩
      go_wp2
      (refine bodyPost_ret (by simp [results, Try.results49, go_sem, *]; try rfl) rfl ?_)
      rw [← HK.out, ← HL.out]
      exact ⟨_, rfl, hr1, hb1⟩

set_option maxHeartbeats 1600000 in
theorem implHeardFrom_any (h x c : Int) (w : World) :
    Calls Try.prog 18 #[.int .i64 h, .int .i64 x, .int .i64 c] w (IntsOut w (frL h x c) (frOk h x c)) := by
  cases ga : halfB h x
  · have HM := Lib.hid (show (([] : List Int), false) = (frL h x c, frOk h x c) from by simp [frL, frOk, ga])
    (go_enter Try.func18, Try.ntmps18)
    go_wp2_with fail
    refine (isHalf_is _ _ ga _).mono ?_
    (rintro e1 w1 ⟨rfl, rfl⟩)
    go_wp2
    (refine bodyPost_ret (by simp [results, Try.results18, go_sem, *]; try rfl) rfl ?_)
    rw [show frL h x c = ([] : List Int) from (congrArg Prod.fst HM.out).symm, show frOk h x c = false from (congrArg Prod.snd HM.out).symm]
    exact IntsOut.none (by (repeat' (first | (with_reducible exact Below.refl _ _) | (with_reducible assumption) | (with_reducible refine Below.alloc ?_ ?_ _) | (with_reducible refine Below.drew ?_) | (with_reducible refine below_drewN ?_ _) | (with_reducible refine Below.setCell ?_ ?_ _) | (with_reducible refine below_call ?_ ?_ (by assumption)) | go_size)))
  · cases gb : inB c 1 60
    · have HM := Lib.hid (show (([] : List Int), false) = (frL h x c, frOk h x c) from by simp [frL, frOk, ga, gb])
      (go_enter Try.func18, Try.ntmps18)
      go_wp2_with fail
      refine (isHalf_is _ _ ga _).mono ?_
      (rintro e1 w1 ⟨rfl, rfl⟩)
      go_wp2_with fail
      refine (isWithin_is _ _ _ gb _).mono ?_
      (rintro e1 w1 ⟨rfl, rfl⟩)
      go_wp2
      (refine bodyPost_ret (by simp [results, Try.results18, go_sem, *]; try rfl) rfl ?_)
      rw [show frL h x c = ([] : List Int) from (congrArg Prod.fst HM.out).symm, show frOk h x c = false from (congrArg Prod.snd HM.out).symm]
      exact IntsOut.none (by (repeat' (first | (with_reducible exact Below.refl _ _) | (with_reducible assumption) | (with_reducible refine Below.alloc ?_ ?_ _) | (with_reducible refine Below.drew ?_) | (with_reducible refine below_drewN ?_ _) | (with_reducible refine Below.setCell ?_ ?_ _) | (with_reducible refine below_call ?_ ?_ (by assumption)) | go_size)))
    · obtain ⟨hh, hx⟩ := halfB_bd ga
      obtain ⟨c1, c2⟩ := inB_bd gb
      obtain ⟨N, rfl⟩ : ∃ N : Nat, c = N := ⟨c.toNat, by omega⟩
      have HL := Lib.hid (show hl h x N = frL h x N from by simp [frL, frOk, ga, gb])
      have HK := Lib.hid (show true = frOk h x N from by simp [frOk, ga, gb])
      obtain ⟨i0, hi0, hz0, hz1, hz2⟩ := info_parts Try.infoInt
      have I0 := Lib.hid hi0
      have Z0 := Lib.hid hz0
      have Z1 := Lib.hid hz1
      have Z2 := Lib.hid hz2
      clear hi0 hz0 hz1 hz2
      (go_enter Try.func18, Try.ntmps18)
      go_wp2_with fail
      refine (isHalf_is _ _ ga _).mono ?_
      (rintro e1 w1 ⟨rfl, rfl⟩)
      go_wp2_with fail
      refine (isWithin_is _ _ _ gb _).mono ?_
      (rintro e1 w1 ⟨rfl, rfl⟩)
      go_wp2_with fail
      refine (strokesOf_any h _).mono ?_
      (rintro e1 w1 ⟨rfl, rfl⟩)
      go_wp2_with (at_make; refine wpList_make_full _ rfl _ _ 24 rfl (w.heap.size + 1) 3 i0 (.int .i64 0) 1 Try.underlying24 I0.out Z0.out Z1.out .i64 .i64 _ _ N rfl rfl rfl rfl (by rw [Z2.out]; omega) (by unfold maxLen; omega) (by go_size) ?_; intro w0 hown0 hgrow0)
      rw [made_zeroI] at hown0
      have hb0 : Below w.heap.size w w0 := Below.grown (by (repeat' (first | (with_reducible exact Below.refl _ _) | (with_reducible assumption) | (with_reducible refine Below.alloc ?_ ?_ _) | (with_reducible refine Below.drew ?_) | (with_reducible refine below_drewN ?_ _) | (with_reducible refine Below.setCell ?_ ?_ _) | (with_reducible refine below_call ?_ ?_ (by assumption)) | go_size))) hgrow0 (by go_size) (fun k hk => by cases hk)
      have hz0' := hgrow0.size
      simp only [World.size_alloc] at hz0'
      have q0 : w0.cell? ⟨w.heap.size, 0, none⟩ = some (.int .i64 h) := by
        rw [World.grownBy.cell_far hgrow0 ⟨w.heap.size, 0, none⟩ (by go_size) (fun e => by cases e)]
        go_simp
      have HO0 : Hid (w0.ownsRow (w.heap.size + 1) 3 1 (.slice (some ⟨w.heap.size + 1, 0, none⟩) N N) N (ints (List.replicate N 0))) := by
        have hx := hown0
        simp only [World.size_alloc] at hx
        exact hx
      clear hown0 hgrow0
      try simp only [World.size_alloc]
      go_wp2
      go_loopw [26] (fun i wr => ∃ (k : Nat) (dk : List Int), k ≤ N ∧ i = .int .i64 k ∧ dk.length = N ∧ (∀ j, j < k → dk.getD j 0 = stM h (x + j)) ∧ wr.ownsRow (w.heap.size + 1) 3 1 (.slice (some ⟨w.heap.size + 1, 0, none⟩) N N) N (ints dk) ∧ Below (w.heap.size + 1) w0 wr) (fun i _ => N - (intOf i).toNat)
      case atStart => exact ⟨0, List.replicate N 0, Nat.zero_le _, rfl, by simp, fun j hj => absurd hj (Nat.not_lt_zero _), HO0.out, Below.refl _ _⟩
      case round =>
        obtain ⟨k, dk, hk, rfl, hdl, hall, hown, hbr⟩ := hrel
        have HA := Lib.hid hall
        have HO := Lib.hid hown
        have hzr := hbr.size
        have i0' : (0 : Int) ≤ (k : Int) := Int.natCast_nonneg _
        have q1 : wr.cell? ⟨w.heap.size, 0, none⟩ = some (.int .i64 h) := (hbr.cell (p := ⟨w.heap.size, 0, none⟩) (by show w.heap.size < w.heap.size + 1; omega)).trans q0
        by_cases hlt : k < N
        · have hglt : w.heap.size + 1 < wr.heap.size := (World.ownsRow.lt hown (w.heap.size + 1) rfl).2
          have i1 : (k : Int) < (N : Int) := by omega
          have z0 : wr.frozen? ⟨w.heap.size + 1, k, none⟩ = false := World.ownsRow.frozenAt hown _
          have d0 := (World.ownsRow.cellAt hown k (by omega)).trans (ints_get dk k (by omega))
          obtain ⟨t, hte⟩ : ∃ t, stM h (x + k) = t := ⟨_, rfl⟩
          have HT := Lib.hid hte
          have HN : Hid (∀ j, j < k + 1 → (dk.set k t).getD j 0 = stM h (x + j)) := fun j hj => by
            by_cases hjk : j = k
            · subst hjk; rw [getD_set_self (by omega), HT.out]
            · rw [getD_set_far (by omega)]; exact HA.out j (by omega)
          clear hall hown hte
          generalize dk.getD k 0 = o1 at d0
          go_wp2_with fail
          refine (strokes_is h (x + k) w.heap.size _ q1 hh (by omega) (by omega) HT.out).mono ?_
          (rintro e1 w1 ⟨rfl, rfl⟩)
          go_wp2
          go_roundw
          case rel =>
            have s1 := World.ownsRow.stored HO.out k (.int .i64 t)
            refine ⟨k + 1, dk.set k t, by omega, by go_num, by simpa using hdl, HN.out, ?_, ?_⟩
            · rw [← ints_set]
              exact s1.1
            · exact Below.grown hbr s1.2 (by omega) (fun j hj => some_le' hj (Nat.le_refl _))
          case measure => simp [intOf]; omega
        · obtain rfl : k = N := by omega
          have HE : Hid (dk = hl h x k) := Lib.hid (list_extI (M := hl h x k) (by rw [hl_length]; exact hdl) (fun j hj => by rw [hl_length] at hj; rw [hl_get h x hj]; exact HA.out j hj))
          clear hall hown
          go_wp2
          (refine bodyPost_ret (by simp [results, Try.results18, go_sem, *]; try rfl) rfl ?_)
          rw [← HK.out, ← HL.out, ← HE.out]
          refine ⟨_, rfl, IRow.mono (b := w.heap.size + 1) ?_ (by omega), hb0.trans (hbr.mono (by omega))⟩
          unfold IRow
          rw [hdl]
          exact HO.out

end Go.Proofs.Ytloppndldnepfaa
