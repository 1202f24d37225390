/- The phrases of a quarter and their notes: by the program and by the model. -/
import Derived.Test.YtijnppomeoaebaaDoorBel2
set_option linter.unusedSimpArgs false
set_option linter.unusedVariables false
set_option maxRecDepth 100000
namespace Go.Proofs.YtijnppomeoaebaaDoor
open Go.RowKit

abbrev jv (r : Int × Bool) : Value := .tuple #[.int .i64 r.1, .bool r.2]
abbrev xv (r : List UInt8 × Bool) : Value := .tuple #[str r.1, .bool r.2]
theorem ret_jv {a b : Int × Bool} (h : a = b) : Ending.returned (jv a) = .returned (jv b) := by rw [h]
theorem ret_xv {a b : List UInt8 × Bool} (h : a = b) : Ending.returned (xv a) = .returned (xv b) := by rw [h]
theorem ph_cast (n q k : Nat) : (pb (q : Int) + (k : Int)) % (n : Int) = (phN n q k : Int) := by rw [pb_nat]; unfold phN; push_cast; rfl
theorem q4 (q : Nat) : ((q % 4 : Nat) : Int) = (q : Int) % 4 := by omega
/-- The numbers of the first k phrases of a quarter. -/
def phK (n q k : Nat) : List Int := (List.range k).map fun j => (phN n q j : Int)
theorem phK_len (n q k : Nat) : (phK n q k).length = k := by simp [phK]
theorem phK_snoc (n q k : Nat) : ints (phK n q (k + 1)) = ints (phK n q k) ++ [.int .i64 (phN n q k : Int)] := by simp [phK, ints, List.range_succ]
theorem phK_all (n q : Nat) : phK n q (q % 4 + 1) = phL n q := rfl
theorem phK_get (n q k j : Nat) (h : j < k) : (phK n q k).getD j 0 = (phN n q j : Int) := by simp [phK, List.getD_eq_getElem?_getD, h]

set_option maxHeartbeats 1600000 in
theorem bePlays_any (a : Option Addr) (c n : Nat) (q : Nat) (hn : 1 ≤ n ∧ n ≤ 12) (hq : q ≤ 100000000) (w : World) :
    Calls Tryd.prog 56 #[.slice a n c, .int .i64 (q : Int)] w fun e w' => ∃ v, e = .returned v ∧ IRow w' w.heap.size v (phL n q) ∧ Below w.heap.size w w' := by
  obtain ⟨i0, hi0, hz0, hz1, hz2⟩ := info_parts Tryd.infoInt
  have I0 := Lib.hid hi0
  have Z0 := Lib.hid hz0
  have Z1 := Lib.hid hz1
  have Z2 := Lib.hid hz2
  clear hi0 hz0 hz1 hz2
  have f0 : (q : Int).tmod 4 = (q : Int) % 4 := Int.tmod_eq_emod_of_nonneg (by omega)
  have f1 : IntKind.i64.wrap ((q : Int) % 4) = (q : Int) % 4 := w64 (by omega)
  have hz3 : ¬ ((n : Int) = 0) := by omega
  have hz4 : ((n : Int) == 0) = false := by simp; omega
  obtain ⟨p1, p2⟩ := pb_bd (q := (q : Int)) (by omega) (by omega)
  (go_enter Tryd.func56, Tryd.ntmps56)
  go_wp2
  go_loopw [5, 6] (fun o i wr => ∃ k : Nat, k ≤ q % 4 + 1 ∧ i = .int .i64 k ∧ wr.ownsRow w.heap.size 3 1 o k (ints (phK n q k)) ∧ Below w.heap.size w wr) (fun _ i _ => q % 4 + 1 - (intOf i).toNat)
  case atStart => exact ⟨0, by omega, rfl, World.ownsRow_nil _ _ _ _, Below.refl _ _⟩
  case round =>
    obtain ⟨k, hk, rfl, hown, hbel⟩ := hrel
    have HO := Lib.hid hown
    have hzr := hbel.size
    have i0' : (0 : Int) ≤ (k : Int) := Int.natCast_nonneg _
    by_cases hlt : k < q % 4 + 1
    · have i1 : (k : Int) ≤ (q : Int) % 4 := by omega
      have g1 := w64 (n := pb (q : Int) + k) (by omega)
      have g2 : (pb (q : Int) + k).tmod n = (pb (q : Int) + k) % n := Int.tmod_eq_emod_of_nonneg (by omega)
      have g3 := t64 (n := pb (q : Int) + k) (g := (n : Int)) (by omega) (by omega) (by omega)
      have HC := Lib.hid (ph_cast n q k)
      have HLT : ∀ k, u5.ownBlock = some k → w.heap.size ≤ k := fun k hk => (World.ownsRow.lt HO.out k hk).1
      clear hown
      go_wp2_with fail
      refine (beBefore_any q (by omega) (by omega) _).mono ?_
      (rintro e1 w1 ⟨rfl, rfl⟩)
      go_wp2_with (at_builtin; refine wpList_append_lies _ rfl _ _ _ rfl (w.heap.size) 3 i0 _ 1 8 Tryd.underlying36 I0.out Z0.out Z1.out Z2.out rfl (by omega) u5 (k) _ rfl (World.ownsRow.alloc HO.out _) ⟨wr.heap.size, 0, none⟩ 1 1 [.int .i64 ((pb (q : Int) + k) % n)] rfl rfl (World.news_of_block (cs := #[.int .i64 ((pb (q : Int) + k) % n)]) (t := 3) (fr := (0, 0)) (by simpa using heap_alloc_new wr _)) (by simp [Value.oneCell']) (by omega) (by unfold maxLen; omega) (by omega) (by simp; omega) (wr.heap.size + 1) (by simp) ?_; intro g cap w3 hown3 hgrow hat hlt3)
      go_wp2
      go_roundw
      case rel =>
        refine ⟨k + 1, by omega, by go_num, ?_, ?_⟩
        · rw [phK_snoc, ← HC.out]; exact hown3
        · exact Below.grown (by (repeat' (first | (with_reducible exact Below.refl _ _) | (with_reducible assumption) | (with_reducible refine Below.alloc ?_ ?_ _) | (with_reducible refine Below.drew ?_) | (with_reducible refine below_drewN ?_ _) | (with_reducible refine Below.setCell ?_ ?_ _) | (with_reducible refine below_call ?_ ?_ (by assumption)) | go_size))) hgrow (by simp; omega) HLT
      case measure => simp [intOf]; omega
    · obtain rfl : k = q % 4 + 1 := by omega
      have i2 : ¬ (((q % 4 + 1 : Nat) : Int) ≤ (q : Int) % 4) := by omega
      go_wp2
      go_ret
      refine ⟨_, rfl, ?_, hbel⟩
      unfold IRow
      rw [phL_len, ← phK_all]
      exact HO.out

set_option maxHeartbeats 1600000 in
theorem phrasesAt_any (a : Option Addr) (c n : Nat) (q : Nat) (hn : 1 ≤ n ∧ n ≤ 12) (hq : q ≤ 100000000) (w : World) :
    Calls Tryd.prog 61 #[.slice a n c, .int .i64 (q : Int)] w fun e w' => ∃ v, e = .returned v ∧ IRow w' w.heap.size v (phL n q) ∧ Below w.heap.size w w' := by
  obtain ⟨i0, hi0, hz0, hz1, hz2⟩ := info_parts Tryd.infoInt
  have I0 := Lib.hid hi0
  have Z0 := Lib.hid hz0
  have Z1 := Lib.hid hz1
  have Z2 := Lib.hid hz2
  clear hi0 hz0 hz1 hz2
  have f0 : (q : Int).tmod 4 = (q : Int) % 4 := Int.tmod_eq_emod_of_nonneg (by omega)
  have f1 : IntKind.i64.wrap ((q : Int) % 4) = (q : Int) % 4 := w64 (by omega)
  obtain ⟨N, hN⟩ : ∃ N : Nat, N = q % 4 + 1 := ⟨_, rfl⟩
  have f2 : (q : Int) % 4 + 1 = (N : Int) := by omega
  have f3 : IntKind.i64.wrap ((q : Int) % 4 + 1) = (N : Int) := by rw [f2]; exact w64 (by omega)
  have N1 : 1 ≤ N ∧ N ≤ 4 := by omega
  have HN := Lib.hid hN
  clear hN
  have hz3 : ¬ ((n : Int) = 0) := by omega
  have hz4 : ((n : Int) == 0) = false := by simp; omega
  obtain ⟨p1, p2⟩ := pb_bd (q := (q : Int)) (by omega) (by omega)
  (go_enter Tryd.func61, Tryd.ntmps61)
  go_wp2_with (at_make; refine wpList_make_full _ rfl _ _ 36 rfl w.heap.size 3 i0 (.int .i64 0) 1 Tryd.underlying36 I0.out Z0.out Z1.out .i64 .i64 _ _ N rfl rfl rfl rfl (by rw [Z2.out]; omega) (by unfold maxLen; omega) (by go_size) ?_; intro w0 hown0 hgrow0)
  rw [made_zeroI] at hown0
  have hb0 : Below w.heap.size w w0 := Below.grown (Below.refl _ _) hgrow0 (by go_size) (fun k hk => by cases hk)
  have hz0' := hgrow0.size
  have HO0 := Lib.hid hown0
  clear hown0 hgrow0 f2 f3
  go_wp2
  go_loopw [13] (fun i wr => ∃ (k : Nat) (dk : List Int), k ≤ N ∧ i = .int .i64 k ∧ dk.length = N ∧ (∀ j, j < k → dk.getD j 0 = (phN n q j : Int)) ∧ wr.ownsRow w.heap.size 3 1 (.slice (some ⟨w.heap.size, 0, none⟩) N N) N (ints dk) ∧ Below w.heap.size w wr) (fun i _ => N - (intOf i).toNat)
  case atStart => exact ⟨0, List.replicate N 0, Nat.zero_le _, rfl, by simp, fun j hj => absurd hj (Nat.not_lt_zero _), HO0.out, hb0⟩
  case round =>
    obtain ⟨k, dk, hk, rfl, hdl, hall, hown, hbr⟩ := hrel
    have HA := Lib.hid hall
    have HO := Lib.hid hown
    have hzr := hbr.size
    have i0' : (0 : Int) ≤ (k : Int) := Int.natCast_nonneg _
    by_cases hlt : k < N
    · have hglt : w.heap.size < wr.heap.size := (World.ownsRow.lt hown w.heap.size rfl).2
      have i1 : (k : Int) < (N : Int) := by omega
      have z0 : wr.frozen? ⟨w.heap.size, k, none⟩ = false := World.ownsRow.frozenAt hown _
      have d0 := (World.ownsRow.cellAt hown k (by omega)).trans (ints_get dk k (by omega))
      have g1 := w64 (n := pb (q : Int) + k) (by omega)
      have g2 : (pb (q : Int) + k).tmod n = (pb (q : Int) + k) % n := Int.tmod_eq_emod_of_nonneg (by omega)
      have g3 := t64 (n := pb (q : Int) + k) (g := (n : Int)) (by omega) (by omega) (by omega)
      have HC := Lib.hid (ph_cast n q k)
      have HN2 : Hid (∀ x, x = (phN n q k : Int) → ∀ j, j < k + 1 → (dk.set k x).getD j 0 = (phN n q j : Int)) := fun x hx j hj => by
        by_cases hjk : j = k
        · subst hjk; rw [getD_set_self (by omega), hx]
        · rw [getD_set_far (by omega)]; exact HA.out j (by omega)
      clear hall hown
      generalize dk.getD k 0 = o1 at d0
      go_wp2_with fail
      refine (phrasesBefore_any q (by omega) (by omega) _).mono ?_
      (rintro e1 w1 ⟨rfl, rfl⟩)
      go_wp2
      go_roundw
      case rel =>
        have s1 := World.ownsRow.stored HO.out k (.int .i64 ((pb (q : Int) + k) % n))
        refine ⟨k + 1, dk.set k ((pb (q : Int) + k) % n), by omega, by go_num, by simpa using hdl, HN2.out _ HC.out, ?_, ?_⟩
        · rw [← ints_set]
          exact s1.1
        · exact Below.grown hbr s1.2 (by omega) (fun j hj => some_le' hj (Nat.le_refl _))
      case measure => simp [intOf]; omega
    · obtain rfl : k = N := by omega
      have HE : Hid (dk = phL n q) := Lib.hid (by
        refine list_extI (by rw [phL_len, hdl, HN.out]) fun j hj => ?_
        rw [phL_len] at hj
        rw [phL_get n q j hj]
        exact HA.out j (by rw [HN.out]; exact hj))
      clear hall hown
      go_wp2
      go_ret
      refine ⟨_, rfl, ?_, hbr⟩
      rw [← HE.out]
      unfold IRow
      rw [hdl]
      exact HO.out

set_option maxHeartbeats 1600000 in
theorem beNotes_any (a : Option Addr) (c : Nat) (T : List (List UInt8)) (q : Nat) (ht : okT T = true) (hq : q ≤ 100000000) (w : World) (hin : XIn w a T) :
    Calls Tryd.prog 33 #[.slice a T.length c, .int .i64 (q : Int)] w fun e w' => e = .returned (str (ntL T q)) ∧ Below w.heap.size w w' := by
  obtain ⟨hn, -⟩ := okT_bd ht
  have X := Lib.hid hin
  have HT := Lib.hid ht
  have HCALL := Lib.hid (bePlays_any a c T.length q hn hq w)
  clear hin ht
  (go_enter Tryd.func33, Tryd.ntmps33)
  go_wp2_with fail
  refine HCALL.out.mono ?_
  rintro e1 w1 ⟨v1, rfl, hr1, hb1⟩
  obtain ⟨a1, c1, rfl, l1, m1, x1⟩ := hr1.cells
  rw [phL_len] at l1 x1 ⊢
  have X1 := Lib.hid x1
  clear x1 hr1
  have y1 := hb1.size
  have XK := Lib.hid (X.out.below hb1)
  clear X
  go_wp2
  go_loop [5, 12] (fun o i => ∃ k : Nat, k ≤ q % 4 + 1 ∧ i = .int .i64 k ∧ o = str (ntK T q k)) (fun _ i => q % 4 + 1 - (intOf i).toNat)
  case atStart => exact ⟨0, by omega, rfl, rfl⟩
  case round =>
    obtain ⟨k, hk, rfl, rfl⟩ := hrel
    have i0 : (0 : Int) ≤ (k : Int) := Int.natCast_nonneg _
    by_cases hlt : k < q % 4 + 1
    · obtain ⟨g1, rfl, e1, e2, e3⟩ := X1.out k hlt
      rw [phL_get _ _ _ hlt] at e3
      have hph := phN_lt T.length q k hn.1
      obtain ⟨b, off, rfl, d1, d2⟩ := XK.out _ hph
      have HS : Hid (ntK T q (k + 1) = ntK T q k ++ T.getD (phN T.length q k) []) := Lib.hid rfl
      have hlen1 := ntK_len HT.out q k
      have hlen2 := (okP_bd (all_at (d := []) (okT_bd HT.out).2 hph)).1.2
      generalize ntK T q k = s at *
      generalize T.getD (phN T.length q k) [] = l at *
      generalize phN T.length q k = p at *
      have j0 : (0 : Int) ≤ (p : Int) := Int.natCast_nonneg _
      have j1 : (p : Int) < (T.length : Int) := by omega
      have i1 : (k : Int) < ((q % 4 + 1 : Nat) : Int) := by omega
      have h1 : ¬ 9223372036854775807 < s.length + l.length := by omega
      have h2 : s.length + l.length < 9223372036854775807 := by omega
      go_wp2
      go_round
      case rel =>
        refine ⟨k + 1, by omega, by go_num, ?_⟩
        rw [HS.out]
        exact congrArg Value.string (ByteArray.mk_append_mk _ _)
      case measure => simp [intOf]; omega
    · have HE : Hid (ntK T q k = ntL T q) := Lib.hid (by rw [show k = q % 4 + 1 by omega]; rfl)
      have i2 : ¬ ((k : Int) < ((q % 4 + 1 : Nat) : Int)) := by omega
      go_wp2
      go_ret
      exact ⟨ret_str HE.out, hb1⟩

set_option maxHeartbeats 1600000 in
theorem notesAt_any (a : Option Addr) (c : Nat) (T : List (List UInt8)) (q : Nat) (ht : okT T = true) (hq : q ≤ 100000000) (w : World) (hin : XIn w a T) :
    Calls Tryd.prog 37 #[.slice a T.length c, .int .i64 (q : Int)] w fun e w' => e = .returned (str (ntL T q)) ∧ Below w.heap.size w w' := by
  obtain ⟨hn, -⟩ := okT_bd ht
  have X := Lib.hid hin
  have HT := Lib.hid ht
  have HCALL := Lib.hid (phrasesAt_any a c T.length q hn hq w)
  clear hin ht
  (go_enter Tryd.func37, Tryd.ntmps37)
  go_wp2_with fail
  refine HCALL.out.mono ?_
  rintro e1 w1 ⟨v1, rfl, hr1, hb1⟩
  obtain ⟨a1, c1, rfl, l1, m1, x1⟩ := hr1.cells
  rw [phL_len] at l1 x1 ⊢
  have X1 := Lib.hid x1
  clear x1 hr1
  have y1 := hb1.size
  have XK := Lib.hid (X.out.below hb1)
  clear X
  go_wp2
  go_loop [5, 12] (fun o i => ∃ k : Nat, k ≤ q % 4 + 1 ∧ i = .int .i64 k ∧ o = str (ntK T q k)) (fun _ i => q % 4 + 1 - (intOf i).toNat)
  case atStart => exact ⟨0, by omega, rfl, rfl⟩
  case round =>
    obtain ⟨k, hk, rfl, rfl⟩ := hrel
    have i0 : (0 : Int) ≤ (k : Int) := Int.natCast_nonneg _
    by_cases hlt : k < q % 4 + 1
    · obtain ⟨g1, rfl, e1, e2, e3⟩ := X1.out k hlt
      rw [phL_get _ _ _ hlt] at e3
      have hph := phN_lt T.length q k hn.1
      obtain ⟨b, off, rfl, d1, d2⟩ := XK.out _ hph
      have HS : Hid (ntK T q (k + 1) = ntK T q k ++ T.getD (phN T.length q k) []) := Lib.hid rfl
      have hlen1 := ntK_len HT.out q k
      have hlen2 := (okP_bd (all_at (d := []) (okT_bd HT.out).2 hph)).1.2
      generalize ntK T q k = s at *
      generalize T.getD (phN T.length q k) [] = l at *
      generalize phN T.length q k = p at *
      have j0 : (0 : Int) ≤ (p : Int) := Int.natCast_nonneg _
      have j1 : (p : Int) < (T.length : Int) := by omega
      have i1 : (k : Int) < ((q % 4 + 1 : Nat) : Int) := by omega
      have h1 : ¬ 9223372036854775807 < s.length + l.length := by omega
      have h2 : s.length + l.length < 9223372036854775807 := by omega
      go_wp2
      go_round
      case rel =>
        refine ⟨k + 1, by omega, by go_num, ?_⟩
        rw [HS.out]
        exact congrArg Value.string (ByteArray.mk_append_mk _ _)
      case measure => simp [intOf]; omega
    · have HE : Hid (ntK T q k = ntL T q) := Lib.hid (by rw [show k = q % 4 + 1 by omega]; rfl)
      have i2 : ¬ ((k : Int) < ((q % 4 + 1 : Nat) : Int)) := by omega
      go_wp2
      go_ret
      exact ⟨ret_str HE.out, hb1⟩

end Go.Proofs.YtijnppomeoaebaaDoor
