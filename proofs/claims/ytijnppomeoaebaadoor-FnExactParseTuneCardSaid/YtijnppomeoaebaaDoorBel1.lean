/- Tunes: by the program and by the model. -/
import Derived.Test.YtijnppomeoaebaaDoorXRow
import Derived.Test.YtijnppomeoaebaaDoorBelM
import Derived.Laws.RangeAny
import Derived.Laws.RangeString
set_option linter.unusedSimpArgs false
set_option linter.unusedVariables false
set_option maxRecDepth 100000
namespace Go.Proofs.YtijnppomeoaebaaDoor
open Go.RowKit

theorem byte_at (l : List UInt8) (k : Nat) (h : k < l.length) : ((⟨l.toArray⟩ : ByteArray)[k]'(by show k < l.toArray.size; simpa using h)) = l.getD k 0 := by
  show l.toArray[k]'_ = _
  simp [List.getD_eq_getElem?_getD, h]
theorem bsize (l : List UInt8) : (⟨l.toArray⟩ : ByteArray).size = l.length := by show l.toArray.size = _; simp
theorem iter_grow (w : World) (s : ByteArray) (k : Nat) : Below w.heap.size w (w.iter s k) := Below.alloc (Below.refl _ _) (Nat.le_refl _) _

set_option maxHeartbeats 400000 in
theorem bellOf_any (x : Int) (h0 : 0 ≤ x) (h1 : x ≤ 2147483647) (w : World) :
    Calls Tryd.prog 58 #[.int .i32 x] w fun e w' => e = .returned (.int .i64 (x - 48)) ∧ w = w' := by
  have f1 : IntKind.i32.wrap (x - 48) = x - 48 := by rw [IntKind.wrap_i32]; omega
  have f2 : IntKind.i64.wrap (x - 48) = x - 48 := w64 (by omega)
  (go_enter Tryd.func58, Tryd.ntmps58)
  go_wp2
  go_ret
  exact ⟨rfl, rfl⟩
set_option maxHeartbeats 400000 in
theorem isBell_is {b : Bool} (x : Int) (h : inB x 1 8 = b) (w : World) :
    Calls Tryd.prog 26 #[.int .i64 x] w fun e w' => e = .returned (.bool b) ∧ w = w' := by
  (go_enter Tryd.func26, Tryd.ntmps26)
  go_wp2_with fail
  refine (isWithin_is _ _ _ h _).mono ?_
  (rintro e1 w1 ⟨rfl, rfl⟩)
  go_wp2
  go_ret
  exact ⟨rfl, rfl⟩
set_option maxHeartbeats 1600000 in
theorem isPhrase_any (l : List UInt8) (hl : l.length ≤ maxLen) (w : World) :
    Calls Tryd.prog 49 #[str l] w fun e w' => e = .returned (.bool (okP l)) ∧ Below w.heap.size w w' := by
  cases ga : inB l.length 1 8
  · have HM := Lib.hid (show false = okP l from by simp [okP, ga])
    (go_enter Tryd.func49, Tryd.ntmps49)
    go_wp2_with fail
    refine (isWithin_is _ _ _ ga _).mono ?_
    (rintro e1 w1 ⟨rfl, rfl⟩)
    go_wp2
    go_ret
    exact ⟨ret_bool HM.out, Below.refl _ _⟩
  · have hb := inB_bd ga
    obtain ⟨s, hs⟩ : ∃ s : ByteArray, s = ⟨l.toArray⟩ := ⟨_, rfl⟩
    have hsz : s.size = l.length := by rw [hs]; exact bsize l
    have HB : Hid (∀ (k : Nat) (h : k < s.size), (s[k]'h) = l.getD k 0) := Lib.hid (by subst hs; exact fun k h => byte_at l k (by rw [bsize] at h; exact h))
    have HM := Lib.hid (show l.all okN = okP l from by simp [okP, ga])
    have hs2 : (⟨l.toArray⟩ : ByteArray) = s := hs.symm
    unfold str
    rw [hs2]
    rw [← hsz] at ga
    rw [← hsz] at hb
    have HSZ := Lib.hid hsz
    clear hs hs2 hsz
    (go_enter Tryd.func49, Tryd.ntmps49)
    go_wp2_with fail
    refine (isWithin_is _ _ _ ga _).mono ?_
    (rintro e1 w1 ⟨rfl, rfl⟩)
    go_wp2
    go_loopw [4] (fun _ w' => ∃ k : Nat, k ≤ s.size ∧ w' = w.iter s k ∧ (l.take k).all okN = true) (fun _ w' => s.size - w'.iterPos w.heap.size)
    case atStart => exact ⟨0, Nat.zero_le _, rfl, by simp⟩
    case round =>
      obtain ⟨k, hk, rfl, hall⟩ := hrel
      have HA := Lib.hid hall
      clear hall
      by_cases hp : k < s.size
      · have hd : ∃ (x : Nat) (n : Nat), Utf8.decode s k = (x, n) ∧ x ≤ 2147483647 ∧ ((okN (l.getD k 0) = true ∧ n = 1 ∧ inB ((x : Int) - 48) 1 8 = true) ∨ (okN (l.getD k 0) = false ∧ 1 ≤ n ∧ inB ((x : Int) - 48) 1 8 = false)) := by
          refine ⟨(Utf8.decode s k).1, (Utf8.decode s k).2, rfl, decode_le s k, ?_⟩
          have hbk := HB.out k hp
          by_cases ha : (s[k]'hp).toNat < 128
          · rw [decode_ascii s k hp ha, hbk]
            cases h : okN (l.getD k 0)
            · refine .inr ⟨rfl, Nat.le_refl _, ?_⟩
              have : ¬ (49 ≤ (l.getD k 0).toNat ∧ (l.getD k 0).toNat ≤ 56) := by unfold okN at h; exact of_decide_eq_false h
              simp only [inB]
              exact decide_eq_false (by omega)
            · refine .inl ⟨rfl, rfl, ?_⟩
              have := okN_bd h
              simp only [inB]
              exact decide_eq_true (by omega)
          · obtain ⟨h1, h2⟩ := decode_high s k hp (by omega)
            rw [hbk] at ha
            refine .inr ⟨?_, h2, ?_⟩
            · unfold okN
              exact decide_eq_false (by omega)
            · simp only [inB]
              exact decide_eq_false (by omega)
        obtain ⟨x, n, hdec, hx1, hcase⟩ := hd
        have hnx : ∀ ty, (Instr.next (.pointer (some ⟨w.heap.size, 0, none⟩)) true ty).run Tryd.prog (w.iter s k) = .ok (.tuple #[.bool true, .int .i64 k, .int .i32 x]) (w.iter s (k + n)) := fun ty => by
          have := run_next_any (P := Tryd.prog) w s k ty hp
          rw [hdec] at this
          exact this
        clear hdec
        rcases hcase with ⟨ho, rfl, hi⟩ | ⟨ho, hn, hi⟩
        · have HN := Lib.hid (all_next (by have := HSZ.out; omega) HA.out ho)
          go_wp2_with fail
          refine (bellOf_any x (by omega) (by omega) _).mono ?_
          (rintro e1 w1 ⟨rfl, rfl⟩)
          go_wp2_with fail
          refine (isBell_is _ hi _).mono ?_
          (rintro e1 w1 ⟨rfl, rfl⟩)
          go_wp2
          go_roundw
          case rel => exact ⟨k + 1, by omega, rfl, HN.out⟩
          case measure => simp; omega
        · have HF := Lib.hid (all_fail (by have := HSZ.out; omega) ho)
          go_wp2_with fail
          refine (bellOf_any x (by omega) (by omega) _).mono ?_
          (rintro e1 w1 ⟨rfl, rfl⟩)
          go_wp2_with fail
          refine (isBell_is _ hi _).mono ?_
          (rintro e1 w1 ⟨rfl, rfl⟩)
          go_wp2
          go_ret
          exact ⟨ret_bool (HF.out.symm.trans HM.out), iter_grow _ _ _⟩
      · have hnx : ∀ ty, (Instr.next (.pointer (some ⟨w.heap.size, 0, none⟩)) true ty).run Tryd.prog (w.iter s k) = _ := fun ty => run_next_end w s k ty hp
        have HE : Hid (l.all okN = true) := Lib.hid (by have := HA.out; rw [show k = l.length by have := HSZ.out; omega] at this; exact all_end this)
        go_wp2
        go_ret
        exact ⟨ret_bool (HE.out.symm.trans HM.out), iter_grow _ _ _⟩

set_option maxHeartbeats 1600000 in
theorem beTune_any (a : Option Addr) (c : Nat) (T : List (List UInt8)) (hm : T.length ≤ maxLen) (w : World) (hin : XIn w a T) :
    Calls Tryd.prog 38 #[.slice a T.length c] w fun e w' => e = .returned (.bool (okT T)) ∧ Below w.heap.size w w' := by
  have X := Lib.hid hin
  clear hin
  cases ga : inB T.length 1 12
  · have HM := Lib.hid (show false = okT T from by simp [okT, ga])
    (go_enter Tryd.func38, Tryd.ntmps38)
    go_wp2_with fail
    refine (l1In_is _ _ _ ga _).mono ?_
    (rintro e1 w1 ⟨rfl, rfl⟩)
    go_wp2
    go_ret
    exact ⟨ret_bool HM.out, Below.refl _ _⟩
  · have hb := inB_bd ga
    have HM := Lib.hid (show T.all okP = okT T from by simp [okT, ga])
    (go_enter Tryd.func38, Tryd.ntmps38)
    go_wp2_with fail
    refine (l1In_is _ _ _ ga _).mono ?_
    (rintro e1 w1 ⟨rfl, rfl⟩)
    go_wp2
    go_loop [12] (fun i => ∃ k : Nat, k ≤ T.length ∧ i = .int .i64 k ∧ (T.take k).all okP = true) (fun i => T.length - (intOf i).toNat)
    case atStart => exact ⟨0, Nat.zero_le _, rfl, by simp⟩
    case round =>
      obtain ⟨k, hk, rfl, hall⟩ := hrel
      have HA := Lib.hid hall
      clear hall
      have i0 : (0 : Int) ≤ (k : Int) := Int.natCast_nonneg _
      by_cases hlt : k < T.length
      · obtain ⟨b, off, rfl, e1, e2⟩ := X.out k hlt
        have i1 : (k : Int) < (T.length : Int) := by omega
        have HN : Hid (okP (T.getD k []) = true → (T.take (k + 1)).all okP = true) := Lib.hid (fun h => all_next hlt HA.out h)
        have HF : Hid (okP (T.getD k []) = false → T.all okP = false) := Lib.hid (fun h => all_fail hlt h)
        generalize T.getD k [] = l at *
        cases gb : inB l.length 1 8
        · have HZ := Lib.hid (HF.out (by simp [okP, gb]))
          go_wp2_with fail
          refine (l1In_is _ _ _ gb _).mono ?_
          (rintro e1 w1 ⟨rfl, rfl⟩)
          go_wp2
          go_ret
          exact ⟨ret_bool (HZ.out.symm.trans HM.out), Below.refl _ _⟩
        · have hbb := inB_bd gb
          have HO := Lib.hid (show l.all okN = okP l from by simp [okP, gb])
          go_wp2_with fail
          refine (l1In_is _ _ _ gb _).mono ?_
          (rintro e1 w1 ⟨rfl, rfl⟩)
          go_wp2
          go_loop [5] (fun j => ∃ m : Nat, m ≤ l.length ∧ j = .int .i64 m ∧ (l.take m).all okN = true) (fun j => l.length - (intOf j).toNat)
          case atStart => exact ⟨0, Nat.zero_le _, rfl, by simp⟩
          case round =>
            obtain ⟨m, hm', rfl, hallm⟩ := hrel
            have HAm := Lib.hid hallm
            clear hallm
            have j0 : (0 : Int) ≤ (m : Int) := Int.natCast_nonneg _
            by_cases hlt2 : m < l.length
            · have j1 : (m : Int) < (l.length : Int) := by omega
              obtain ⟨y, hy⟩ : ∃ y : Int, y = ((l.getD m 0).toNat : Int) := ⟨_, rfl⟩
              have hyz := fun W => run_byte l m y hlt2 hy W
              have HN2 : Hid ((49 ≤ y ∧ y ≤ 56) → (l.take (m + 1)).all okN = true) := Lib.hid (fun h => all_next (d := 0) hlt2 HAm.out (by unfold okN; exact decide_eq_true (by omega)))
              have HF2 : Hid (¬ (49 ≤ y ∧ y ≤ 56) → T.all okP = false) := Lib.hid (fun h => HF.out (by rw [← HO.out]; exact all_fail (d := 0) hlt2 (by unfold okN; exact decide_eq_false (by omega))))
              clear hy
              by_cases ya : y < 49
              · have HZ := Lib.hid (HF2.out (by omega))
                go_wp2
                go_ret
                exact ⟨ret_bool (HZ.out.symm.trans HM.out), Below.refl _ _⟩
              · by_cases yb : 56 < y
                · have HZ := Lib.hid (HF2.out (by omega))
                  go_wp2
                  go_ret
                  exact ⟨ret_bool (HZ.out.symm.trans HM.out), Below.refl _ _⟩
                · have HZ := Lib.hid (HN2.out (by omega))
                  go_wp2
                  go_round
                  case rel => exact ⟨m + 1, by omega, by go_num, HZ.out⟩
                  case measure => simp [intOf]; omega
            · have HZ : Hid (okP l = true) := Lib.hid (by rw [← HO.out]; have := HAm.out; rw [show m = l.length by omega] at this; exact all_end this)
              go_wp2
              go_round
              case rel => exact ⟨k + 1, by omega, by go_num, HN.out HZ.out⟩
              case measure => simp [intOf]; omega
      · have HE : Hid (T.all okP = true) := Lib.hid (by have := HA.out; rw [show k = T.length by omega] at this; exact all_end this)
        go_wp2
        go_ret
        exact ⟨ret_bool (HE.out.symm.trans HM.out), Below.refl _ _⟩

end Go.Proofs.YtijnppomeoaebaaDoor
