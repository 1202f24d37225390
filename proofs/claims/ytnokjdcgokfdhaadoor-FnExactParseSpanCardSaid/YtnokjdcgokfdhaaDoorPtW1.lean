/- Digits read by the model. -/
import Derived.Test.YtnokjdcgokfdhaaDoorDecM
set_option linter.unusedSimpArgs false
set_option linter.unusedVariables false
set_option maxRecDepth 100000
namespace Go.Proofs.YtnokjdcgokfdhaaDoor
open Go.RowKit

/-- One byte of a text, at a place in it. -/
theorem run_byte (l : List UInt8) (k : Nat) (x : Int) (hk : k < l.length) (hx : x = ((l.getD k 0).toNat : Int)) (W : World) :
    (Instr.index 9 (.string ⟨l.toArray⟩) (.int .i64 (k : Int))).run Tryd.prog W = .ok (.int .u8 x) W := by
  have h1 : (0 : Int) ≤ (k : Int) ∧ (k : Int) < ((⟨l.toArray⟩ : ByteArray).size : Int) := ⟨Int.natCast_nonneg _, by show (k : Int) < (l.toArray.size : Int); simp; exact hk⟩
  rw [run_index_string W 9 ⟨l.toArray⟩ .i64 k (by kernel_rfl), dif_pos h1, hx]
  have : (⟨l.toArray⟩ : ByteArray)[(k : Int).toNat]'(by show (k : Int).toNat < l.toArray.size; simpa using hk) = l.getD k 0 := by
    show l.toArray[(k : Int).toNat]'_ = _
    simp [List.getD_eq_getElem?_getD, hk]
  rw [this]
theorem byte_bd (b : UInt8) : (0 : Int) ≤ (b.toNat : Int) ∧ (b.toNat : Int) ≤ 255 := by have := b.toNat_lt; omega
theorem take_next {l : List UInt8} {k : Nat} (hk : k < l.length) : l.take (k + 1) = l.take k ++ [l.getD k 0] := by
  rw [List.take_add_one]; simp [List.getD_eq_getElem?_getD, hk]
theorem valF_small {l : List UInt8} (h : l.all isDig = true) (hl : l.length ≤ 6) : 0 ≤ valF 0 l ∧ valF 0 l ≤ 999999 := by
  obtain ⟨b1, b2⟩ := valF_bd l 0 (Int.le_refl 0) h
  have : (10 : Int) ^ l.length ≤ 10 ^ 6 := by exact_mod_cast Nat.pow_le_pow_right (n := 10) (by omega) hl
  have e : (10 : Int) ^ 6 = 1000000 := by decide
  omega
theorem read_bad {l : List UInt8} (h : canonB l = false) : -1 = readN l := by rw [readN, if_neg (by rw [h]; simp)]
theorem canon_no {l : List UInt8} {P : Prop} (h : canonB l = true → False) : -1 = readN l := by
  cases hc : canonB l
  · exact read_bad hc
  · exact absurd hc (fun h' => h h')

set_option maxHeartbeats 800000 in
theorem l1Read_any (l : List UInt8) (hl : l.length ≤ 1048576) (w : World) :
    Calls Tryd.prog 16 #[str l] w fun e w' => e = .returned (.int .i64 (readN l)) ∧ Below w.heap.size w w' := by
  cases ga : inB l.length 1 6
  · have HM : Hid (-1 = readN l) := canon_no (P := True) fun h => by
      have h := (canonB_iff l).1 h
      have : inB l.length 1 6 = true := by simp [inB]; omega
      rw [this] at ga; cases ga
    (go_enter Tryd.func16, Tryd.ntmps16)
    go_wp2_with fail
    refine (l1In_is _ _ _ ga _).mono ?_
    (rintro e1 w1 ⟨rfl, rfl⟩)
    go_wp2
    go_ret
    exact ⟨ret_int HM.out, by (repeat' (first | (with_reducible exact Below.refl _ _) | (with_reducible assumption) | (with_reducible refine Below.alloc ?_ ?_ _) | (with_reducible refine Below.drew ?_) | (with_reducible refine below_drewN ?_ _) | (with_reducible refine Below.setCell ?_ ?_ _) | (with_reducible refine below_call ?_ ?_ (by assumption)) | go_size))⟩
  · obtain ⟨hb1, hb2⟩ := inB_bd ga
    obtain ⟨x0, hx0⟩ : ∃ x : Int, x = ((l.getD 0 0).toNat : Int) := ⟨_, rfl⟩
    have hz := fun W => run_byte l 0 x0 (by omega) hx0 W
    have hbd0 := byte_bd (l.getD 0 0)
    rw [← hx0] at hbd0
    have hb3 : 0 < l.length := by omega
    have hb4 : ¬ l = [] := fun h => by rw [h] at hb3; exact absurd hb3 (by simp)
    simp only [Int.natCast_zero] at hz
    by_cases hbad : x0 = 48 ∧ 1 < l.length
    · have HM : Hid (-1 = readN l) := canon_no (P := True) fun h => ((canonB_iff l).1 h).2.1 ⟨UInt8.toNat_inj.1 (by rw [hbad.1] at hx0; show (l.getD 0 0).toNat = 48; omega), hbad.2⟩
      obtain ⟨rfl, h1⟩ := hbad
      have h1' : (1 : Int) < (l.length : Int) := by omega
      clear hx0
      (go_enter Tryd.func16, Tryd.ntmps16)
      go_wp2_with fail
      refine (l1In_is _ _ _ ga _).mono ?_
      (rintro e1 w1 ⟨rfl, rfl⟩)
      go_wp2
      go_ret
      exact ⟨ret_int HM.out, by (repeat' (first | (with_reducible exact Below.refl _ _) | (with_reducible assumption) | (with_reducible refine Below.alloc ?_ ?_ _) | (with_reducible refine Below.drew ?_) | (with_reducible refine below_drewN ?_ _) | (with_reducible refine Below.setCell ?_ ?_ _) | (with_reducible refine below_call ?_ ?_ (by assumption)) | go_size))⟩
    · have HB : Hid (¬ (x0 = 48 ∧ 1 < l.length)) := hbad
      have HX0 := Lib.hid hx0
      have hx48 : ¬ x0 = 48 ∨ ¬ (1 : Int) < (l.length : Int) := by omega
      clear hx0 hbad
      have HL : Hid (∀ k : Nat, k ≤ l.length → (l.take k).all isDig = true → 0 ≤ valF 0 (l.take k) ∧ valF 0 (l.take k) ≤ 999999) := fun k hk ha => valF_small ha (by simp; omega)
      have HC : Hid (l.all isDig = true → valF 0 l = readN l) := fun h => by
        rw [readN, if_pos ((canonB_iff l).2 ⟨⟨by omega, by omega⟩, fun ⟨a, b⟩ => HB.out ⟨by rw [HX0.out, a]; rfl, b⟩, h⟩)]
      have HN : Hid (∀ k : Nat, k < l.length → isDig (l.getD k 0) = false → -1 = readN l) := fun k hk hd => canon_no (P := True) fun h => by
        have := List.all_eq_true.1 ((canonB_iff l).1 h).2.2 (l.getD k 0) (by rw [List.getD_eq_getElem?_getD, List.getElem?_eq_getElem hk]; exact List.getElem_mem hk)
        rw [this] at hd; cases hd
      (go_enter Tryd.func16, Tryd.ntmps16)
      go_wp2_with fail
      refine (l1In_is _ _ _ ga _).mono ?_
      (rintro e1 w1 ⟨rfl, rfl⟩)
      go_wp2
      all_goals
        go_loopw [3, 4] (fun n i wr => ∃ k : Nat, k ≤ l.length ∧ i = .int .i64 k ∧ n = .int .i64 (valF 0 (l.take k)) ∧ (l.take k).all isDig = true ∧ Below w.heap.size w wr) (fun _ i _ => l.length - (intOf i).toNat)
        case atStart => exact ⟨0, Nat.zero_le _, rfl, rfl, rfl, Below.refl _ _⟩
        case round =>
          obtain ⟨k, hk, rfl, rfl, hall, hbr⟩ := hrel
          obtain ⟨v0, v1⟩ := HL.out k hk hall
          have HA := Lib.hid hall
          have j0 : (0 : Int) ≤ (k : Int) := Int.natCast_nonneg _
          clear hall
          by_cases hlt : k < l.length
          · have j1 : (k : Int) < (l.length : Int) := by omega
            obtain ⟨x, hx⟩ : ∃ x : Int, x = ((l.getD k 0).toNat : Int) := ⟨_, rfl⟩
            have hzk := fun W => run_byte l k x hlt hx W
            have hbd := byte_bd (l.getD k 0)
            rw [← hx] at hbd
            have HX := Lib.hid hx
            have HS : Hid (isDig (l.getD k 0) = true → valF 0 (l.take (k + 1)) = 10 * valF 0 (l.take k) + (x - 48) ∧ (l.take (k + 1)).all isDig = true) := fun h => by
              rw [take_next hlt, valF_snoc, ← HX.out]
              exact ⟨rfl, by rw [List.all_append, HA.out, List.all_cons, h]; rfl⟩
            have HD : Hid (isDig (l.getD k 0) = decide (48 ≤ x ∧ x ≤ 57)) := by
              rw [HX.out]
              cases h : isDig (l.getD k 0)
              · have : ¬ (48 ≤ (l.getD k 0).toNat ∧ (l.getD k 0).toNat ≤ 57) := fun h' => by rw [(isDig_iff _).2 h'] at h; cases h
                exact (decide_eq_false (by omega)).symm
              · have := (isDig_iff _).1 h
                exact (decide_eq_true (by omega)).symm
            have HN2 := Lib.hid (HN.out k hlt)
            clear hx
            by_cases hd : 48 ≤ x ∧ x ≤ 57
            · obtain ⟨d0, d1⟩ := hd
              obtain ⟨s1, s2⟩ := HS.out (by rw [HD.out]; simp [d0, d1])
              have S1 := Lib.hid s1
              have S2 := Lib.hid s2
              clear s1 s2
              generalize valF 0 (l.take k) = v at *
              have f1 : IntKind.u8.wrap (x - 48) = x - 48 := IntWalk.u8_in _ (by omega)
              go_wp2
              go_roundw
              case rel => exact ⟨k + 1, by omega, by go_num, by rw [S1.out], S2.out, hbr⟩
              case measure => simp [intOf]; omega
            · have HM := Lib.hid (HN2.out (by rw [HD.out]; exact decide_eq_false hd))
              clear HS
              generalize valF 0 (l.take k) = v at *
              by_cases hd0 : x < 48
              · go_wp2
                go_ret
                exact ⟨ret_int HM.out, hbr⟩
              · have hd1 : 57 < x := by omega
                go_wp2
                go_ret
                exact ⟨ret_int HM.out, hbr⟩
          · obtain rfl : k = l.length := by omega
            have hv : Hid (valF 0 (l.take l.length) = readN l) := by
              rw [List.take_length]
              exact HC.out (by have := HA.out; rwa [List.take_length] at this)
            generalize valF 0 (l.take l.length) = v at *
            go_wp2
            go_ret
            exact ⟨ret_int hv.out, hbr⟩
end Go.Proofs.YtnokjdcgokfdhaaDoor
