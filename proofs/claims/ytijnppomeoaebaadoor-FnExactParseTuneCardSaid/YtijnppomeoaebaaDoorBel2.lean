/- Tunes by the program, quarters, where a tune stands, behind how many hours it stands as at first: by the program and by the model. -/
import Derived.Test.YtijnppomeoaebaaDoorBel1
import Derived.Test.YtijnppomeoaebaaDoorGcd
set_option linter.unusedSimpArgs false
set_option linter.unusedVariables false
set_option maxRecDepth 100000
namespace Go.Proofs.YtijnppomeoaebaaDoor
open Go.RowKit

set_option maxHeartbeats 400000 in
theorem notPhrase_any (l : List UInt8) (hl : l.length ≤ maxLen) (w : World) :
    Calls Tryd.prog 48 #[str l] w fun e w' => e = .returned (.bool (!okP l)) ∧ Below w.heap.size w w' := by
  (go_enter Tryd.func48, Tryd.ntmps48)
  go_wp2_with fail
  refine (isPhrase_any l hl _).mono ?_
  (rintro e1 w1 ⟨rfl, hb1⟩; obtain ⟨hc1, hf1⟩ := bcell hb1; have hz1 := hb1.size; (try simp only [World.size_alloc, World.size_setCell, World.size_drew] at hz1); have q1 : w.heap.size ≤ w1.heap.size := (by omega); (try have q1_0 : w.heap.size < w1.heap.size := (by omega)); (try have q1_1 : w.heap.size + 1 < w1.heap.size := (by omega)); (try have q1_2 : w.heap.size + 2 < w1.heap.size := (by omega)); (try have q1_3 : w.heap.size + 3 < w1.heap.size := (by omega)))
  go_wp2
  go_ret
  exact ⟨rfl, by (repeat' (first | (with_reducible exact Below.refl _ _) | (with_reducible assumption) | (with_reducible refine Below.alloc ?_ ?_ _) | (with_reducible refine Below.drew ?_) | (with_reducible refine below_drewN ?_ _) | (with_reducible refine Below.setCell ?_ ?_ _) | (with_reducible refine below_call ?_ ?_ (by assumption)) | go_size))⟩
set_option maxHeartbeats 1600000 in
theorem indexPhrase_any (a : Option Addr) (c : Nat) (T : List (List UInt8)) (hl : T.length ≤ 12) (hs : ∀ k, k < T.length → (T.getD k []).length ≤ maxLen) (w : World) (hin : XIn w a T) :
    Calls Tryd.prog 71 #[.slice a T.length c, .func (.func 48) #[] #[]] w fun e w' => ∃ i : Int, e = .returned (.int .i64 i) ∧ -1 ≤ i ∧ i ≤ 12 ∧ T.all okP = !decide (0 ≤ i) ∧ Below w.heap.size w w' := by
  have X1 := Lib.hid hin
  have HS := Lib.hid hs
  clear hin hs
  (go_enter Tryd.func71, Tryd.ntmps71)
  go_wp2
  go_loopw [8] (fun i wr => ∃ k : Nat, k ≤ T.length ∧ i = .int .i64 k ∧ (T.take k).all okP = true ∧ Below w.heap.size w wr) (fun i _ => T.length - (intOf i).toNat)
  case atStart => exact ⟨0, Nat.zero_le _, rfl, by simp, Below.refl _ _⟩
  case round =>
    obtain ⟨k, hk, rfl, hall, hbr⟩ := hrel
    have HA := Lib.hid hall
    clear hall
    obtain ⟨hcr, hfr⟩ := bcell hbr
    have hzr := hbr.size
    have i0 : (0 : Int) ≤ (k : Int) := Int.natCast_nonneg _
    by_cases hlt : k < T.length
    · obtain ⟨b, off, rfl, e1, e2⟩ := X1.out k hlt
      have i1 : (k : Int) < (T.length : Int) := by omega
      have u1 : b < wr.heap.size := by omega
      have HP := Lib.hid (fun W => notPhrase_any (T.getD k []) (HS.out k hlt) W)
      have HN : Hid (okP (T.getD k []) = true → (T.take (k + 1)).all okP = true) := Lib.hid (fun h => all_next hlt HA.out h)
      have HF : Hid (okP (T.getD k []) = false → T.all okP = false) := Lib.hid (fun h => all_fail hlt h)
      generalize T.getD k [] = l at *
      cases hq : okP l
      · have hcall := fun W => HP.out W
        rw [hq] at hcall
        have HQ := Lib.hid (HF.out hq)
        clear hq
        go_wp2_with fail
        refine (hcall _).mono ?_
        rintro e2' w2 ⟨rfl, hb2⟩
        go_wp2
        go_ret
        exact ⟨k, rfl, by omega, by omega, by rw [HQ.out]; simp, hbr.trans (hb2.mono hzr)⟩
      · have hcall := fun W => HP.out W
        rw [hq] at hcall
        have HQ := Lib.hid (HN.out hq)
        clear hq
        go_wp2_with fail
        refine (hcall _).mono ?_
        rintro e2' w2 ⟨rfl, hb2⟩
        go_wp2
        go_roundw
        case rel => exact ⟨k + 1, by omega, by go_num, HQ.out, hbr.trans (hb2.mono hzr)⟩
        case measure => simp [intOf]; omega
    · have HE : Hid (T.all okP = true) := Lib.hid (by have := HA.out; rw [show k = T.length by omega] at this; exact all_end this)
      go_wp2
      go_ret
      exact ⟨-1, rfl, by omega, by omega, by rw [HE.out]; rfl, hbr⟩
set_option maxHeartbeats 800000 in
theorem containsPhrase_any (a : Option Addr) (c : Nat) (T : List (List UInt8)) (hl : T.length ≤ 12) (hs : ∀ k, k < T.length → (T.getD k []).length ≤ maxLen) (w : World) (hin : XIn w a T) :
    Calls Tryd.prog 47 #[.slice a T.length c, .func (.func 48) #[] #[]] w fun e w' => e = .returned (.bool (!T.all okP)) ∧ Below w.heap.size w w' := by
  have HI := Lib.hid (indexPhrase_any a c T hl hs w hin)
  clear hin hs
  (go_enter Tryd.func47, Tryd.ntmps47)
  go_wp2_with fail
  refine HI.out.mono ?_
  rintro e1 w1 ⟨i, rfl, i1, i2, hall, hb1⟩
  have HA := Lib.hid hall
  clear hall
  have HE : Hid (decide (0 ≤ i) = !T.all okP) := Lib.hid (by rw [HA.out]; simp)
  go_wp2
  go_ret
  exact ⟨ret_bool HE.out, hb1⟩
set_option maxHeartbeats 800000 in
theorem isTune_any (a : Option Addr) (c : Nat) (T : List (List UInt8)) (hs : ∀ k, k < T.length → (T.getD k []).length ≤ maxLen) (w : World) (hin : XIn w a T) :
    Calls Tryd.prog 25 #[.slice a T.length c] w fun e w' => e = .returned (.bool (okT T)) ∧ Below w.heap.size w w' := by
  cases ga : inB T.length 1 12
  · have HM := Lib.hid (show false = okT T from by simp [okT, ga])
    (go_enter Tryd.func25, Tryd.ntmps25)
    go_wp2_with fail
    refine (isWithin_is _ _ _ ga _).mono ?_
    (rintro e1 w1 ⟨rfl, rfl⟩)
    go_wp2
    go_ret
    exact ⟨ret_bool HM.out, Below.refl _ _⟩
  · have hb := inB_bd ga
    have HM := Lib.hid (show (!!T.all okP) = okT T from by simp [okT, ga])
    have HC := Lib.hid (containsPhrase_any a c T (by omega) hs w hin)
    clear hin hs
    generalize (!T.all okP) = q at *
    (go_enter Tryd.func25, Tryd.ntmps25)
    go_wp2_with fail
    refine (isWithin_is _ _ _ ga _).mono ?_
    (rintro e1 w1 ⟨rfl, rfl⟩)
    go_wp2_with fail
    refine HC.out.mono ?_
    (rintro e1 w1 ⟨rfl, hb1⟩; obtain ⟨hc1, hf1⟩ := bcell hb1; have hz1 := hb1.size; (try simp only [World.size_alloc, World.size_setCell, World.size_drew] at hz1); have q1 : w.heap.size ≤ w1.heap.size := (by omega); (try have q1_0 : w.heap.size < w1.heap.size := (by omega)); (try have q1_1 : w.heap.size + 1 < w1.heap.size := (by omega)); (try have q1_2 : w.heap.size + 2 < w1.heap.size := (by omega)); (try have q1_3 : w.heap.size + 3 < w1.heap.size := (by omega)))
    go_wp2
    go_ret
    exact ⟨ret_bool HM.out, by (repeat' (first | (with_reducible exact Below.refl _ _) | (with_reducible assumption) | (with_reducible refine Below.alloc ?_ ?_ _) | (with_reducible refine Below.drew ?_) | (with_reducible refine below_drewN ?_ _) | (with_reducible refine Below.setCell ?_ ?_ _) | (with_reducible refine below_call ?_ ?_ (by assumption)) | go_size))⟩
theorem isTune_is {r : Bool} (a : Option Addr) (c : Nat) (T : List (List UInt8)) (hs : ∀ k, k < T.length → (T.getD k []).length ≤ maxLen) (hr : okT T = r) (w : World) (hin : XIn w a T) :
    Calls Tryd.prog 25 #[.slice a T.length c] w fun e w' => e = .returned (.bool r) ∧ Below w.heap.size w w' := by
  subst hr; exact isTune_any a c T hs w hin
theorem beTune_is {r : Bool} (a : Option Addr) (c : Nat) (T : List (List UInt8)) (hm : T.length ≤ maxLen) (hr : okT T = r) (w : World) (hin : XIn w a T) :
    Calls Tryd.prog 38 #[.slice a T.length c] w fun e w' => e = .returned (.bool r) ∧ Below w.heap.size w w' := by
  subst hr; exact beTune_any a c T hm w hin
set_option maxHeartbeats 400000 in
theorem isQuarter_is {b : Bool} (x : Int) (h : inB x 0 1000000 = b) (w : World) :
    Calls Tryd.prog 27 #[.int .i64 x] w fun e w' => e = .returned (.bool b) ∧ w = w' := by
  (go_enter Tryd.func27, Tryd.ntmps27)
  go_wp2_with fail
  refine (isWithin_is _ _ _ h _).mono ?_
  (rintro e1 w1 ⟨rfl, rfl⟩)
  go_wp2
  go_ret
  exact ⟨rfl, rfl⟩
/-- There are a tune and a quarter. -/
def askB (T : List (List UInt8)) (q : Int) : Bool := okT T && inB q 0 1000000
set_option maxHeartbeats 800000 in
theorem beAsked_is {r : Bool} (a : Option Addr) (c : Nat) (T : List (List UInt8)) (q : Int) (hm : T.length ≤ maxLen) (hr : askB T q = r) (w : World) (hin : XIn w a T) :
    Calls Tryd.prog 20 #[.slice a T.length c, .int .i64 q] w fun e w' => e = .returned (.bool r) ∧ Below w.heap.size w w' := by
  subst hr
  cases ga : okT T
  · have HM := Lib.hid (show false = askB T q from by simp [askB, ga])
    have HC := Lib.hid (beTune_is a c T hm ga w hin)
    (go_enter Tryd.func20, Tryd.ntmps20)
    go_wp2_with fail
    refine HC.out.mono ?_
    (rintro e1 w1 ⟨rfl, hb1⟩; obtain ⟨hc1, hf1⟩ := bcell hb1; have hz1 := hb1.size; (try simp only [World.size_alloc, World.size_setCell, World.size_drew] at hz1); have q1 : w.heap.size ≤ w1.heap.size := (by omega); (try have q1_0 : w.heap.size < w1.heap.size := (by omega)); (try have q1_1 : w.heap.size + 1 < w1.heap.size := (by omega)); (try have q1_2 : w.heap.size + 2 < w1.heap.size := (by omega)); (try have q1_3 : w.heap.size + 3 < w1.heap.size := (by omega)))
    go_wp2
    go_ret
    exact ⟨ret_bool HM.out, by (repeat' (first | (with_reducible exact Below.refl _ _) | (with_reducible assumption) | (with_reducible refine Below.alloc ?_ ?_ _) | (with_reducible refine Below.drew ?_) | (with_reducible refine below_drewN ?_ _) | (with_reducible refine Below.setCell ?_ ?_ _) | (with_reducible refine below_call ?_ ?_ (by assumption)) | go_size))⟩
  · obtain ⟨r, hr⟩ : ∃ r, inB q 0 1000000 = r := ⟨_, rfl⟩
    have HM := Lib.hid (show r = askB T q from by simp [askB, ga, hr])
    have HC := Lib.hid (beTune_is a c T hm ga w hin)
    (go_enter Tryd.func20, Tryd.ntmps20)
    go_wp2_with fail
    refine HC.out.mono ?_
    (rintro e1 w1 ⟨rfl, hb1⟩; obtain ⟨hc1, hf1⟩ := bcell hb1; have hz1 := hb1.size; (try simp only [World.size_alloc, World.size_setCell, World.size_drew] at hz1); have q1 : w.heap.size ≤ w1.heap.size := (by omega); (try have q1_0 : w.heap.size < w1.heap.size := (by omega)); (try have q1_1 : w.heap.size + 1 < w1.heap.size := (by omega)); (try have q1_2 : w.heap.size + 2 < w1.heap.size := (by omega)); (try have q1_3 : w.heap.size + 3 < w1.heap.size := (by omega)))
    go_wp2_with fail
    refine (l1In_is _ _ _ hr _).mono ?_
    (rintro e1 w1 ⟨rfl, rfl⟩)
    go_wp2
    go_ret
    exact ⟨ret_bool HM.out, by (repeat' (first | (with_reducible exact Below.refl _ _) | (with_reducible assumption) | (with_reducible refine Below.alloc ?_ ?_ _) | (with_reducible refine Below.drew ?_) | (with_reducible refine below_drewN ?_ _) | (with_reducible refine Below.setCell ?_ ?_ _) | (with_reducible refine below_call ?_ ?_ (by assumption)) | go_size))⟩
set_option maxHeartbeats 800000 in
theorem phrasesBefore_any (q : Int) (h0 : 0 ≤ q) (h1 : q ≤ 100000000) (w : World) :
    Calls Tryd.prog 51 #[.int .i64 q] w fun e w' => e = .returned (.int .i64 (pb q)) ∧ w = w' := by
  have hb := pb_bd h0 h1
  obtain ⟨⟨a1, a2⟩, ⟨b1, b2⟩, ⟨c1, c2⟩⟩ := pb_parts h0 h1
  have f1 : IntKind.i64.wrap (q.tmod 4) = q % 4 := t64 h0 (by omega) (by omega)
  have f2 : IntKind.i64.wrap (q.tdiv 4) = q / 4 := q64 h0 (by omega) (by omega)
  have f3 : IntKind.i64.wrap ((q % 4 * (q % 4 + 1)).tdiv 2) = q % 4 * (q % 4 + 1) / 2 := q64 c1 (by omega) (by omega)
  have f0 : q.tmod 4 = q % 4 := Int.tmod_eq_emod_of_nonneg h0
  have f4 := w64 (n := q % 4 + 1) (by omega)
  have f5 := w64 (n := q / 4 * 10) (by omega)
  have f6 := w64 (n := q % 4 * (q % 4 + 1)) (by omega)
  have f7 := w64 (n := q / 4 * 10 + q % 4 * (q % 4 + 1) / 2) (by unfold pb at hb; omega)
  have HP : Hid (q / 4 * 10 + q % 4 * (q % 4 + 1) / 2 = pb q) := Lib.hid rfl
  clear hb
  (go_enter Tryd.func51, Tryd.ntmps51)
  go_wp2
  go_ret
  first
  | exact ⟨ret_int HP.out, rfl⟩
  | (rw [← HP.out]; exact ⟨rfl, rfl⟩)
set_option maxHeartbeats 800000 in
theorem beBefore_any (q : Int) (h0 : 0 ≤ q) (h1 : q ≤ 100000000) (w : World) :
    Calls Tryd.prog 24 #[.int .i64 q] w fun e w' => e = .returned (.int .i64 (pb q)) ∧ w = w' := by
  have hb := pb_bd h0 h1
  obtain ⟨⟨a1, a2⟩, ⟨b1, b2⟩, ⟨c1, c2⟩⟩ := pb_parts h0 h1
  have f1 : IntKind.i64.wrap (q.tmod 4) = q % 4 := t64 h0 (by omega) (by omega)
  have f2 : IntKind.i64.wrap (q.tdiv 4) = q / 4 := q64 h0 (by omega) (by omega)
  have f3 : IntKind.i64.wrap ((q % 4 * (q % 4 + 1)).tdiv 2) = q % 4 * (q % 4 + 1) / 2 := q64 c1 (by omega) (by omega)
  have f0 : q.tmod 4 = q % 4 := Int.tmod_eq_emod_of_nonneg h0
  have f4 := w64 (n := q % 4 + 1) (by omega)
  have f5 := w64 (n := q / 4 * 10) (by omega)
  have f6 := w64 (n := q % 4 * (q % 4 + 1)) (by omega)
  have f7 := w64 (n := q / 4 * 10 + q % 4 * (q % 4 + 1) / 2) (by unfold pb at hb; omega)
  have HP : Hid (q / 4 * 10 + q % 4 * (q % 4 + 1) / 2 = pb q) := Lib.hid rfl
  clear hb
  (go_enter Tryd.func24, Tryd.ntmps24)
  go_wp2
  go_ret
  first
  | exact ⟨ret_int HP.out, rfl⟩
  | (rw [← HP.out]; exact ⟨rfl, rfl⟩)
end Go.Proofs.YtijnppomeoaebaaDoor
