/- Lists that may be heard, and whether one is heard: by the program and by the model. -/
import Derived.Test.YtmjakhnchabkaaaStr10
import Derived.Test.YtmjakhnchabkaaaShelfA
set_option linter.unusedSimpArgs false
set_option linter.unusedVariables false
set_option maxRecDepth 100000
namespace Go.Proofs.Ytmjakhnchabkaaa
open Go.ChangeShapes Go.WideShapes Go.ChangeAt Go.RowKit Go.Maps Go.Shelf

def hlB (L : List Int) : Bool := inB L.length 1 60 && L.all fun x => inB x 1 24
theorem hkB_dial {h : Int} {L : List Int} (e : inB h 2 24 = false) : heardB h L = false := by simp [heardB, e]
theorem hkB_list {h : Int} {L : List Int} (_ : inB h 2 24 = true) (e : hlB L = false) : heardB h L = false := by unfold hlB at e; simp [heardB, e]
theorem hkB_ok {h : Int} {L : List Int} (e1 : inB h 2 24 = true) (e : hlB L = true) : heardB h L = true := by unfold hlB at e; simp [heardB, e1, e]
theorem hlB_bd {L : List Int} (e : hlB L = true) : 1 ≤ L.length ∧ L.length ≤ 60 := by
  simp only [hlB, Bool.and_eq_true] at e
  have := inB_bd e.1
  omega
theorem notWithin (w : World) : PredAt Try.prog 86 #[] (Value.int .i64) (fun x : Int => !inB x 1 24) w := fun W x hb => by
  show Calls Try.prog 86 #[.int .i64 x] W _
  obtain ⟨r, hr⟩ : ∃ r, inB x 1 24 = r := ⟨_, rfl⟩
  have HR := Lib.hid hr
  simp only [hr]
  clear hr
  (go_enter Try.func86, Try.ntmps86)
  go_wp2_with fail
  refine (isWithin_is _ _ _ HR.out _).mono ?_
  (rintro e1 w1 ⟨rfl, rfl⟩)
  go_wp2
  go_ret
  exact ⟨rfl, 0, rfl⟩
set_option maxHeartbeats 1600000 in
theorem isHeardList_is {r : Bool} (L : List Int) (n : Nat) (hn : L.length = n) (a : Option Addr) (c : Nat) (hle : n ≤ 2000000) (hr : hlB L = r) (w : World) (h1 : IIn w a L) :
    Calls Try.prog 71 #[.slice a n c] w (fun e w' => e = .returned (.bool r) ∧ Below w.heap.size w w') := by
  have X1 := Lib.hid h1
  have HN := Lib.hid hn
  cases gb : inB n 1 60
  · have HM := Lib.hid (show false = r from by rw [← hr]; simp [hlB, hn, gb])
    clear h1 hr hn
    (go_enter Try.func71, Try.ntmps71)
    go_wp2_with fail
    refine (isWithin_is _ _ _ gb _).mono ?_
    (rintro e1 w1 ⟨rfl, rfl⟩)
    go_wp2
    go_ret
    exact ⟨ret_bool HM.out, Below.refl _ _⟩
  · obtain ⟨n1, n2⟩ := inB_bd gb
    obtain ⟨b, off, rfl, -, -⟩ := X1.out 0 (by omega)
    obtain ⟨q, hq⟩ : ∃ q, (L.take n).any (fun x : Int => !inB x 1 24) = q := ⟨_, rfl⟩
    have HM := Lib.hid (show (!q) = r from by
      rw [← hr, ← hq, List.take_of_length_le (by omega)]
      simp [hlB, hn, gb, List.all_eq_not_any_not])
    have HC : Hid (Calls Try.prog 85 #[.slice (some ⟨b, off, none⟩) n c, .func (.func 86) #[] #[]] w fun e w' => e = .returned (.bool q) ∧ ∃ q, w' = w.drewN q) := Lib.hid (by
      rw [← hq]
      exact AnyE.slices_ContainsFunc Try.containsI (Value.int .i64) (fun x : Int => !inB x 1 24) 86 #[] (enters_of Try.func86 (by kernel_rfl) rfl) b off n c L w (notWithin w) (by omega) (by omega) (fun j hj => by
        obtain ⟨b', o', e1, -, e2⟩ := X1.out j hj
        obtain ⟨rfl, rfl⟩ : b = b' ∧ off = o' := by simpa using e1
        rw [e2, List.getD_eq_getElem?_getD, List.getElem!_eq_getElem?_getD]; rfl))
    clear h1 hr hn hq
    (go_enter Try.func71, Try.ntmps71)
    go_wp2_with fail
    refine (isWithin_is _ _ _ gb _).mono ?_
    (rintro e1 w1 ⟨rfl, rfl⟩)
    go_wp2_with fail
    refine (HC.out).mono ?_
    rintro e1 w1 ⟨rfl, k, rfl⟩
    go_wp2
    go_ret
    exact ⟨ret_bool HM.out, below_drewN' (Below.refl _ w) k⟩

def isR (h : Int) (L : List Int) : Bool × Bool := if heardB h L then (decide (0 < (hvs h L).length), true) else (false, false)
theorem isR_no {h : Int} {L : List Int} (e : heardB h L = false) : (false, false) = isR h L := by simp [isR, e]
theorem isR_is {h : Int} {L : List Int} {b : Bool} (e : heardB h L = true) (eb : decide (0 < (hvs h L).length) = b) : (b, true) = isR h L := by simp [isR, e, eb]

set_option maxHeartbeats 1600000 in
theorem implIsHeard_any (h : Int) (L : List Int) (n : Nat) (hn : L.length = n) (a : Option Addr) (c : Nat) (hle : n ≤ 2000000) (w : World) (h1 : IIn w a L) :
    Calls Try.prog 36 #[.int .i64 h, .slice a n c] w (fun e w' => e = .returned (bv (isR h L)) ∧ Below w.heap.size w w') := by
  have X1 := Lib.hid h1
  have HN := Lib.hid hn
  clear h1 hn
  cases ga : inB h 2 24
  · have HM := Lib.hid (isR_no (h := h) (L := L) (hkB_dial ga))
    (go_enter Try.func36, Try.ntmps36)
    go_wp2_with fail
    refine (isDial_is _ ga _).mono ?_
    (rintro e1 w1 ⟨rfl, rfl⟩)
    go_wp2
    (refine bodyPost_ret (by simp [results, Try.results36, go_sem, *]; try rfl) rfl ?_)
    exact ⟨ret_bv HM.out, Below.refl _ _⟩
  · obtain ⟨r, hq⟩ : ∃ r, hlB L = r := ⟨_, rfl⟩
    have HQ := Lib.hid hq
    cases r
    · have HF := Lib.hid (hkB_list ga hq)
      clear hq
      have HM := Lib.hid (isR_no (h := h) (L := L) HF.out)
      (go_enter Try.func36, Try.ntmps36)
      go_wp2_with fail
      refine (isDial_is _ ga _).mono ?_
      (rintro e1 w1 ⟨rfl, rfl⟩)
      go_wp2_with fail
      refine (isHeardList_is L n HN.out a c hle HQ.out _ X1.out).mono ?_
      rintro e1 w1 ⟨rfl, hb1⟩
      have hz1 := hb1.size
      go_wp2
      (refine bodyPost_ret (by simp [results, Try.results36, go_sem, *]; try rfl) rfl ?_)
      exact ⟨ret_bv HM.out, hb1⟩
    · have hkB := Lib.hid (hkB_ok ga hq)
      have hh := inB_bd ga
      obtain ⟨l1, l2⟩ := hlB_bd hq
      rw [HN.out] at l1 l2
      clear hq
      (go_enter Try.func36, Try.ntmps36)
      go_wp2_with fail
      refine (isDial_is _ ga _).mono ?_
      (rintro e1 w1 ⟨rfl, rfl⟩)
      go_wp2_with fail
      refine (isHeardList_is L n HN.out a c hle HQ.out _ X1.out).mono ?_
      rintro e1 w1 ⟨rfl, hb1⟩
      have hz1 := hb1.size
      have X2 := Lib.hid (IIn.below X1.out hb1)
      go_wp2_with fail
      refine (halvesLeft_any h L n HN.out a c (by omega) hh _ X2.out).mono ?_
      rintro e2 w2 ⟨rfl, hm2, hb2⟩
      obtain ⟨nn, DD, ho, -, -, hsz⟩ := MapAt.size hm2
      have HO := Lib.hid ho
      have hB2 : Below w.heap.size w w2 := hb1.trans (hb2.mono hz1)
      clear hm2 ho
      have HM := Lib.hid (isR_is (b := decide (0 < Maps.size DD)) hkB.out (by rw [hsz]))
      clear hsz
      go_wp2_with (at_len; refine wpList_len_own _ rfl _ 55 rfl 3 4 mb_under _ (w1.heap.size + 1) nn DD rfl HO.out ?_)
      (refine bodyPost_ret (by simp [results, Try.results36, go_sem, *]; try rfl) rfl ?_)
      exact ⟨ret_bv HM.out, hB2⟩

set_option maxHeartbeats 1600000 in
theorem specIsHeard_any (h : Int) (L : List Int) (n : Nat) (hn : L.length = n) (a : Option Addr) (c : Nat) (hle : n ≤ 2000000) (w : World) (h1 : IIn w a L) :
    Calls Try.prog 35 #[.int .i64 h, .slice a n c] w (fun e w' => e = .returned (bv (isR h L)) ∧ Below w.heap.size w w') := by
  have X1 := Lib.hid h1
  have HN := Lib.hid hn
  clear h1 hn
  cases ga : heardB h L
  · have HM := Lib.hid (isR_no ga)
    (go_enter Try.func35, Try.ntmps35)
    go_wp2_with fail
    refine (stHeard_is h L n HN.out a c hle ga _ X1.out).mono ?_
    (rintro e1 w1 ⟨rfl, rfl⟩)
    go_wp2
    (refine bodyPost_ret (by simp [results, Try.results35, go_sem, *]; try rfl) rfl ?_)
    exact ⟨ret_bv HM.out, Below.refl _ _⟩
  · obtain ⟨hh, l1, l2⟩ := heardB_bd ga
    rw [HN.out] at l1 l2
    have HM := Lib.hid (isR_is ga rfl)
    (go_enter Try.func35, Try.ntmps35)
    go_wp2_with fail
    refine (stHeard_is h L n HN.out a c hle ga _ X1.out).mono ?_
    (rintro e1 w1 ⟨rfl, rfl⟩)
    go_wp2_with fail
    refine (stHalves_any h L n HN.out a c (by omega) hh _ X1.out).mono ?_
    rintro e1 w1 ⟨v1, rfl, hr1, hb1⟩
    obtain ⟨a1, c1, rfl, -, -, -⟩ := hr1.inn
    clear hr1
    generalize (hvs h L).length = m at *
    go_wp2
    (refine bodyPost_ret (by simp [results, Try.results35, go_sem, *]; try rfl) rfl ?_)
    exact ⟨ret_bv HM.out, hb1⟩

end Go.Proofs.Ytmjakhnchabkaaa
