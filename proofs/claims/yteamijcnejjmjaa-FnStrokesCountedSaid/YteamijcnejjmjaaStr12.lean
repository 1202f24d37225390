/- Lists that may be heard, and whether one is heard: by the program and by the model. -/
import Derived.Test.YteamijcnejjmjaaStr10
import Derived.Test.YteamijcnejjmjaaShelfA
set_option linter.unusedSimpArgs false
set_option linter.unusedVariables false
set_option maxRecDepth 100000
namespace Go.Proofs.Yteamijcnejjmjaa
open Go.ChangeShapes Go.WideShapes Go.ChangeAt Go.RowKit Go.Maps Go.Shelf

def hlB (L : List Int) : Bool := inB L.length 1 60 && L.all fun x => inB x 1 24
theorem hkB_dial {h : Int} {L : List Int} (e : inB h 2 24 = false) : heardB h L = false := by simp [heardB, e]
theorem hkB_list {h : Int} {L : List Int} (_ : inB h 2 24 = true) (e : hlB L = false) : heardB h L = false := by unfold hlB at e; simp [heardB, e]
theorem hkB_ok {h : Int} {L : List Int} (e1 : inB h 2 24 = true) (e : hlB L = true) : heardB h L = true := by unfold hlB at e; simp [heardB, e1, e]
theorem hlB_bd {L : List Int} (e : hlB L = true) : 1 ≤ L.length ∧ L.length ≤ 60 := by
  simp only [hlB, Bool.and_eq_true] at e
  have := inB_bd e.1
  omega
theorem notWithin (w : World) : PredAt Try.prog 57 #[] (Value.int .i64) (fun x : Int => !inB x 1 24) w := fun W x hb => by
  show Calls Try.prog 57 #[.int .i64 x] W _
  obtain ⟨r, hr⟩ : ∃ r, inB x 1 24 = r := ⟨_, rfl⟩
  have HR := Lib.hid hr
  simp only [hr]
  clear hr
  (go_enter Try.func57, Try.ntmps57)
  go_wp2_with fail
  refine (isWithin_is _ _ _ HR.out _).mono ?_
  (rintro e1 w1 ⟨rfl, rfl⟩)
  go_wp2
  go_ret
  exact ⟨rfl, 0, rfl⟩
set_option maxHeartbeats 1600000 in
theorem isHeardList_is {r : Bool} (L : List Int) (n : Nat) (hn : L.length = n) (a : Option Addr) (c : Nat) (hle : n ≤ 2000000) (hr : hlB L = r) (w : World) (h1 : IIn w a L) :
    Calls Try.prog 42 #[.slice a n c] w (fun e w' => e = .returned (.bool r) ∧ Below w.heap.size w w') := by
  have X1 := Lib.hid h1
  have HN := Lib.hid hn
  cases gb : inB n 1 60
  · have HM := Lib.hid (show false = r from by rw [← hr]; simp [hlB, hn, gb])
    clear h1 hr hn
    (go_enter Try.func42, Try.ntmps42)
    go_wp2_with fail
    refine (isWithin_is _ _ _ gb _).mono ?_
    (rintro e1 w1 ⟨rfl, rfl⟩)
    go_wp2
    go_ret
    exact ⟨ret_bool HM.out, Below.refl _ _⟩
  · obtain ⟨n1, n2⟩ := inB_bd gb
    obtain ⟨b, off, rfl, -, -⟩ := X1.out 0 (by omega)
    obtain ⟨q, hq⟩ : ∃ q, (L.take n).any (fun x : Int => !inB x 1 24) = q := ⟨_, rfl⟩
    have HM := Lib.hid (show (!q) = r from by
      rw [← hr, ← hq, List.take_of_length_le (by omega)]
      simp [hlB, hn, gb, List.all_eq_not_any_not])
    have HC : Hid (Calls Try.prog 56 #[.slice (some ⟨b, off, none⟩) n c, .func (.func 57) #[] #[]] w fun e w' => e = .returned (.bool q) ∧ ∃ q, w' = w.drewN q) := Lib.hid (by
      rw [← hq]
      exact AnyE.slices_ContainsFunc Try.containsI (Value.int .i64) (fun x : Int => !inB x 1 24) 57 #[] (enters_of Try.func57 (by kernel_rfl) rfl) b off n c L w (notWithin w) (by omega) (by omega) (fun j hj => by
        obtain ⟨b', o', e1, -, e2⟩ := X1.out j hj
        obtain ⟨rfl, rfl⟩ : b = b' ∧ off = o' := by simpa using e1
        rw [e2, List.getD_eq_getElem?_getD, List.getElem!_eq_getElem?_getD]; rfl))
    clear h1 hr hn hq
    (go_enter Try.func42, Try.ntmps42)
    go_wp2_with fail
    refine (isWithin_is _ _ _ gb _).mono ?_
    (rintro e1 w1 ⟨rfl, rfl⟩)
    go_wp2_with fail
    refine (HC.out).mono ?_
    rintro e1 w1 ⟨rfl, k, rfl⟩
    go_wp2
    go_ret
    exact ⟨ret_bool HM.out, below_drewN' (Below.refl _ w) k⟩

def isR (h : Int) (L : List Int) : Bool × Bool := if heardB h L then (decide (0 < (hvs h L).length), true) else (false, false)
theorem isR_no {h : Int} {L : List Int} (e : heardB h L = false) : (false, false) = isR h L := by simp [isR, e]
theorem isR_is {h : Int} {L : List Int} {b : Bool} (e : heardB h L = true) (eb : decide (0 < (hvs h L).length) = b) : (b, true) = isR h L := by simp [isR, e, eb]

end Go.Proofs.Yteamijcnejjmjaa
