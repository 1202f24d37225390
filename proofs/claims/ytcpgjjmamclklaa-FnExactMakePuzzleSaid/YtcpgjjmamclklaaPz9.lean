/- Puzzles: solutions, how many, the first one, whether there is one: by the program and by the model. -/
import Derived.Test.YtcpgjjmamclklaaPz8
set_option linter.unusedSimpArgs false
set_option linter.unusedVariables false
set_option maxRecDepth 100000
namespace Go.Proofs.Ytcpgjjmamclklaa
open Go.RowKit

abbrev jv9 (r : Int × Bool) : Value := .tuple #[.int .i64 r.1, .bool r.2]
theorem ret_jv9 {a b : Int × Bool} (h : a = b) : Ending.returned (jv9 a) = .returned (jv9 b) := by rw [h]
/-- What is handed back of the solutions. -/
def solR (h : Int) (L : List (Int × Int × Int)) : List Int × Bool := if okZ h L then (sol h L, true) else ([], false)
def cntR (h : Int) (L : List (Int × Int × Int)) : Int × Bool := if okZ h L then ((sol h L).length, true) else (0, false)
def oneR (h : Int) (L : List (Int × Int × Int)) : Bool × Bool := if okZ h L then (decide ((sol h L).length = 1), true) else (false, false)
def fstR (h : Int) (L : List (Int × Int × Int)) : Int × Bool := if okZ h L && !decide ((sol h L).length = 0) then ((sol h L).getD 0 0, true) else (0, false)
theorem solR_len (h : Int) (L : List (Int × Int × Int)) : (solR h L).1.length ≤ 2000000 := by
  unfold solR
  split
  · rename_i hok
    have := sol_len (okZ_bd hok).1.2 L
    show (sol h L).length ≤ _
    omega
  · simp
set_option maxHeartbeats 400000 in
theorem countSolutions_any (h : Int) (a : Option Addr) (c : Nat) (L : List (Int × Int × Int)) (hh : 2 ≤ h ∧ h ≤ 24) (hok : L.all (okC h) = true) (hl : L.length ≤ 1048576) (w : World) (hin : CIn w a L) :
    Calls Try.prog 79 #[pzv h (.slice a L.length c)] w fun e w' => e = .returned (.int .i64 (sol h L).length) ∧ Below w.heap.size w w' := by
  have HC := Lib.hid (fun W (hb : Below w.heap.size w W) => solutions_any h a c L hh hok hl W (hin.below hb))
  have hs := sol_len hh.2 L
  clear hin hok
  generalize sol h L = S at *
  (go_enter Try.func79, Try.ntmps79)
  go_wp2_with fail
  refine (HC.out _ (by (repeat' (first | (with_reducible exact Below.refl _ _) | (with_reducible assumption) | (with_reducible refine Below.alloc ?_ ?_ _) | (with_reducible refine Below.drew ?_) | (with_reducible refine below_drewN ?_ _) | (with_reducible refine Below.setCell ?_ ?_ _) | (with_reducible refine below_call ?_ ?_ (by assumption)) | go_size)))).mono ?_
  rintro e1 w1 ⟨v1, rfl, hr1, hb1⟩
  obtain ⟨a1, c1, rfl, -⟩ := hr1.inn
  clear hr1
  have hz1 := hb1.size
  simp only [World.size_alloc] at hz1
  go_wp2
  go_ret
  exact ⟨rfl, by (repeat' (first | (with_reducible exact Below.refl _ _) | (with_reducible assumption) | (with_reducible refine Below.alloc ?_ ?_ _) | (with_reducible refine Below.drew ?_) | (with_reducible refine below_drewN ?_ _) | (with_reducible refine Below.setCell ?_ ?_ _) | (with_reducible refine below_call ?_ ?_ (by assumption)) | go_size))⟩
set_option maxHeartbeats 400000 in
theorem isSolved_is {r : Bool} (h : Int) (a : Option Addr) (c : Nat) (L : List (Int × Int × Int)) (hh : 2 ≤ h ∧ h ≤ 24) (hok : L.all (okC h) = true) (hl : L.length ≤ 1048576) (hr : decide ((sol h L).length = 1) = r) (w : World) (hin : CIn w a L) :
    Calls Try.prog 86 #[pzv h (.slice a L.length c)] w fun e w' => e = .returned (.bool r) ∧ Below w.heap.size w w' := by
  subst hr
  have HC := Lib.hid (fun W (hb : Below w.heap.size w W) => countSolutions_any h a c L hh hok hl W (hin.below hb))
  have hs := sol_len hh.2 L
  clear hin hok
  generalize sol h L = S at *
  have HE : Hid (((S.length : Int) == 1) = decide (S.length = 1)) := Lib.hid (by rw [Bool.eq_iff_iff]; simp; omega)
  (go_enter Try.func86, Try.ntmps86)
  go_wp2_with fail
  refine (HC.out _ (by (repeat' (first | (with_reducible exact Below.refl _ _) | (with_reducible assumption) | (with_reducible refine Below.alloc ?_ ?_ _) | (with_reducible refine Below.drew ?_) | (with_reducible refine below_drewN ?_ _) | (with_reducible refine Below.setCell ?_ ?_ _) | (with_reducible refine below_call ?_ ?_ (by assumption)) | go_size)))).mono ?_
  (rintro e1 w1 ⟨rfl, hb1⟩; obtain ⟨hc1, hf1⟩ := bcell hb1; have hz1 := hb1.size; (try simp only [World.size_alloc, World.size_setCell, World.size_drew] at hz1); have q1 : w.heap.size ≤ w1.heap.size := (by omega); (try have q1_0 : w.heap.size < w1.heap.size := (by omega)); (try have q1_1 : w.heap.size + 1 < w1.heap.size := (by omega)); (try have q1_2 : w.heap.size + 2 < w1.heap.size := (by omega)); (try have q1_3 : w.heap.size + 3 < w1.heap.size := (by omega)))
  go_wp2
  go_ret
  exact ⟨zret_bool HE.out, by (repeat' (first | (with_reducible exact Below.refl _ _) | (with_reducible assumption) | (with_reducible refine Below.alloc ?_ ?_ _) | (with_reducible refine Below.drew ?_) | (with_reducible refine below_drewN ?_ _) | (with_reducible refine Below.setCell ?_ ?_ _) | (with_reducible refine below_call ?_ ?_ (by assumption)) | go_size))⟩
set_option maxHeartbeats 400000 in
theorem pzSolved_is {r : Bool} (h : Int) (a : Option Addr) (c : Nat) (L : List (Int × Int × Int)) (hh : 2 ≤ h ∧ h ≤ 24) (hok : L.all (okC h) = true) (hl : L.length ≤ 1048576) (hr : decide ((sol h L).length = 1) = r) (w : World) (hin : CIn w a L) :
    Calls Try.prog 84 #[.int .i64 h, .slice a L.length c] w fun e w' => e = .returned (.bool r) ∧ Below w.heap.size w w' := by
  subst hr
  have HC := Lib.hid (pzAll_any h a c L hh hok hl w hin)
  have hs := sol_len hh.2 L
  clear hin hok
  generalize sol h L = S at *
  have HE : Hid (((S.length : Int) == 1) = decide (S.length = 1)) := Lib.hid (by rw [Bool.eq_iff_iff]; simp; omega)
  (go_enter Try.func84, Try.ntmps84)
  go_wp2_with fail
  refine HC.out.mono ?_
  rintro e1 w1 ⟨v1, rfl, hr1, hb1⟩
  obtain ⟨a1, c1, rfl, -⟩ := hr1.inn
  clear hr1
  go_wp2
  go_ret
  exact ⟨zret_bool HE.out, by (repeat' (first | (with_reducible exact Below.refl _ _) | (with_reducible assumption) | (with_reducible refine Below.alloc ?_ ?_ _) | (with_reducible refine Below.drew ?_) | (with_reducible refine below_drewN ?_ _) | (with_reducible refine Below.setCell ?_ ?_ _) | (with_reducible refine below_call ?_ ?_ (by assumption)) | go_size))⟩
set_option maxHeartbeats 800000 in
theorem tellSolutions_any (h : Int) (a : Option Addr) (c : Nat) (L : List (Int × Int × Int)) (hm : L.length ≤ maxLen) (w : World) (hin : CIn w a L) :
    Calls Try.prog 75 #[pzv h (.slice a L.length c), .func (.func 76) #[] #[]] w fun e w' => ∃ v, e = .returned (.tuple #[v, .bool (solR h L).2]) ∧ IRow w' w.heap.size v (solR h L).1 ∧ Below w.heap.size w w' := by
  have HC := Lib.hid (fun W (hb : Below w.heap.size w W) => openPuzzle_any h a c L hm W (hin.below hb))
  clear hin
  (go_enter Try.func75, Try.ntmps75)
  go_wp2_with fail
  refine (HC.out _ (by (repeat' (first | (with_reducible exact Below.refl _ _) | (with_reducible assumption) | (with_reducible refine Below.alloc ?_ ?_ _) | (with_reducible refine Below.drew ?_) | (with_reducible refine below_drewN ?_ _) | (with_reducible refine Below.setCell ?_ ?_ _) | (with_reducible refine below_call ?_ ?_ (by assumption)) | go_size)))).mono ?_
  rintro e1 w1 ⟨hb1, ⟨hok, v, rfl, hr⟩ | ⟨hok, rfl⟩⟩
  · obtain ⟨hh, hl6, hall⟩ := okZ_bd hok
    obtain ⟨a1, c1, rfl, hi1, hcap, hcmx⟩ := hr.inn
    have HM := Lib.hid hok
    have HI := Lib.hid hi1
    have hz1 := hb1.size
    simp only [World.size_alloc] at hz1
    obtain ⟨hc1, hf1⟩ := bcell hb1
    clear hr hok hi1
    go_wp2_with fail
    refine (solutions_any h a1 c1 L hh hall (by omega) _ (HI.out.below (by (repeat' (first | (with_reducible exact Below.refl _ _) | (with_reducible assumption) | (with_reducible refine Below.alloc ?_ ?_ _) | (with_reducible refine Below.drew ?_) | (with_reducible refine below_drewN ?_ _) | (with_reducible refine Below.setCell ?_ ?_ _) | (with_reducible refine below_call ?_ ?_ (by assumption)) | go_size))))).mono ?_
    rintro e2 w2 ⟨v2, rfl, hr2, hb2⟩
    have HR := Lib.hid (hr2.mono (show w.heap.size ≤ _ by simp; omega))
    clear hr2
    have hz2 := hb2.size
    simp only [World.size_alloc] at hz2
    go_wp2
    (refine bodyPost_ret (by simp [results, Try.results75, go_sem, *]; try rfl) rfl ?_)
    rw [show solR h L = (sol h L, true) from by simp [solR, HM.out]]
    exact ⟨_, rfl, HR.out, by (repeat' (first | (with_reducible exact Below.refl _ _) | (with_reducible assumption) | (with_reducible refine Below.alloc ?_ ?_ _) | (with_reducible refine Below.drew ?_) | (with_reducible refine below_drewN ?_ _) | (with_reducible refine Below.setCell ?_ ?_ _) | (with_reducible refine below_call ?_ ?_ (by assumption)) | go_size))⟩
  · have HM := Lib.hid hok
    have hz1 := hb1.size
    simp only [World.size_alloc] at hz1
    clear hok
    go_wp2
    (refine bodyPost_ret (by simp [results, Try.results75, go_sem, *]; try rfl) rfl ?_)
    rw [show solR h L = ([], false) from by simp [solR, HM.out]]
    exact ⟨_, rfl, IRow.nil _ _, by (repeat' (first | (with_reducible exact Below.refl _ _) | (with_reducible assumption) | (with_reducible refine Below.alloc ?_ ?_ _) | (with_reducible refine Below.drew ?_) | (with_reducible refine below_drewN ?_ _) | (with_reducible refine Below.setCell ?_ ?_ _) | (with_reducible refine below_call ?_ ?_ (by assumption)) | go_size))⟩
set_option maxHeartbeats 800000 in
theorem implSolutions_any (h : Int) (a : Option Addr) (c : Nat) (L : List (Int × Int × Int)) (hm : L.length ≤ maxLen) (w : World) (hin : CIn w a L) :
    Calls Try.prog 29 #[pzv h (.slice a L.length c)] w fun e w' => ∃ v, e = .returned (.tuple #[v, .bool (solR h L).2]) ∧ IRow w' w.heap.size v (solR h L).1 ∧ Below w.heap.size w w' := by
  have HC := Lib.hid (fun W (hb : Below w.heap.size w W) => tellSolutions_any h a c L hm W (hin.below hb))
  clear hin
  (go_enter Try.func29, Try.ntmps29)
  go_wp2_with fail
  refine (HC.out _ (by (repeat' (first | (with_reducible exact Below.refl _ _) | (with_reducible assumption) | (with_reducible refine Below.alloc ?_ ?_ _) | (with_reducible refine Below.drew ?_) | (with_reducible refine below_drewN ?_ _) | (with_reducible refine Below.setCell ?_ ?_ _) | (with_reducible refine below_call ?_ ?_ (by assumption)) | go_size)))).mono ?_
  rintro e1 w1 ⟨v1, rfl, hr1, hb1⟩
  have HR := Lib.hid (hr1.mono (show w.heap.size ≤ _ by simp))
  clear hr1
  have hz1 := hb1.size
  simp only [World.size_alloc] at hz1
  go_wp2
  (refine bodyPost_ret (by simp [results, Try.results29, go_sem, *]; try rfl) rfl ?_)
  exact ⟨_, rfl, HR.out, by (repeat' (first | (with_reducible exact Below.refl _ _) | (with_reducible assumption) | (with_reducible refine Below.alloc ?_ ?_ _) | (with_reducible refine Below.drew ?_) | (with_reducible refine below_drewN ?_ _) | (with_reducible refine Below.setCell ?_ ?_ _) | (with_reducible refine below_call ?_ ?_ (by assumption)) | go_size))⟩
set_option maxHeartbeats 800000 in
theorem tellCount_any (h : Int) (a : Option Addr) (c : Nat) (L : List (Int × Int × Int)) (hm : L.length ≤ maxLen) (w : World) (hin : CIn w a L) :
    Calls Try.prog 78 #[pzv h (.slice a L.length c), .func (.func 79) #[] #[]] w fun e w' => e = .returned (jv9 (cntR h L)) ∧ Below w.heap.size w w' := by
  have HC := Lib.hid (fun W (hb : Below w.heap.size w W) => openPuzzle_any h a c L hm W (hin.below hb))
  clear hin
  (go_enter Try.func78, Try.ntmps78)
  go_wp2_with fail
  refine (HC.out _ (by (repeat' (first | (with_reducible exact Below.refl _ _) | (with_reducible assumption) | (with_reducible refine Below.alloc ?_ ?_ _) | (with_reducible refine Below.drew ?_) | (with_reducible refine below_drewN ?_ _) | (with_reducible refine Below.setCell ?_ ?_ _) | (with_reducible refine below_call ?_ ?_ (by assumption)) | go_size)))).mono ?_
  rintro e1 w1 ⟨hb1, ⟨hok, v, rfl, hr⟩ | ⟨hok, rfl⟩⟩
  · obtain ⟨hh, hl6, hall⟩ := okZ_bd hok
    obtain ⟨a1, c1, rfl, hi1, hcap, hcmx⟩ := hr.inn
    have HM := Lib.hid hok
    have HI := Lib.hid hi1
    have hz1 := hb1.size
    simp only [World.size_alloc] at hz1
    obtain ⟨hc1, hf1⟩ := bcell hb1
    clear hr hok hi1
    go_wp2_with fail
    refine (countSolutions_any h a1 c1 L hh hall (by omega) _ (HI.out.below (by (repeat' (first | (with_reducible exact Below.refl _ _) | (with_reducible assumption) | (with_reducible refine Below.alloc ?_ ?_ _) | (with_reducible refine Below.drew ?_) | (with_reducible refine below_drewN ?_ _) | (with_reducible refine Below.setCell ?_ ?_ _) | (with_reducible refine below_call ?_ ?_ (by assumption)) | go_size))))).mono ?_
    rintro e2 w2 ⟨rfl, hb2⟩
    have hz2 := hb2.size
    simp only [World.size_alloc] at hz2
    go_wp2
    (refine bodyPost_ret (by simp [results, Try.results78, go_sem, *]; try rfl) rfl ?_)
    exact ⟨ret_jv9 (a := ((sol h L).length, true)) (b := cntR h L) (by simp [cntR, HM.out]), by (repeat' (first | (with_reducible exact Below.refl _ _) | (with_reducible assumption) | (with_reducible refine Below.alloc ?_ ?_ _) | (with_reducible refine Below.drew ?_) | (with_reducible refine below_drewN ?_ _) | (with_reducible refine Below.setCell ?_ ?_ _) | (with_reducible refine below_call ?_ ?_ (by assumption)) | go_size))⟩
  · have HM := Lib.hid hok
    have hz1 := hb1.size
    simp only [World.size_alloc] at hz1
    clear hok
    go_wp2
    (refine bodyPost_ret (by simp [results, Try.results78, go_sem, *]; try rfl) rfl ?_)
    exact ⟨ret_jv9 (b := cntR h L) (a := (0, false)) (by simp [cntR, HM.out]), by (repeat' (first | (with_reducible exact Below.refl _ _) | (with_reducible assumption) | (with_reducible refine Below.alloc ?_ ?_ _) | (with_reducible refine Below.drew ?_) | (with_reducible refine below_drewN ?_ _) | (with_reducible refine Below.setCell ?_ ?_ _) | (with_reducible refine below_call ?_ ?_ (by assumption)) | go_size))⟩
set_option maxHeartbeats 800000 in
theorem implCountSolutions_any (h : Int) (a : Option Addr) (c : Nat) (L : List (Int × Int × Int)) (hm : L.length ≤ maxLen) (w : World) (hin : CIn w a L) :
    Calls Try.prog 35 #[pzv h (.slice a L.length c)] w fun e w' => e = .returned (jv9 (cntR h L)) ∧ Below w.heap.size w w' := by
  have HC := Lib.hid (fun W (hb : Below w.heap.size w W) => tellCount_any h a c L hm W (hin.below hb))
  clear hin
  (go_enter Try.func35, Try.ntmps35)
  go_wp2_with fail
  refine (HC.out _ (by (repeat' (first | (with_reducible exact Below.refl _ _) | (with_reducible assumption) | (with_reducible refine Below.alloc ?_ ?_ _) | (with_reducible refine Below.drew ?_) | (with_reducible refine below_drewN ?_ _) | (with_reducible refine Below.setCell ?_ ?_ _) | (with_reducible refine below_call ?_ ?_ (by assumption)) | go_size)))).mono ?_
  rintro e1 w1 ⟨rfl, hb1⟩
  have hz1 := hb1.size
  simp only [World.size_alloc] at hz1
  go_wp2
  (refine bodyPost_ret (by simp [results, Try.results35, go_sem, *]; try rfl) rfl ?_)
  exact ⟨rfl, by (repeat' (first | (with_reducible exact Below.refl _ _) | (with_reducible assumption) | (with_reducible refine Below.alloc ?_ ?_ _) | (with_reducible refine Below.drew ?_) | (with_reducible refine below_drewN ?_ _) | (with_reducible refine Below.setCell ?_ ?_ _) | (with_reducible refine below_call ?_ ?_ (by assumption)) | go_size))⟩
set_option maxHeartbeats 800000 in
theorem tellSolved_any (h : Int) (a : Option Addr) (c : Nat) (L : List (Int × Int × Int)) (hm : L.length ≤ maxLen) (w : World) (hin : CIn w a L) :
    Calls Try.prog 85 #[pzv h (.slice a L.length c), .func (.func 86) #[] #[]] w fun e w' => e = .returned (bbv (oneR h L)) ∧ Below w.heap.size w w' := by
  have HC := Lib.hid (fun W (hb : Below w.heap.size w W) => openPuzzle_any h a c L hm W (hin.below hb))
  clear hin
  (go_enter Try.func85, Try.ntmps85)
  go_wp2_with fail
  refine (HC.out _ (by (repeat' (first | (with_reducible exact Below.refl _ _) | (with_reducible assumption) | (with_reducible refine Below.alloc ?_ ?_ _) | (with_reducible refine Below.drew ?_) | (with_reducible refine below_drewN ?_ _) | (with_reducible refine Below.setCell ?_ ?_ _) | (with_reducible refine below_call ?_ ?_ (by assumption)) | go_size)))).mono ?_
  rintro e1 w1 ⟨hb1, ⟨hok, v, rfl, hr⟩ | ⟨hok, rfl⟩⟩
  · obtain ⟨hh, hl6, hall⟩ := okZ_bd hok
    obtain ⟨a1, c1, rfl, hi1, hcap, hcmx⟩ := hr.inn
    have HM := Lib.hid hok
    have HI := Lib.hid hi1
    have hz1 := hb1.size
    simp only [World.size_alloc] at hz1
    obtain ⟨hc1, hf1⟩ := bcell hb1
    clear hr hok hi1
    go_wp2_with fail
    refine (isSolved_is h a1 c1 L hh hall (by omega) rfl _ (HI.out.below (by (repeat' (first | (with_reducible exact Below.refl _ _) | (with_reducible assumption) | (with_reducible refine Below.alloc ?_ ?_ _) | (with_reducible refine Below.drew ?_) | (with_reducible refine below_drewN ?_ _) | (with_reducible refine Below.setCell ?_ ?_ _) | (with_reducible refine below_call ?_ ?_ (by assumption)) | go_size))))).mono ?_
    rintro e2 w2 ⟨rfl, hb2⟩
    have hz2 := hb2.size
    simp only [World.size_alloc] at hz2
    go_wp2
    (refine bodyPost_ret (by simp [results, Try.results85, go_sem, *]; try rfl) rfl ?_)
    exact ⟨ret_bbv (a := (decide ((sol h L).length = 1), true)) (b := oneR h L) (by simp [oneR, HM.out]), by (repeat' (first | (with_reducible exact Below.refl _ _) | (with_reducible assumption) | (with_reducible refine Below.alloc ?_ ?_ _) | (with_reducible refine Below.drew ?_) | (with_reducible refine below_drewN ?_ _) | (with_reducible refine Below.setCell ?_ ?_ _) | (with_reducible refine below_call ?_ ?_ (by assumption)) | go_size))⟩
  · have HM := Lib.hid hok
    have hz1 := hb1.size
    simp only [World.size_alloc] at hz1
    clear hok
    go_wp2
    (refine bodyPost_ret (by simp [results, Try.results85, go_sem, *]; try rfl) rfl ?_)
    exact ⟨ret_bbv (b := oneR h L) (a := (false, false)) (by simp [oneR, HM.out]), by (repeat' (first | (with_reducible exact Below.refl _ _) | (with_reducible assumption) | (with_reducible refine Below.alloc ?_ ?_ _) | (with_reducible refine Below.drew ?_) | (with_reducible refine below_drewN ?_ _) | (with_reducible refine Below.setCell ?_ ?_ _) | (with_reducible refine below_call ?_ ?_ (by assumption)) | go_size))⟩
set_option maxHeartbeats 800000 in
theorem implIsSolved_any (h : Int) (a : Option Addr) (c : Nat) (L : List (Int × Int × Int)) (hm : L.length ≤ maxLen) (w : World) (hin : CIn w a L) :
    Calls Try.prog 44 #[pzv h (.slice a L.length c)] w fun e w' => e = .returned (bbv (oneR h L)) ∧ Below w.heap.size w w' := by
  have HC := Lib.hid (fun W (hb : Below w.heap.size w W) => tellSolved_any h a c L hm W (hin.below hb))
  clear hin
  (go_enter Try.func44, Try.ntmps44)
  go_wp2_with fail
  refine (HC.out _ (by (repeat' (first | (with_reducible exact Below.refl _ _) | (with_reducible assumption) | (with_reducible refine Below.alloc ?_ ?_ _) | (with_reducible refine Below.drew ?_) | (with_reducible refine below_drewN ?_ _) | (with_reducible refine Below.setCell ?_ ?_ _) | (with_reducible refine below_call ?_ ?_ (by assumption)) | go_size)))).mono ?_
  rintro e1 w1 ⟨rfl, hb1⟩
  have hz1 := hb1.size
  simp only [World.size_alloc] at hz1
  go_wp2
  (refine bodyPost_ret (by simp [results, Try.results44, go_sem, *]; try rfl) rfl ?_)
  exact ⟨rfl, by (repeat' (first | (with_reducible exact Below.refl _ _) | (with_reducible assumption) | (with_reducible refine Below.alloc ?_ ?_ _) | (with_reducible refine Below.drew ?_) | (with_reducible refine below_drewN ?_ _) | (with_reducible refine Below.setCell ?_ ?_ _) | (with_reducible refine below_call ?_ ?_ (by assumption)) | go_size))⟩
theorem fstR_solR (h : Int) (L : List (Int × Int × Int)) : fstR h L = if (solR h L).1.length = 0 then (0, false) else ((solR h L).1.getD 0 0, true) := by
  unfold fstR solR
  cases okZ h L
  · simp
  · by_cases hz : (sol h L).length = 0
    · simp [hz]
    · simp [hz]
set_option maxHeartbeats 800000 in
theorem implFirstSolution_any (h : Int) (a : Option Addr) (c : Nat) (L : List (Int × Int × Int)) (hm : L.length ≤ maxLen) (w : World) (hin : CIn w a L) :
    Calls Try.prog 37 #[pzv h (.slice a L.length c)] w fun e w' => e = .returned (jv9 (fstR h L)) ∧ Below w.heap.size w w' := by
  have HC := Lib.hid (fun W (hb : Below w.heap.size w W) => implSolutions_any h a c L hm W (hin.below hb))
  have HS := Lib.hid (fstR_solR h L)
  have hln := solR_len h L
  clear hin
  generalize fstR h L = R at *
  generalize solR h L = SR at *
  obtain ⟨S, ok⟩ := SR
  simp only at HC HS hln
  (go_enter Try.func37, Try.ntmps37)
  go_wp2_with fail
  refine (HC.out _ (by (repeat' (first | (with_reducible exact Below.refl _ _) | (with_reducible assumption) | (with_reducible refine Below.alloc ?_ ?_ _) | (with_reducible refine Below.drew ?_) | (with_reducible refine below_drewN ?_ _) | (with_reducible refine Below.setCell ?_ ?_ _) | (with_reducible refine below_call ?_ ?_ (by assumption)) | go_size)))).mono ?_
  rintro e1 w1 ⟨v1, rfl, hr1, hb1⟩
  obtain ⟨a1, c1, rfl, hi1, -⟩ := hr1.inn
  have hz1 := hb1.size
  simp only [World.size_alloc] at hz1
  clear hr1
  by_cases hz : S.length = 0
  · have HM := Lib.hid (show (0, false) = R from by rw [HS.out, if_pos hz])
    have hz' : ((S.length : Int) == 0) = true := by rw [beq_iff_eq]; omega
    go_wp2
    (refine bodyPost_ret (by simp [results, Try.results37, go_sem, *]; try rfl) rfl ?_)
    exact ⟨ret_jv9 HM.out, by (repeat' (first | (with_reducible exact Below.refl _ _) | (with_reducible assumption) | (with_reducible refine Below.alloc ?_ ?_ _) | (with_reducible refine Below.drew ?_) | (with_reducible refine below_drewN ?_ _) | (with_reducible refine Below.setCell ?_ ?_ _) | (with_reducible refine below_call ?_ ?_ (by assumption)) | go_size))⟩
  · have HM := Lib.hid (show (S.getD 0 0, true) = R from by rw [HS.out, if_neg hz])
    have hz' : ((S.length : Int) == 0) = false := by rw [beq_eq_false_iff_ne]; omega
    obtain ⟨b, off, rfl, l1, y1⟩ := hi1 0 (by omega)
    have y2 : w1.cell? ⟨b, off, none⟩ = some (.int .i64 (S.getD 0 0)) := by simpa using y1
    clear y1 hi1
    generalize S.getD 0 0 = s at *
    have hs0 : (0 : Int) < (S.length : Int) := by omega
    go_wp2
    (refine bodyPost_ret (by simp [results, Try.results37, go_sem, *]; try rfl) rfl ?_)
    exact ⟨ret_jv9 HM.out, by (repeat' (first | (with_reducible exact Below.refl _ _) | (with_reducible assumption) | (with_reducible refine Below.alloc ?_ ?_ _) | (with_reducible refine Below.drew ?_) | (with_reducible refine below_drewN ?_ _) | (with_reducible refine Below.setCell ?_ ?_ _) | (with_reducible refine below_call ?_ ?_ (by assumption)) | go_size))⟩
set_option maxHeartbeats 1600000 in
theorem specSolutions_any (h : Int) (a : Option Addr) (c : Nat) (L : List (Int × Int × Int)) (hm : L.length ≤ maxLen) (w : World) (hin : CIn w a L) :
    Calls Try.prog 28 #[pzv h (.slice a L.length c)] w fun e w' => ∃ v, e = .returned (.tuple #[v, .bool (solR h L).2]) ∧ IRow w' w.heap.size v (solR h L).1 ∧ Below w.heap.size w w' := by
  have HX := Lib.hid (fun W (hb : Below w.heap.size w W) => hin.below hb)
  cases hok : okZ h L
  · have HC := Lib.hid (fun W (hb : Below w.heap.size w W) => pzGood_is h a c L hm hok W (hin.below hb))
    have HM := Lib.hid hok
    clear hin hok
    (go_enter Try.func28, Try.ntmps28)
    go_wp2_with fail
    refine (HC.out _ (by (repeat' (first | (with_reducible exact Below.refl _ _) | (with_reducible assumption) | (with_reducible refine Below.alloc ?_ ?_ _) | (with_reducible refine Below.drew ?_) | (with_reducible refine below_drewN ?_ _) | (with_reducible refine Below.setCell ?_ ?_ _) | (with_reducible refine below_call ?_ ?_ (by assumption)) | go_size)))).mono ?_
    (rintro e1 w1 ⟨rfl, hb1⟩; obtain ⟨hc1, hf1⟩ := bcell hb1; have hz1 := hb1.size; (try simp only [World.size_alloc, World.size_setCell, World.size_drew] at hz1); have q1 : w.heap.size ≤ w1.heap.size := (by omega); (try have q1_0 : w.heap.size < w1.heap.size := (by omega)); (try have q1_1 : w.heap.size + 1 < w1.heap.size := (by omega)); (try have q1_2 : w.heap.size + 2 < w1.heap.size := (by omega)); (try have q1_3 : w.heap.size + 3 < w1.heap.size := (by omega)))
    go_wp2
    (refine bodyPost_ret (by simp [results, Try.results28, go_sem, *]; try rfl) rfl ?_)
    rw [show solR h L = ([], false) from by simp [solR, HM.out]]
    exact ⟨_, rfl, IRow.nil _ _, by (repeat' (first | (with_reducible exact Below.refl _ _) | (with_reducible assumption) | (with_reducible refine Below.alloc ?_ ?_ _) | (with_reducible refine Below.drew ?_) | (with_reducible refine below_drewN ?_ _) | (with_reducible refine Below.setCell ?_ ?_ _) | (with_reducible refine below_call ?_ ?_ (by assumption)) | go_size))⟩
  · have HC := Lib.hid (fun W (hb : Below w.heap.size w W) => pzGood_is h a c L hm hok W (hin.below hb))
    have HM := Lib.hid hok
    obtain ⟨hh, hl6, hall⟩ := okZ_bd hok
    clear hin hok
    (go_enter Try.func28, Try.ntmps28)
    go_wp2_with fail
    refine (HC.out _ (by (repeat' (first | (with_reducible exact Below.refl _ _) | (with_reducible assumption) | (with_reducible refine Below.alloc ?_ ?_ _) | (with_reducible refine Below.drew ?_) | (with_reducible refine below_drewN ?_ _) | (with_reducible refine Below.setCell ?_ ?_ _) | (with_reducible refine below_call ?_ ?_ (by assumption)) | go_size)))).mono ?_
    (rintro e1 w1 ⟨rfl, hb1⟩; obtain ⟨hc1, hf1⟩ := bcell hb1; have hz1 := hb1.size; (try simp only [World.size_alloc, World.size_setCell, World.size_drew] at hz1); have q1 : w.heap.size ≤ w1.heap.size := (by omega); (try have q1_0 : w.heap.size < w1.heap.size := (by omega)); (try have q1_1 : w.heap.size + 1 < w1.heap.size := (by omega)); (try have q1_2 : w.heap.size + 2 < w1.heap.size := (by omega)); (try have q1_3 : w.heap.size + 3 < w1.heap.size := (by omega)))
    go_wp2_with fail
    refine (pzAll_any h a c L hh hall (by omega) _ (HX.out _ (by (repeat' (first | (with_reducible exact Below.refl _ _) | (with_reducible assumption) | (with_reducible refine Below.alloc ?_ ?_ _) | (with_reducible refine Below.drew ?_) | (with_reducible refine below_drewN ?_ _) | (with_reducible refine Below.setCell ?_ ?_ _) | (with_reducible refine below_call ?_ ?_ (by assumption)) | go_size))))).mono ?_
    rintro e2 w2 ⟨v2, rfl, hr2, hb2⟩
    have hz2 := hb2.size
    obtain ⟨hc2, hf2⟩ := bcell hb2
    have HR := Lib.hid (hr2.mono (show w.heap.size ≤ _ by omega))
    clear hr2
    go_wp2
    (refine bodyPost_ret (by simp [results, Try.results28, go_sem, *]; try rfl) rfl ?_)
    rw [show solR h L = (sol h L, true) from by simp [solR, HM.out]]
    exact ⟨_, rfl, HR.out, by (repeat' (first | (with_reducible exact Below.refl _ _) | (with_reducible assumption) | (with_reducible refine Below.alloc ?_ ?_ _) | (with_reducible refine Below.drew ?_) | (with_reducible refine below_drewN ?_ _) | (with_reducible refine Below.setCell ?_ ?_ _) | (with_reducible refine below_call ?_ ?_ (by assumption)) | go_size))⟩
set_option maxHeartbeats 1600000 in
theorem specCountSolutions_any (h : Int) (a : Option Addr) (c : Nat) (L : List (Int × Int × Int)) (hm : L.length ≤ maxLen) (w : World) (hin : CIn w a L) :
    Calls Try.prog 34 #[pzv h (.slice a L.length c)] w fun e w' => e = .returned (jv9 (cntR h L)) ∧ Below w.heap.size w w' := by
  have HX := Lib.hid (fun W (hb : Below w.heap.size w W) => hin.below hb)
  cases hok : okZ h L
  · have HC := Lib.hid (fun W (hb : Below w.heap.size w W) => pzGood_is h a c L hm hok W (hin.below hb))
    have HM := Lib.hid hok
    clear hin hok
    (go_enter Try.func34, Try.ntmps34)
    go_wp2_with fail
    refine (HC.out _ (by (repeat' (first | (with_reducible exact Below.refl _ _) | (with_reducible assumption) | (with_reducible refine Below.alloc ?_ ?_ _) | (with_reducible refine Below.drew ?_) | (with_reducible refine below_drewN ?_ _) | (with_reducible refine Below.setCell ?_ ?_ _) | (with_reducible refine below_call ?_ ?_ (by assumption)) | go_size)))).mono ?_
    (rintro e1 w1 ⟨rfl, hb1⟩; obtain ⟨hc1, hf1⟩ := bcell hb1; have hz1 := hb1.size; (try simp only [World.size_alloc, World.size_setCell, World.size_drew] at hz1); have q1 : w.heap.size ≤ w1.heap.size := (by omega); (try have q1_0 : w.heap.size < w1.heap.size := (by omega)); (try have q1_1 : w.heap.size + 1 < w1.heap.size := (by omega)); (try have q1_2 : w.heap.size + 2 < w1.heap.size := (by omega)); (try have q1_3 : w.heap.size + 3 < w1.heap.size := (by omega)))
    go_wp2
    (refine bodyPost_ret (by simp [results, Try.results34, go_sem, *]; try rfl) rfl ?_)
    exact ⟨ret_jv9 (b := cntR h L) (a := (0, false)) (by simp [cntR, HM.out]), by (repeat' (first | (with_reducible exact Below.refl _ _) | (with_reducible assumption) | (with_reducible refine Below.alloc ?_ ?_ _) | (with_reducible refine Below.drew ?_) | (with_reducible refine below_drewN ?_ _) | (with_reducible refine Below.setCell ?_ ?_ _) | (with_reducible refine below_call ?_ ?_ (by assumption)) | go_size))⟩
  · have HC := Lib.hid (fun W (hb : Below w.heap.size w W) => pzGood_is h a c L hm hok W (hin.below hb))
    have HM := Lib.hid hok
    obtain ⟨hh, hl6, hall⟩ := okZ_bd hok
    clear hin hok
    (go_enter Try.func34, Try.ntmps34)
    go_wp2_with fail
    refine (HC.out _ (by (repeat' (first | (with_reducible exact Below.refl _ _) | (with_reducible assumption) | (with_reducible refine Below.alloc ?_ ?_ _) | (with_reducible refine Below.drew ?_) | (with_reducible refine below_drewN ?_ _) | (with_reducible refine Below.setCell ?_ ?_ _) | (with_reducible refine below_call ?_ ?_ (by assumption)) | go_size)))).mono ?_
    (rintro e1 w1 ⟨rfl, hb1⟩; obtain ⟨hc1, hf1⟩ := bcell hb1; have hz1 := hb1.size; (try simp only [World.size_alloc, World.size_setCell, World.size_drew] at hz1); have q1 : w.heap.size ≤ w1.heap.size := (by omega); (try have q1_0 : w.heap.size < w1.heap.size := (by omega)); (try have q1_1 : w.heap.size + 1 < w1.heap.size := (by omega)); (try have q1_2 : w.heap.size + 2 < w1.heap.size := (by omega)); (try have q1_3 : w.heap.size + 3 < w1.heap.size := (by omega)))
    have hs := sol_len hh.2 L
    go_wp2_with fail
    refine (pzAll_any h a c L hh hall (by omega) _ (HX.out _ (by (repeat' (first | (with_reducible exact Below.refl _ _) | (with_reducible assumption) | (with_reducible refine Below.alloc ?_ ?_ _) | (with_reducible refine Below.drew ?_) | (with_reducible refine below_drewN ?_ _) | (with_reducible refine Below.setCell ?_ ?_ _) | (with_reducible refine below_call ?_ ?_ (by assumption)) | go_size))))).mono ?_
    rintro e2 w2 ⟨v2, rfl, hr2, hb2⟩
    have hz2 := hb2.size
    obtain ⟨hc2, hf2⟩ := bcell hb2
    obtain ⟨a2, c2, rfl, -⟩ := hr2.inn
    clear hr2
    go_wp2
    (refine bodyPost_ret (by simp [results, Try.results34, go_sem, *]; try rfl) rfl ?_)
    exact ⟨ret_jv9 (a := ((sol h L).length, true)) (b := cntR h L) (by simp [cntR, HM.out]), by (repeat' (first | (with_reducible exact Below.refl _ _) | (with_reducible assumption) | (with_reducible refine Below.alloc ?_ ?_ _) | (with_reducible refine Below.drew ?_) | (with_reducible refine below_drewN ?_ _) | (with_reducible refine Below.setCell ?_ ?_ _) | (with_reducible refine below_call ?_ ?_ (by assumption)) | go_size))⟩
set_option maxHeartbeats 1600000 in
theorem specIsSolved_any (h : Int) (a : Option Addr) (c : Nat) (L : List (Int × Int × Int)) (hm : L.length ≤ maxLen) (w : World) (hin : CIn w a L) :
    Calls Try.prog 43 #[pzv h (.slice a L.length c)] w fun e w' => e = .returned (bbv (oneR h L)) ∧ Below w.heap.size w w' := by
  have HX := Lib.hid (fun W (hb : Below w.heap.size w W) => hin.below hb)
  cases hok : okZ h L
  · have HC := Lib.hid (fun W (hb : Below w.heap.size w W) => pzGood_is h a c L hm hok W (hin.below hb))
    have HM := Lib.hid hok
    clear hin hok
    (go_enter Try.func43, Try.ntmps43)
    go_wp2_with fail
    refine (HC.out _ (by (repeat' (first | (with_reducible exact Below.refl _ _) | (with_reducible assumption) | (with_reducible refine Below.alloc ?_ ?_ _) | (with_reducible refine Below.drew ?_) | (with_reducible refine below_drewN ?_ _) | (with_reducible refine Below.setCell ?_ ?_ _) | (with_reducible refine below_call ?_ ?_ (by assumption)) | go_size)))).mono ?_
    (rintro e1 w1 ⟨rfl, hb1⟩; obtain ⟨hc1, hf1⟩ := bcell hb1; have hz1 := hb1.size; (try simp only [World.size_alloc, World.size_setCell, World.size_drew] at hz1); have q1 : w.heap.size ≤ w1.heap.size := (by omega); (try have q1_0 : w.heap.size < w1.heap.size := (by omega)); (try have q1_1 : w.heap.size + 1 < w1.heap.size := (by omega)); (try have q1_2 : w.heap.size + 2 < w1.heap.size := (by omega)); (try have q1_3 : w.heap.size + 3 < w1.heap.size := (by omega)))
    go_wp2
    (refine bodyPost_ret (by simp [results, Try.results43, go_sem, *]; try rfl) rfl ?_)
    exact ⟨ret_bbv (b := oneR h L) (a := (false, false)) (by simp [oneR, HM.out]), by (repeat' (first | (with_reducible exact Below.refl _ _) | (with_reducible assumption) | (with_reducible refine Below.alloc ?_ ?_ _) | (with_reducible refine Below.drew ?_) | (with_reducible refine below_drewN ?_ _) | (with_reducible refine Below.setCell ?_ ?_ _) | (with_reducible refine below_call ?_ ?_ (by assumption)) | go_size))⟩
  · have HC := Lib.hid (fun W (hb : Below w.heap.size w W) => pzGood_is h a c L hm hok W (hin.below hb))
    have HM := Lib.hid hok
    obtain ⟨hh, hl6, hall⟩ := okZ_bd hok
    clear hin hok
    (go_enter Try.func43, Try.ntmps43)
    go_wp2_with fail
    refine (HC.out _ (by (repeat' (first | (with_reducible exact Below.refl _ _) | (with_reducible assumption) | (with_reducible refine Below.alloc ?_ ?_ _) | (with_reducible refine Below.drew ?_) | (with_reducible refine below_drewN ?_ _) | (with_reducible refine Below.setCell ?_ ?_ _) | (with_reducible refine below_call ?_ ?_ (by assumption)) | go_size)))).mono ?_
    (rintro e1 w1 ⟨rfl, hb1⟩; obtain ⟨hc1, hf1⟩ := bcell hb1; have hz1 := hb1.size; (try simp only [World.size_alloc, World.size_setCell, World.size_drew] at hz1); have q1 : w.heap.size ≤ w1.heap.size := (by omega); (try have q1_0 : w.heap.size < w1.heap.size := (by omega)); (try have q1_1 : w.heap.size + 1 < w1.heap.size := (by omega)); (try have q1_2 : w.heap.size + 2 < w1.heap.size := (by omega)); (try have q1_3 : w.heap.size + 3 < w1.heap.size := (by omega)))
    go_wp2_with fail
    refine (pzSolved_is h a c L hh hall (by omega) rfl _ (HX.out _ (by (repeat' (first | (with_reducible exact Below.refl _ _) | (with_reducible assumption) | (with_reducible refine Below.alloc ?_ ?_ _) | (with_reducible refine Below.drew ?_) | (with_reducible refine below_drewN ?_ _) | (with_reducible refine Below.setCell ?_ ?_ _) | (with_reducible refine below_call ?_ ?_ (by assumption)) | go_size))))).mono ?_
    (rintro e2 w2 ⟨rfl, hb2⟩; obtain ⟨hc2, hf2⟩ := bcell hb2; have hz2 := hb2.size; (try simp only [World.size_alloc, World.size_setCell, World.size_drew] at hz2); have q2 : w.heap.size ≤ w2.heap.size := (by omega); (try have q2_0 : w.heap.size < w2.heap.size := (by omega)); (try have q2_1 : w.heap.size + 1 < w2.heap.size := (by omega)); (try have q2_2 : w.heap.size + 2 < w2.heap.size := (by omega)); (try have q2_3 : w.heap.size + 3 < w2.heap.size := (by omega)); (try have q2_1_0 : w1.heap.size < w2.heap.size := (by omega)); (try have q2_1_1 : w1.heap.size + 1 < w2.heap.size := (by omega)))
    go_wp2
    (refine bodyPost_ret (by simp [results, Try.results43, go_sem, *]; try rfl) rfl ?_)
    exact ⟨ret_bbv (a := (decide ((sol h L).length = 1), true)) (b := oneR h L) (by simp [oneR, HM.out]), by (repeat' (first | (with_reducible exact Below.refl _ _) | (with_reducible assumption) | (with_reducible refine Below.alloc ?_ ?_ _) | (with_reducible refine Below.drew ?_) | (with_reducible refine below_drewN ?_ _) | (with_reducible refine Below.setCell ?_ ?_ _) | (with_reducible refine below_call ?_ ?_ (by assumption)) | go_size))⟩
set_option maxHeartbeats 1600000 in
theorem specFirstSolution_any (h : Int) (a : Option Addr) (c : Nat) (L : List (Int × Int × Int)) (hm : L.length ≤ maxLen) (w : World) (hin : CIn w a L) :
    Calls Try.prog 36 #[pzv h (.slice a L.length c)] w fun e w' => e = .returned (jv9 (fstR h L)) ∧ Below w.heap.size w w' := by
  have HX := Lib.hid (fun W (hb : Below w.heap.size w W) => hin.below hb)
  cases hok : okZ h L
  · have HC := Lib.hid (fun W (hb : Below w.heap.size w W) => pzGood_is h a c L hm hok W (hin.below hb))
    have HM := Lib.hid hok
    clear hin hok
    (go_enter Try.func36, Try.ntmps36)
    go_wp2_with fail
    refine (HC.out _ (by (repeat' (first | (with_reducible exact Below.refl _ _) | (with_reducible assumption) | (with_reducible refine Below.alloc ?_ ?_ _) | (with_reducible refine Below.drew ?_) | (with_reducible refine below_drewN ?_ _) | (with_reducible refine Below.setCell ?_ ?_ _) | (with_reducible refine below_call ?_ ?_ (by assumption)) | go_size)))).mono ?_
    (rintro e1 w1 ⟨rfl, hb1⟩; obtain ⟨hc1, hf1⟩ := bcell hb1; have hz1 := hb1.size; (try simp only [World.size_alloc, World.size_setCell, World.size_drew] at hz1); have q1 : w.heap.size ≤ w1.heap.size := (by omega); (try have q1_0 : w.heap.size < w1.heap.size := (by omega)); (try have q1_1 : w.heap.size + 1 < w1.heap.size := (by omega)); (try have q1_2 : w.heap.size + 2 < w1.heap.size := (by omega)); (try have q1_3 : w.heap.size + 3 < w1.heap.size := (by omega)))
    go_wp2
    (refine bodyPost_ret (by simp [results, Try.results36, go_sem, *]; try rfl) rfl ?_)
    exact ⟨ret_jv9 (b := fstR h L) (a := (0, false)) (by simp [fstR, HM.out]), by (repeat' (first | (with_reducible exact Below.refl _ _) | (with_reducible assumption) | (with_reducible refine Below.alloc ?_ ?_ _) | (with_reducible refine Below.drew ?_) | (with_reducible refine below_drewN ?_ _) | (with_reducible refine Below.setCell ?_ ?_ _) | (with_reducible refine below_call ?_ ?_ (by assumption)) | go_size))⟩
  · have HC := Lib.hid (fun W (hb : Below w.heap.size w W) => pzGood_is h a c L hm hok W (hin.below hb))
    have HM := Lib.hid hok
    obtain ⟨hh, hl6, hall⟩ := okZ_bd hok
    clear hin hok
    (go_enter Try.func36, Try.ntmps36)
    go_wp2_with fail
    refine (HC.out _ (by (repeat' (first | (with_reducible exact Below.refl _ _) | (with_reducible assumption) | (with_reducible refine Below.alloc ?_ ?_ _) | (with_reducible refine Below.drew ?_) | (with_reducible refine below_drewN ?_ _) | (with_reducible refine Below.setCell ?_ ?_ _) | (with_reducible refine below_call ?_ ?_ (by assumption)) | go_size)))).mono ?_
    (rintro e1 w1 ⟨rfl, hb1⟩; obtain ⟨hc1, hf1⟩ := bcell hb1; have hz1 := hb1.size; (try simp only [World.size_alloc, World.size_setCell, World.size_drew] at hz1); have q1 : w.heap.size ≤ w1.heap.size := (by omega); (try have q1_0 : w.heap.size < w1.heap.size := (by omega)); (try have q1_1 : w.heap.size + 1 < w1.heap.size := (by omega)); (try have q1_2 : w.heap.size + 2 < w1.heap.size := (by omega)); (try have q1_3 : w.heap.size + 3 < w1.heap.size := (by omega)))
    have hs := sol_len hh.2 L
    go_wp2_with fail
    refine (pzAll_any h a c L hh hall (by omega) _ (HX.out _ (by (repeat' (first | (with_reducible exact Below.refl _ _) | (with_reducible assumption) | (with_reducible refine Below.alloc ?_ ?_ _) | (with_reducible refine Below.drew ?_) | (with_reducible refine below_drewN ?_ _) | (with_reducible refine Below.setCell ?_ ?_ _) | (with_reducible refine below_call ?_ ?_ (by assumption)) | go_size))))).mono ?_
    rintro e2 w2 ⟨v2, rfl, hr2, hb2⟩
    have hz2 := hb2.size
    obtain ⟨hc2, hf2⟩ := bcell hb2
    obtain ⟨a2, c2, rfl, -⟩ := hr2.inn
    clear hr2
    by_cases hz : (sol h L).length = 0
    · have hz' : (((sol h L).length : Int) == 0) = true := by rw [beq_iff_eq]; omega
      have HQ := Lib.hid (show (0, false) = fstR h L from by unfold fstR; simp [hz])
      generalize sol h L = S at *
      go_wp2
      (refine bodyPost_ret (by simp [results, Try.results36, go_sem, *]; try rfl) rfl ?_)
      exact ⟨ret_jv9 HQ.out, by (repeat' (first | (with_reducible exact Below.refl _ _) | (with_reducible assumption) | (with_reducible refine Below.alloc ?_ ?_ _) | (with_reducible refine Below.drew ?_) | (with_reducible refine below_drewN ?_ _) | (with_reducible refine Below.setCell ?_ ?_ _) | (with_reducible refine below_call ?_ ?_ (by assumption)) | go_size))⟩
    · have hz' : (((sol h L).length : Int) == 0) = false := by rw [beq_eq_false_iff_ne]; omega
      have HQ := Lib.hid (show ((sol h L).getD 0 0, true) = fstR h L from by unfold fstR; rw [HM.out]; simp [hz])
      have HP := Lib.hid (fun W hW => pzAll_any h a c L hh hall (by omega) W hW)
      generalize sol h L = S at *
      have k1 : w2.cell? ⟨w.heap.size, 0, none⟩ = some (.int .i64 h) := (hc2 _ _ (by go_size)).trans ((hc1 _ _ (by go_size)).trans (by go_simp))
      have k2 : w2.cell? ⟨w.heap.size, 1, none⟩ = some (.slice a L.length c) := (hc2 _ _ (by go_size)).trans ((hc1 _ _ (by go_size)).trans (by go_simp))
      go_wp2_with fail
      refine (HP.out _ (HX.out _ (by (repeat' (first | (with_reducible exact Below.refl _ _) | (with_reducible assumption) | (with_reducible refine Below.alloc ?_ ?_ _) | (with_reducible refine Below.drew ?_) | (with_reducible refine below_drewN ?_ _) | (with_reducible refine Below.setCell ?_ ?_ _) | (with_reducible refine below_call ?_ ?_ (by assumption)) | go_size))))).mono ?_
      rintro e3 w3 ⟨v3, rfl, hr3, hb3⟩
      obtain ⟨a3, c3, rfl, hi3, -⟩ := hr3.inn
      obtain ⟨b, off, rfl, l1, y1⟩ := hi3 0 (by omega)
      have y2 : w3.cell? ⟨b, off, none⟩ = some (.int .i64 (S.getD 0 0)) := by simpa using y1
      clear y1 hi3 hr3
      generalize S.getD 0 0 = s at *
      have hs0 : (0 : Int) < (S.length : Int) := by omega
      have hz3 := hb3.size
      go_wp2
      (refine bodyPost_ret (by simp [results, Try.results36, go_sem, *]; try rfl) rfl ?_)
      exact ⟨ret_jv9 HQ.out, by (repeat' (first | (with_reducible exact Below.refl _ _) | (with_reducible assumption) | (with_reducible refine Below.alloc ?_ ?_ _) | (with_reducible refine Below.drew ?_) | (with_reducible refine below_drewN ?_ _) | (with_reducible refine Below.setCell ?_ ?_ _) | (with_reducible refine below_call ?_ ?_ (by assumption)) | go_size))⟩
end Go.Proofs.Ytcpgjjmamclklaa
