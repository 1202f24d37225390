/- Strokes: what all else calls: dials, halves, the strokes at one, by the program and by the model. -/
import Derived.Test.YteamijcnejjmjaaStr0
import Derived.Test.YteamijcnejjmjaaLate
set_option linter.unusedSimpArgs false
set_option linter.unusedVariables false
set_option maxRecDepth 100000
namespace Go.Proofs.Yteamijcnejjmjaa
open Go.RowKit

theorem w64 {n : Int} (h : -9223372036854775808 ≤ n ∧ n ≤ 9223372036854775807) : IntKind.i64.wrap n = n := by rw [IntKind.wrap_i64]; omega
theorem q64 {n g : Int} (h0 : 0 ≤ n) (h1 : n ≤ 9223372036854775807) (hg : 1 ≤ g) : IntKind.i64.wrap (n.tdiv g) = n / g := by
  rw [Int.tdiv_eq_ediv_of_nonneg h0]
  have := Int.ediv_le_self g h0
  have := Int.ediv_nonneg h0 (show 0 ≤ g by omega)
  exact w64 ⟨by omega, by omega⟩
theorem t64 {n g : Int} (h0 : 0 ≤ n) (hg : 1 ≤ g) (h1 : g ≤ 9223372036854775807) : IntKind.i64.wrap (n.tmod g) = n % g := by
  rw [Int.tmod_eq_emod_of_nonneg h0]
  have := Int.emod_nonneg n (show g ≠ 0 by omega)
  have := Int.emod_lt_of_pos n (show 0 < g by omega)
  exact w64 ⟨by omega, by omega⟩
theorem inB_bd {n lo hi : Int} (h : inB n lo hi = true) : lo ≤ n ∧ n ≤ hi := by simpa [inB] using h
theorem ret_bool {a b : Bool} (h : a = b) : Ending.returned (.bool a) = .returned (.bool b) := by rw [h]
theorem ret_int {a b : Int} (h : a = b) : Ending.returned (.int .i64 a) = .returned (.int .i64 b) := by rw [h]
/-- A number and whether there is one; two of them. -/
abbrev nv (r : Int × Bool) : Value := .tuple #[.int .i64 r.1, .bool r.2]
abbrev nnv (r : Int × Int × Bool) : Value := .tuple #[.int .i64 r.1, .int .i64 r.2.1, .bool r.2.2]
abbrev bv (r : Bool × Bool) : Value := .tuple #[.bool r.1, .bool r.2]
theorem ret_nv {a b : Int × Bool} (h : a = b) : Ending.returned (nv a) = .returned (nv b) := by rw [h]
theorem ret_nnv {a b : Int × Int × Bool} (h : a = b) : Ending.returned (nnv a) = .returned (nnv b) := by rw [h]
theorem ret_bv {a b : Bool × Bool} (h : a = b) : Ending.returned (bv a) = .returned (bv b) := by rw [h]

set_option maxHeartbeats 400000 in
theorem isDial_is {b : Bool} (n : Int) (h : inB n 2 24 = b) (w : World) :
    Calls Try.prog 30 #[.int .i64 n] w fun e w' => e = .returned (.bool b) ∧ w = w' := by
  (go_enter Try.func30, Try.ntmps30)
  go_wp2_with fail
  refine (isWithin_is _ _ _ h _).mono ?_
  (rintro e1 w1 ⟨rfl, rfl⟩)
  go_wp2
  go_ret
  exact ⟨rfl, rfl⟩

set_option maxHeartbeats 400000 in
theorem diHours_is {b : Bool} (n : Int) (h : inB n 2 24 = b) (w : World) :
    Calls Try.prog 33 #[.int .i64 n] w fun e w' => e = .returned (.bool b) ∧ w = w' := by
  (go_enter Try.func33, Try.ntmps33)
  go_wp2_with fail
  refine (l1In_is _ _ _ h _).mono ?_
  (rintro e1 w1 ⟨rfl, rfl⟩)
  go_wp2
  go_ret
  exact ⟨rfl, rfl⟩

/-- There are a dial and a half. -/
def halfB (h x : Int) : Bool := inB h 2 24 && inB x 0 (2 * h - 1)
theorem halfB_bd {h x : Int} (k : halfB h x = true) : (2 ≤ h ∧ h ≤ 24) ∧ 0 ≤ x ∧ x < 2 * h := by
  simp only [halfB, Bool.and_eq_true] at k
  have := inB_bd k.1
  have := inB_bd k.2
  omega
set_option maxHeartbeats 400000 in
theorem isHalf_any (h x : Int) (w : World) :
    Calls Try.prog 41 #[.int .i64 h, .int .i64 x] w fun e w' => e = .returned (.bool (halfB h x)) ∧ w = w' := by
  cases ga : inB h 2 24
  · have HM := Lib.hid (show false = halfB h x from by simp [halfB, ga])
    (go_enter Try.func41, Try.ntmps41)
    go_wp2_with fail
    refine (isDial_is _ ga _).mono ?_
    (rintro e1 w1 ⟨rfl, rfl⟩)
    go_wp2
    go_ret
    exact ⟨ret_bool HM.out, rfl⟩
  · obtain ⟨h1, h2⟩ := inB_bd ga
    have hw2 := w64 (n := 2 * h) (by omega)
    have hw3 := w64 (n := 2 * h - 1) (by omega)
    have HM := Lib.hid (show inB x 0 (2 * h - 1) = halfB h x from by simp [halfB, ga])
    (go_enter Try.func41, Try.ntmps41)
    go_wp2_with fail
    refine (isDial_is _ ga _).mono ?_
    (rintro e1 w1 ⟨rfl, rfl⟩)
    go_wp2_with fail
    refine (isWithin_is _ _ _ (rfl : inB x 0 (2 * h - 1) = _) _).mono ?_
    (rintro e1 w1 ⟨rfl, rfl⟩)
    go_wp2
    go_ret
    exact ⟨ret_bool HM.out, rfl⟩

theorem isHalf_is {b : Bool} (h x : Int) (k : halfB h x = b) (w : World) :
    Calls Try.prog 41 #[.int .i64 h, .int .i64 x] w fun e w' => e = .returned (.bool b) ∧ w = w' := by
  subst k; exact isHalf_any h x w

set_option maxHeartbeats 400000 in
theorem stHalf_any (h x : Int) (w : World) :
    Calls Try.prog 52 #[.int .i64 h, .int .i64 x] w fun e w' => e = .returned (.bool (halfB h x)) ∧ w = w' := by
  cases ga : inB h 2 24
  · have HM := Lib.hid (show false = halfB h x from by simp [halfB, ga])
    (go_enter Try.func52, Try.ntmps52)
    go_wp2_with fail
    refine (diHours_is _ ga _).mono ?_
    (rintro e1 w1 ⟨rfl, rfl⟩)
    go_wp2
    go_ret
    exact ⟨ret_bool HM.out, rfl⟩
  · obtain ⟨h1, h2⟩ := inB_bd ga
    have hw2 := w64 (n := 2 * h) (by omega)
    have hw3 := w64 (n := 2 * h - 1) (by omega)
    have HM := Lib.hid (show inB x 0 (2 * h - 1) = halfB h x from by simp [halfB, ga])
    (go_enter Try.func52, Try.ntmps52)
    go_wp2_with fail
    refine (diHours_is _ ga _).mono ?_
    (rintro e1 w1 ⟨rfl, rfl⟩)
    go_wp2_with fail
    refine (l1In_is _ _ _ (rfl : inB x 0 (2 * h - 1) = _) _).mono ?_
    (rintro e1 w1 ⟨rfl, rfl⟩)
    go_wp2
    go_ret
    exact ⟨ret_bool HM.out, rfl⟩

theorem stHalf_is {b : Bool} (h x : Int) (k : halfB h x = b) (w : World) :
    Calls Try.prog 52 #[.int .i64 h, .int .i64 x] w fun e w' => e = .returned (.bool b) ∧ w = w' := by
  subst k; exact stHalf_any h x w

set_option maxHeartbeats 400000 in
theorem stTurn_any (h : Int) (hh : 2 ≤ h ∧ h ≤ 24) (w : World) :
    Calls Try.prog 37 #[.int .i64 h] w fun e w' => e = .returned (.int .i64 (stT h)) ∧ w = w' := by
  have hT := stT_bd hh
  have hm := mul_bd hh
  have hw1 := w64 (n := h * (h + 1)) (by omega)
  have hw2 := q64 (n := h * (h + 1)) (g := 2) (by omega) (by omega) (by omega)
  have HE := Lib.hid (show h * (h + 1) / 2 + h = stT h from rfl)
  have hw3 := w64 (n := h * (h + 1) / 2 + h) (by omega)
  (go_enter Try.func37, Try.ntmps37)
  go_wp2
  go_ret
  exact ⟨ret_int HE.out, rfl⟩

set_option maxHeartbeats 400000 in
theorem strokesAround_any (h : Int) (hh : 2 ≤ h ∧ h ≤ 24) (w : World) :
    Calls Try.prog 36 #[.int .i64 h] w fun e w' => e = .returned (.int .i64 (stT h)) ∧ w = w' := by
  have hT := stT_bd hh
  have hm := mul_bd hh
  have hw1 := w64 (n := h * (h + 1)) (by omega)
  have hw2 := q64 (n := h * (h + 1)) (g := 2) (by omega) (by omega) (by omega)
  have HE := Lib.hid (show h * (h + 1) / 2 + h = stT h from rfl)
  have hw3 := w64 (n := h * (h + 1) / 2 + h) (by omega)
  (go_enter Try.func36, Try.ntmps36)
  go_wp2
  go_ret
  exact ⟨ret_int HE.out, rfl⟩

set_option maxHeartbeats 400000 in
theorem stAt_any (h x : Int) (h0 : 0 ≤ x) (h1 : x ≤ 1000) (w : World) :
    Calls Try.prog 47 #[.int .i64 h, .int .i64 x] w fun e w' => e = .returned (.int .i64 (stA h x)) ∧ w = w' := by
  have hr2 := t64 (n := x) (g := 2) h0 (by omega) (by omega)
  have hq2 := q64 (n := x) (g := 2) h0 (by omega) (by omega)
  by_cases c1 : x % 2 = 1
  · have HM := Lib.hid (show (1 : Int) = stA h x from by simp [stA, c1])
    (go_enter Try.func47, Try.ntmps47)
    go_wp2
    go_ret
    exact ⟨ret_int HM.out, rfl⟩
  · have c1' : (x % 2 == 1) = false := by simpa using c1
    by_cases c2 : x = 0
    · have HM := Lib.hid (show h = stA h x from by simp [stA, c2])
      subst c2
      (go_enter Try.func47, Try.ntmps47)
      go_wp2
      go_ret
      exact ⟨ret_int HM.out, rfl⟩
    · have HM := Lib.hid (show x / 2 = stA h x from by simp [stA, c1, c2])
      have c2' : (x == 0) = false := by simpa using c2
      (go_enter Try.func47, Try.ntmps47)
      go_wp2
      go_ret
      exact ⟨ret_int HM.out, rfl⟩

theorem stAt_is {r : Int} (h x : Int) (h0 : 0 ≤ x) (h1 : x ≤ 1000) (e : stA h x = r) (w : World) :
    Calls Try.prog 47 #[.int .i64 h, .int .i64 x] w fun e w' => e = .returned (.int .i64 r) ∧ w = w' := by
  subst e; exact stAt_any h x h0 h1 w

set_option maxHeartbeats 400000 in
theorem strokesOf_any (h : Int) (w : World) :
    Calls Try.prog 38 #[.int .i64 h] w fun e w' => e = .returned (.func (.func 54) #[] #[.pointer (some ⟨w.heap.size, 0, none⟩)]) ∧ w' = w.alloc (Obj.cells #[Value.int .i64 h] 3) := by
  have hmf : ∀ (fn : Fn) (first cap : Array Value) (w : World), (Instr.makeFunc fn first cap).run Try.prog w = .ok (.func fn first cap) w := fun _ _ _ _ => rfl
  (go_enter Try.func38, Try.ntmps38)
  go_wp2
  (refine bodyPost_ret (by simp [results, Try.results38, go_sem, *]; try rfl) rfl ?_)
  exact ⟨rfl, rfl⟩
set_option maxHeartbeats 400000 in
theorem strokes_any (h x : Int) (b : Nat) (w : World) (hc : w.cell? ⟨b, 0, none⟩ = some (.int .i64 h)) (hh : 2 ≤ h ∧ h ≤ 24) (h0 : 0 ≤ x) (h1 : x ≤ 3000000000) :
    Calls Try.prog 54 #[.int .i64 x, .pointer (some ⟨b, 0, none⟩)] w fun e w' => e = .returned (.int .i64 (stM h x)) ∧ w = w' := by
  have hw2 := w64 (n := 2 * h) (by omega)
  have hr := t64 (n := x) (g := 2 * h) h0 (by omega) (by omega)
  obtain ⟨r0, r1⟩ := mod_bd x hh
  have HE := Lib.hid (show stA h (x % (2 * h)) = stM h x from rfl)
  have hz : (2 * h == 0) = false := by simp; omega
  have e2 : x % (2 * h) % 2 = x % 2 := Int.emod_emod_of_dvd x ⟨h, rfl⟩
  have hr2 : (x % (2 * h)).tmod 2 = x % 2 := (Int.tmod_eq_emod_of_nonneg r0).trans e2
  have hq2 := q64 (n := x % (2 * h)) (g := 2) r0 (by omega) (by omega)
  by_cases c2 : x % (2 * h) = 0
  · have HM := Lib.hid (show h = stA h (x % (2 * h)) from by simp [stA, c2])
    have c2' : (x % (2 * h) == 0) = true := by simpa using c2
    (go_enter Try.func54, Try.ntmps54)
    go_wp2
    go_ret
    exact ⟨ret_int (HM.out.trans HE.out), rfl⟩
  · have c2' : (x % (2 * h) == 0) = false := by simpa using c2
    by_cases c1 : x % 2 = 1
    · have HM := Lib.hid (show (1 : Int) = stA h (x % (2 * h)) from by simp only [stA]; rw [if_pos (by rw [e2]; exact c1)])
      have c1' : (x % 2 == 1) = true := by simpa using c1
      (go_enter Try.func54, Try.ntmps54)
      go_wp2
      go_ret
      exact ⟨ret_int (HM.out.trans HE.out), rfl⟩
    · have HM := Lib.hid (show x % (2 * h) / 2 = stA h (x % (2 * h)) from by simp only [stA]; rw [if_neg (by rw [e2]; exact c1), if_neg c2])
      have c1' : (x % 2 == 1) = false := by simpa using c1
      (go_enter Try.func54, Try.ntmps54)
      go_wp2
      go_ret
      exact ⟨ret_int (HM.out.trans HE.out), rfl⟩

theorem strokes_is {r : Int} (h x : Int) (b : Nat) (w : World) (hc : w.cell? ⟨b, 0, none⟩ = some (.int .i64 h)) (hh : 2 ≤ h ∧ h ≤ 24) (h0 : 0 ≤ x) (h1 : x ≤ 3000000000) (e : stM h x = r) :
    Calls Try.prog 54 #[.int .i64 x, .pointer (some ⟨b, 0, none⟩)] w fun e w' => e = .returned (.int .i64 r) ∧ w = w' := by
  subst e; exact strokes_any h x b w hc hh h0 h1

def atR (h x : Int) : Int × Bool := if halfB h x then (stA h x, true) else (0, false)
def turnR (h : Int) : Int × Bool := if inB h 2 24 then (stT h, true) else (0, false)
set_option maxHeartbeats 400000 in
theorem implStrokesAt_any (h x : Int) (w : World) :
    Calls Try.prog 13 #[.int .i64 h, .int .i64 x] w fun e w' => e = .returned (nv (atR h x)) ∧ Below w.heap.size w w' := by
  cases ga : halfB h x
  · have HM := Lib.hid (show (0, false) = atR h x from by simp [atR, ga])
    (go_enter Try.func13, Try.ntmps13)
    go_wp2_with fail
    refine (isHalf_is _ _ ga _).mono ?_
    (rintro e1 w1 ⟨rfl, rfl⟩)
    go_wp2
    (refine bodyPost_ret (by simp [results, Try.results13, go_sem, *]; try rfl) rfl ?_)
    exact ⟨ret_nv HM.out, by (repeat' (first | (with_reducible exact Below.refl _ _) | (with_reducible assumption) | (with_reducible refine Below.alloc ?_ ?_ _) | (with_reducible refine Below.drew ?_) | (with_reducible refine below_drewN ?_ _) | (with_reducible refine Below.setCell ?_ ?_ _) | (with_reducible refine below_call ?_ ?_ (by assumption)) | go_size))⟩
  · obtain ⟨⟨h1, h2⟩, h3, h4⟩ := halfB_bd ga
    have hs := stM_small h3 h4
    have HM := Lib.hid (show (stA h x, true) = atR h x from by simp [atR, ga])
    (go_enter Try.func13, Try.ntmps13)
    go_wp2_with fail
    refine (isHalf_is _ _ ga _).mono ?_
    (rintro e1 w1 ⟨rfl, rfl⟩)
    go_wp2_with fail
    refine (strokesOf_any h _).mono ?_
    (rintro e1 w1 ⟨rfl, rfl⟩)
    go_wp2_with fail
    refine (strokes_is h x w.heap.size _ (by go_simp) ⟨h1, h2⟩ (by omega) (by omega) hs).mono ?_
    (rintro e1 w1 ⟨rfl, rfl⟩)
    go_wp2
    (refine bodyPost_ret (by simp [results, Try.results13, go_sem, *]; try rfl) rfl ?_)
    exact ⟨ret_nv HM.out, by (repeat' (first | (with_reducible exact Below.refl _ _) | (with_reducible assumption) | (with_reducible refine Below.alloc ?_ ?_ _) | (with_reducible refine Below.drew ?_) | (with_reducible refine below_drewN ?_ _) | (with_reducible refine Below.setCell ?_ ?_ _) | (with_reducible refine below_call ?_ ?_ (by assumption)) | go_size))⟩

set_option maxHeartbeats 400000 in
theorem specStrokesOfTurn_any (h : Int) (w : World) :
    Calls Try.prog 10 #[.int .i64 h] w fun e w' => e = .returned (nv (turnR h)) ∧ Below w.heap.size w w' := by
  cases ga : inB h 2 24
  · have HM := Lib.hid (show (0, false) = turnR h from by simp [turnR, ga])
    (go_enter Try.func10, Try.ntmps10)
    go_wp2_with fail
    refine (diHours_is _ ga _).mono ?_
    (rintro e1 w1 ⟨rfl, rfl⟩)
    go_wp2
    (refine bodyPost_ret (by simp [results, Try.results10, go_sem, *]; try rfl) rfl ?_)
    exact ⟨ret_nv HM.out, by (repeat' (first | (with_reducible exact Below.refl _ _) | (with_reducible assumption) | (with_reducible refine Below.alloc ?_ ?_ _) | (with_reducible refine Below.drew ?_) | (with_reducible refine below_drewN ?_ _) | (with_reducible refine Below.setCell ?_ ?_ _) | (with_reducible refine below_call ?_ ?_ (by assumption)) | go_size))⟩
  · obtain ⟨h1, h2⟩ := inB_bd ga
    have HM := Lib.hid (show (stT h, true) = turnR h from by simp [turnR, ga])
    (go_enter Try.func10, Try.ntmps10)
    go_wp2_with fail
    refine (diHours_is _ ga _).mono ?_
    (rintro e1 w1 ⟨rfl, rfl⟩)
    go_wp2_with fail
    refine (stTurn_any h ⟨h1, h2⟩ _).mono ?_
    (rintro e1 w1 ⟨rfl, rfl⟩)
    go_wp2
    (refine bodyPost_ret (by simp [results, Try.results10, go_sem, *]; try rfl) rfl ?_)
    exact ⟨ret_nv HM.out, by (repeat' (first | (with_reducible exact Below.refl _ _) | (with_reducible assumption) | (with_reducible refine Below.alloc ?_ ?_ _) | (with_reducible refine Below.drew ?_) | (with_reducible refine below_drewN ?_ _) | (with_reducible refine Below.setCell ?_ ?_ _) | (with_reducible refine below_call ?_ ?_ (by assumption)) | go_size))⟩

set_option maxHeartbeats 400000 in
theorem implStrokesOfTurn_any (h : Int) (w : World) :
    Calls Try.prog 9 #[.int .i64 h] w fun e w' => e = .returned (nv (turnR h)) ∧ Below w.heap.size w w' := by
  cases ga : inB h 2 24
  · have HM := Lib.hid (show (0, false) = turnR h from by simp [turnR, ga])
    (go_enter Try.func9, Try.ntmps9)
    go_wp2_with fail
    refine (isDial_is _ ga _).mono ?_
    (rintro e1 w1 ⟨rfl, rfl⟩)
    go_wp2
    (refine bodyPost_ret (by simp [results, Try.results9, go_sem, *]; try rfl) rfl ?_)
    exact ⟨ret_nv HM.out, by (repeat' (first | (with_reducible exact Below.refl _ _) | (with_reducible assumption) | (with_reducible refine Below.alloc ?_ ?_ _) | (with_reducible refine Below.drew ?_) | (with_reducible refine below_drewN ?_ _) | (with_reducible refine Below.setCell ?_ ?_ _) | (with_reducible refine below_call ?_ ?_ (by assumption)) | go_size))⟩
  · obtain ⟨h1, h2⟩ := inB_bd ga
    have HM := Lib.hid (show (stT h, true) = turnR h from by simp [turnR, ga])
    (go_enter Try.func9, Try.ntmps9)
    go_wp2_with fail
    refine (isDial_is _ ga _).mono ?_
    (rintro e1 w1 ⟨rfl, rfl⟩)
    go_wp2_with fail
    refine (strokesAround_any h ⟨h1, h2⟩ _).mono ?_
    (rintro e1 w1 ⟨rfl, rfl⟩)
    go_wp2
    (refine bodyPost_ret (by simp [results, Try.results9, go_sem, *]; try rfl) rfl ?_)
    exact ⟨ret_nv HM.out, by (repeat' (first | (with_reducible exact Below.refl _ _) | (with_reducible assumption) | (with_reducible refine Below.alloc ?_ ?_ _) | (with_reducible refine Below.drew ?_) | (with_reducible refine below_drewN ?_ _) | (with_reducible refine Below.setCell ?_ ?_ _) | (with_reducible refine below_call ?_ ?_ (by assumption)) | go_size))⟩

end Go.Proofs.Yteamijcnejjmjaa
