/- Hours, minutes, small angles, times told by hours, minutes and seconds: by the program and by the model. -/
import Derived.Test.YtebjlaajddpbhaaDial4
set_option linter.unusedSimpArgs false
set_option linter.unusedVariables false
set_option maxRecDepth 100000
namespace Go.Proofs.Ytebjlaajddpbhaa
open Go.RowKit

set_option maxHeartbeats 400000 in
theorem gone_any (n d h k : Int) (h1 : (2 ≤ h ∧ h ≤ 24) ∧ 1 ≤ d ∧ d ≤ 1000000 ∧ 0 ≤ n ∧ n ≤ 999999) (k1 : 0 ≤ k) (k2 : k ≤ 3600) (w : World) :
    Calls Try.prog 86 #[dv n d h, .int .i64 k] w fun e w' => e = .returned (.int .i64 (n * (h * k) / d)) ∧ Below w.heap.size w w' := by
  obtain ⟨⟨c1, c2⟩, a1, a2, a3, a4⟩ := h1
  obtain ⟨p1, p2⟩ := mulb (show 0 ≤ h by omega) c2 k1 k2
  obtain ⟨p3, p4⟩ := mulb p1 p2 a3 a4
  have E := Lib.hid (show h * k * n / d = n * (h * k) / d from by rw [Int.mul_comm n])
  (go_enter Try.func86, Try.ntmps86)
  go_wp2
  go_ret
  exact ⟨ret_int E.out, by (repeat' (first | (with_reducible exact Below.refl _ _) | (with_reducible assumption) | (with_reducible refine Below.alloc ?_ ?_ _) | (with_reducible refine Below.drew ?_) | (with_reducible refine below_drewN ?_ _) | (with_reducible refine Below.setCell ?_ ?_ _) | (with_reducible refine below_call ?_ ?_ (by assumption)) | go_size))⟩

set_option maxHeartbeats 400000 in
theorem hour_any (n d h : Int) (h1 : (2 ≤ h ∧ h ≤ 24) ∧ 1 ≤ d ∧ d ≤ 1000000 ∧ 0 ≤ n ∧ n ≤ 999999) (w : World) :
    Calls Try.prog 75 #[dv n d h] w fun e w' => e = .returned (.int .i64 (n * h / d)) ∧ Below w.heap.size w w' := by
  (go_enter Try.func75, Try.ntmps75)
  go_wp2_with fail
  refine (gone_any n d h 1 h1 (by omega) (by omega) _).mono ?_
  (rintro e1 w1 ⟨rfl, hb1⟩; obtain ⟨hc1, hf1⟩ := bcell hb1; have hz1 := hb1.size; (try simp only [World.size_alloc, World.size_setCell, World.size_drew] at hz1); have q1 : w.heap.size ≤ w1.heap.size := (by omega); (try have q1_0 : w.heap.size < w1.heap.size := (by omega)); (try have q1_1 : w.heap.size + 1 < w1.heap.size := (by omega)); (try have q1_2 : w.heap.size + 2 < w1.heap.size := (by omega)); (try have q1_3 : w.heap.size + 3 < w1.heap.size := (by omega)))
  go_wp2
  go_ret
  exact ⟨rfl, by (repeat' (first | (with_reducible exact Below.refl _ _) | (with_reducible assumption) | (with_reducible refine Below.alloc ?_ ?_ _) | (with_reducible refine Below.drew ?_) | (with_reducible refine below_drewN ?_ _) | (with_reducible refine Below.setCell ?_ ?_ _) | (with_reducible refine below_call ?_ ?_ (by assumption)) | go_size))⟩

set_option maxHeartbeats 400000 in
theorem minute_any (n d h : Int) (h1 : (2 ≤ h ∧ h ≤ 24) ∧ 1 ≤ d ∧ d ≤ 1000000 ∧ 0 ≤ n ∧ n ≤ 999999) (w : World) :
    Calls Try.prog 76 #[dv n d h] w fun e w' => e = .returned (.int .i64 (n * (h * 60) / d % 60)) ∧ Below w.heap.size w w' := by
  have hh := h1
  obtain ⟨⟨c1, c2⟩, a1, a2, a3, a4⟩ := hh
  have p0 : 0 ≤ n * (h * 60) / d := Int.ediv_nonneg (Int.mul_nonneg a3 (by omega)) (by omega)
  (go_enter Try.func76, Try.ntmps76)
  go_wp2_with fail
  refine (gone_any n d h 60 h1 (by omega) (by omega) _).mono ?_
  (rintro e1 w1 ⟨rfl, hb1⟩; obtain ⟨hc1, hf1⟩ := bcell hb1; have hz1 := hb1.size; (try simp only [World.size_alloc, World.size_setCell, World.size_drew] at hz1); have q1 : w.heap.size ≤ w1.heap.size := (by omega); (try have q1_0 : w.heap.size < w1.heap.size := (by omega)); (try have q1_1 : w.heap.size + 1 < w1.heap.size := (by omega)); (try have q1_2 : w.heap.size + 2 < w1.heap.size := (by omega)); (try have q1_3 : w.heap.size + 3 < w1.heap.size := (by omega)))
  go_wp2
  go_ret
  exact ⟨rfl, by (repeat' (first | (with_reducible exact Below.refl _ _) | (with_reducible assumption) | (with_reducible refine Below.alloc ?_ ?_ _) | (with_reducible refine Below.drew ?_) | (with_reducible refine below_drewN ?_ _) | (with_reducible refine Below.setCell ?_ ?_ _) | (with_reducible refine below_call ?_ ?_ (by assumption)) | go_size))⟩

def hourT (h n d : Int) : Int × Bool := if askB h n d then (n * h / d, true) else fail2
def minuteT (h n d : Int) : Int × Bool := if askB h n d then (n * (h * 60) / d % 60, true) else fail2

set_option maxHeartbeats 400000 in
theorem implHourOf_any (h n d : Int) (w : World) :
    Calls Try.prog 44 #[.int .i64 h, tv n d] w fun e w' => e = .returned (iv (hourT h n d)) ∧ Below w.heap.size w w' := by
  cases ga : askB h n d
  · have HM := Lib.hid (show fail2 = hourT h n d from by simp [hourT, ga])
    (go_enter Try.func44, Try.ntmps44)
    go_wp2_with fail
    refine (tell_hour_no h n d ga _).mono ?_
    (rintro e1 w1 ⟨rfl, hb1⟩; obtain ⟨hc1, hf1⟩ := bcell hb1; have hz1 := hb1.size; (try simp only [World.size_alloc, World.size_setCell, World.size_drew] at hz1); have q1 : w.heap.size ≤ w1.heap.size := (by omega); (try have q1_0 : w.heap.size < w1.heap.size := (by omega)); (try have q1_1 : w.heap.size + 1 < w1.heap.size := (by omega)); (try have q1_2 : w.heap.size + 2 < w1.heap.size := (by omega)); (try have q1_3 : w.heap.size + 3 < w1.heap.size := (by omega)))
    go_wp2
    go_ret2
    exact ⟨ret_iv HM.out, by (repeat' (first | (with_reducible exact Below.refl _ _) | (with_reducible assumption) | (with_reducible refine Below.alloc ?_ ?_ _) | (with_reducible refine Below.drew ?_) | (with_reducible refine below_drewN ?_ _) | (with_reducible refine Below.setCell ?_ ?_ _) | (with_reducible refine below_call ?_ ?_ (by assumption)) | go_size))⟩
  · have h1 := askB_bd ga
    have HT := Lib.hid (fun W : World => hour_any n d h h1 W)
    have HM := Lib.hid (show (n * h / d, true) = hourT h n d from by simp [hourT, ga])
    (go_enter Try.func44, Try.ntmps44)
    go_wp2_with fail
    refine (tell_hour_ok h n d (n * h / d) ga HT.out _).mono ?_
    (rintro e1 w1 ⟨rfl, hb1⟩; obtain ⟨hc1, hf1⟩ := bcell hb1; have hz1 := hb1.size; (try simp only [World.size_alloc, World.size_setCell, World.size_drew] at hz1); have q1 : w.heap.size ≤ w1.heap.size := (by omega); (try have q1_0 : w.heap.size < w1.heap.size := (by omega)); (try have q1_1 : w.heap.size + 1 < w1.heap.size := (by omega)); (try have q1_2 : w.heap.size + 2 < w1.heap.size := (by omega)); (try have q1_3 : w.heap.size + 3 < w1.heap.size := (by omega)))
    go_wp2
    go_ret2
    exact ⟨ret_iv HM.out, by (repeat' (first | (with_reducible exact Below.refl _ _) | (with_reducible assumption) | (with_reducible refine Below.alloc ?_ ?_ _) | (with_reducible refine Below.drew ?_) | (with_reducible refine below_drewN ?_ _) | (with_reducible refine Below.setCell ?_ ?_ _) | (with_reducible refine below_call ?_ ?_ (by assumption)) | go_size))⟩

set_option maxHeartbeats 400000 in
theorem specHourOf_any (h n d : Int) (kd : -9223372036854775808 ≤ d ∧ d ≤ 9223372036854775807) (w : World) :
    Calls Try.prog 43 #[.int .i64 h, tv n d] w fun e w' => e = .returned (iv (hourT h n d)) ∧ Below w.heap.size w w' := by
  cases ga : askB h n d
  · have HM := Lib.hid (show fail2 = hourT h n d from by simp [hourT, ga])
    (go_enter Try.func43, Try.ntmps43)
    go_wp2_with fail
    refine (diAsked_is h n d ga kd _).mono ?_
    (rintro e1 w1 ⟨rfl, hb1⟩; obtain ⟨hc1, hf1⟩ := bcell hb1; have hz1 := hb1.size; (try simp only [World.size_alloc, World.size_setCell, World.size_drew] at hz1); have q1 : w.heap.size ≤ w1.heap.size := (by omega); (try have q1_0 : w.heap.size < w1.heap.size := (by omega)); (try have q1_1 : w.heap.size + 1 < w1.heap.size := (by omega)); (try have q1_2 : w.heap.size + 2 < w1.heap.size := (by omega)); (try have q1_3 : w.heap.size + 3 < w1.heap.size := (by omega)))
    go_wp2
    go_ret2
    exact ⟨ret_iv HM.out, by (repeat' (first | (with_reducible exact Below.refl _ _) | (with_reducible assumption) | (with_reducible refine Below.alloc ?_ ?_ _) | (with_reducible refine Below.drew ?_) | (with_reducible refine below_drewN ?_ _) | (with_reducible refine Below.setCell ?_ ?_ _) | (with_reducible refine below_call ?_ ?_ (by assumption)) | go_size))⟩
  · have h1 := askB_bd ga
    obtain ⟨⟨c1, c2⟩, a1, a2, a3, a4⟩ := h1
    obtain ⟨p1, p2⟩ := mulb a3 a4 (show 0 ≤ h by omega) c2
    have p3 : 0 ≤ n * h / d := Int.ediv_nonneg p1 (by omega)
    have p4 : 0 ≤ n * h * 60 / d := Int.ediv_nonneg (by omega) (by omega)
    have E := Lib.hid (show n * h * 60 = n * (h * 60) from Int.mul_assoc ..)
    have HM := Lib.hid (show (n * h / d, true) = hourT h n d from by simp [hourT, ga])
    (go_enter Try.func43, Try.ntmps43)
    go_wp2_with fail
    refine (diAsked_is h n d ga kd _).mono ?_
    (rintro e1 w1 ⟨rfl, hb1⟩; obtain ⟨hc1, hf1⟩ := bcell hb1; have hz1 := hb1.size; (try simp only [World.size_alloc, World.size_setCell, World.size_drew] at hz1); have q1 : w.heap.size ≤ w1.heap.size := (by omega); (try have q1_0 : w.heap.size < w1.heap.size := (by omega)); (try have q1_1 : w.heap.size + 1 < w1.heap.size := (by omega)); (try have q1_2 : w.heap.size + 2 < w1.heap.size := (by omega)); (try have q1_3 : w.heap.size + 3 < w1.heap.size := (by omega)))
    go_wp2
    go_ret2
    exact ⟨ret_iv HM.out, by (repeat' (first | (with_reducible exact Below.refl _ _) | (with_reducible assumption) | (with_reducible refine Below.alloc ?_ ?_ _) | (with_reducible refine Below.drew ?_) | (with_reducible refine below_drewN ?_ _) | (with_reducible refine Below.setCell ?_ ?_ _) | (with_reducible refine below_call ?_ ?_ (by assumption)) | go_size))⟩

set_option maxHeartbeats 400000 in
theorem implMinuteOf_any (h n d : Int) (w : World) :
    Calls Try.prog 46 #[.int .i64 h, tv n d] w fun e w' => e = .returned (iv (minuteT h n d)) ∧ Below w.heap.size w w' := by
  cases ga : askB h n d
  · have HM := Lib.hid (show fail2 = minuteT h n d from by simp [minuteT, ga])
    (go_enter Try.func46, Try.ntmps46)
    go_wp2_with fail
    refine (tell_minute_no h n d ga _).mono ?_
    (rintro e1 w1 ⟨rfl, hb1⟩; obtain ⟨hc1, hf1⟩ := bcell hb1; have hz1 := hb1.size; (try simp only [World.size_alloc, World.size_setCell, World.size_drew] at hz1); have q1 : w.heap.size ≤ w1.heap.size := (by omega); (try have q1_0 : w.heap.size < w1.heap.size := (by omega)); (try have q1_1 : w.heap.size + 1 < w1.heap.size := (by omega)); (try have q1_2 : w.heap.size + 2 < w1.heap.size := (by omega)); (try have q1_3 : w.heap.size + 3 < w1.heap.size := (by omega)))
    go_wp2
    go_ret2
    exact ⟨ret_iv HM.out, by (repeat' (first | (with_reducible exact Below.refl _ _) | (with_reducible assumption) | (with_reducible refine Below.alloc ?_ ?_ _) | (with_reducible refine Below.drew ?_) | (with_reducible refine below_drewN ?_ _) | (with_reducible refine Below.setCell ?_ ?_ _) | (with_reducible refine below_call ?_ ?_ (by assumption)) | go_size))⟩
  · have h1 := askB_bd ga
    have HT := Lib.hid (fun W : World => minute_any n d h h1 W)
    have HM := Lib.hid (show (n * (h * 60) / d % 60, true) = minuteT h n d from by simp [minuteT, ga])
    (go_enter Try.func46, Try.ntmps46)
    go_wp2_with fail
    refine (tell_minute_ok h n d (n * (h * 60) / d % 60) ga HT.out _).mono ?_
    (rintro e1 w1 ⟨rfl, hb1⟩; obtain ⟨hc1, hf1⟩ := bcell hb1; have hz1 := hb1.size; (try simp only [World.size_alloc, World.size_setCell, World.size_drew] at hz1); have q1 : w.heap.size ≤ w1.heap.size := (by omega); (try have q1_0 : w.heap.size < w1.heap.size := (by omega)); (try have q1_1 : w.heap.size + 1 < w1.heap.size := (by omega)); (try have q1_2 : w.heap.size + 2 < w1.heap.size := (by omega)); (try have q1_3 : w.heap.size + 3 < w1.heap.size := (by omega)))
    go_wp2
    go_ret2
    exact ⟨ret_iv HM.out, by (repeat' (first | (with_reducible exact Below.refl _ _) | (with_reducible assumption) | (with_reducible refine Below.alloc ?_ ?_ _) | (with_reducible refine Below.drew ?_) | (with_reducible refine below_drewN ?_ _) | (with_reducible refine Below.setCell ?_ ?_ _) | (with_reducible refine below_call ?_ ?_ (by assumption)) | go_size))⟩

set_option maxHeartbeats 400000 in
theorem specMinuteOf_any (h n d : Int) (kd : -9223372036854775808 ≤ d ∧ d ≤ 9223372036854775807) (w : World) :
    Calls Try.prog 45 #[.int .i64 h, tv n d] w fun e w' => e = .returned (iv (minuteT h n d)) ∧ Below w.heap.size w w' := by
  cases ga : askB h n d
  · have HM := Lib.hid (show fail2 = minuteT h n d from by simp [minuteT, ga])
    (go_enter Try.func45, Try.ntmps45)
    go_wp2_with fail
    refine (diAsked_is h n d ga kd _).mono ?_
    (rintro e1 w1 ⟨rfl, hb1⟩; obtain ⟨hc1, hf1⟩ := bcell hb1; have hz1 := hb1.size; (try simp only [World.size_alloc, World.size_setCell, World.size_drew] at hz1); have q1 : w.heap.size ≤ w1.heap.size := (by omega); (try have q1_0 : w.heap.size < w1.heap.size := (by omega)); (try have q1_1 : w.heap.size + 1 < w1.heap.size := (by omega)); (try have q1_2 : w.heap.size + 2 < w1.heap.size := (by omega)); (try have q1_3 : w.heap.size + 3 < w1.heap.size := (by omega)))
    go_wp2
    go_ret2
    exact ⟨ret_iv HM.out, by (repeat' (first | (with_reducible exact Below.refl _ _) | (with_reducible assumption) | (with_reducible refine Below.alloc ?_ ?_ _) | (with_reducible refine Below.drew ?_) | (with_reducible refine below_drewN ?_ _) | (with_reducible refine Below.setCell ?_ ?_ _) | (with_reducible refine below_call ?_ ?_ (by assumption)) | go_size))⟩
  · have h1 := askB_bd ga
    obtain ⟨⟨c1, c2⟩, a1, a2, a3, a4⟩ := h1
    obtain ⟨p1, p2⟩ := mulb a3 a4 (show 0 ≤ h by omega) c2
    have p3 : 0 ≤ n * h / d := Int.ediv_nonneg p1 (by omega)
    have p4 : 0 ≤ n * h * 60 / d := Int.ediv_nonneg (by omega) (by omega)
    have E := Lib.hid (show n * h * 60 = n * (h * 60) from Int.mul_assoc ..)
    have HM := Lib.hid (show (n * (h * 60) / d % 60, true) = minuteT h n d from by simp [minuteT, ga])
    (go_enter Try.func45, Try.ntmps45)
    go_wp2_with fail
    refine (diAsked_is h n d ga kd _).mono ?_
    (rintro e1 w1 ⟨rfl, hb1⟩; obtain ⟨hc1, hf1⟩ := bcell hb1; have hz1 := hb1.size; (try simp only [World.size_alloc, World.size_setCell, World.size_drew] at hz1); have q1 : w.heap.size ≤ w1.heap.size := (by omega); (try have q1_0 : w.heap.size < w1.heap.size := (by omega)); (try have q1_1 : w.heap.size + 1 < w1.heap.size := (by omega)); (try have q1_2 : w.heap.size + 2 < w1.heap.size := (by omega)); (try have q1_3 : w.heap.size + 3 < w1.heap.size := (by omega)))
    go_wp2
    go_ret2
    exact ⟨ret_iv (a := (n * h * 60 / d % 60, true)) (by rw [E.out]; exact HM.out), by (repeat' (first | (with_reducible exact Below.refl _ _) | (with_reducible assumption) | (with_reducible refine Below.alloc ?_ ?_ _) | (with_reducible refine Below.drew ?_) | (with_reducible refine below_drewN ?_ _) | (with_reducible refine Below.setCell ?_ ?_ _) | (with_reducible refine below_call ?_ ?_ (by assumption)) | go_size))⟩

def timeOk (h a b c : Int) : Bool := inB h 2 24 && inB a 0 (h - 1) && inB b 0 59 && inB c 0 59
def timeT (h a b c : Int) : Int × Int × Bool := if timeOk h a b c then (lowNum (a * 3600 + b * 60 + c) (h * 3600), lowDen (a * 3600 + b * 60 + c) (h * 3600), true) else fail3

set_option maxHeartbeats 400000 in
theorem diTime_any (h a b c : Int) (h1 : 2 ≤ h ∧ h ≤ 24) (h2 : 0 ≤ a ∧ a ≤ h - 1) (h3 : 0 ≤ b ∧ b ≤ 59) (h4 : 0 ≤ c ∧ c ≤ 59) (w : World) :
    Calls Try.prog 79 #[.int .i64 h, .int .i64 a, .int .i64 b, .int .i64 c] w fun e w' => e = .returned (tv (lowNum (a * 3600 + b * 60 + c) (h * 3600)) (lowDen (a * 3600 + b * 60 + c) (h * 3600))) ∧ Below w.heap.size w w' := by
  obtain ⟨h1a, h1b⟩ := h1
  obtain ⟨h2a, h2b⟩ := h2
  obtain ⟨h3a, h3b⟩ := h3
  obtain ⟨h4a, h4b⟩ := h4
  have E := Lib.hid (show (a * 60 + b) * 60 + c = a * 3600 + b * 60 + c from by omega)
  (go_enter Try.func79, Try.ntmps79)
  go_wp2_with fail
  refine (diMake_low ((a * 60 + b) * 60 + c) (h * 3600) (by omega) (by omega) _).mono ?_
  (rintro e1 w1 ⟨rfl, hb1⟩; obtain ⟨hc1, hf1⟩ := bcell hb1; have hz1 := hb1.size; (try simp only [World.size_alloc, World.size_setCell, World.size_drew] at hz1); have q1 : w.heap.size ≤ w1.heap.size := (by omega); (try have q1_0 : w.heap.size < w1.heap.size := (by omega)); (try have q1_1 : w.heap.size + 1 < w1.heap.size := (by omega)); (try have q1_2 : w.heap.size + 2 < w1.heap.size := (by omega)); (try have q1_3 : w.heap.size + 3 < w1.heap.size := (by omega)))
  go_wp2
  (refine bodyPost_ret (by simp [results, Try.results79, go_sem, *]; try rfl) rfl ?_)
  exact ⟨by rw [← E.out], by (repeat' (first | (with_reducible exact Below.refl _ _) | (with_reducible assumption) | (with_reducible refine Below.alloc ?_ ?_ _) | (with_reducible refine Below.drew ?_) | (with_reducible refine below_drewN ?_ _) | (with_reducible refine Below.setCell ?_ ?_ _) | (with_reducible refine below_call ?_ ?_ (by assumption)) | go_size))⟩

set_option maxHeartbeats 800000 in
theorem implTimeOf_any (h a b c : Int) (w : World) :
    Calls Try.prog 50 #[.int .i64 h, .int .i64 a, .int .i64 b, .int .i64 c] w fun e w' => e = .returned (rv (timeT h a b c)) ∧ Below w.heap.size w w' := by
  cases ga : inB h 2 24
  · have HM := Lib.hid (show fail3 = timeT h a b c from by simp [timeT, timeOk, ga])
    (go_enter Try.func50, Try.ntmps50)
    go_wp2_with fail
    refine (isDial_is _ ga _).mono ?_
    (rintro e1 w1 ⟨rfl, rfl⟩)
    go_wp2
    (refine bodyPost_ret (by simp [results, Try.results50, go_sem, *]; try rfl) rfl ?_)
    exact ⟨ret_rv HM.out, by (repeat' (first | (with_reducible exact Below.refl _ _) | (with_reducible assumption) | (with_reducible refine Below.alloc ?_ ?_ _) | (with_reducible refine Below.drew ?_) | (with_reducible refine below_drewN ?_ _) | (with_reducible refine Below.setCell ?_ ?_ _) | (with_reducible refine below_call ?_ ?_ (by assumption)) | go_size))⟩
  · obtain ⟨h1a, h1b⟩ := inB_bd ga
    cases gb : inB a 0 (h - 1)
    · have HM := Lib.hid (show fail3 = timeT h a b c from by simp [timeT, timeOk, ga, gb])
      (go_enter Try.func50, Try.ntmps50)
      go_wp2_with fail
      refine (isDial_is _ ga _).mono ?_
      (rintro e1 w1 ⟨rfl, rfl⟩)
      go_wp2_with fail
      refine (isWithin_is _ _ _ gb _).mono ?_
      (rintro e1 w1 ⟨rfl, rfl⟩)
      go_wp2
      (refine bodyPost_ret (by simp [results, Try.results50, go_sem, *]; try rfl) rfl ?_)
      exact ⟨ret_rv HM.out, by (repeat' (first | (with_reducible exact Below.refl _ _) | (with_reducible assumption) | (with_reducible refine Below.alloc ?_ ?_ _) | (with_reducible refine Below.drew ?_) | (with_reducible refine below_drewN ?_ _) | (with_reducible refine Below.setCell ?_ ?_ _) | (with_reducible refine below_call ?_ ?_ (by assumption)) | go_size))⟩
    · cases gc' : inB b 0 59
      · have HM := Lib.hid (show fail3 = timeT h a b c from by simp [timeT, timeOk, ga, gb, gc'])
        (go_enter Try.func50, Try.ntmps50)
        go_wp2_with fail
        refine (isDial_is _ ga _).mono ?_
        (rintro e1 w1 ⟨rfl, rfl⟩)
        go_wp2_with fail
        refine (isWithin_is _ _ _ gb _).mono ?_
        (rintro e1 w1 ⟨rfl, rfl⟩)
        go_wp2_with fail
        refine (isWithin_is _ _ _ gc' _).mono ?_
        (rintro e1 w1 ⟨rfl, rfl⟩)
        go_wp2
        (refine bodyPost_ret (by simp [results, Try.results50, go_sem, *]; try rfl) rfl ?_)
        exact ⟨ret_rv HM.out, by (repeat' (first | (with_reducible exact Below.refl _ _) | (with_reducible assumption) | (with_reducible refine Below.alloc ?_ ?_ _) | (with_reducible refine Below.drew ?_) | (with_reducible refine below_drewN ?_ _) | (with_reducible refine Below.setCell ?_ ?_ _) | (with_reducible refine below_call ?_ ?_ (by assumption)) | go_size))⟩
      · cases gd : inB c 0 59
        · have HM := Lib.hid (show fail3 = timeT h a b c from by simp [timeT, timeOk, ga, gb, gc', gd])
          (go_enter Try.func50, Try.ntmps50)
          go_wp2_with fail
          refine (isDial_is _ ga _).mono ?_
          (rintro e1 w1 ⟨rfl, rfl⟩)
          go_wp2_with fail
          refine (isWithin_is _ _ _ gb _).mono ?_
          (rintro e1 w1 ⟨rfl, rfl⟩)
          go_wp2_with fail
          refine (isWithin_is _ _ _ gc' _).mono ?_
          (rintro e1 w1 ⟨rfl, rfl⟩)
          go_wp2_with fail
          refine (isWithin_is _ _ _ gd _).mono ?_
          (rintro e1 w1 ⟨rfl, rfl⟩)
          go_wp2
          (refine bodyPost_ret (by simp [results, Try.results50, go_sem, *]; try rfl) rfl ?_)
          exact ⟨ret_rv HM.out, by (repeat' (first | (with_reducible exact Below.refl _ _) | (with_reducible assumption) | (with_reducible refine Below.alloc ?_ ?_ _) | (with_reducible refine Below.drew ?_) | (with_reducible refine below_drewN ?_ _) | (with_reducible refine Below.setCell ?_ ?_ _) | (with_reducible refine below_call ?_ ?_ (by assumption)) | go_size))⟩
        · obtain ⟨h2a, h2b⟩ := inB_bd gb
          obtain ⟨h3a, h3b⟩ := inB_bd gc'
          obtain ⟨h4a, h4b⟩ := inB_bd gd
          have HM := Lib.hid (show (lowNum (a * 3600 + b * 60 + c) (h * 3600), lowDen (a * 3600 + b * 60 + c) (h * 3600), true) = timeT h a b c from by simp [timeT, timeOk, ga, gb, gc', gd])
          (go_enter Try.func50, Try.ntmps50)
          go_wp2_with fail
          refine (isDial_is _ ga _).mono ?_
          (rintro e1 w1 ⟨rfl, rfl⟩)
          go_wp2_with fail
          refine (isWithin_is _ _ _ gb _).mono ?_
          (rintro e1 w1 ⟨rfl, rfl⟩)
          go_wp2_with fail
          refine (isWithin_is _ _ _ gc' _).mono ?_
          (rintro e1 w1 ⟨rfl, rfl⟩)
          go_wp2_with fail
          refine (isWithin_is _ _ _ gd _).mono ?_
          (rintro e1 w1 ⟨rfl, rfl⟩)
          go_wp2_with fail
          refine (lowest_any (a * 3600 + b * 60 + c) (h * 3600) (by omega) (by omega) _).mono ?_
          (rintro e1 w1 ⟨rfl, hb1⟩; obtain ⟨hc1, hf1⟩ := bcell hb1; have hz1 := hb1.size; (try simp only [World.size_alloc, World.size_setCell, World.size_drew] at hz1); have q1 : w.heap.size ≤ w1.heap.size := (by omega); (try have q1_0 : w.heap.size < w1.heap.size := (by omega)); (try have q1_1 : w.heap.size + 1 < w1.heap.size := (by omega)); (try have q1_2 : w.heap.size + 2 < w1.heap.size := (by omega)); (try have q1_3 : w.heap.size + 3 < w1.heap.size := (by omega)))
          go_wp2
          (refine bodyPost_ret (by simp [results, Try.results50, go_sem, *]; try rfl) rfl ?_)
          exact ⟨ret_rv HM.out, by (repeat' (first | (with_reducible exact Below.refl _ _) | (with_reducible assumption) | (with_reducible refine Below.alloc ?_ ?_ _) | (with_reducible refine Below.drew ?_) | (with_reducible refine below_drewN ?_ _) | (with_reducible refine Below.setCell ?_ ?_ _) | (with_reducible refine below_call ?_ ?_ (by assumption)) | go_size))⟩

set_option maxHeartbeats 800000 in
theorem specTimeOf_any (h a b c : Int) (w : World) :
    Calls Try.prog 49 #[.int .i64 h, .int .i64 a, .int .i64 b, .int .i64 c] w fun e w' => e = .returned (rv (timeT h a b c)) ∧ Below w.heap.size w w' := by
  cases ga : inB h 2 24
  · have HM := Lib.hid (show fail3 = timeT h a b c from by simp [timeT, timeOk, ga])
    (go_enter Try.func49, Try.ntmps49)
    go_wp2_with fail
    refine (diHours_is _ ga _).mono ?_
    (rintro e1 w1 ⟨rfl, rfl⟩)
    go_wp2
    (refine bodyPost_ret (by simp [results, Try.results49, go_sem, *]; try rfl) rfl ?_)
    exact ⟨ret_rv HM.out, by (repeat' (first | (with_reducible exact Below.refl _ _) | (with_reducible assumption) | (with_reducible refine Below.alloc ?_ ?_ _) | (with_reducible refine Below.drew ?_) | (with_reducible refine below_drewN ?_ _) | (with_reducible refine Below.setCell ?_ ?_ _) | (with_reducible refine below_call ?_ ?_ (by assumption)) | go_size))⟩
  · obtain ⟨h1a, h1b⟩ := inB_bd ga
    cases gb : inB a 0 (h - 1)
    · have HM := Lib.hid (show fail3 = timeT h a b c from by simp [timeT, timeOk, ga, gb])
      (go_enter Try.func49, Try.ntmps49)
      go_wp2_with fail
      refine (diHours_is _ ga _).mono ?_
      (rintro e1 w1 ⟨rfl, rfl⟩)
      go_wp2_with fail
      refine (l1In_is _ _ _ gb _).mono ?_
      (rintro e1 w1 ⟨rfl, rfl⟩)
      go_wp2
      (refine bodyPost_ret (by simp [results, Try.results49, go_sem, *]; try rfl) rfl ?_)
      exact ⟨ret_rv HM.out, by (repeat' (first | (with_reducible exact Below.refl _ _) | (with_reducible assumption) | (with_reducible refine Below.alloc ?_ ?_ _) | (with_reducible refine Below.drew ?_) | (with_reducible refine below_drewN ?_ _) | (with_reducible refine Below.setCell ?_ ?_ _) | (with_reducible refine below_call ?_ ?_ (by assumption)) | go_size))⟩
    · cases gc' : inB b 0 59
      · have HM := Lib.hid (show fail3 = timeT h a b c from by simp [timeT, timeOk, ga, gb, gc'])
        (go_enter Try.func49, Try.ntmps49)
        go_wp2_with fail
        refine (diHours_is _ ga _).mono ?_
        (rintro e1 w1 ⟨rfl, rfl⟩)
        go_wp2_with fail
        refine (l1In_is _ _ _ gb _).mono ?_
        (rintro e1 w1 ⟨rfl, rfl⟩)
        go_wp2_with fail
        refine (l1In_is _ _ _ gc' _).mono ?_
        (rintro e1 w1 ⟨rfl, rfl⟩)
        go_wp2
        (refine bodyPost_ret (by simp [results, Try.results49, go_sem, *]; try rfl) rfl ?_)
        exact ⟨ret_rv HM.out, by (repeat' (first | (with_reducible exact Below.refl _ _) | (with_reducible assumption) | (with_reducible refine Below.alloc ?_ ?_ _) | (with_reducible refine Below.drew ?_) | (with_reducible refine below_drewN ?_ _) | (with_reducible refine Below.setCell ?_ ?_ _) | (with_reducible refine below_call ?_ ?_ (by assumption)) | go_size))⟩
      · cases gd : inB c 0 59
        · have HM := Lib.hid (show fail3 = timeT h a b c from by simp [timeT, timeOk, ga, gb, gc', gd])
          (go_enter Try.func49, Try.ntmps49)
          go_wp2_with fail
          refine (diHours_is _ ga _).mono ?_
          (rintro e1 w1 ⟨rfl, rfl⟩)
          go_wp2_with fail
          refine (l1In_is _ _ _ gb _).mono ?_
          (rintro e1 w1 ⟨rfl, rfl⟩)
          go_wp2_with fail
          refine (l1In_is _ _ _ gc' _).mono ?_
          (rintro e1 w1 ⟨rfl, rfl⟩)
          go_wp2_with fail
          refine (l1In_is _ _ _ gd _).mono ?_
          (rintro e1 w1 ⟨rfl, rfl⟩)
          go_wp2
          (refine bodyPost_ret (by simp [results, Try.results49, go_sem, *]; try rfl) rfl ?_)
          exact ⟨ret_rv HM.out, by (repeat' (first | (with_reducible exact Below.refl _ _) | (with_reducible assumption) | (with_reducible refine Below.alloc ?_ ?_ _) | (with_reducible refine Below.drew ?_) | (with_reducible refine below_drewN ?_ _) | (with_reducible refine Below.setCell ?_ ?_ _) | (with_reducible refine below_call ?_ ?_ (by assumption)) | go_size))⟩
        · obtain ⟨h2a, h2b⟩ := inB_bd gb
          obtain ⟨h3a, h3b⟩ := inB_bd gc'
          obtain ⟨h4a, h4b⟩ := inB_bd gd
          have HM := Lib.hid (show (lowNum (a * 3600 + b * 60 + c) (h * 3600), lowDen (a * 3600 + b * 60 + c) (h * 3600), true) = timeT h a b c from by simp [timeT, timeOk, ga, gb, gc', gd])
          (go_enter Try.func49, Try.ntmps49)
          go_wp2_with fail
          refine (diHours_is _ ga _).mono ?_
          (rintro e1 w1 ⟨rfl, rfl⟩)
          go_wp2_with fail
          refine (l1In_is _ _ _ gb _).mono ?_
          (rintro e1 w1 ⟨rfl, rfl⟩)
          go_wp2_with fail
          refine (l1In_is _ _ _ gc' _).mono ?_
          (rintro e1 w1 ⟨rfl, rfl⟩)
          go_wp2_with fail
          refine (l1In_is _ _ _ gd _).mono ?_
          (rintro e1 w1 ⟨rfl, rfl⟩)
          go_wp2_with fail
          refine (diTime_any h a b c ⟨h1a, h1b⟩ ⟨h2a, h2b⟩ ⟨h3a, h3b⟩ ⟨h4a, h4b⟩ _).mono ?_
          (rintro e1 w1 ⟨rfl, hb1⟩; obtain ⟨hc1, hf1⟩ := bcell hb1; have hz1 := hb1.size; (try simp only [World.size_alloc, World.size_setCell, World.size_drew] at hz1); have q1 : w.heap.size ≤ w1.heap.size := (by omega); (try have q1_0 : w.heap.size < w1.heap.size := (by omega)); (try have q1_1 : w.heap.size + 1 < w1.heap.size := (by omega)); (try have q1_2 : w.heap.size + 2 < w1.heap.size := (by omega)); (try have q1_3 : w.heap.size + 3 < w1.heap.size := (by omega)))
          go_wp2
          (refine bodyPost_ret (by simp [results, Try.results49, go_sem, *]; try rfl) rfl ?_)
          exact ⟨ret_rv HM.out, by (repeat' (first | (with_reducible exact Below.refl _ _) | (with_reducible assumption) | (with_reducible refine Below.alloc ?_ ?_ _) | (with_reducible refine Below.drew ?_) | (with_reducible refine below_drewN ?_ _) | (with_reducible refine Below.setCell ?_ ?_ _) | (with_reducible refine below_call ?_ ?_ (by assumption)) | go_size))⟩

end Go.Proofs.Ytebjlaajddpbhaa
