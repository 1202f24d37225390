/- Puzzles: the clue that minutes have, and whether they fit one: by the program and by the model. -/
import Derived.Test.YtcpgjjmamclklaaPz4
set_option linter.unusedSimpArgs false
set_option linter.unusedVariables false
set_option maxRecDepth 100000
namespace Go.Proofs.Ytcpgjjmamclklaa
open Go.RowKit
attribute [local go_sem ↓] run_eql_parts

set_option maxHeartbeats 400000 in
theorem zStrokesOf_any (h : Int) (w : World) :
    Calls Try.prog 122 #[.int .i64 h] w fun e w' => e = .returned (.func (.func 129) #[] #[.pointer (some ⟨w.heap.size, 0, none⟩)]) ∧ w' = w.alloc (Obj.cells #[Value.int .i64 h] 3) := by
  have hmf : ∀ (fn : Fn) (first cap : Array Value) (w : World), (Instr.makeFunc fn first cap).run Try.prog w = .ok (.func fn first cap) w := fun _ _ _ _ => rfl
  (go_enter Try.func122, Try.ntmps122)
  go_wp2
  (refine bodyPost_ret (by simp [results, Try.results122, go_sem, *]; try rfl) rfl ?_)
  exact ⟨rfl, rfl⟩
theorem z_mod_bd (x : Int) {h : Int} (hh : 2 ≤ h ∧ h ≤ 24) : 0 ≤ x % (2 * h) ∧ x % (2 * h) < 2 * h := ⟨Int.emod_nonneg _ (by omega), Int.emod_lt_of_pos _ (by omega)⟩
set_option maxHeartbeats 400000 in
theorem zStrokes_is {r : Int} (h x : Int) (b : Nat) (w : World) (hc : w.cell? ⟨b, 0, none⟩ = some (.int .i64 h)) (hh : 2 ≤ h ∧ h ≤ 24) (h0 : 0 ≤ x) (h1 : x ≤ 1000000) (hr : zA h (x % (2 * h)) = r) :
    Calls Try.prog 129 #[.int .i64 x, .pointer (some ⟨b, 0, none⟩)] w fun e w' => e = .returned (.int .i64 r) ∧ w = w' := by
  subst hr
  have hw2 := zw64 (n := 2 * h) (by omega)
  have hr := zt64 (n := x) (g := 2 * h) h0 (by omega) (by omega)
  obtain ⟨r0, r1⟩ := z_mod_bd x hh
  have hz : (2 * h == 0) = false := by simp; omega
  have e2 : x % (2 * h) % 2 = x % 2 := Int.emod_emod_of_dvd x ⟨h, rfl⟩
  have hr2 : (x % (2 * h)).tmod 2 = x % 2 := (Int.tmod_eq_emod_of_nonneg r0).trans e2
  have hq2 := zq64 (n := x % (2 * h)) (g := 2) r0 (by omega) (by omega)
  by_cases c2 : x % (2 * h) = 0
  · have HM := Lib.hid (show h = zA h (x % (2 * h)) from by simp [zA, c2])
    have c2' : (x % (2 * h) == 0) = true := by simpa using c2
    (go_enter Try.func129, Try.ntmps129)
    go_wp2
    go_ret
    exact ⟨zret_int HM.out, rfl⟩
  · have c2' : (x % (2 * h) == 0) = false := by simpa using c2
    by_cases c1 : x % 2 = 1
    · have HM := Lib.hid (show (1 : Int) = zA h (x % (2 * h)) from by simp only [zA]; rw [if_pos (by rw [e2]; exact c1)])
      have c1' : (x % 2 == 1) = true := by simpa using c1
      (go_enter Try.func129, Try.ntmps129)
      go_wp2
      go_ret
      exact ⟨zret_int HM.out, rfl⟩
    · have HM := Lib.hid (show x % (2 * h) / 2 = zA h (x % (2 * h)) from by simp only [zA]; rw [if_neg (by rw [e2]; exact c1), if_neg c2])
      have c1' : (x % 2 == 1) = false := by simpa using c1
      (go_enter Try.func129, Try.ntmps129)
      go_wp2
      go_ret
      exact ⟨zret_int HM.out, rfl⟩
set_option maxHeartbeats 400000 in
theorem zStAt_is {r : Int} (h x : Int) (h0 : 0 ≤ x) (h1 : x ≤ 1000) (e : zA h x = r) (w : World) :
    Calls Try.prog 118 #[.int .i64 h, .int .i64 x] w fun e w' => e = .returned (.int .i64 r) ∧ w = w' := by
  subst e
  have hr2 := zt64 (n := x) (g := 2) h0 (by omega) (by omega)
  have hq2 := zq64 (n := x) (g := 2) h0 (by omega) (by omega)
  by_cases c1 : x % 2 = 1
  · have HM := Lib.hid (show (1 : Int) = zA h x from by simp [zA, c1])
    (go_enter Try.func118, Try.ntmps118)
    go_wp2
    go_ret
    exact ⟨zret_int HM.out, rfl⟩
  · have c1' : (x % 2 == 1) = false := by simpa using c1
    by_cases c2 : x = 0
    · have HM := Lib.hid (show h = zA h x from by simp [zA, c2])
      subst c2
      (go_enter Try.func118, Try.ntmps118)
      go_wp2
      go_ret
      exact ⟨zret_int HM.out, rfl⟩
    · have HM := Lib.hid (show x / 2 = zA h x from by simp [zA, c1, c2])
      have c2' : (x == 0) = false := by simpa using c2
      (go_enter Try.func118, Try.ntmps118)
      go_wp2
      go_ret
      exact ⟨zret_int HM.out, rfl⟩
set_option maxHeartbeats 400000 in
theorem pzAhead_any (h m : Int) (hh : 2 ≤ h ∧ h ≤ 24) (hm : 0 ≤ m ∧ m < 60 * h) (w : World) :
    Calls Try.prog 106 #[.int .i64 h, .int .i64 m] w fun e w' => e = .returned (.int .i64 ((h - 1) * m % (60 * h))) ∧ w = w' := by
  obtain ⟨p1, p2⟩ := mulb (show 0 ≤ h - 1 by omega) (show h - 1 ≤ 23 by omega) hm.1 (show m ≤ 1440 by omega)
  have f1 := zw64 (n := h - 1) (by omega)
  have f2 := zw64 (n := (h - 1) * m) (by omega)
  have f3 := zw64 (n := 60 * h) (by omega)
  have f4 := zt64 (n := (h - 1) * m) (g := 60 * h) p1 (by omega) (by omega)
  have r0 := Int.emod_nonneg ((h - 1) * m) (show 60 * h ≠ 0 by omega)
  have r1 := Int.emod_lt_of_pos ((h - 1) * m) (show 0 < 60 * h by omega)
  have HE : Hid (((h - 1) * m % (60 * h) + 60 * h) % (60 * h) = (h - 1) * m % (60 * h)) := Lib.hid (by rw [Int.add_emod_right, Int.emod_emod_of_dvd _ (Int.dvd_refl _)])
  have f7 : ((h - 1) * m).tmod (60 * h) = (h - 1) * m % (60 * h) := Int.tmod_eq_emod_of_nonneg p1
  have f5 := zw64 (n := (h - 1) * m % (60 * h) + 60 * h) (by omega)
  have f6 := zt64 (n := (h - 1) * m % (60 * h) + 60 * h) (g := 60 * h) (by omega) (by omega) (by omega)
  have f8 : ((h - 1) * m % (60 * h) + 60 * h).tmod (60 * h) = ((h - 1) * m % (60 * h) + 60 * h) % (60 * h) := Int.tmod_eq_emod_of_nonneg (by omega)
  have z1 : ¬ (60 * h = 0) := by omega
  (go_enter Try.func106, Try.ntmps106)
  go_wp2
  go_ret
  exact ⟨rfl, rfl⟩
set_option maxHeartbeats 400000 in
theorem pzNext_any (h m : Int) (hh : 2 ≤ h ∧ h ≤ 24) (hm : 0 ≤ m ∧ m < 60 * h) (w : World) :
    Calls Try.prog 107 #[.int .i64 h, .int .i64 m] w fun e w' => e = .returned (.int .i64 (nxt h m)) ∧ w = w' := by
  have f1 := zq64 (n := m) (g := 60) hm.1 (by omega) (by omega)
  have f2 := zw64 (n := m / 60 + 1) (by omega)
  have f3 := zt64 (n := m / 60 + 1) (g := h) (by omega) (by omega) (by omega)
  have r0 := Int.emod_nonneg (m / 60 + 1) (show h ≠ 0 by omega)
  have r1 := Int.emod_lt_of_pos (m / 60 + 1) (show 0 < h by omega)
  have HE : Hid (zA h (2 * ((m / 60 + 1) % h)) = nxt h m) := Lib.hid rfl
  have f7 : (m / 60 + 1).tmod h = (m / 60 + 1) % h := Int.tmod_eq_emod_of_nonneg (by omega)
  have f4 := zw64 (n := 2 * ((m / 60 + 1) % h)) (by omega)
  have z1 : ¬ (h = 0) := by omega
  have HC := Lib.hid (fun W => zStAt_is h (2 * ((m / 60 + 1) % h)) (by omega) (by omega) HE.out W)
  generalize nxt h m = q at *
  (go_enter Try.func107, Try.ntmps107)
  go_wp2_with fail
  refine (HC.out _).mono ?_
  (rintro e1 w1 ⟨rfl, rfl⟩)
  go_wp2
  go_ret
  exact ⟨rfl, rfl⟩
set_option maxHeartbeats 400000 in
theorem l1Most_any (a b : Int) (w : World) :
    Calls Try.prog 119 #[.int .i64 a, .int .i64 b] w fun e w' => e = .returned (.int .i64 (if a > b then a else b)) ∧ w = w' := by
  by_cases c : a > b
  · rw [if_pos c]
    (go_enter Try.func119, Try.ntmps119)
    go_wp2
    go_ret
    exact ⟨rfl, rfl⟩
  · rw [if_neg c]
    (go_enter Try.func119, Try.ntmps119)
    go_wp2
    go_ret
    exact ⟨rfl, rfl⟩
theorem l1Most_is {r : Int} (a b : Int) (e : (if a > b then a else b) = r) (w : World) :
    Calls Try.prog 119 #[.int .i64 a, .int .i64 b] w fun e w' => e = .returned (.int .i64 r) ∧ w = w' := by
  subst e; exact l1Most_any a b w
set_option maxHeartbeats 400000 in
theorem l1Abs_any (a b : Int) (ha : 0 ≤ a ∧ a ≤ 1440) (hb : 0 ≤ b ∧ b ≤ 1440) (w : World) :
    Calls Try.prog 108 #[.int .i64 (a - b)] w fun e w' => e = .returned (.int .i64 (absd a b)) ∧ w = w' := by
  have f1 := zw64 (n := -(a - b)) (by omega)
  have HE : Hid ((if a - b > -(a - b) then a - b else -(a - b)) = absd a b) := Lib.hid (by unfold absd; split <;> split <;> omega)
  generalize a - b = d at *
  (go_enter Try.func108, Try.ntmps108)
  go_wp2_with fail
  refine (l1Most_is d (-d) HE.out _).mono ?_
  (rintro e1 w1 ⟨rfl, rfl⟩)
  go_wp2
  go_ret
  exact ⟨rfl, rfl⟩
theorem hm_bd {h m : Int} (hh : 2 ≤ h ∧ h ≤ 24) (hm : 0 ≤ m ∧ m < 60 * h) : (0 ≤ m / 60 ∧ m / 60 < h) ∧ 0 ≤ m % 60 ∧ m % 60 < 60 := by omega
theorem zret_kv {a b c a' b' c' : Int} (h1 : a = a') (h2 : b = b') (h3 : c = c') : Ending.returned (kv a b c) = .returned (kv a' b' c') := by rw [h1, h2, h3]
set_option maxHeartbeats 3200000 in
theorem clueOfMinute_any (h m k d : Int) (hh : 2 ≤ h ∧ h ≤ 24) (hm : 0 ≤ m ∧ m < 60 * h) (hd : k = 1 → 2 ≤ d ∧ d ≤ 60) (w : World) :
    Calls Try.prog 109 #[.int .i64 h, .int .i64 m, .int .i64 k, .int .i64 d] w fun e w' => e = .returned (kv (ofM h m k d).1 (ofM h m k d).2.1 (ofM h m k d).2.2) ∧ Below w.heap.size w w' := by
  obtain ⟨⟨b1, b2⟩, b3, b4⟩ := hm_bd hh hm
  have f1 := zq64 (n := m) (g := 60) hm.1 (by omega) (by omega)
  have f2 : m.tmod 60 = m % 60 := Int.tmod_eq_emod_of_nonneg hm.1
  have f3 := zw64 (n := m % 60) (by omega)
  by_cases c1 : k = 1
  · subst c1
    have hd' := hd rfl
    have f4 := zt64 (n := m % 60) (g := d) b3 (by omega) (by omega)
    have z1 : ¬ (d = 0) := by omega
    (go_enter Try.func109, Try.ntmps109)
    go_wp2
    (refine bodyPost_ret (by simp [results, Try.results109, go_sem, *]; try rfl) rfl ?_)
    exact ⟨rfl, by (repeat' (first | (with_reducible exact Below.refl _ _) | (with_reducible assumption) | (with_reducible refine Below.alloc ?_ ?_ _) | (with_reducible refine Below.drew ?_) | (with_reducible refine below_drewN ?_ _) | (with_reducible refine Below.setCell ?_ ?_ _) | (with_reducible refine below_call ?_ ?_ (by assumption)) | go_size))⟩
  rw [show ofM h m k d = (k, aOf h m k, 0) from by simp [ofM, c1]]
  have d1 : (k == 1) = false := by simpa using c1
  by_cases c0 : k = 0
  · subst c0
    have HE := Lib.hid (show m / 60 = aOf h m 0 from by simp [aOf])

    generalize aOf h m 0 = q at *
    have HF := Lib.hid (show ((0, q, 0) : Int × Int × Int) = (0, q, 0) from rfl)
    (go_enter Try.func109, Try.ntmps109)

    go_wp2
    (refine bodyPost_ret (by simp [results, Try.results109, go_sem, *]; try rfl) rfl ?_)
    exact ⟨zret_kv rfl HE.out rfl, by (repeat' (first | (with_reducible exact Below.refl _ _) | (with_reducible assumption) | (with_reducible refine Below.alloc ?_ ?_ _) | (with_reducible refine Below.drew ?_) | (with_reducible refine below_drewN ?_ _) | (with_reducible refine Below.setCell ?_ ?_ _) | (with_reducible refine below_call ?_ ?_ (by assumption)) | go_size))⟩
  by_cases c2 : k = 2
  · subst c2
    have HE := Lib.hid (show dsum (m / 60) + dsum (m % 60) = aOf h m 2 from by simp [aOf])
    have g1 : 0 ≤ dsum (m / 60) ∧ dsum (m / 60) ≤ 99 := by unfold dsum; omega
    have g2 : 0 ≤ dsum (m % 60) ∧ dsum (m % 60) ≤ 99 := by unfold dsum; omega
    have HX := Lib.hid (fun W => digitSum_any (m / 60) (by omega) W)
    have HY := Lib.hid (fun W => digitSum_any (m % 60) (by omega) W)
    generalize dsum (m / 60) = s at *
    generalize dsum (m % 60) = t at *
    have f5 := zw64 (n := s + t) (by omega)
    generalize aOf h m 2 = q at *
    have HF := Lib.hid (show ((2, q, 0) : Int × Int × Int) = (2, q, 0) from rfl)
    (go_enter Try.func109, Try.ntmps109)
    go_wp2_with fail
    refine (HX.out _).mono ?_
    (rintro e1 w1 ⟨rfl, rfl⟩)
    go_wp2_with fail
    refine (HY.out _).mono ?_
    (rintro e1 w1 ⟨rfl, rfl⟩)
    go_wp2
    (refine bodyPost_ret (by simp [results, Try.results109, go_sem, *]; try rfl) rfl ?_)
    exact ⟨zret_kv rfl HE.out rfl, by (repeat' (first | (with_reducible exact Below.refl _ _) | (with_reducible assumption) | (with_reducible refine Below.alloc ?_ ?_ _) | (with_reducible refine Below.drew ?_) | (with_reducible refine below_drewN ?_ _) | (with_reducible refine Below.setCell ?_ ?_ _) | (with_reducible refine below_call ?_ ?_ (by assumption)) | go_size))⟩
  by_cases c3 : k = 3
  · subst c3
    have HE := Lib.hid (show ahd h m = aOf h m 3 from by simp [aOf])
    have HX := Lib.hid (fun W => aheadOfMinute_any h m hh hm W)
    generalize ahd h m = s at *
    generalize aOf h m 3 = q at *
    have HF := Lib.hid (show ((3, q, 0) : Int × Int × Int) = (3, q, 0) from rfl)
    (go_enter Try.func109, Try.ntmps109)
    go_wp2_with fail
    refine (HX.out _).mono ?_
    (rintro e1 w1 ⟨rfl, hb1⟩; obtain ⟨hc1, hf1⟩ := bcell hb1; have hz1 := hb1.size; (try simp only [World.size_alloc, World.size_setCell, World.size_drew] at hz1); have q1 : w.heap.size ≤ w1.heap.size := (by omega); (try have q1_0 : w.heap.size < w1.heap.size := (by omega)); (try have q1_1 : w.heap.size + 1 < w1.heap.size := (by omega)); (try have q1_2 : w.heap.size + 2 < w1.heap.size := (by omega)); (try have q1_3 : w.heap.size + 3 < w1.heap.size := (by omega)))
    go_wp2
    (refine bodyPost_ret (by simp [results, Try.results109, go_sem, *]; try rfl) rfl ?_)
    exact ⟨zret_kv rfl HE.out rfl, by (repeat' (first | (with_reducible exact Below.refl _ _) | (with_reducible assumption) | (with_reducible refine Below.alloc ?_ ?_ _) | (with_reducible refine Below.drew ?_) | (with_reducible refine below_drewN ?_ _) | (with_reducible refine Below.setCell ?_ ?_ _) | (with_reducible refine below_call ?_ ?_ (by assumption)) | go_size))⟩
  by_cases c4 : k = 4
  · subst c4
    have HE := Lib.hid (show nxt h m = aOf h m 4 from by simp [aOf])
    have HN := Lib.hid (show zA h (2 * (m / 60 + 1) % (2 * h)) = nxt h m from by unfold nxt; rw [nxt_on])
    generalize nxt h m = s at *
    have f5 := zw64 (n := m / 60 + 1) (by omega)
    have f6 := zw64 (n := 2 * (m / 60 + 1)) (by omega)
    generalize aOf h m 4 = q at *
    have HF := Lib.hid (show ((4, q, 0) : Int × Int × Int) = (4, q, 0) from rfl)
    (go_enter Try.func109, Try.ntmps109)
    go_wp2_with fail
    refine (zStrokesOf_any h _).mono ?_
    (rintro e1 w1 ⟨rfl, rfl⟩)
    go_wp2_with fail
    refine (zStrokes_is h (2 * (m / 60 + 1)) (w.heap.size + 1) _ (by go_simp) hh (by omega) (by omega) HN.out).mono ?_
    (rintro e1 w1 ⟨rfl, rfl⟩)
    go_wp2
    (refine bodyPost_ret (by simp [results, Try.results109, go_sem, *]; try rfl) rfl ?_)
    exact ⟨zret_kv rfl HE.out rfl, by (repeat' (first | (with_reducible exact Below.refl _ _) | (with_reducible assumption) | (with_reducible refine Below.alloc ?_ ?_ _) | (with_reducible refine Below.drew ?_) | (with_reducible refine below_drewN ?_ _) | (with_reducible refine Below.setCell ?_ ?_ _) | (with_reducible refine below_call ?_ ?_ (by assumption)) | go_size))⟩
  by_cases c5 : k = 5
  · subst c5
    have HE := Lib.hid (show absd (m / 60) (m % 60) = aOf h m 5 from by simp [aOf])
    have f5 := zw64 (n := m / 60 - m % 60) (by omega)
    have f6 := zw64 (n := m % 60 - m / 60) (by omega)
    have HMX : Hid (∀ q, absd (m / 60) (m % 60) = q → (m / 60 - m % 60 = q ∨ m % 60 - m / 60 = q) ∧ m / 60 - m % 60 ≤ q ∧ m % 60 - m / 60 ≤ q) := Lib.hid (fun q e => by subst e; unfold absd; split <;> omega)
    generalize aOf h m 5 = q at *
    have HF := Lib.hid (show ((5, q, 0) : Int × Int × Int) = (5, q, 0) from rfl)
    (go_enter Try.func109, Try.ntmps109)

    have HM := Lib.hid (HMX.out _ HE.out)
    clear HMX HE
    go_wp2
    all_goals
      (refine bodyPost_ret (by simp [results, Try.results109, go_sem, *]; try rfl) rfl ?_)
      refine ⟨zret_kv rfl ?_ rfl, by (repeat' (first | (with_reducible exact Below.refl _ _) | (with_reducible assumption) | (with_reducible refine Below.alloc ?_ ?_ _) | (with_reducible refine Below.drew ?_) | (with_reducible refine below_drewN ?_ _) | (with_reducible refine Below.setCell ?_ ?_ _) | (with_reducible refine below_call ?_ ?_ (by assumption)) | go_size))⟩
      have := HM.out
      omega
  have d0 : (k == 0) = false := by simpa using c0
  have d2 : (k == 2) = false := by simpa using c2
  have d3 : (k == 3) = false := by simpa using c3
  have d4 : (k == 4) = false := by simpa using c4
  have d5 : (k == 5) = false := by simpa using c5
  have HE := Lib.hid (show (0 : Int) = aOf h m k from by simp [aOf, c0, c2, c3, c4, c5])
  clear c0 c1 c2 c3 c4 c5
  generalize aOf h m k = q at *
  (go_enter Try.func109, Try.ntmps109)
  go_wp2
  (refine bodyPost_ret (by simp [results, Try.results109, go_sem, *]; try rfl) rfl ?_)
  exact ⟨zret_kv rfl HE.out rfl, by (repeat' (first | (with_reducible exact Below.refl _ _) | (with_reducible assumption) | (with_reducible refine Below.alloc ?_ ?_ _) | (with_reducible refine Below.drew ?_) | (with_reducible refine below_drewN ?_ _) | (with_reducible refine Below.setCell ?_ ?_ _) | (with_reducible refine below_call ?_ ?_ (by assumption)) | go_size))⟩
end Go.Proofs.Ytcpgjjmamclklaa
