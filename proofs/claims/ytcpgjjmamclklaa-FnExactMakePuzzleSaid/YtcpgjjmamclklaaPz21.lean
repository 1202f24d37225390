/- Puzzles: clues that are made: by the program and by the model. -/
import Derived.Test.YtcpgjjmamclklaaPz6
set_option linter.unusedSimpArgs false
set_option linter.unusedVariables false
set_option maxRecDepth 100000
namespace Go.Proofs.Ytcpgjjmamclklaa
open Go.RowKit

/-- The next number. -/
def zn (z : Int) : Int := (z * 163 + 2917) % 10009
theorem zn_bd (z : Int) : 0 ≤ zn z ∧ zn z ≤ 10008 := by unfold zn; omega
/-- The clue that is made behind a number, and the number then. -/
def mkC (h m z : Int) : (Int × Int × Int) × Int := if zn z % 6 = 1 then (ofM h m 1 (zn (zn z) % 59 + 2), zn (zn z)) else (ofM h m (zn z % 6) 0, zn z)
def mkS (h m seed : Int) : Nat → List (Int × Int × Int) × Int
  | 0 => ([], seed)
  | k + 1 => ((mkS h m seed k).1 ++ [(mkC h m (mkS h m seed k).2).1], (mkC h m (mkS h m seed k).2).2)
theorem mkS_len (h m seed : Int) (k : Nat) : (mkS h m seed k).1.length = k := by
  induction k with
  | zero => rfl
  | succ k ih => simp [mkS, ih]
theorem mkC_bd (h m z : Int) : 0 ≤ (mkC h m z).2 ∧ (mkC h m z).2 ≤ 10008 := by unfold mkC; split <;> exact zn_bd _
theorem mkS_bd (h m seed : Int) (hs : 0 ≤ seed ∧ seed ≤ 9999) (k : Nat) : 0 ≤ (mkS h m seed k).2 ∧ (mkS h m seed k).2 ≤ 10008 := by
  cases k with
  | zero => show 0 ≤ seed ∧ seed ≤ 10008; omega
  | succ k => exact mkC_bd h m _
theorem ofM_other {h m k d d' : Int} (hk : k ≠ 1) : ofM h m k d = ofM h m k d' := by unfold ofM; rw [if_neg hk, if_neg hk]
set_option maxHeartbeats 800000 in
theorem pzOf0 (h m d : Int) (hh : 2 ≤ h ∧ h ≤ 24) (hm : 0 ≤ m ∧ m < 60 * h) (w : World) :
    Calls Try.prog 99 #[.int .i64 h, .int .i64 0, .int .i64 d, .int .i64 m] w fun e w' => e = .returned (kv (ofM h m 0 d).1 (ofM h m 0 d).2.1 (ofM h m 0 d).2.2) ∧ Below w.heap.size w w' := by
  obtain ⟨⟨b1, b2⟩, b3, b4⟩ := hm_bd hh hm
  have f1 := zq64 (n := m) (g := 60) hm.1 (by omega) (by omega)
  have f2 : m.tmod 60 = m % 60 := Int.tmod_eq_emod_of_nonneg hm.1
  have f3 := zw64 (n := m % 60) (by omega)
  have HE : Hid (ofM h m 0 d = (0, m / 60, 0)) := Lib.hid (by simp [ofM, aOf])

  (go_enter Try.func99, Try.ntmps99)
  go_wp2
  (refine bodyPost_ret (by simp [results, Try.results99, go_sem, *]; try rfl) rfl ?_)
  rw [HE.out]
  exact ⟨rfl, by (repeat' (first | (with_reducible exact Below.refl _ _) | (with_reducible assumption) | (with_reducible refine Below.alloc ?_ ?_ _) | (with_reducible refine Below.drew ?_) | (with_reducible refine below_drewN ?_ _) | (with_reducible refine Below.setCell ?_ ?_ _) | (with_reducible refine below_call ?_ ?_ (by assumption)) | go_size))⟩
set_option maxHeartbeats 800000 in
theorem pzOf2 (h m d : Int) (hh : 2 ≤ h ∧ h ≤ 24) (hm : 0 ≤ m ∧ m < 60 * h) (w : World) :
    Calls Try.prog 99 #[.int .i64 h, .int .i64 2, .int .i64 d, .int .i64 m] w fun e w' => e = .returned (kv (ofM h m 2 d).1 (ofM h m 2 d).2.1 (ofM h m 2 d).2.2) ∧ Below w.heap.size w w' := by
  obtain ⟨⟨b1, b2⟩, b3, b4⟩ := hm_bd hh hm
  have f1 := zq64 (n := m) (g := 60) hm.1 (by omega) (by omega)
  have f2 : m.tmod 60 = m % 60 := Int.tmod_eq_emod_of_nonneg hm.1
  have f3 := zw64 (n := m % 60) (by omega)
  have HE : Hid (ofM h m 2 d = (2, dsum (m / 60) + dsum (m % 60), 0)) := Lib.hid (by simp [ofM, aOf])
  have g1 := zq64 (n := m / 60) (g := 10) (by omega) (by omega) (by omega)
  have g2 : (m / 60).tmod 10 = m / 60 % 10 := Int.tmod_eq_emod_of_nonneg b1
  have g3 := zw64 (n := m / 60 % 10) (by omega)
  have g4 := zw64 (n := m / 60 / 10 + m / 60 % 10) (by omega)
  have g5 := zq64 (n := m % 60) (g := 10) (by omega) (by omega) (by omega)
  have g6 := zw64 (n := m / 60 / 10 + m / 60 % 10 + m % 60 / 10) (by omega)
  have g7 : (m % 60).tmod 10 = m % 60 % 10 := Int.tmod_eq_emod_of_nonneg b3
  have g8 := zw64 (n := m % 60 % 10) (by omega)
  have g9 := zw64 (n := m / 60 / 10 + m / 60 % 10 + m % 60 / 10 + m % 60 % 10) (by omega)
  have HS : Hid (m / 60 / 10 + m / 60 % 10 + m % 60 / 10 + m % 60 % 10 = dsum (m / 60) + dsum (m % 60)) := Lib.hid (by unfold dsum; omega)
  (go_enter Try.func99, Try.ntmps99)
  go_wp2
  (refine bodyPost_ret (by simp [results, Try.results99, go_sem, *]; try rfl) rfl ?_)
  rw [HE.out]
  exact ⟨by rw [← HS.out]; simp, by (repeat' (first | (with_reducible exact Below.refl _ _) | (with_reducible assumption) | (with_reducible refine Below.alloc ?_ ?_ _) | (with_reducible refine Below.drew ?_) | (with_reducible refine below_drewN ?_ _) | (with_reducible refine Below.setCell ?_ ?_ _) | (with_reducible refine below_call ?_ ?_ (by assumption)) | go_size))⟩
set_option maxHeartbeats 800000 in
theorem pzOf3 (h m d : Int) (hh : 2 ≤ h ∧ h ≤ 24) (hm : 0 ≤ m ∧ m < 60 * h) (w : World) :
    Calls Try.prog 99 #[.int .i64 h, .int .i64 3, .int .i64 d, .int .i64 m] w fun e w' => e = .returned (kv (ofM h m 3 d).1 (ofM h m 3 d).2.1 (ofM h m 3 d).2.2) ∧ Below w.heap.size w w' := by
  obtain ⟨⟨b1, b2⟩, b3, b4⟩ := hm_bd hh hm
  have f1 := zq64 (n := m) (g := 60) hm.1 (by omega) (by omega)
  have f2 : m.tmod 60 = m % 60 := Int.tmod_eq_emod_of_nonneg hm.1
  have f3 := zw64 (n := m % 60) (by omega)
  have HE : Hid (ofM h m 3 d = (3, ahd h m, 0)) := Lib.hid (by simp [ofM, aOf])
  have HC := Lib.hid (fun W => pzAhead_any h m hh hm W)
  have HA : Hid (ahd h m = if (h - 1) * m % (60 * h) < 30 * h then 1 else 0) := Lib.hid rfl
  generalize (h - 1) * m % (60 * h) = t at *
  have f5 := zw64 (n := 30 * h) (by omega)
  by_cases ht : t < 30 * h
  · have HB : Hid (ahd h m = 1) := Lib.hid (by rw [HA.out, if_pos ht])
    (go_enter Try.func99, Try.ntmps99)
    go_wp2_with fail
    refine (HC.out _).mono ?_
    (rintro e1 w1 ⟨rfl, rfl⟩)
    go_wp2
    (refine bodyPost_ret (by simp [results, Try.results99, go_sem, *]; try rfl) rfl ?_)
    rw [HE.out, HB.out]
    exact ⟨rfl, by (repeat' (first | (with_reducible exact Below.refl _ _) | (with_reducible assumption) | (with_reducible refine Below.alloc ?_ ?_ _) | (with_reducible refine Below.drew ?_) | (with_reducible refine below_drewN ?_ _) | (with_reducible refine Below.setCell ?_ ?_ _) | (with_reducible refine below_call ?_ ?_ (by assumption)) | go_size))⟩
  have HB : Hid (ahd h m = 0) := Lib.hid (by rw [HA.out, if_neg ht])
  (go_enter Try.func99, Try.ntmps99)
  go_wp2_with fail
  refine (HC.out _).mono ?_
  (rintro e1 w1 ⟨rfl, rfl⟩)
  go_wp2
  (refine bodyPost_ret (by simp [results, Try.results99, go_sem, *]; try rfl) rfl ?_)
  rw [HE.out, HB.out]
  exact ⟨rfl, by (repeat' (first | (with_reducible exact Below.refl _ _) | (with_reducible assumption) | (with_reducible refine Below.alloc ?_ ?_ _) | (with_reducible refine Below.drew ?_) | (with_reducible refine below_drewN ?_ _) | (with_reducible refine Below.setCell ?_ ?_ _) | (with_reducible refine below_call ?_ ?_ (by assumption)) | go_size))⟩
set_option maxHeartbeats 800000 in
theorem pzOf4 (h m d : Int) (hh : 2 ≤ h ∧ h ≤ 24) (hm : 0 ≤ m ∧ m < 60 * h) (w : World) :
    Calls Try.prog 99 #[.int .i64 h, .int .i64 4, .int .i64 d, .int .i64 m] w fun e w' => e = .returned (kv (ofM h m 4 d).1 (ofM h m 4 d).2.1 (ofM h m 4 d).2.2) ∧ Below w.heap.size w w' := by
  obtain ⟨⟨b1, b2⟩, b3, b4⟩ := hm_bd hh hm
  have f1 := zq64 (n := m) (g := 60) hm.1 (by omega) (by omega)
  have f2 : m.tmod 60 = m % 60 := Int.tmod_eq_emod_of_nonneg hm.1
  have f3 := zw64 (n := m % 60) (by omega)
  have HE : Hid (ofM h m 4 d = (4, nxt h m, 0)) := Lib.hid (by simp [ofM, aOf])
  have HC := Lib.hid (fun W => pzNext_any h m hh hm W)
  (go_enter Try.func99, Try.ntmps99)
  go_wp2_with fail
  refine (HC.out _).mono ?_
  (rintro e1 w1 ⟨rfl, rfl⟩)
  go_wp2
  (refine bodyPost_ret (by simp [results, Try.results99, go_sem, *]; try rfl) rfl ?_)
  rw [HE.out]
  exact ⟨rfl, by (repeat' (first | (with_reducible exact Below.refl _ _) | (with_reducible assumption) | (with_reducible refine Below.alloc ?_ ?_ _) | (with_reducible refine Below.drew ?_) | (with_reducible refine below_drewN ?_ _) | (with_reducible refine Below.setCell ?_ ?_ _) | (with_reducible refine below_call ?_ ?_ (by assumption)) | go_size))⟩
set_option maxHeartbeats 800000 in
theorem pzOf5 (h m d : Int) (hh : 2 ≤ h ∧ h ≤ 24) (hm : 0 ≤ m ∧ m < 60 * h) (w : World) :
    Calls Try.prog 99 #[.int .i64 h, .int .i64 5, .int .i64 d, .int .i64 m] w fun e w' => e = .returned (kv (ofM h m 5 d).1 (ofM h m 5 d).2.1 (ofM h m 5 d).2.2) ∧ Below w.heap.size w w' := by
  obtain ⟨⟨b1, b2⟩, b3, b4⟩ := hm_bd hh hm
  have f1 := zq64 (n := m) (g := 60) hm.1 (by omega) (by omega)
  have f2 : m.tmod 60 = m % 60 := Int.tmod_eq_emod_of_nonneg hm.1
  have f3 := zw64 (n := m % 60) (by omega)
  have HE : Hid (ofM h m 5 d = (5, absd (m / 60) (m % 60), 0)) := Lib.hid (by simp [ofM, aOf])
  have HC := Lib.hid (fun W => l1Abs_any (m / 60) (m % 60) (by omega) (by omega) W)
  have f5 := zw64 (n := m / 60 - m % 60) (by omega)
  (go_enter Try.func99, Try.ntmps99)
  go_wp2_with fail
  refine (HC.out _).mono ?_
  (rintro e1 w1 ⟨rfl, rfl⟩)
  go_wp2
  (refine bodyPost_ret (by simp [results, Try.results99, go_sem, *]; try rfl) rfl ?_)
  rw [HE.out]
  exact ⟨rfl, by (repeat' (first | (with_reducible exact Below.refl _ _) | (with_reducible assumption) | (with_reducible refine Below.alloc ?_ ?_ _) | (with_reducible refine Below.drew ?_) | (with_reducible refine below_drewN ?_ _) | (with_reducible refine Below.setCell ?_ ?_ _) | (with_reducible refine below_call ?_ ?_ (by assumption)) | go_size))⟩
set_option maxHeartbeats 800000 in
theorem pzOf1 (h m d : Int) (hh : 2 ≤ h ∧ h ≤ 24) (hm : 0 ≤ m ∧ m < 60 * h) (hd : 2 ≤ d ∧ d ≤ 60) (w : World) :
    Calls Try.prog 99 #[.int .i64 h, .int .i64 1, .int .i64 d, .int .i64 m] w fun e w' => e = .returned (kv (ofM h m 1 d).1 (ofM h m 1 d).2.1 (ofM h m 1 d).2.2) ∧ Below w.heap.size w w' := by
  obtain ⟨⟨b1, b2⟩, b3, b4⟩ := hm_bd hh hm
  have f1 := zq64 (n := m) (g := 60) hm.1 (by omega) (by omega)
  have f2 : m.tmod 60 = m % 60 := Int.tmod_eq_emod_of_nonneg hm.1
  have f3 := zw64 (n := m % 60) (by omega)
  have HE : Hid (ofM h m 1 d = (1, d, m % 60 % d)) := Lib.hid (by simp [ofM])
  have f4 := zt64 (n := m % 60) (g := d) b3 (by omega) (by omega)
  have f5 : (m % 60).tmod d = m % 60 % d := Int.tmod_eq_emod_of_nonneg b3
  have z1 : ¬ (d = 0) := by omega
  (go_enter Try.func99, Try.ntmps99)
  go_wp2
  (refine bodyPost_ret (by simp [results, Try.results99, go_sem, *]; try rfl) rfl ?_)
  rw [HE.out]
  exact ⟨rfl, by (repeat' (first | (with_reducible exact Below.refl _ _) | (with_reducible assumption) | (with_reducible refine Below.alloc ?_ ?_ _) | (with_reducible refine Below.drew ?_) | (with_reducible refine below_drewN ?_ _) | (with_reducible refine Below.setCell ?_ ?_ _) | (with_reducible refine below_call ?_ ?_ (by assumption)) | go_size))⟩
theorem pzOf_any (h k m d : Int) (hh : 2 ≤ h ∧ h ≤ 24) (hm : 0 ≤ m ∧ m < 60 * h) (hk : 0 ≤ k ∧ k ≤ 5) (hd : k = 1 → 2 ≤ d ∧ d ≤ 60) (w : World) :
    Calls Try.prog 99 #[.int .i64 h, .int .i64 k, .int .i64 d, .int .i64 m] w fun e w' => e = .returned (kv (ofM h m k d).1 (ofM h m k d).2.1 (ofM h m k d).2.2) ∧ Below w.heap.size w w' := by
  rcases (show k = 0 ∨ k = 1 ∨ k = 2 ∨ k = 3 ∨ k = 4 ∨ k = 5 by omega) with rfl | rfl | rfl | rfl | rfl | rfl
  · exact pzOf0 h m d hh hm w
  · exact pzOf1 h m d hh hm (hd rfl) w
  · exact pzOf2 h m d hh hm w
  · exact pzOf3 h m d hh hm w
  · exact pzOf4 h m d hh hm w
  · exact pzOf5 h m d hh hm w
set_option maxHeartbeats 400000 in
theorem numbersBehind_any (s : Int) (w : World) :
    Calls Try.prog 100 #[.int .i64 s] w fun e w' => e = .returned (.func (.func 117) #[] #[.pointer (some ⟨w.heap.size, 0, none⟩)]) ∧ w' = w.alloc (Obj.cells #[Value.int .i64 s] 3) := by
  have hmf : ∀ (fn : Fn) (first cap : Array Value) (w : World), (Instr.makeFunc fn first cap).run Try.prog w = .ok (.func fn first cap) w := fun _ _ _ _ => rfl
  (go_enter Try.func100, Try.ntmps100)
  go_wp2
  (refine bodyPost_ret (by simp [results, Try.results100, go_sem, *]; try rfl) rfl ?_)
  exact ⟨rfl, rfl⟩
set_option maxHeartbeats 400000 in
theorem next_any (z : Int) (g : Nat) (hz : 0 ≤ z ∧ z ≤ 10008) (w : World) (hc : w.cell? ⟨g, 0, none⟩ = some (.int .i64 z)) (hf : w.frozen? ⟨g, 0, none⟩ = false) :
    Calls Try.prog 117 #[.pointer (some ⟨g, 0, none⟩)] w fun e w' => e = .returned (.int .i64 (zn z)) ∧ w' = w.setCell ⟨g, 0, none⟩ (.int .i64 (zn z)) := by
  have f1 := zw64 (n := z * 163) (by omega)
  have f2 := zw64 (n := z * 163 + 2917) (by omega)
  have f3 : (z * 163 + 2917).tmod 10009 = zn z := Int.tmod_eq_emod_of_nonneg (by omega)
  have hb := zn_bd z
  have f4 := zw64 (n := zn z) (by omega)
  generalize zn z = t at *
  (go_enter Try.func117, Try.ntmps117)
  go_wp2
  go_ret
  exact ⟨rfl, rfl⟩
set_option maxHeartbeats 1600000 in
theorem makeClue_any (h m z : Int) (g : Nat) (hh : 2 ≤ h ∧ h ≤ 24) (hm : 0 ≤ m ∧ m < 60 * h) (hz : 0 ≤ z ∧ z ≤ 10008) (w : World) (hc : w.cell? ⟨g, 0, none⟩ = some (.int .i64 z)) (hf : w.frozen? ⟨g, 0, none⟩ = false) (hg : g < w.heap.size) :
    Calls Try.prog 101 #[.int .i64 h, .int .i64 m, .func (.func 117) #[] #[.pointer (some ⟨g, 0, none⟩)]] w fun e w' =>
      e = .returned (kv (mkC h m z).1.1 (mkC h m z).1.2.1 (mkC h m z).1.2.2) ∧ w.grownBy w' (some g) ∧ w'.cell? ⟨g, 0, none⟩ = some (.int .i64 (mkC h m z).2) ∧ w'.frozen? ⟨g, 0, none⟩ = false := by
  have hb1 := zn_bd z
  have hb2 := zn_bd (zn z)
  have HN := Lib.hid (next_any z g hz)
  have HN2 := Lib.hid (next_any (zn z) g (by omega))
  have HM : Hid (mkC h m z = if zn z % 6 = 1 then (ofM h m 1 (zn (zn z) % 59 + 2), zn (zn z)) else (ofM h m (zn z % 6) 0, zn z)) := Lib.hid rfl
  generalize zn (zn z) = z2 at *
  generalize zn z = z1 at *
  have f1 : z1.tmod 6 = z1 % 6 := Int.tmod_eq_emod_of_nonneg hb1.1
  have f2 := zw64 (n := z1 % 6) (by omega)
  have f3 : z2.tmod 59 = z2 % 59 := Int.tmod_eq_emod_of_nonneg hb2.1
  have f4 := zw64 (n := z2 % 59) (by omega)
  have f5 := zw64 (n := z2 % 59 + 2) (by omega)
  have hgrow : ∀ (W : World) (u : Value), W.grownBy (W.setCell ⟨g, 0, none⟩ u) (some g) := fun W u => ⟨rfl, rfl, rfl, by simp, fun k hk hne => Below.heap_setCell W ⟨g, 0, none⟩ u k (fun e => hne (by rw [e]))⟩
  have HGR := Lib.hid hgrow
  clear hgrow
  by_cases hk : z1 % 6 = 1
  · have HM2 : Hid (mkC h m z = (ofM h m 1 (z2 % 59 + 2), z2)) := Lib.hid (by rw [HM.out, if_pos hk])
    have HC := Lib.hid (fun W => clueOfMinute_any h m 1 (z2 % 59 + 2) hh hm (fun _ => by omega) W)
    rw [hk] at f1 f2
    clear hk HM
    (go_enter Try.func101, Try.ntmps101)
    go_wp2_with fail
    refine (HN.out _ (by go_simp) (by go_simp)).mono ?_
    (rintro e1 w1 ⟨rfl, rfl⟩)
    go_wp2_with fail
    refine (HN2.out _ (by go_simp) (by go_simp)).mono ?_
    (rintro e1 w1 ⟨rfl, rfl⟩)
    go_wp2_with fail
    refine (HC.out _).mono ?_
    rintro e1 w1 ⟨rfl, hb⟩
    obtain ⟨hcq, hfq⟩ := bcell hb
    have hzq := hb.size
    simp only [World.size_setCell, World.size_alloc] at hzq
    have hne : ¬ w.heap.size = g := by omega
    have hne' : ¬ g = w.heap.size := by omega
    have t0 : w1.cell? ⟨w.heap.size, 0, none⟩ = some (.int .i64 0) := (hcq _ _ (by simp)).trans (by go_simp)
    have t1 : w1.cell? ⟨w.heap.size, 1, none⟩ = some (.int .i64 0) := (hcq _ _ (by simp)).trans (by go_simp)
    have t2 : w1.cell? ⟨w.heap.size, 2, none⟩ = some (.int .i64 0) := (hcq _ _ (by simp)).trans (by go_simp)
    have z0 : w1.frozen? ⟨w.heap.size, 0, none⟩ = false := (hfq _ _ (by simp)).trans (by go_simp)
    have z1' : w1.frozen? ⟨w.heap.size, 1, none⟩ = false := (hfq _ _ (by simp)).trans (by go_simp)
    have z2' : w1.frozen? ⟨w.heap.size, 2, none⟩ = false := (hfq _ _ (by simp)).trans (by go_simp)
    have tg : w1.cell? ⟨g, 0, none⟩ = some (.int .i64 z2) := (hcq _ _ (by simp; omega)).trans (by go_simp)
    have tf : w1.frozen? ⟨g, 0, none⟩ = false := (hfq _ _ (by simp; omega)).trans (by go_simp)
    have hbk : ∀ k, k < w.heap.size → k ≠ g → w1.heap[k]? = w.heap[k]? := fun k hk hk2 => by
      rw [hb.block k (by simp; omega)]
      repeat rw [Below.heap_setCell _ _ _ _ (by first | exact hk2 | (show k ≠ w.heap.size; omega))]
      refine ((Below.alloc (Below.refl _ _) (Nat.le_refl _) _).block k (by simp; exact hk)).trans ?_
      repeat rw [Below.heap_setCell _ _ _ _ (show k ≠ g from hk2)]
    have HBK := Lib.hid hbk
    have hos : w1.os = w.os ∧ w1.tape = w.tape ∧ w1.output = w.output := ⟨hb.os, hb.tape, hb.output⟩
    clear hbk hcq hfq
    go_wp2
    (refine bodyPost_ret (by simp [results, Try.results101, go_sem, *]; try rfl) rfl ?_)
    refine ⟨by rw [HM2.out], ⟨hos.1, hos.2.1, hos.2.2, by simp; omega, fun k hk hk2 => ?_⟩, by rw [HM2.out]; go_simp, by go_simp⟩
    repeat rw [Below.heap_setCell _ _ _ _ (by show k ≠ w.heap.size; omega)]
    exact HBK.out k hk (fun e => hk2 (by rw [e]))
  · have hk' : (z1 % 6 == 1) = false := by rw [beq_eq_false_iff_ne]; exact hk
    have HM2 : Hid (mkC h m z = (ofM h m (z1 % 6) 0, z1)) := Lib.hid (by rw [HM.out, if_neg hk])
    have HC := Lib.hid (fun W => clueOfMinute_any h m (z1 % 6) 0 hh hm (fun e => absurd e hk) W)
    clear hk HM
    (go_enter Try.func101, Try.ntmps101)
    go_wp2_with fail
    refine (HN.out _ (by go_simp) (by go_simp)).mono ?_
    (rintro e1 w1 ⟨rfl, rfl⟩)
    go_wp2_with fail
    refine (HC.out _).mono ?_
    rintro e1 w1 ⟨rfl, hb⟩
    obtain ⟨hcq, hfq⟩ := bcell hb
    have hzq := hb.size
    simp only [World.size_setCell, World.size_alloc] at hzq
    have hne : ¬ w.heap.size = g := by omega
    have hne' : ¬ g = w.heap.size := by omega
    have t0 : w1.cell? ⟨w.heap.size, 0, none⟩ = some (.int .i64 0) := (hcq _ _ (by simp)).trans (by go_simp)
    have t1 : w1.cell? ⟨w.heap.size, 1, none⟩ = some (.int .i64 0) := (hcq _ _ (by simp)).trans (by go_simp)
    have t2 : w1.cell? ⟨w.heap.size, 2, none⟩ = some (.int .i64 0) := (hcq _ _ (by simp)).trans (by go_simp)
    have z0 : w1.frozen? ⟨w.heap.size, 0, none⟩ = false := (hfq _ _ (by simp)).trans (by go_simp)
    have z1' : w1.frozen? ⟨w.heap.size, 1, none⟩ = false := (hfq _ _ (by simp)).trans (by go_simp)
    have z2' : w1.frozen? ⟨w.heap.size, 2, none⟩ = false := (hfq _ _ (by simp)).trans (by go_simp)
    have tg : w1.cell? ⟨g, 0, none⟩ = some (.int .i64 z1) := (hcq _ _ (by simp; omega)).trans (by go_simp)
    have tf : w1.frozen? ⟨g, 0, none⟩ = false := (hfq _ _ (by simp; omega)).trans (by go_simp)
    have hbk : ∀ k, k < w.heap.size → k ≠ g → w1.heap[k]? = w.heap[k]? := fun k hk hk2 => by
      rw [hb.block k (by simp; omega)]
      repeat rw [Below.heap_setCell _ _ _ _ (by first | exact hk2 | (show k ≠ w.heap.size; omega))]
      refine ((Below.alloc (Below.refl _ _) (Nat.le_refl _) _).block k (by simp; exact hk)).trans ?_
      repeat rw [Below.heap_setCell _ _ _ _ (show k ≠ g from hk2)]
    have HBK := Lib.hid hbk
    have hos : w1.os = w.os ∧ w1.tape = w.tape ∧ w1.output = w.output := ⟨hb.os, hb.tape, hb.output⟩
    clear hbk hcq hfq
    go_wp2
    (refine bodyPost_ret (by simp [results, Try.results101, go_sem, *]; try rfl) rfl ?_)
    refine ⟨by rw [HM2.out], ⟨hos.1, hos.2.1, hos.2.2, by simp; omega, fun k hk hk2 => ?_⟩, by rw [HM2.out]; go_simp, by go_simp⟩
    repeat rw [Below.heap_setCell _ _ _ _ (by show k ≠ w.heap.size; omega)]
    exact HBK.out k hk (fun e => hk2 (by rw [e]))
end Go.Proofs.Ytcpgjjmamclklaa
