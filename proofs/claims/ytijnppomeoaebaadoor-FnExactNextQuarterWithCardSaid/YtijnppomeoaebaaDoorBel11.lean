/- The next quarter at which a bell is played: by the program and by the model. -/
import Derived.Test.YtijnppomeoaebaaDoorBel7
import Derived.Test.YtijnppomeoaebaaDoorBel10
set_option linter.unusedSimpArgs false
set_option linter.unusedVariables false
set_option maxRecDepth 100000
namespace Go.Proofs.YtijnppomeoaebaaDoor
open Go.RowKit

/-- A bell is played at a quarter. -/
def hitB (T : List (List UInt8)) (b : Int) (q : Nat) : Bool := decide (0 < cntN b (ntL T q))
theorem ntK_mem {T : List (List UInt8)} {q : Nat} {c : UInt8} : ∀ k, c ∈ ntK T q k ↔ ∃ i, i < k ∧ c ∈ T.getD (phN T.length q i) []
  | 0 => by simp [ntK]
  | k + 1 => by
    simp only [ntK, List.mem_append, ntK_mem k]
    constructor
    · rintro (⟨i, hi, h⟩ | h)
      · exact ⟨i, by omega, h⟩
      · exact ⟨k, by omega, h⟩
    · rintro ⟨i, hi, h⟩
      by_cases e : i = k
      · subst e; exact .inr h
      · exact .inl ⟨i, by omega, h⟩
theorem hit_has {T : List (List UInt8)} {b : Int} {q : Nat} (hn : 1 ≤ T.length) (h : hitB T b q = true) : hasB T b = true := by
  have h1 := cntN_pos.1 (of_decide_eq_true h)
  obtain ⟨i, -, hc⟩ := (ntK_mem _).1 h1
  exact any_hit (phN_lt T.length q i hn) (decide_eq_true (cntN_pos.2 hc))
theorem pbN_find {q i : Nat} : ∀ m, pbN q ≤ i → i < pbN (q + m) → ∃ k, k < m ∧ pbN (q + k) ≤ i ∧ i < pbN (q + k + 1)
  | 0, h1, h2 => absurd h2 (by simpa using h1)
  | m + 1, h1, h2 => by
    by_cases h : i < pbN (q + m)
    · obtain ⟨k, a, b, c⟩ := pbN_find m h1 h
      exact ⟨k, by omega, b, c⟩
    · exact ⟨m, by omega, by omega, by rw [← Nat.add_assoc] at h2; exact h2⟩
theorem hrN_big {n : Nat} (h : 1 ≤ n ∧ n ≤ 12) : (n : Int) ≤ 10 * hrN n := by
  obtain ⟨g1, g2⟩ := gc_bd n h.1
  have hd : gc n 10 ∣ (n : Int) := by unfold gc; exact Int.gcd_dvd_left _ _
  obtain ⟨t, ht⟩ := hd
  unfold hrN
  generalize gc (n : Int) 10 = g at *
  rw [ht, Int.mul_ediv_cancel_left _ (by omega)]
  have t0 : 0 ≤ t := by
    by_cases h0 : 0 ≤ t
    · exact h0
    · have : g * t < 0 := Int.mul_neg_of_pos_of_neg (by omega) (by omega)
      omega
  have := Int.mul_le_mul_of_nonneg_right g2 t0
  omega
theorem hit_soon {T : List (List UInt8)} {b : Int} (hn : 1 ≤ T.length ∧ T.length ≤ 12) (h : hasB T b = true) (q : Nat) : ∃ k, k < 4 * (hrN T.length).toNat ∧ hitB T b (q + k) = true := by
  obtain ⟨l, hl, hc⟩ := List.any_eq_true.1 h
  obtain ⟨j, hj, rfl⟩ := List.mem_iff_getElem.1 hl
  have hb := hrN_big hn
  have hb0 := hrN_bd T.length hn
  obtain ⟨H, hH⟩ := Int.eq_ofNat_of_zero_le hb0.1
  rw [hH] at hb ⊢
  have hm := Nat.mod_lt (pbN q) (show 0 < T.length by omega)
  have hr : ∃ r, r < T.length ∧ (pbN q + r) % T.length = j := by
    by_cases hle : pbN q % T.length ≤ j
    · refine ⟨j - pbN q % T.length, by omega, ?_⟩
      rw [Nat.add_mod, Nat.mod_eq_of_lt (show j - pbN q % T.length < T.length by omega), show pbN q % T.length + (j - pbN q % T.length) = j by omega, Nat.mod_eq_of_lt hj]
    · refine ⟨j + T.length - pbN q % T.length, by omega, ?_⟩
      rw [Nat.add_mod, Nat.mod_eq_of_lt (show j + T.length - pbN q % T.length < T.length by omega), show pbN q % T.length + (j + T.length - pbN q % T.length) = j + T.length by omega, Nat.add_mod_right, Nat.mod_eq_of_lt hj]
  obtain ⟨r, hr1, hr2⟩ := hr
  obtain ⟨k, hk1, hk2, hk3⟩ := pbN_find (q := q) (i := pbN q + r) (4 * H) (by omega) (by rw [pbN_four]; omega)
  refine ⟨k, by simpa using hk1, decide_eq_true (cntN_pos.2 ((ntK_mem _).2 ⟨pbN q + r - pbN (q + k), ?_, ?_⟩))⟩
  · rw [pbN_next] at hk3; omega
  · unfold phN
    rw [show pbN (q + k) + (pbN q + r - pbN (q + k)) = pbN q + r by omega, hr2, List.getD_eq_getElem?_getD, List.getElem?_eq_getElem hj]
    exact cntN_pos.1 (of_decide_eq_true hc)
theorem find_at {p : Nat → Bool} : ∀ (N k : Nat), k < N → p k = true → (∀ j, j < k → p j = false) → (List.range N).find? p = some k
  | 0, _, h, _, _ => absurd h (Nat.not_lt_zero _)
  | N + 1, k, h, hp, hn => by
    rw [List.range_succ, List.find?_append]
    by_cases hk : k < N
    · rw [find_at N k hk hp hn]; rfl
    · obtain rfl : k = N := by omega
      have : (List.range k).find? p = none := List.find?_eq_none.2 fun x hx => by rw [hn x (List.mem_range.1 hx)]; exact Bool.false_ne_true
      rw [this]
      simp [hp]
theorem find_no {p : Nat → Bool} {N : Nat} (h : ∀ j, j < N → p j = false) : (List.range N).find? p = none := List.find?_eq_none.2 fun x hx => by rw [h x (List.mem_range.1 hx)]; exact Bool.false_ne_true
def nqF (T : List (List UInt8)) (b : Int) (q : Nat) : Option Nat := (List.range (4 * (hrN T.length).toNat)).find? fun k => hitB T b (q + k)
def nqV (t : Int) : Option Nat → Int × Bool
  | some k => (t + k, true)
  | none => (0, false)
def nqR (T : List (List UInt8)) (b t : Int) : Int × Bool := if askB T t && inB b 1 8 then nqV t (nqF T b t.toNat) else (0, false)
theorem nqR_is {T : List (List UInt8)} {b : Int} {q : Nat} (ha : askB T (q : Int) = true) (gb : inB b 1 8 = true) {r : Option Nat} (h : nqF T b q = r) : nqV (q : Int) r = nqR T b (q : Int) := by
  subst h; simp [nqR, ha, gb]
theorem some_first {T : List (List UInt8)} {b : Int} (hn : 1 ≤ T.length ∧ T.length ≤ 12) (h : hasB T b = true) (q : Nat) : ∃ k, nqF T b q = some k ∧ k < 4 * (hrN T.length).toNat ∧ hitB T b (q + k) = true ∧ ∀ j, j < k → hitB T b (q + j) = false := by
  have hx := hit_soon hn h q
  obtain ⟨k, hk, hp⟩ := hx
  have : ∃ k, hitB T b (q + k) = true ∧ ∀ j, j < k → hitB T b (q + j) = false := by
    have key : ∀ m, m ≤ k + 1 → (∃ i, i < m ∧ hitB T b (q + i) = true ∧ ∀ j, j < i → hitB T b (q + j) = false) ∨ ∀ j, j < m → hitB T b (q + j) = false := by
      intro m
      induction m with
      | zero => intro _; exact .inr fun j hj => absurd hj (Nat.not_lt_zero _)
      | succ m ih =>
        intro hm
        rcases ih (by omega) with ⟨i, hi, a, b⟩ | hno
        · exact .inl ⟨i, by omega, a, b⟩
        · cases hq : hitB T b (q + m)
          · refine .inr fun j hj => ?_
            by_cases e : j = m
            · subst e; exact hq
            · exact hno j (by omega)
          · exact .inl ⟨m, by omega, hq, hno⟩
    rcases key (k + 1) (Nat.le_refl _) with ⟨i, hi, a, b⟩ | hno
    · exact ⟨i, a, b⟩
    · rw [hno k (by omega)] at hp; cases hp
  obtain ⟨i, hi, hno⟩ := this
  have hik : i ≤ k := by
    by_cases h' : i ≤ k
    · exact h'
    · rw [hno k (by omega)] at hp; cases hp
  exact ⟨i, find_at _ i (by omega) hi hno, by omega, hi, hno⟩
theorem none_first {T : List (List UInt8)} {b : Int} (hn : 1 ≤ T.length) (h : hasB T b = false) (q : Nat) : nqF T b q = none :=
  find_no fun j _ => by
    cases hq : hitB T b (q + j)
    · rfl
    · rw [hit_has hn hq] at h; cases h

set_option maxHeartbeats 1600000 in
theorem specNextQuarterWith_any (a : Option Addr) (c : Nat) (T : List (List UInt8)) (b t : Int) (hm : T.length ≤ maxLen) (hs : ∀ k, k < T.length → (T.getD k []).length ≤ maxLen) (w : World) (hin : XIn w a T) :
    Calls Tryd.prog 12 #[.slice a T.length c, .int .i64 b, .int .i64 t] w fun e w' => e = .returned (jv (nqR T b t)) ∧ Below w.heap.size w w' := by
  have X := Lib.hid hin
  clear hin hs
  cases ga : askB T t
  · have HM := Lib.hid (show ((0 : Int), false) = nqR T b t from by simp [nqR, ga])
    (go_enter Tryd.func12, Tryd.ntmps12)
    go_wp2_with fail
    refine (beAsked_is a c T t hm ga _ X.out).mono ?_
    (rintro e1 w1 ⟨rfl, hb1⟩; obtain ⟨hc1, hf1⟩ := bcell hb1; have hz1 := hb1.size; (try simp only [World.size_alloc, World.size_setCell, World.size_drew] at hz1); have q1 : w.heap.size ≤ w1.heap.size := (by omega); (try have q1_0 : w.heap.size < w1.heap.size := (by omega)); (try have q1_1 : w.heap.size + 1 < w1.heap.size := (by omega)); (try have q1_2 : w.heap.size + 2 < w1.heap.size := (by omega)); (try have q1_3 : w.heap.size + 3 < w1.heap.size := (by omega)))
    go_wp2
    (refine bodyPost_ret (by simp [results, Tryd.results12, go_sem, *]; try rfl) rfl ?_)
    exact ⟨ret_jv HM.out, by (repeat' (first | (with_reducible exact Below.refl _ _) | (with_reducible assumption) | (with_reducible refine Below.alloc ?_ ?_ _) | (with_reducible refine Below.drew ?_) | (with_reducible refine below_drewN ?_ _) | (with_reducible refine Below.setCell ?_ ?_ _) | (with_reducible refine below_call ?_ ?_ (by assumption)) | go_size))⟩
  · cases gb : inB b 1 8
    · have HM := Lib.hid (show ((0 : Int), false) = nqR T b t from by simp [nqR, gb])
      (go_enter Tryd.func12, Tryd.ntmps12)
      go_wp2_with fail
      refine (beAsked_is a c T t hm ga _ X.out).mono ?_
      (rintro e1 w1 ⟨rfl, hb1⟩; obtain ⟨hc1, hf1⟩ := bcell hb1; have hz1 := hb1.size; (try simp only [World.size_alloc, World.size_setCell, World.size_drew] at hz1); have q1 : w.heap.size ≤ w1.heap.size := (by omega); (try have q1_0 : w.heap.size < w1.heap.size := (by omega)); (try have q1_1 : w.heap.size + 1 < w1.heap.size := (by omega)); (try have q1_2 : w.heap.size + 2 < w1.heap.size := (by omega)); (try have q1_3 : w.heap.size + 3 < w1.heap.size := (by omega)))
      go_wp2_with fail
      refine (beIs_is b gb _).mono ?_
      (rintro e1 w1 ⟨rfl, rfl⟩)
      go_wp2
      (refine bodyPost_ret (by simp [results, Tryd.results12, go_sem, *]; try rfl) rfl ?_)
      exact ⟨ret_jv HM.out, by (repeat' (first | (with_reducible exact Below.refl _ _) | (with_reducible assumption) | (with_reducible refine Below.alloc ?_ ?_ _) | (with_reducible refine Below.drew ?_) | (with_reducible refine below_drewN ?_ _) | (with_reducible refine Below.setCell ?_ ?_ _) | (with_reducible refine below_call ?_ ?_ (by assumption)) | go_size))⟩
    · obtain ⟨ht, gq⟩ : okT T = true ∧ inB t 0 1000000 = true := by simpa [askB] using ga
      have hq := inB_bd gq
      have hbb := inB_bd gb
      obtain ⟨q, rfl⟩ := Int.eq_ofNat_of_zero_le hq.1
      obtain ⟨hn, -⟩ := okT_bd ht
      have HT := Lib.hid ht
      have HR := Lib.hid (fun r => nqR_is (T := T) (b := b) (q := q) ga gb (r := r))
      have hh := hrN_bd T.length hn
      obtain ⟨H, hH⟩ := Int.eq_ofNat_of_zero_le hh.1
      have HN : Hid (nqF T b q = (List.range (4 * H)).find? fun k => hitB T b (q + k)) := Lib.hid (by unfold nqF; rw [hH]; rfl)
      have HHR := Lib.hid (fun W => beHours_any a c T.length hn W)
      rw [hH] at HHR hh
      clear hH
      have f0 := w64 (n := 4 * (H : Int)) (by omega)
      (go_enter Tryd.func12, Tryd.ntmps12)
      go_wp2_with fail
      refine (beAsked_is a c T q hm ga _ X.out).mono ?_
      rintro e1 w1 ⟨rfl, hbB⟩
      have hzB := hbB.size
      go_wp2_with fail
      refine (beIs_is b gb _).mono ?_
      (rintro e1 w1 ⟨rfl, rfl⟩)
      go_wp2
      go_loopw [8] (fun i wr => ∃ k : Nat, k ≤ 4 * H ∧ i = .int .i64 k ∧ (∀ j, j < k → hitB T b (q + j) = false) ∧ Below w.heap.size w wr) (fun i _ => 4 * H - (RowKit.intOf i).toNat)
      case atStart => exact ⟨0, Nat.zero_le _, rfl, fun j hj => absurd hj (Nat.not_lt_zero _), hbB⟩
      case round =>
        obtain ⟨k, hk, rfl, hno, hbr⟩ := hrel
        have HNO := Lib.hid hno
        clear hno
        have hzr := hbr.size
        have i0 : (0 : Int) ≤ (k : Int) := Int.natCast_nonneg _
        by_cases hlt : k < 4 * H
        · have i1 : (k : Int) < 4 * (H : Int) := by omega
          have XR := Lib.hid (X.out.below hbr)
          have hl32 := ntL_len HT.out (q + k)
          have f1 := w64 (n := (q : Int) + k) (by omega)
          have hcast : ((q + k : Nat) : Int) = (q : Int) + k := by push_cast; rfl
          have HCN := Lib.hid (fun W (hx : XIn W a T) => beNotes_any a c T (q + k) HT.out (by omega) W hx)
          rw [hcast] at HCN
          have HCB := Lib.hid (fun W => beBell_any b (ntL T (q + k)) hbb (by omega) W)
          have hcl := cntN_le b (ntL T (q + k))
          have HHIT : Hid (hitB T b (q + k) = decide (0 < cntN b (ntL T (q + k)))) := Lib.hid rfl
          generalize ntL T (q + k) = l at *
          by_cases hc : 0 < cntN b l
          · have HE : Hid (nqV (q : Int) (some k) = nqR T b (q : Int)) := Lib.hid (HR.out _ (by rw [HN.out]; exact find_at _ k hlt (by rw [HHIT.out]; exact decide_eq_true hc) HNO.out))
            have hc' : (0 : Int) < ((cntN b l : Nat) : Int) := by omega
            generalize cntN b l = y at *
            go_wp2_with fail
            refine (HHR.out _).mono ?_
            rintro e2 w2 ⟨rfl, hb2⟩
            have hz2 := hb2.size
            go_wp2_with fail
            refine (HCN.out _ (XR.out.below hb2)).mono ?_
            rintro e3 w3 ⟨rfl, hb3⟩
            go_wp2_with fail
            refine (HCB.out _).mono ?_
            (rintro e1 w1 ⟨rfl, rfl⟩)
            go_wp2
            (refine bodyPost_ret (by simp [results, Tryd.results12, go_sem, *]; try rfl) rfl ?_)
            exact ⟨ret_jv HE.out, hbr.trans ((hb2.trans (hb3.mono hz2)).mono hzr)⟩
          · have hc' : ¬ (0 : Int) < ((cntN b l : Nat) : Int) := by omega
            have HE : Hid (∀ j, j < k + 1 → hitB T b (q + j) = false) := Lib.hid (fun j hj => by
              by_cases e : j = k
              · subst e; rw [HHIT.out]; exact decide_eq_false hc
              · exact HNO.out j (by omega))
            generalize cntN b l = y at *
            go_wp2_with fail
            refine (HHR.out _).mono ?_
            rintro e2 w2 ⟨rfl, hb2⟩
            have hz2 := hb2.size
            go_wp2_with fail
            refine (HCN.out _ (XR.out.below hb2)).mono ?_
            rintro e3 w3 ⟨rfl, hb3⟩
            go_wp2_with fail
            refine (HCB.out _).mono ?_
            (rintro e1 w1 ⟨rfl, rfl⟩)
            go_wp2
            go_roundw
            case rel => exact ⟨k + 1, by omega, by go_num, HE.out, hbr.trans ((hb2.trans (hb3.mono hz2)).mono hzr)⟩
            case measure => simp [RowKit.intOf]; omega
        · have i1 : ¬ (k : Int) < 4 * (H : Int) := by omega
          have HE : Hid (nqV (q : Int) none = nqR T b (q : Int)) := Lib.hid (HR.out _ (by rw [HN.out]; exact find_no fun j hj => HNO.out j (by omega)))
          go_wp2_with fail
          refine (HHR.out _).mono ?_
          rintro e2 w2 ⟨rfl, hb2⟩
          go_wp2
          (refine bodyPost_ret (by simp [results, Tryd.results12, go_sem, *]; try rfl) rfl ?_)
          exact ⟨ret_jv HE.out, hbr.trans (hb2.mono hzr)⟩

end Go.Proofs.YtijnppomeoaebaaDoor
