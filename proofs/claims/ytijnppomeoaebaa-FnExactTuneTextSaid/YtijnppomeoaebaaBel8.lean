/- The text of a tune: by the program and by the model. -/
import Derived.Test.YtijnppomeoaebaaBel4
import Derived.Test.YtijnppomeoaebaaShelf
set_option linter.unusedSimpArgs false
set_option linter.unusedVariables false
set_option maxRecDepth 100000
namespace Go.Proofs.Ytijnppomeoaebaa
open Go.RowKit

/-- The first phrases with a stroke between them. -/
def txK (T : List (List UInt8)) : Nat → List UInt8
  | 0 => []
  | k + 1 => (if 0 < k then txK T k ++ [47] else txK T k) ++ T.getD k []
def txL (T : List (List UInt8)) : List UInt8 := Lib.join T [47]
theorem txK_tail (x : List UInt8) (r : List (List UInt8)) : ∀ k, k ≤ r.length → txK (x :: r) (k + 1) = x ++ Lib.joinTail [47] (r.take k)
  | 0, _ => by simp [txK, Lib.joinTail]
  | k + 1, h => by
    have ih := txK_tail x r k (by omega)
    have e : r.take (k + 1) = r.take k ++ [r.getD k []] := by rw [List.take_add_one]; simp [List.getD_eq_getElem?_getD, show k < r.length by omega]
    rw [txK, if_pos (by omega), ih, List.getD_cons_succ, e]
    unfold Lib.joinTail
    rw [List.map_append, List.flatten_append, List.map_singleton, List.flatten_singleton, List.append_assoc, List.append_assoc]
theorem txK_all {T : List (List UInt8)} (h : 1 ≤ T.length) : txK T T.length = txL T := by
  cases T with
  | nil => simp at h
  | cons x r =>
    rw [List.length_cons, txK_tail x r r.length (Nat.le_refl _), List.take_length, txL, Lib.join_cons]
theorem txK_len {T : List (List UInt8)} (h : T.all okP = true) : ∀ k, k ≤ T.length → (txK T k).length ≤ 9 * k
  | 0, _ => by simp [txK]
  | k + 1, hk => by
    have h1 := txK_len h k (by omega)
    have h2 := (okP_bd (all_at (d := []) h (show k < T.length by omega))).1
    simp only [txK]
    split
    · simp only [List.length_append, List.length_singleton]; omega
    · simp only [List.length_append]; omega
def ttR (T : List (List UInt8)) : List UInt8 × Bool := if okT T then (txL T, true) else ([], false)
set_option maxHeartbeats 1600000 in
theorem beText_any (a : Option Addr) (c : Nat) (T : List (List UInt8)) (ht : okT T = true) (w : World) (hin : XIn w a T) :
    Calls Try.prog 62 #[.slice a T.length c] w fun e w' => e = .returned (str (txL T)) ∧ Below w.heap.size w w' := by
  obtain ⟨hn, hall⟩ := okT_bd ht
  have X := Lib.hid hin
  have HALL := Lib.hid hall
  have HE := Lib.hid (txK_all hn.1)
  clear hin hall ht
  (go_enter Try.func62, Try.ntmps62)
  go_wp2
  go_loop [3, 8] (fun o i => ∃ k : Nat, k ≤ T.length ∧ i = .int .i64 k ∧ o = str (txK T k)) (fun _ i => T.length - (intOf i).toNat)
  case atStart => exact ⟨0, Nat.zero_le _, rfl, rfl⟩
  case round =>
    obtain ⟨k, hk, rfl, rfl⟩ := hrel
    have i0 : (0 : Int) ≤ (k : Int) := Int.natCast_nonneg _
    by_cases hlt : k < T.length
    · obtain ⟨b, off, rfl, e1, e2⟩ := X.out k hlt
      have i1 : (k : Int) < (T.length : Int) := by omega
      have hl := txK_len HALL.out k hk
      have hl8 := (okP_bd (all_at (d := []) HALL.out hlt)).1
      have HS : Hid (txK T (k + 1) = (if 0 < k then txK T k ++ [47] else txK T k) ++ T.getD k []) := Lib.hid rfl
      generalize txK T k = s at *
      generalize T.getD k [] = l at *
      have h1 : ¬ 9223372036854775807 < s.length + 1 := by omega
      have h2 : ¬ 9223372036854775807 < s.length + 1 + l.length := by omega
      have h3 : ¬ 9223372036854775807 < s.length + l.length := by omega
      by_cases h0 : 0 < k
      · have h0' : (0 : Int) < (k : Int) := by omega
        have HN : Hid (txK T (k + 1) = s ++ [47] ++ l) := Lib.hid (by rw [HS.out, if_pos h0])
        have hmk : (⟨s.toArray⟩ : ByteArray) ++ ⟨#[47]⟩ = ⟨(s ++ [47]).toArray⟩ := ByteArray.mk_append_mk _ _
        go_wp2
        go_round
        case rel =>
          refine ⟨k + 1, by omega, by go_num, ?_⟩
          rw [HN.out]
          first
          | exact congrArg Value.string (ByteArray.mk_append_mk _ _)
          | exact congrArg Value.string (by rw [hmk]; exact ByteArray.mk_append_mk _ _)
        case measure => simp [intOf]; omega
      · have h0' : ¬ (0 : Int) < (k : Int) := by omega
        have HN : Hid (txK T (k + 1) = s ++ l) := Lib.hid (by rw [HS.out, if_neg h0])
        go_wp2
        go_round
        case rel =>
          refine ⟨k + 1, by omega, by go_num, ?_⟩
          rw [HN.out]
          exact congrArg Value.string (ByteArray.mk_append_mk _ _)
        case measure => simp [intOf]; omega
    · obtain rfl : k = T.length := by omega
      go_wp2
      go_ret
      exact ⟨ret_str HE.out, Below.refl _ _⟩
set_option maxHeartbeats 800000 in
theorem join_any (a : Option Addr) (c : Nat) (T : List (List UInt8)) (ht : okT T = true) (hc : T.length ≤ c) (w : World) (hin : XIn w a T) :
    Calls Try.prog 63 #[.slice a T.length c, .string ⟨#[47]⟩] w fun e w' => e = .returned (str (txL T)) ∧ Below w.heap.size w w' := by
  obtain ⟨hn, hall⟩ := okT_bd ht
  obtain ⟨b, off, rfl, e1, -⟩ := hin 0 (by omega)
  have hm : (T.map fun l => (⟨l.toArray⟩ : ByteArray)).map (·.data.toList) = T := by
    rw [List.map_map]
    conv => rhs; rw [← List.map_id T]
    exact List.map_congr_left fun l _ => by simp
  have hl : (Lib.join ((T.map fun l => (⟨l.toArray⟩ : ByteArray)).map (·.data.toList)) (⟨#[47]⟩ : ByteArray).data.toList).length ≤ 140737488355328 := by
    rw [hm]
    have h1 := txK_len hall T.length (Nat.le_refl _)
    rw [txK_all hn.1] at h1
    show (txL T).length ≤ _
    omega
  have h := Try.strings_Join b off c (T.map fun l => ⟨l.toArray⟩) ⟨#[47]⟩ w (fun j x hx => by
    have hj : j < T.length := by have := (List.getElem?_eq_some_iff.1 hx).1; simpa using this
    obtain ⟨b', off', e2, -, e3⟩ := hin j hj
    obtain ⟨rfl, rfl⟩ : b = b' ∧ off = off' := by simpa using e2
    rw [e3]
    rw [List.getElem?_map, List.getElem?_eq_getElem hj] at hx
    rw [List.getD_eq_getElem?_getD, List.getElem?_eq_getElem hj]
    simp only [Option.map_some, Option.some.injEq] at hx
    rw [← hx]
    rfl) e1 (by simp; omega) (by simpa using hc) hl
  rw [List.length_map, hm] at h
  exact h
set_option maxHeartbeats 1600000 in
theorem specTuneText_any (a : Option Addr) (c : Nat) (T : List (List UInt8)) (hc : T.length ≤ c) (hm : T.length ≤ maxLen) (hs : ∀ k, k < T.length → (T.getD k []).length ≤ maxLen) (w : World) (hin : XIn w a T) :
    Calls Try.prog 36 #[.slice a T.length c] w (fun e w' => e = .returned (xv (ttR T)) ∧ Below w.heap.size w w') := by
  have X := Lib.hid hin
  have HSZ := Lib.hid hs
  clear hin hs
  cases ht : okT T
  · have HM := Lib.hid (show (([] : List UInt8), false) = ttR T from by simp [ttR, ht])
    (go_enter Try.func36, Try.ntmps36)
    go_wp2_with fail
    refine (beTune_is a c T hm ht _ X.out).mono ?_
    (rintro e1 w1 ⟨rfl, hb1⟩; obtain ⟨hc1, hf1⟩ := bcell hb1; have hz1 := hb1.size; (try simp only [World.size_alloc, World.size_setCell, World.size_drew] at hz1); have q1 : w.heap.size ≤ w1.heap.size := (by omega); (try have q1_0 : w.heap.size < w1.heap.size := (by omega)); (try have q1_1 : w.heap.size + 1 < w1.heap.size := (by omega)); (try have q1_2 : w.heap.size + 2 < w1.heap.size := (by omega)); (try have q1_3 : w.heap.size + 3 < w1.heap.size := (by omega)))
    go_wp2
    (refine bodyPost_ret (by simp [results, Try.results36, go_sem, *]; try rfl) rfl ?_)
    exact ⟨ret_xv HM.out, by (repeat' (first | (with_reducible exact Below.refl _ _) | (with_reducible assumption) | (with_reducible refine Below.alloc ?_ ?_ _) | (with_reducible refine Below.drew ?_) | (with_reducible refine below_drewN ?_ _) | (with_reducible refine Below.setCell ?_ ?_ _) | (with_reducible refine below_call ?_ ?_ (by assumption)) | go_size))⟩
  · obtain ⟨hn, -⟩ := okT_bd ht
    have HT := Lib.hid ht
    have HM := Lib.hid (show (txL T, true) = ttR T from by simp [ttR, ht])
    (go_enter Try.func36, Try.ntmps36)
    go_wp2_with fail
    refine (beTune_is a c T hm ht _ X.out).mono ?_
    (rintro e1 w1 ⟨rfl, hb1⟩; obtain ⟨hc1, hf1⟩ := bcell hb1; have hz1 := hb1.size; (try simp only [World.size_alloc, World.size_setCell, World.size_drew] at hz1); have q1 : w.heap.size ≤ w1.heap.size := (by omega); (try have q1_0 : w.heap.size < w1.heap.size := (by omega)); (try have q1_1 : w.heap.size + 1 < w1.heap.size := (by omega)); (try have q1_2 : w.heap.size + 2 < w1.heap.size := (by omega)); (try have q1_3 : w.heap.size + 3 < w1.heap.size := (by omega)))
    go_wp2_with fail
    refine (beText_any a c T HT.out _ (X.out.below hb1)).mono ?_
    (rintro e2 w2 ⟨rfl, hb2⟩; obtain ⟨hc2, hf2⟩ := bcell hb2; have hz2 := hb2.size; (try simp only [World.size_alloc, World.size_setCell, World.size_drew] at hz2); have q2 : w.heap.size ≤ w2.heap.size := (by omega); (try have q2_0 : w.heap.size < w2.heap.size := (by omega)); (try have q2_1 : w.heap.size + 1 < w2.heap.size := (by omega)); (try have q2_2 : w.heap.size + 2 < w2.heap.size := (by omega)); (try have q2_3 : w.heap.size + 3 < w2.heap.size := (by omega)); (try have q2_1_0 : w1.heap.size < w2.heap.size := (by omega)); (try have q2_1_1 : w1.heap.size + 1 < w2.heap.size := (by omega)))
    go_wp2
    (refine bodyPost_ret (by simp [results, Try.results36, go_sem, *]; try rfl) rfl ?_)
    exact ⟨ret_xv HM.out, by (repeat' (first | (with_reducible exact Below.refl _ _) | (with_reducible assumption) | (with_reducible refine Below.alloc ?_ ?_ _) | (with_reducible refine Below.drew ?_) | (with_reducible refine below_drewN ?_ _) | (with_reducible refine Below.setCell ?_ ?_ _) | (with_reducible refine below_call ?_ ?_ (by assumption)) | go_size))⟩

set_option maxHeartbeats 1600000 in
theorem implTuneText_any (a : Option Addr) (c : Nat) (T : List (List UInt8)) (hc : T.length ≤ c) (hm : T.length ≤ maxLen) (hs : ∀ k, k < T.length → (T.getD k []).length ≤ maxLen) (w : World) (hin : XIn w a T) :
    Calls Try.prog 37 #[.slice a T.length c] w (fun e w' => e = .returned (xv (ttR T)) ∧ Below w.heap.size w w') := by
  have X := Lib.hid hin
  have HSZ := Lib.hid hs
  clear hin hs
  cases ht : okT T
  · have HM := Lib.hid (show (([] : List UInt8), false) = ttR T from by simp [ttR, ht])
    (go_enter Try.func37, Try.ntmps37)
    go_wp2_with fail
    refine (isTune_is a c T HSZ.out ht _ X.out).mono ?_
    (rintro e1 w1 ⟨rfl, hb1⟩; obtain ⟨hc1, hf1⟩ := bcell hb1; have hz1 := hb1.size; (try simp only [World.size_alloc, World.size_setCell, World.size_drew] at hz1); have q1 : w.heap.size ≤ w1.heap.size := (by omega); (try have q1_0 : w.heap.size < w1.heap.size := (by omega)); (try have q1_1 : w.heap.size + 1 < w1.heap.size := (by omega)); (try have q1_2 : w.heap.size + 2 < w1.heap.size := (by omega)); (try have q1_3 : w.heap.size + 3 < w1.heap.size := (by omega)))
    go_wp2
    (refine bodyPost_ret (by simp [results, Try.results37, go_sem, *]; try rfl) rfl ?_)
    exact ⟨ret_xv HM.out, by (repeat' (first | (with_reducible exact Below.refl _ _) | (with_reducible assumption) | (with_reducible refine Below.alloc ?_ ?_ _) | (with_reducible refine Below.drew ?_) | (with_reducible refine below_drewN ?_ _) | (with_reducible refine Below.setCell ?_ ?_ _) | (with_reducible refine below_call ?_ ?_ (by assumption)) | go_size))⟩
  · obtain ⟨hn, -⟩ := okT_bd ht
    have HT := Lib.hid ht
    have HM := Lib.hid (show (txL T, true) = ttR T from by simp [ttR, ht])
    (go_enter Try.func37, Try.ntmps37)
    go_wp2_with fail
    refine (isTune_is a c T HSZ.out ht _ X.out).mono ?_
    (rintro e1 w1 ⟨rfl, hb1⟩; obtain ⟨hc1, hf1⟩ := bcell hb1; have hz1 := hb1.size; (try simp only [World.size_alloc, World.size_setCell, World.size_drew] at hz1); have q1 : w.heap.size ≤ w1.heap.size := (by omega); (try have q1_0 : w.heap.size < w1.heap.size := (by omega)); (try have q1_1 : w.heap.size + 1 < w1.heap.size := (by omega)); (try have q1_2 : w.heap.size + 2 < w1.heap.size := (by omega)); (try have q1_3 : w.heap.size + 3 < w1.heap.size := (by omega)))
    go_wp2_with fail
    refine (join_any a c T HT.out hc _ (X.out.below hb1)).mono ?_
    (rintro e2 w2 ⟨rfl, hb2⟩; obtain ⟨hc2, hf2⟩ := bcell hb2; have hz2 := hb2.size; (try simp only [World.size_alloc, World.size_setCell, World.size_drew] at hz2); have q2 : w.heap.size ≤ w2.heap.size := (by omega); (try have q2_0 : w.heap.size < w2.heap.size := (by omega)); (try have q2_1 : w.heap.size + 1 < w2.heap.size := (by omega)); (try have q2_2 : w.heap.size + 2 < w2.heap.size := (by omega)); (try have q2_3 : w.heap.size + 3 < w2.heap.size := (by omega)); (try have q2_1_0 : w1.heap.size < w2.heap.size := (by omega)); (try have q2_1_1 : w1.heap.size + 1 < w2.heap.size := (by omega)))
    go_wp2
    (refine bodyPost_ret (by simp [results, Try.results37, go_sem, *]; try rfl) rfl ?_)
    exact ⟨ret_xv HM.out, by (repeat' (first | (with_reducible exact Below.refl _ _) | (with_reducible assumption) | (with_reducible refine Below.alloc ?_ ?_ _) | (with_reducible refine Below.drew ?_) | (with_reducible refine below_drewN ?_ _) | (with_reducible refine Below.setCell ?_ ?_ _) | (with_reducible refine below_call ?_ ?_ (by assumption)) | go_size))⟩

end Go.Proofs.Ytijnppomeoaebaa
