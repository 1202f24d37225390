/- Trains: which lists are, how many teeth they have, their products. -/
import Derived.Test.YtaifcemdabcfjaaPArg
set_option linter.unusedSimpArgs false
set_option linter.unusedVariables false
set_option maxRecDepth 100000
namespace Go.Proofs.Ytaifcemdabcfjaa
open Go.RowKit

def trainB (L : List (Int × Int)) : Bool := decide (L.length ≤ 4) && L.all pairB
theorem trainB_bd {L : List (Int × Int)} (h : trainB L = true) : L.length ≤ 4 ∧ ∀ k, k < L.length → pairB (L.getD k (0, 0)) = true := by
  simp only [trainB, Bool.and_eq_true, decide_eq_true_eq, List.all_eq_true] at h
  refine ⟨h.1, fun k hk => ?_⟩
  rw [List.getD_eq_getElem?_getD, List.getElem?_eq_getElem hk]
  exact h.2 _ (List.getElem_mem hk)
theorem trainB_of {L : List (Int × Int)} (h1 : L.length ≤ 4) (h2 : ∀ k, k < L.length → pairB (L.getD k (0, 0)) = true) : trainB L = true := by
  simp only [trainB, Bool.and_eq_true, decide_eq_true_eq, List.all_eq_true]
  refine ⟨h1, fun x hx => ?_⟩
  obtain ⟨k, hk, rfl⟩ := List.getElem_of_mem hx
  have := h2 k hk
  rwa [List.getD_eq_getElem?_getD, List.getElem?_eq_getElem hk] at this
theorem trainB_not {L : List (Int × Int)} {k : Nat} (hk : k < L.length) (h : pairB (L.getD k (0, 0)) = false) : trainB L = false := by
  cases ht : trainB L with
  | false => rfl
  | true => rw [(trainB_bd ht).2 k hk] at h; cases h
theorem trainB_long {L : List (Int × Int)} (h : 4 < L.length) : trainB L = false := by
  cases ht : trainB L with
  | false => rfl
  | true => have := (trainB_bd ht).1; omega
theorem PIn.at {w : World} {a : Option Addr} {L : List (Int × Int)} (h : PIn w a L) {k : Nat} (hk : k < L.length) {w' : World} (hb : Below w.heap.size w w') {x y : Int} (ht : L.getD k (0, 0) = (x, y)) :
    ∃ b off, a = some ⟨b, off, none⟩ ∧ b < w'.heap.size ∧ w'.cell? ⟨b, off + k * 2, none⟩ = some (.int .i64 x) ∧ w'.cell? ⟨b, off + k * 2 + 1, none⟩ = some (.int .i64 y) := by
  obtain ⟨b, off, h1, h2, h3, h4⟩ := h.below hb k hk
  rw [ht] at h3 h4
  exact ⟨b, off, h1, h2, h3, h4⟩
set_option maxHeartbeats 1600000 in
theorem implIsTrain_is {b : Bool} (a : Option Addr) (c : Nat) (L : List (Int × Int)) (hr : trainB L = b) (w : World) (hin : PIn w a L) (hm : L.length ≤ maxLen) :
    Calls Try.prog 25 #[.slice a L.length c] w fun e w' => e = .returned (.bool b) ∧ Below w.heap.size w w' := by
  subst hr
  unfold maxLen at hm
  have X1 := Lib.hid hin
  clear hin
  by_cases h4 : 4 < L.length
  · have HM := Lib.hid (trainB_long h4)
    (go_enter Try.func25, Try.ntmps25)
    go_wp2
    go_ret
    exact ⟨ret_bool HM.out.symm, by (repeat' (first | (with_reducible exact Below.refl _ _) | (with_reducible assumption) | (with_reducible refine Below.alloc ?_ ?_ _) | (with_reducible refine Below.drew ?_) | (with_reducible refine below_drewN ?_ _) | (with_reducible refine Below.setCell ?_ ?_ _) | (with_reducible refine below_call ?_ ?_ (by assumption)) | go_size))⟩
  · (go_enter Try.func25, Try.ntmps25)
    go_wp2
    go_loopw [10] (fun i wr => ∃ k : Nat, k ≤ L.length ∧ i = .int .i64 k ∧ (∀ j, j < k → pairB (L.getD j (0, 0)) = true) ∧ Below w.heap.size w wr) (fun i _ => L.length - (intOf i).toNat)
    case atStart => exact ⟨0, Nat.zero_le _, rfl, fun j hj => absurd hj (Nat.not_lt_zero _), Below.refl _ _⟩
    case round =>
      obtain ⟨k, hk, rfl, hall, hbel⟩ := hrel
      have HA := Lib.hid hall
      clear hall
      have hz := hbel.size
      have i0 : (0 : Int) ≤ (k : Int) := Int.natCast_nonneg _
      by_cases hlt : k < L.length
      · obtain ⟨x, y, hxy⟩ : ∃ x y, L.getD k (0, 0) = (x, y) := ⟨_, _, rfl⟩
        obtain ⟨b, off, rfl, u1, f2, f3⟩ := X1.out.at hlt hbel hxy
        have HX := Lib.hid hxy
        clear hxy
        have i1 : (k : Int) < (L.length : Int) := by omega
        cases hp : pairB (x, y)
        · have HM := Lib.hid (trainB_not hlt (by rw [HX.out]; exact hp))
          go_wp2_with fail
          refine (implIsPair_is _ _ hp _).mono ?_
          rintro e1 w1 ⟨rfl, hb1⟩
          obtain ⟨hc1, hf1⟩ := bcell hb1
          have hz1 := hb1.size
          go_wp2
          go_ret
          exact ⟨ret_bool HM.out.symm, by (repeat' (first | (with_reducible exact Below.refl _ _) | (with_reducible assumption) | (with_reducible refine Below.alloc ?_ ?_ _) | (with_reducible refine Below.drew ?_) | (with_reducible refine below_drewN ?_ _) | (with_reducible refine Below.setCell ?_ ?_ _) | (with_reducible refine below_call ?_ ?_ (by assumption)) | go_size))⟩
        · go_wp2_with fail
          refine (implIsPair_is _ _ hp _).mono ?_
          rintro e1 w1 ⟨rfl, hb1⟩
          obtain ⟨hc1, hf1⟩ := bcell hb1
          have hz1 := hb1.size
          go_wp2
          go_roundw
          case rel =>
            refine ⟨k + 1, by omega, by go_num, fun j hj => ?_, by (repeat' (first | (with_reducible exact Below.refl _ _) | (with_reducible assumption) | (with_reducible refine Below.alloc ?_ ?_ _) | (with_reducible refine Below.drew ?_) | (with_reducible refine below_drewN ?_ _) | (with_reducible refine Below.setCell ?_ ?_ _) | (with_reducible refine below_call ?_ ?_ (by assumption)) | go_size))⟩
            by_cases hjk : j = k
            · subst hjk; rw [HX.out]; exact hp
            · exact HA.out j (by omega)
          case measure => simp [intOf]; omega
      · have HM := Lib.hid (trainB_of (L := L) (by omega) (fun j hj => HA.out j (by omega)))
        go_wp2
        go_ret
        exact ⟨ret_bool HM.out.symm, by (repeat' (first | (with_reducible exact Below.refl _ _) | (with_reducible assumption) | (with_reducible refine Below.alloc ?_ ?_ _) | (with_reducible refine Below.drew ?_) | (with_reducible refine below_drewN ?_ _) | (with_reducible refine Below.setCell ?_ ?_ _) | (with_reducible refine below_call ?_ ?_ (by assumption)) | go_size))⟩
set_option maxHeartbeats 1600000 in
theorem geTrain_is {b : Bool} (a : Option Addr) (c : Nat) (L : List (Int × Int)) (hr : trainB L = b) (w : World) (hin : PIn w a L) (hm : L.length ≤ maxLen) :
    Calls Try.prog 63 #[.slice a L.length c] w fun e w' => e = .returned (.bool b) ∧ Below w.heap.size w w' := by
  subst hr
  unfold maxLen at hm
  have X1 := Lib.hid hin
  clear hin
  by_cases h4 : 4 < L.length
  · have HM := Lib.hid (trainB_long h4)
    (go_enter Try.func63, Try.ntmps63)
    go_wp2
    go_ret
    exact ⟨ret_bool HM.out.symm, by (repeat' (first | (with_reducible exact Below.refl _ _) | (with_reducible assumption) | (with_reducible refine Below.alloc ?_ ?_ _) | (with_reducible refine Below.drew ?_) | (with_reducible refine below_drewN ?_ _) | (with_reducible refine Below.setCell ?_ ?_ _) | (with_reducible refine below_call ?_ ?_ (by assumption)) | go_size))⟩
  · (go_enter Try.func63, Try.ntmps63)
    go_wp2
    go_loopw [10] (fun i wr => ∃ k : Nat, k ≤ L.length ∧ i = .int .i64 k ∧ (∀ j, j < k → pairB (L.getD j (0, 0)) = true) ∧ Below w.heap.size w wr) (fun i _ => L.length - (intOf i).toNat)
    case atStart => exact ⟨0, Nat.zero_le _, rfl, fun j hj => absurd hj (Nat.not_lt_zero _), Below.refl _ _⟩
    case round =>
      obtain ⟨k, hk, rfl, hall, hbel⟩ := hrel
      have HA := Lib.hid hall
      clear hall
      have hz := hbel.size
      have i0 : (0 : Int) ≤ (k : Int) := Int.natCast_nonneg _
      by_cases hlt : k < L.length
      · obtain ⟨x, y, hxy⟩ : ∃ x y, L.getD k (0, 0) = (x, y) := ⟨_, _, rfl⟩
        obtain ⟨b, off, rfl, u1, f2, f3⟩ := X1.out.at hlt hbel hxy
        have HX := Lib.hid hxy
        clear hxy
        have i1 : (k : Int) < (L.length : Int) := by omega
        cases hp : pairB (x, y)
        · have HM := Lib.hid (trainB_not hlt (by rw [HX.out]; exact hp))
          go_wp2_with fail
          refine (gePair_is _ _ hp _).mono ?_
          rintro e1 w1 ⟨rfl, hb1⟩
          obtain ⟨hc1, hf1⟩ := bcell hb1
          have hz1 := hb1.size
          go_wp2
          go_ret
          exact ⟨ret_bool HM.out.symm, by (repeat' (first | (with_reducible exact Below.refl _ _) | (with_reducible assumption) | (with_reducible refine Below.alloc ?_ ?_ _) | (with_reducible refine Below.drew ?_) | (with_reducible refine below_drewN ?_ _) | (with_reducible refine Below.setCell ?_ ?_ _) | (with_reducible refine below_call ?_ ?_ (by assumption)) | go_size))⟩
        · go_wp2_with fail
          refine (gePair_is _ _ hp _).mono ?_
          rintro e1 w1 ⟨rfl, hb1⟩
          obtain ⟨hc1, hf1⟩ := bcell hb1
          have hz1 := hb1.size
          go_wp2
          go_roundw
          case rel =>
            refine ⟨k + 1, by omega, by go_num, fun j hj => ?_, by (repeat' (first | (with_reducible exact Below.refl _ _) | (with_reducible assumption) | (with_reducible refine Below.alloc ?_ ?_ _) | (with_reducible refine Below.drew ?_) | (with_reducible refine below_drewN ?_ _) | (with_reducible refine Below.setCell ?_ ?_ _) | (with_reducible refine below_call ?_ ?_ (by assumption)) | go_size))⟩
            by_cases hjk : j = k
            · subst hjk; rw [HX.out]; exact hp
            · exact HA.out j (by omega)
          case measure => simp [intOf]; omega
      · have HM := Lib.hid (trainB_of (L := L) (by omega) (fun j hj => HA.out j (by omega)))
        go_wp2
        go_ret
        exact ⟨ret_bool HM.out.symm, by (repeat' (first | (with_reducible exact Below.refl _ _) | (with_reducible assumption) | (with_reducible refine Below.alloc ?_ ?_ _) | (with_reducible refine Below.drew ?_) | (with_reducible refine below_drewN ?_ _) | (with_reducible refine Below.setCell ?_ ?_ _) | (with_reducible refine below_call ?_ ?_ (by assumption)) | go_size))⟩
set_option maxHeartbeats 400000 in
theorem specIsTrain_is {b : Bool} (a : Option Addr) (c : Nat) (L : List (Int × Int)) (hr : trainB L = b) (w : World) (hin : PIn w a L) (hm : L.length ≤ maxLen) :
    Calls Try.prog 23 #[.slice a L.length c] w fun e w' => e = .returned (.bool b) ∧ Below w.heap.size w w' := by
  have HC := Lib.hid (geTrain_is a c L hr w hin hm)
  clear hin
  (go_enter Try.func23, Try.ntmps23)
  go_wp2_with fail
  refine HC.out.mono ?_
  (rintro e1 w1 ⟨rfl, hb1⟩; obtain ⟨hc1, hf1⟩ := bcell hb1; have hz1 := hb1.size; (try simp only [World.size_alloc, World.size_setCell, World.size_drew] at hz1); have q1 : w.heap.size ≤ w1.heap.size := (by omega); (try have q1_0 : w.heap.size < w1.heap.size := (by omega)); (try have q1_1 : w.heap.size + 1 < w1.heap.size := (by omega)); (try have q1_2 : w.heap.size + 2 < w1.heap.size := (by omega)); (try have q1_3 : w.heap.size + 3 < w1.heap.size := (by omega)))
  go_wp2
  go_ret
  exact ⟨rfl, by (repeat' (first | (with_reducible exact Below.refl _ _) | (with_reducible assumption) | (with_reducible refine Below.alloc ?_ ?_ _) | (with_reducible refine Below.drew ?_) | (with_reducible refine below_drewN ?_ _) | (with_reducible refine Below.setCell ?_ ?_ _) | (with_reducible refine below_call ?_ ?_ (by assumption)) | go_size))⟩
/-! Products and sums along a train. -/
def numT : List (Int × Int) → Int
  | [] => 1
  | p :: ps => p.1 * numT ps
def denT : List (Int × Int) → Int
  | [] => 1
  | p :: ps => p.2 * denT ps
def sumT : List (Int × Int) → Int
  | [] => 0
  | p :: ps => p.1 + p.2 + sumT ps
theorem numT_append (L M : List (Int × Int)) : numT (L ++ M) = numT L * numT M := by
  induction L with
  | nil => simp [numT]
  | cons p ps ih => simp [numT, ih, Int.mul_assoc]
theorem denT_append (L M : List (Int × Int)) : denT (L ++ M) = denT L * denT M := by
  induction L with
  | nil => simp [denT]
  | cons p ps ih => simp [denT, ih, Int.mul_assoc]
theorem sumT_append (L M : List (Int × Int)) : sumT (L ++ M) = sumT L + sumT M := by
  induction L with
  | nil => simp [sumT]
  | cons p ps ih => simp only [List.cons_append, sumT, ih]; omega
theorem take_next {L : List (Int × Int)} {k : Nat} (hk : k < L.length) : L.take (k + 1) = L.take k ++ [L.getD k (0, 0)] := by
  rw [List.getD_eq_getElem?_getD, List.getElem?_eq_getElem hk, Option.getD_some, List.take_append_getElem hk]
theorem numT_next {L : List (Int × Int)} {k : Nat} (hk : k < L.length) {x y : Int} (h : L.getD k (0, 0) = (x, y)) : numT (L.take (k + 1)) = numT (L.take k) * x := by
  rw [take_next hk, numT_append, h]; simp [numT]
theorem denT_next {L : List (Int × Int)} {k : Nat} (hk : k < L.length) {x y : Int} (h : L.getD k (0, 0) = (x, y)) : denT (L.take (k + 1)) = denT (L.take k) * y := by
  rw [take_next hk, denT_append, h]; simp [denT]
theorem sumT_next {L : List (Int × Int)} {k : Nat} (hk : k < L.length) {x y : Int} (h : L.getD k (0, 0) = (x, y)) : sumT (L.take (k + 1)) = sumT (L.take k) + (x + y) := by
  rw [take_next hk, sumT_append, h]; simp [sumT]
theorem trainB_take {L : List (Int × Int)} (h : trainB L = true) (k : Nat) : trainB (L.take k) = true := by
  simp only [trainB, Bool.and_eq_true, decide_eq_true_eq, List.all_eq_true] at h ⊢
  exact ⟨by rw [List.length_take]; omega, fun x hx => h.2 x (List.mem_of_mem_take hx)⟩
theorem prod_bd {L : List (Int × Int)} (h : ∀ x, x ∈ L → pairB x = true) : (1 ≤ numT L ∧ numT L ≤ 120 ^ L.length) ∧ (1 ≤ denT L ∧ denT L ≤ 120 ^ L.length) ∧ 0 ≤ sumT L ∧ sumT L ≤ 240 * L.length := by
  induction L with
  | nil => simp [numT, denT, sumT]
  | cons p ps ih =>
    obtain ⟨⟨a1, a2⟩, ⟨b1, b2⟩, c1, c2⟩ := ih (fun x hx => h x (List.mem_cons_of_mem _ hx))
    obtain ⟨⟨d1, d2⟩, e1, e2⟩ := pairB_bd (h p List.mem_cons_self)
    simp only [numT, denT, sumT, List.length_cons]
    have hp : (120 : Int) ^ (ps.length + 1) = 120 * 120 ^ ps.length := by rw [Int.pow_succ, Int.mul_comm]
    rw [hp]
    refine ⟨⟨?_, Int.mul_le_mul d2 a2 (by omega) (by omega)⟩, ⟨?_, Int.mul_le_mul e2 b2 (by omega) (by omega)⟩, by omega, by omega⟩
    · have := Int.mul_le_mul (show 1 ≤ p.1 by omega) a1 (by omega) (by omega); omega
    · have := Int.mul_le_mul (show 1 ≤ p.2 by omega) b1 (by omega) (by omega); omega
theorem train_bd {L : List (Int × Int)} (h : trainB L = true) : (1 ≤ numT L ∧ numT L ≤ 207360000) ∧ (1 ≤ denT L ∧ denT L ≤ 207360000) ∧ 0 ≤ sumT L ∧ sumT L ≤ 960 := by
  simp only [trainB, Bool.and_eq_true, decide_eq_true_eq, List.all_eq_true] at h
  obtain ⟨⟨a1, a2⟩, ⟨b1, b2⟩, c1, c2⟩ := prod_bd (L := L) h.2
  have : (120 : Int) ^ L.length ≤ 207360000 := by
    have hl := h.1
    generalize L.length = n at hl
    match n, hl with
    | 0, _ => decide
    | 1, _ => decide
    | 2, _ => decide
    | 3, _ => decide
    | 4, _ => decide
  exact ⟨⟨a1, by omega⟩, ⟨b1, by omega⟩, c1, by omega⟩
end Go.Proofs.Ytaifcemdabcfjaa
