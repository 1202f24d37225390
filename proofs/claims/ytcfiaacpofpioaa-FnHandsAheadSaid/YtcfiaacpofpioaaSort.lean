/- slices.SortFunc at a list of turns, by the order of turns: the sorted list. -/
import Derived.Test.YtcfiaacpofpioaaShelf
import Derived.Test.YtcfiaacpofpioaaIns
set_option linter.unusedSimpArgs false
set_option linter.unusedVariables false
set_option maxRecDepth 100000
namespace Go.Proofs.Ytcfiaacpofpioaa
open Go.RowKit Go.Shelf Go.Lib Go.Sort

/-- A turn in lowest terms. -/
abbrev GT : Type := { p : Int × Int // goodB p.1 p.2 = true }
instance : Inhabited GT := ⟨⟨(0, 1), by decide⟩⟩
def encT (x : GT) : List Value := [.int .i64 x.1.1, .int .i64 x.1.2]
def cfT (x y : GT) : Int := sg (x.1.1 * y.1.2 - y.1.1 * x.1.2)
theorem sg_neg (n : Int) : sg n < 0 ↔ n < 0 := by
  constructor
  · intro h
    rcases Int.lt_or_le n 0 with h1 | h1
    · exact h1
    · exact absurd h (sg_nlt (by omega))
  · exact sg_lt
theorem ltOf_cfT (x y : GT) : ltOf cfT x y = ltT x.1 y.1 := by
  unfold ltOf cfT ltT
  exact decide_eq_decide.2 (sg_neg _)
theorem ltT_iff (a b : Int × Int) : ltT a b = true ↔ a.1 * b.2 < b.1 * a.2 := by simp [ltT]; omega
theorem ltT_not (a b : Int × Int) : ltT a b = false ↔ b.1 * a.2 ≤ a.1 * b.2 := by
  rw [← Bool.not_eq_true, ltT_iff]; omega
/-- The order's chain: a / p against b / q against c / r. -/
theorem chain_lt {a p b q c r : Int} (hp : 1 ≤ p) (hq : 1 ≤ q) (hr : 1 ≤ r) (h1 : a * q < b * p) (h2 : b * r < c * q) : a * r < c * p := by
  have e1 : a * q * r < b * p * r := Int.mul_lt_mul_of_pos_right h1 (by omega)
  have e2 : b * r * p < c * q * p := Int.mul_lt_mul_of_pos_right h2 (by omega)
  refine Int.lt_of_mul_lt_mul_right (a := q) ?_ (by omega)
  have x1 : a * q * r = a * r * q := by grind
  have x2 : b * p * r = b * r * p := by grind
  have x3 : c * q * p = c * p * q := by grind
  omega
theorem chain_le {a p b q c r : Int} (hp : 1 ≤ p) (hq : 1 ≤ q) (hr : 1 ≤ r) (h1 : b * p ≤ a * q) (h2 : c * q ≤ b * r) : c * p ≤ a * r := by
  have e1 : b * p * r ≤ a * q * r := Int.mul_le_mul_of_nonneg_right h1 (by omega)
  have e2 : c * q * p ≤ b * r * p := Int.mul_le_mul_of_nonneg_right h2 (by omega)
  refine Int.le_of_mul_le_mul_right (a := q) ?_ (by omega)
  have x1 : a * q * r = a * r * q := by grind
  have x2 : b * p * r = b * r * p := by grind
  have x3 : c * q * p = c * p * q := by grind
  omega
theorem gt_bd (x : GT) : 1 ≤ x.1.2 ∧ x.1.2 ≤ 1000000 ∧ 0 ≤ x.1.1 ∧ x.1.1 ≤ 999999 := by
  obtain ⟨a, b, c, d, -⟩ := (goodB_iff _ _).1 x.2
  omega
theorem swoT : SWO (ltOf cfT) where
  irrefl x := by rw [ltOf_cfT, ltT_not]; omega
  trans x y z h1 h2 := by
    rw [ltOf_cfT, ltT_iff] at *
    exact chain_lt (gt_bd x).1 (gt_bd y).1 (gt_bd z).1 h1 h2
  ntrans x y z h1 h2 := by
    rw [ltOf_cfT, ltT_not] at *
    exact chain_le (gt_bd x).1 (gt_bd y).1 (gt_bd z).1 h1 h2
/-- Two turns in lowest terms that are as great are one. -/
theorem low_eq {a p b q : Int} (h1 : goodB a p = true) (h2 : goodB b q = true) (h : a * q = b * p) : (a, p) = (b, q) := by
  obtain ⟨x1, x2, x3, x4, x5⟩ := (goodB_iff _ _).1 h1
  obtain ⟨y1, y2, y3, y4, y5⟩ := (goodB_iff _ _).1 h2
  have d1 : p ∣ q := cop_dvd x5 ⟨b, by rw [h, Int.mul_comm]⟩
  have d2 : q ∣ p := cop_dvd y5 ⟨a, by rw [← h, Int.mul_comm]⟩
  have l1 := Int.le_of_dvd (by omega) d1
  have l2 := Int.le_of_dvd (by omega) d2
  have hq : p = q := by omega
  subst hq
  rw [Int.eq_of_mul_eq_mul_right (show p ≠ 0 by omega) h]
theorem totT (x y : GT) (h1 : ltOf cfT x y = false) (h2 : ltOf cfT y x = false) : x = y := by
  rw [ltOf_cfT, ltT_not] at *
  exact Subtype.ext (low_eq x.2 y.2 (Int.le_antisymm h2 h1))

set_option maxHeartbeats 400000 in
/-- The order, in whatever world: two blocks are laid. -/
theorem turnOrder_lays (x y : GT) (W : World) : Calls Try.prog 49 #[tv x.1.1 x.1.2, tv y.1.1 y.1.2] W fun e w' => e = .returned (.int .i64 (cfT x y)) ∧ ∃ q os', w' = grow (W.drewN q) os' := by
  obtain ⟨a1, a2, a3, a4⟩ := gt_bd x
  obtain ⟨b1, b2, b3, b4⟩ := gt_bd y
  unfold cfT
  obtain ⟨⟨an, ad⟩, ha⟩ := x
  obtain ⟨⟨bn, bd⟩, hb⟩ := y
  simp only at *
  clear ha hb
  obtain ⟨p1, p2⟩ := mulb a3 a4 (show 0 ≤ bd by omega) b2
  obtain ⟨p3, p4⟩ := mulb b3 b4 (show 0 ≤ ad by omega) a2
  obtain ⟨p5, p6⟩ := mulb (show 0 ≤ ad by omega) a2 (show 0 ≤ bd by omega) b2
  (go_enter Try.func49, Try.ntmps49)
  go_wp2_with fail
  refine (cmpCompare_any (an * bd) (bn * ad) _).mono ?_
  (rintro e1 w1 ⟨rfl, rfl⟩)
  go_wp2
  go_ret
  exact ⟨rfl, 0, _, by rw [alloc_eq_grow, alloc_eq_grow, grow_grow]; rfl⟩
theorem cmpLaysT (blk off size : Nat) (w : World) : CmpLays Try.prog 49 #[] encT 2 cfT blk off size w :=
  fun _ _ _ _ x y => turnOrder_lays x y _

def sortGT (d : List GT) : List GT := d.mergeSort fun x y => !(ltOf cfT) y x
theorem sortFunc_holds (blk off cap : Nat) (d : Array GT) (w : World) (hH : HoldsK encT 2 w blk off d) (hblk : blk < w.heap.size) (hsz : d.size < 4611686018427387904) :
    Calls Try.prog 48 #[.slice (some ⟨blk, off, none⟩) d.size cap, .func (.func 49) #[] #[]] w fun e w' => e = .returned (.tuple #[]) ∧ ∃ n os, w' = sortWorldK encT 2 w blk off n (sortGT d.toList).toArray os :=
  AnyQ.slices_SortFunc_total Try.sortTurn 2 Try.isAgg25 Try.sizeOf25 encT (fun _ => rfl) (fun x v hv => by simp [encT] at hv; rcases hv with rfl | rfl <;> rfl) cfT swoT 49 #[] blk off cap d w
    (enters_of Try.func49 (by kernel_rfl) rfl) (cmpLaysT blk off d.size w) hH hblk hsz totT

/-! ### Lists of pairs -/
def sortT (L : List (Int × Int)) : List (Int × Int) := L.mergeSort fun x y => !ltT y x
theorem sortGT_map (d : List GT) : (sortGT d).map (·.1) = sortT (d.map (·.1)) :=
  List.map_mergeSort fun a _ b _ => by rw [ltOf_cfT]
theorem sortT_len (L : List (Int × Int)) : (sortT L).length = L.length := List.length_mergeSort L
def AllGood (L : List (Int × Int)) : Prop := ∀ t ∈ L, goodB t.1 t.2 = true
theorem lift_gt : ∀ (L : List (Int × Int)), AllGood L → ∃ d : List GT, d.map (·.1) = L
  | [], _ => ⟨[], rfl⟩
  | t :: L, h => by
    obtain ⟨d, hd⟩ := lift_gt L (fun x hx => h x (List.mem_cons_of_mem _ hx))
    exact ⟨⟨t, h t (List.mem_cons_self ..)⟩ :: d, by rw [List.map_cons, hd]⟩
theorem flatK_flat (d : List GT) : flatK encT 2 d.toArray = (flat (d.map (·.1))).toArray := by
  refine ext_get! (by simp [flat_length]) fun t ht => ?_
  have ht' : t < d.length * 2 := by simpa using ht
  rw [get_flatK _ _ _ t (by simpa using ht')]
  have hk : t / 2 < d.length := by omega
  have e1 : (d.toArray)[t / 2]! = d[t / 2] := by simp [getElem!_pos, hk]
  rw [e1]
  have hg := flat_get (d.map (·.1)) (t / 2) (by simpa using hk)
  have e2 : (d.map (·.1)).getD (t / 2) (0, 0) = d[t / 2].1 := by simp [List.getD_eq_getElem?_getD, hk]
  rw [e2] at hg
  have hsz : t < ((flat (d.map (·.1))).toArray).size := by simpa [flat_length] using ht'
  rw [getElem!_pos _ t hsz]
  rcases (show t % 2 = 0 ∨ t % 2 = 1 by omega) with h | h
  · rw [h]
    have : t = t / 2 * 2 := by omega
    have h1 := hg.1
    rw [← this] at h1
    have h2 := (List.getElem?_eq_some_iff.1 h1).2
    simp only [List.getElem_toArray]
    rw [h2]; rfl
  · rw [h]
    have : t = t / 2 * 2 + 1 := by omega
    have h1 := hg.2
    rw [← this] at h1
    have h2 := (List.getElem?_eq_some_iff.1 h1).2
    simp only [List.getElem_toArray]
    rw [h2]; rfl
theorem holds_own {w : World} {base g cap n : Nat} {e : TypeId} {xs : List Value} (h : w.ownsRow base e 2 (.slice (some ⟨g, 0, none⟩) n cap) n xs) : Holds id w g 0 xs.toArray := by
  intro j hj
  have hj' : j < xs.length := by simpa using hj
  have hl := h.1
  refine ⟨?_, World.ownsRow.frozenAt h _⟩
  rw [Nat.zero_add, World.ownsRow.cellAt h j (by omega), List.getElem?_eq_getElem hj']
  simp [getElem!_pos, hj']
theorem own_putRow {w : World} {base g cap n q : Nat} {e : TypeId} {xs : List Value} (os : Array Obj) (ys : List Value) (h : w.ownsRow base e 2 (.slice (some ⟨g, 0, none⟩) n cap) n xs) (hy : ys.length = n * 2) :
    (grow (putRow id (Sort.ahead w q) g 0 ys.toArray) os).ownsRow base e 2 (.slice (some ⟨g, 0, none⟩) n cap) n ys ∧ w.grownBy (grow (putRow id (Sort.ahead w q) g 0 ys.toArray) os) (some g) := by
  rcases h.2 with ⟨e0, _⟩ | ⟨g', cap', cur, e0, hb, hg, hn, hm, hs, ht⟩
  · cases e0
  · simp only [Value.slice.injEq, Option.some.injEq, Addr.mk.injEq, and_true, true_and] at e0
    obtain ⟨rfl, rfl⟩ := e0
    have hlt : g < w.heap.size := (Array.getElem?_eq_some_iff.1 hg).1
    refine ⟨⟨hy, .inr ⟨g, cap, putCells id 0 ys.toArray cur, rfl, hb, ?_, hn, hm, by simpa [putCells] using hs, ?_⟩⟩, ⟨rfl, rfl, rfl, by simp, fun k hk hne => ?_⟩⟩
    · rw [heap_grow_old _ _ (by simpa using hlt)]
      simp [putRow, mapBlock, Sort.ahead, Array.getElem?_modify, hg, onCells]
    · apply List.ext_getElem?
      intro j
      by_cases hj : j < n * 2
      · have hjc : j < cur.size := by have := Nat.mul_le_mul_right 2 hn; omega
        rw [List.getElem?_take_of_lt hj, Array.getElem?_toList]
        have hjy : j < ys.length := by omega
        simp [putCells, Array.getElem?_eq_getElem hjc, hjy]
      · rw [List.getElem?_take_eq_none (by omega), List.getElem?_eq_none (by omega)]
    · rw [heap_grow_old _ _ (by simpa using hk)]
      have : g ≠ k := fun e => hne (by rw [e])
      simp [putRow, mapBlock, Sort.ahead, Array.getElem?_modify, this]

/-- slices.SortFunc at a slice of the call's own. -/
theorem sortFunc_row (L : List (Int × Int)) (g c b : Nat) (w : World) (r : TRow w b (.slice (some ⟨g, 0, none⟩) L.length c) L) (hg : g < w.heap.size) (gl : AllGood L) (hl : L.length ≤ 1000000) :
    Calls Try.prog 48 #[.slice (some ⟨g, 0, none⟩) L.length c, .func (.func 49) #[] #[]] w fun e w' => e = .returned (.tuple #[]) ∧ TRow w' b (.slice (some ⟨g, 0, none⟩) L.length c) (sortT L) ∧ w.grownBy w' (some g) := by
  obtain ⟨d, hd⟩ := lift_gt L gl
  have hdl : d.length = L.length := by rw [← hd]; simp
  have hH : HoldsK encT 2 w g 0 d.toArray := by
    unfold HoldsK
    rw [flatK_flat, hd]
    exact holds_own r
  have h := sortFunc_holds g 0 c d.toArray w hH hg (by simp; omega)
  rw [List.size_toArray, hdl] at h
  refine h.mono ?_
  rintro e w' ⟨he, n, os, hw⟩
  have ho := own_putRow (q := n) os (flat (sortT L)) r (by rw [flat_length, sortT_len])
  have hw2 : w' = grow (putRow id (Sort.ahead w n) g 0 (flat (sortT L)).toArray) os := by
    rw [hw]
    unfold sortWorldK putRowK
    rw [flatK_flat, sortGT_map, hd]
  rw [hw2]
  refine ⟨he, ?_, ho.2⟩
  unfold TRow
  rw [sortT_len]
  exact ho.1
end Go.Proofs.Ytcfiaacpofpioaa
