/- slices.DeleteFunc at a list of turns with the closure that asks whether two hands stand apart: the list of those that are kept. -/
import Derived.Test.YtcfiaacpofpioaaMeet8
import Derived.Lib.SlKept
import Derived.Lib.SliceRun
import Derived.Lib.OwnBridge
set_option linter.unusedSimpArgs false
set_option linter.unusedVariables false
set_option maxRecDepth 100000
namespace Go.Proofs.Ytcfiaacpofpioaa
open Go.RowKit
attribute [local go_sem ↓] Go.wp_at_zero Go.wp_at_succ

theorem run_neq_turn (a b c d : Int) (w : World) : (binOp .neq 25 (.agg #[.int .i64 a, .int .i64 b]) (.agg #[.int .i64 c, .int .i64 d])).run Try.prog w = .ok (.bool (!eqT a b c d)) w := by
  have hu : Try.prog.underlying 25 = some (.struct (Try.prog.fieldsOf 25)) := by kernel_rfl
  have hp : Try.prog.stoodInHeld 25 = false := by kernel_rfl
  have u3 := Try.underlying3
  have a3 := Try.isAgg3
  have z3 := Try.sizeOf3
  rw [run_neq_struct, show (10000 : Nat) = 9999 + 1 from rfl, run_equalIn_agg w 9999 25 _ _ hu hp]
  simp only [Program.fieldsOf, Try.underlying25]
  go_simp
  by_cases h1 : a = c <;> by_cases h2 : b = d <;> simp [h1, h2, eqT]

attribute [local go_sem ↓] run_neq_turn
/-- Whether two hands stand in one place at a time. -/
def sameB (an ad av cn cd cv : Int) (t : Int × Int) : Bool :=
  eqT (lowNum (an * t.2 + av * t.1 * ad) (ad * t.2)) (lowDen (an * t.2 + av * t.1 * ad) (ad * t.2)) (lowNum (cn * t.2 + cv * t.1 * cd) (cd * t.2)) (lowDen (cn * t.2 + cv * t.1 * cd) (cd * t.2))

/-- All that lay beneath B lies in W as in w. -/
def Agree (B : Nat) (w W : World) : Prop := w.heap.size ≤ W.heap.size ∧ ∀ b o, b < B → W.cell? ⟨b, o, none⟩ = w.cell? ⟨b, o, none⟩
theorem Agree.below {B : Nat} {w W W' : World} (h : Agree B w W) (hb : Below W.heap.size W W') (hB : B ≤ w.heap.size) : Agree B w W' := by
  obtain ⟨hc, -⟩ := bcell hb
  have := hb.size
  have := h.1
  exact ⟨by omega, fun b o hlt => by rw [hc b o (by omega)]; exact h.2 b o hlt⟩
/-- A hand in a box. -/
def HBox (w : World) (g : Nat) (n d s : Int) : Prop := w.cell? ⟨g, 0, none⟩ = some (.int .i64 n) ∧ w.cell? ⟨g, 1, none⟩ = some (.int .i64 d) ∧ w.cell? ⟨g, 2, none⟩ = some (.int .i64 s)
theorem HBox.agree {B : Nat} {w W : World} {g : Nat} {n d s : Int} (h : HBox w g n d s) (hA : Agree B w W) (hg : g < B) : HBox W g n d s :=
  ⟨(hA.2 g 0 hg).trans h.1, (hA.2 g 1 hg).trans h.2.1, (hA.2 g 2 hg).trans h.2.2⟩

set_option maxHeartbeats 800000 in
theorem apart_any (an ad av cn cd cv tn td : Int) (g1 g2 : Nat) (w : World) (ga : handB an ad av = true) (gc : handB cn cd cv = true) (t1 : 1 ≤ td ∧ td ≤ 1000000) (t2 : 0 ≤ tn ∧ tn ≤ 999999)
    (h1 : HBox w g1 an ad av) (h2 : HBox w g2 cn cd cv) (l1 : g1 < w.heap.size) (l2 : g2 < w.heap.size) :
    Calls Try.prog 71 #[tv tn td, .pointer (some ⟨g1, 0, none⟩), .pointer (some ⟨g2, 0, none⟩)] w fun e w' => e = .returned (.bool (!sameB an ad av cn cd cv (tn, td))) ∧ Below w.heap.size w w' := by
  obtain ⟨a1, a2, a3⟩ := h1
  obtain ⟨c1, c2, c3⟩ := h2
  obtain ⟨⟨x1, x2, x3, x4⟩, x5, x6⟩ := handB_bd ga
  obtain ⟨⟨y1, y2, y3, y4⟩, y5, y6⟩ := handB_bd gc
  have k1 := fun W => placeAt_any an ad av tn td ⟨by omega, by omega⟩ ⟨by omega, by omega⟩ ⟨by omega, by omega⟩ ⟨by omega, by omega⟩ ⟨by omega, by omega⟩ W
  have k2 := fun W => placeAt_any cn cd cv tn td ⟨by omega, by omega⟩ ⟨by omega, by omega⟩ ⟨by omega, by omega⟩ ⟨by omega, by omega⟩ ⟨by omega, by omega⟩ W
  have K1 := Lib.hid k1
  have K2 := Lib.hid k2
  have HS := Lib.hid (show sameB an ad av cn cd cv (tn, td) = eqT (lowNum (an * td + av * tn * ad) (ad * td)) (lowDen (an * td + av * tn * ad) (ad * td)) (lowNum (cn * td + cv * tn * cd) (cd * td)) (lowDen (cn * td + cv * tn * cd) (cd * td)) from rfl)
  clear k1 k2 ga gc
  generalize lowNum (an * td + av * tn * ad) (ad * td) = p1 at *
  generalize lowDen (an * td + av * tn * ad) (ad * td) = p2 at *
  generalize lowNum (cn * td + cv * tn * cd) (cd * td) = p3 at *
  generalize lowDen (cn * td + cv * tn * cd) (cd * td) = p4 at *
  (go_enter Try.func71, Try.ntmps71)
  go_wp2_with fail
  refine wp_region_below (by kernel_rfl) (by kernel_rfl) ?_
  (apply wpB_take (hw := rfl); (intro wq hq; obtain ⟨hcq, hfq⟩ := bcell hq; unfold atB; go_simp; exact ⟨rfl, rfl⟩); simp only [Act.put, List.setIfInBounds_toArray, List.set_cons_zero, List.set_cons_succ])
  (apply wpB_take (hw := rfl); (intro wq hq; obtain ⟨hcq, hfq⟩ := bcell hq; unfold atB; go_simp; exact ⟨rfl, rfl⟩); simp only [Act.put, List.setIfInBounds_toArray, List.set_cons_zero, List.set_cons_succ])
  (apply wpB_take (hw := rfl); (intro wq hq; unfold atB; go_simp; exact ⟨rfl, K1.out _⟩); simp only [Act.put, List.setIfInBounds_toArray, List.set_cons_zero, List.set_cons_succ])
  (apply wpB_take (hw := rfl); (intro wq hq; obtain ⟨hcq, hfq⟩ := bcell hq; unfold atB; go_simp; exact ⟨rfl, rfl⟩); simp only [Act.put, List.setIfInBounds_toArray, List.set_cons_zero, List.set_cons_succ])
  (apply wpB_take (hw := rfl); (intro wq hq; obtain ⟨hcq, hfq⟩ := bcell hq; unfold atB; go_simp; exact ⟨rfl, rfl⟩); simp only [Act.put, List.setIfInBounds_toArray, List.set_cons_zero, List.set_cons_succ])
  (apply wpB_take (hw := rfl); (intro wq hq; unfold atB; go_simp; exact ⟨rfl, K2.out _⟩); simp only [Act.put, List.setIfInBounds_toArray, List.set_cons_zero, List.set_cons_succ])
  (apply wpB_take (hw := rfl); (intro wq hq; obtain ⟨hcq, hfq⟩ := bcell hq; unfold atB; go_simp; exact ⟨rfl, rfl⟩); simp only [Act.put, List.setIfInBounds_toArray, List.set_cons_zero, List.set_cons_succ])
  (apply wpB_take (hw := rfl); (intro wq hq; obtain ⟨hcq, hfq⟩ := bcell hq; unfold atB; go_simp; exact ⟨rfl, rfl⟩); simp only [Act.put, List.setIfInBounds_toArray, List.set_cons_zero, List.set_cons_succ])
  refine fun w1 hb1 => ?_
  (obtain ⟨hc1, hf1⟩ := bcell hb1; have hz1 := hb1.size; (try simp only [World.size_alloc, World.size_setCell, World.size_drew] at hz1); have q1 : w.heap.size ≤ w1.heap.size := (by omega); (try have q1_0 : w.heap.size < w1.heap.size := (by omega)); (try have q1_1 : w.heap.size + 1 < w1.heap.size := (by omega)); (try have q1_2 : w.heap.size + 2 < w1.heap.size := (by omega)); (try have q1_3 : w.heap.size + 3 < w1.heap.size := (by omega)); try simp only [Act.put, List.setIfInBounds_toArray, List.set_cons_zero, List.set_cons_succ])
  go_wp2
  (refine bodyPost_ret (by simp [results, Try.results71, go_sem, *]; try rfl) rfl ?_)
  exact ⟨ret_bool (by rw [HS.out]), by (repeat' (first | (with_reducible exact Below.refl _ _) | (with_reducible assumption) | (with_reducible refine Below.alloc ?_ ?_ _) | (with_reducible refine Below.drew ?_) | (with_reducible refine below_drewN ?_ _) | (with_reducible refine Below.setCell ?_ ?_ _) | (with_reducible refine below_call ?_ ?_ (by assumption)) | go_size))⟩

/-- What is asked of the closure: in each world in which all beneath B lies as before. -/
def Gives (B : Nat) (w : World) (q1 q2 : Value) (p : Int × Int → Bool) (L : List (Int × Int)) : Prop :=
  ∀ (W : World) (x y : Int), Agree B w W → (x, y) ∈ L → Calls Try.prog 71 #[tv x y, q1, q2] W fun e w' => e = .returned (.bool (p (x, y))) ∧ Below W.heap.size W w'
theorem getD_mem {L : List (Int × Int)} {k : Nat} (hk : k < L.length) : L.getD k (0, 0) ∈ L := by
  rw [List.getD_eq_getElem?_getD, List.getElem?_eq_getElem hk]
  exact List.getElem_mem hk

set_option maxHeartbeats 800000 in
/-- slices.IndexFunc. -/
theorem indexFunc_any (L : List (Int × Int)) (v q1 q2 : Value) (B : Nat) (p : Int × Int → Bool) (w : World) (r : TRow w B v L) (hB : B ≤ w.heap.size) (hl : L.length ≤ 1000000) (HP : Hid (Gives B w q1 q2 p L)) :
    Calls Try.prog 89 #[v, .func (.func 71) #[] #[q1, q2]] w fun e w' => (∃ i : Int, e = .returned (.int .i64 i) ∧ ((i = -1 ∧ ∀ j, j < L.length → p (L.getD j (0, 0)) = false) ∨ ∃ k : Nat, k < L.length ∧ i = k ∧ p (L.getD k (0, 0)) = true ∧ ∀ j, j < k → p (L.getD j (0, 0)) = false)) ∧ Below w.heap.size w w' := by
  obtain ⟨a1, c1, rfl, l1, m1, x1⟩ := r.cells
  have X1 := Lib.hid x1
  clear x1 r
  (go_enter Try.func89, Try.ntmps89)
  go_wp2
  go_loopw [8] (fun i wr => ∃ k : Nat, k ≤ L.length ∧ i = .int .i64 k ∧ (∀ j, j < k → p (L.getD j (0, 0)) = false) ∧ Below w.heap.size w wr) (fun i _ => L.length - (intOf i).toNat)
  case atStart => exact ⟨0, Nat.zero_le _, rfl, fun j hj => absurd hj (Nat.not_lt_zero _), Below.refl _ _⟩
  case round =>
    obtain ⟨k, hk, rfl, hall, hbr⟩ := hrel
    have HA := Lib.hid hall
    clear hall
    obtain ⟨hcr, hfr⟩ := bcell hbr
    have hzr := hbr.size
    have i0 : (0 : Int) ≤ (k : Int) := Int.natCast_nonneg _
    by_cases hlt : k < L.length
    · obtain ⟨g1, rfl, e1, e2, e3, e4⟩ := X1.out k hlt
      have i1 : (k : Int) < (L.length : Int) := by omega
      have u1 : g1 < wr.heap.size := by omega
      have hag : Agree B w wr := ⟨hzr, fun b o hb => hcr b o (by omega)⟩
      have hcall := HP.out wr (L.getD k (0, 0)).1 (L.getD k (0, 0)).2 hag (getD_mem hlt)
      have HK : Hid (p ((L.getD k (0, 0)).1, (L.getD k (0, 0)).2) = p (L.getD k (0, 0))) := rfl
      clear hag
      generalize hx : (L.getD k (0, 0)).1 = x at *
      generalize hy : (L.getD k (0, 0)).2 = y at *
      clear hx hy
      cases hq : p (x, y) with
      | true =>
        rw [hq] at hcall
        have HQ := Lib.hid (HK.out.symm.trans hq)
        clear hq HK
        go_wp2_with fail
        refine hcall.mono ?_
        rintro e2' w2 ⟨rfl, hb2⟩
        go_wp2
        go_ret
        exact ⟨⟨k, rfl, .inr ⟨k, hlt, rfl, HQ.out, HA.out⟩⟩, hbr.trans (hb2.mono hzr)⟩
      | false =>
        rw [hq] at hcall
        have HQ := Lib.hid (HK.out.symm.trans hq)
        clear hq HK
        go_wp2_with fail
        refine hcall.mono ?_
        rintro e2' w2 ⟨rfl, hb2⟩
        go_wp2
        go_roundw
        case rel =>
          refine ⟨k + 1, by omega, by go_num, fun j hj => ?_, hbr.trans (hb2.mono hzr)⟩
          by_cases hjk : j = k
          · subst hjk; exact HQ.out
          · exact HA.out j (by omega)
        case measure => simp [intOf]; omega
    · obtain rfl : k = L.length := by omega
      go_wp2
      go_ret
      exact ⟨⟨-1, rfl, .inl ⟨rfl, HA.out⟩⟩, hbr⟩

/-! ### The list as it is kept -/
def KeptL (q : Int × Int → Bool) (L : List (Int × Int)) (j i : Nat) (dk : List (Int × Int)) : Prop :=
  dk.length = L.length ∧ i < j ∧ dk.take i = (L.take j).filter q ∧ ∀ t, i ≤ t → dk.getD t (0, 0) = L.getD t (0, 0)
theorem take_snoc {L : List (Int × Int)} {j : Nat} (hj : j < L.length) : L.take (j + 1) = L.take j ++ [L.getD j (0, 0)] := by
  rw [List.take_add_one, List.getElem?_eq_getElem hj, List.getD_eq_getElem?_getD, List.getElem?_eq_getElem hj]; rfl
theorem filter_one (q : Int × Int → Bool) (x : Int × Int) : [x].filter q = if q x = true then [x] else [] := by
  simp only [List.filter_cons, List.filter_nil]
theorem take_all {q : Int × Int → Bool} {L : List (Int × Int)} : ∀ {j : Nat}, j ≤ L.length → (∀ t, t < j → q (L.getD t (0, 0)) = true) → (L.take j).filter q = L.take j
  | 0, _, _ => by simp
  | j + 1, hj, h => by
    rw [take_snoc (by omega), List.filter_append, take_all (by omega) (fun t ht => h t (by omega)), filter_one, if_pos (h j (by omega))]
theorem KeptL.start {q : Int × Int → Bool} {L : List (Int × Int)} {k : Nat} (hk : k < L.length) (h : ∀ t, t < k → q (L.getD t (0, 0)) = true) (hn : q (L.getD k (0, 0)) = false) : KeptL q L (k + 1) k L := by
  refine ⟨rfl, by omega, ?_, fun _ _ => rfl⟩
  rw [take_snoc hk, List.filter_append, take_all (by omega) h, filter_one, hn]
  simp
theorem KeptL.skip {q : Int × Int → Bool} {L dk : List (Int × Int)} {i j : Nat} (h : KeptL q L j i dk) (hj : j < L.length) (hn : q (L.getD j (0, 0)) = false) : KeptL q L (j + 1) i dk := by
  obtain ⟨h1, h2, h3, h4⟩ := h
  refine ⟨h1, by omega, ?_, h4⟩
  rw [take_snoc hj, List.filter_append, h3, filter_one, hn]
  simp
theorem KeptL.keep {q : Int × Int → Bool} {L dk : List (Int × Int)} {i j : Nat} (h : KeptL q L j i dk) (hj : j < L.length) (hn : q (L.getD j (0, 0)) = true) : KeptL q L (j + 1) (i + 1) (dk.set i (L.getD j (0, 0))) := by
  obtain ⟨h1, h2, h3, h4⟩ := h
  refine ⟨by simpa using h1, by omega, ?_, fun t ht => ?_⟩
  · rw [take_snoc hj, List.filter_append, ← h3, take_snoc (by simp; omega)]
    congr 1
    · rw [List.take_set_of_le (Nat.le_refl i)]
    · rw [List.getD_eq_getElem?_getD, List.getElem?_set_self (by omega)]
      simp only [List.filter_cons, List.filter_nil, hn, if_true, Option.getD_some]
  · rw [List.getD_eq_getElem?_getD, List.getElem?_set_ne (by omega), ← List.getD_eq_getElem?_getD]
    exact h4 t (by omega)
theorem KeptL.done {q : Int × Int → Bool} {L dk : List (Int × Int)} {i : Nat} (h : KeptL q L L.length i dk) : dk.take i = L.filter q := by
  have := h.2.2.1
  rwa [List.take_of_length_le (Nat.le_refl _)] at this
theorem flat_take (ts : List (Int × Int)) (k : Nat) : (flat ts).take (k * 2) = flat (ts.take k) := by
  induction ts generalizing k with
  | nil => simp [flat]
  | cons t ts ih =>
    cases k with
    | zero => simp [flat]
    | succ k =>
      rw [show (k + 1) * 2 = k * 2 + 1 + 1 by omega]
      simp [flat, ih]
theorem grown_of {w w' : World} {row : Option Nat} (hb : Below w.heap.size w w') : w.grownBy w' row := ⟨hb.os, hb.tape, hb.output, hb.size, fun k hk _ => hb.block k hk⟩
theorem agree_of {B : Nat} {w w' : World} {g : Nat} (hg : w.grownBy w' (some g)) (hB : B ≤ g) (hw : B ≤ w.heap.size) : Agree B w w' := by
  refine ⟨hg.size, fun b o hb => World.grownBy.cell_far hg ⟨b, o, none⟩ (by show b < _; omega) ?_⟩
  intro e
  have e' : b = g := by simpa using e
  omega

/-- 'clear(s[i:])': what is ahead of it is the list's; nothing else turns. -/
theorem clear_tail {w : World} {base g n cap : Nat} {xs : List Value} (ty : TypeId) (h : w.ownsRow base 25 2 (.slice (some ⟨g, 0, none⟩) n cap) n xs) (i c' : Nat) (hi : i < n) :
    ∃ w', (Builtin.clear_ #[30] ty #[.slice (some ⟨g, i * 2, none⟩) (n - i) c']).run Try.prog w = .ok (.tuple #[]) w' ∧ w'.ownsRow base 25 2 (.slice (some ⟨g, 0, none⟩) i cap) i (xs.take (i * 2)) ∧ w.grownBy w' (some g) := by
  have hlen := h.1
  rcases h.2 with ⟨h', _⟩ | ⟨g', cap', cur, h', hb, hg, hnc, hcm, hcs, htake⟩
  · simp at h'
  · simp only [Value.slice.injEq, Option.some.injEq, Addr.mk.injEq, and_true, true_and] at h'
    obtain ⟨rfl, rfl⟩ := h'
    have hzl : (Builtin.zeroCells #[Value.int .i64 0, .int .i64 0] (n - i)).toList.length = (n - i) * 2 := by simp [Builtin.zeroCells]
    have hz1 : ∀ v ∈ (Builtin.zeroCells #[Value.int .i64 0, .int .i64 0] (n - i)).toList, v.oneCell' = true := by
      intro v hv
      simp only [Builtin.zeroCells, Array.toList_map, List.mem_map] at hv
      obtain ⟨t, -, rfl⟩ := hv
      have : t % 2 = 0 ∨ t % 2 = 1 := by omega
      rcases this with e | e <;> simp [e] <;> rfl
    have hst := run_storeCells_at (P := Try.prog) g (i * 2) 25 (Builtin.zeroCells #[Value.int .i64 0, .int .i64 0] (n - i)).toList 0 cur w hg (by rw [hzl]; omega) hz1
    have hv := Try.zeroValue25
    obtain ⟨m, hm⟩ : ∃ m, n - i = m + 1 := ⟨n - i - 1, by omega⟩
    obtain ⟨cur', hcur⟩ : ∃ c : Array Value, c = (List.take (i * 2 + 0) cur.toList ++ (Builtin.zeroCells #[Value.int .i64 0, .int .i64 0] (n - i)).toList ++ List.drop (i * 2 + 0 + (Builtin.zeroCells #[Value.int .i64 0, .int .i64 0] (n - i)).toList.length) cur.toList).toArray := ⟨_, rfl⟩
    rw [← hcur] at hst
    refine ⟨w.setRow g cur', ?_, ⟨?_, .inr ⟨g, cap, cur', rfl, hb, setRow_heap w g cur _ 25 _ hg, by omega, hcm, ?_, ?_⟩⟩, ⟨rfl, rfl, rfl, by simp, fun k _ hk => setRow_other w g k _ (fun e => hk (by simp [e]))⟩⟩
    · rw [hm] at hst ⊢
      simp [Builtin.clear_, run_underlying Try.underlying30, hv, Value.cells, hst]
    · rw [List.length_take, hlen]; omega
    · rw [hcur]
      simp only [List.size_toArray, List.length_append, List.length_take, List.length_drop, Array.length_toList, hzl]
      omega
    · rw [hcur, ← htake, List.take_take, List.append_assoc, Nat.add_zero, List.take_append_of_le_length (by simp; omega), List.take_take]
      congr 1
      omega

set_option maxHeartbeats 1600000 in
/-- slices.DeleteFunc: the slice, cut to those that are kept. -/
theorem deleteFunc_any (L : List (Int × Int)) (v q1 q2 : Value) (B : Nat) (p : Int × Int → Bool) (w : World) (r : TRow w B v L) (hB : B ≤ w.heap.size) (hl : L.length ≤ 1000000) (HP : Hid (Gives B w q1 q2 p L)) :
    Calls Try.prog 70 #[v, .func (.func 71) #[] #[q1, q2]] w fun e w' => ∃ v', e = .returned v' ∧ TRow w' B v' (L.filter fun t => !p t) ∧ w.grownBy w' v.ownBlock := by
  have HI := fun W (h : TRow W B v L) (h2 : B ≤ W.heap.size) (h3 : Hid (Gives B W q1 q2 p L)) => indexFunc_any L v q1 q2 B p W h h2 hl h3
  have R := Lib.hid r
  have hi := HI w r hB HP
  clear HI
  obtain ⟨q, HQ⟩ : ∃ q : Int × Int → Bool, Hid (q = fun t => !p t) := ⟨_, rfl⟩
  have hqt : ∀ t, p t = true → q t = false := fun t h => by rw [HQ.out]; simp [h]
  have hqf : ∀ t, p t = false → q t = true := fun t h => by rw [HQ.out]; simp [h]
  have HQT := Lib.hid hqt
  have HQF := Lib.hid hqf
  clear hqt hqf
  rw [← HQ.out]
  clear HQ
  obtain ⟨a1, c1, rfl, l1, m1, x1⟩ := r.cells
  have X1 := Lib.hid x1
  clear x1 r
  (go_enter Try.func70, Try.ntmps70)
  go_wp2_with fail
  refine hi.mono ?_
  rintro e1 w1 ⟨⟨iv, rfl, hiv⟩, hb1⟩
  have hz1 := hb1.size
  rcases hiv with ⟨rfl, hall⟩ | ⟨k0, hk0, rfl, hp0, hall⟩
  · -- none is left out
    have HE : Hid (L.filter q = L) := by
      have := take_all (q := q) (Nat.le_refl L.length) (fun t ht => HQF.out _ (hall t ht))
      rwa [List.take_of_length_le (Nat.le_refl _)] at this
    have R1 := Lib.hid (TRow.below R.out hb1)
    clear hall
    go_wp2
    go_ret
    refine ⟨_, rfl, ?_, grown_of hb1⟩
    rw [HE.out]
    exact R1.out
  · obtain ⟨g, rfl, u1, u2, -, -⟩ := X1.out k0 hk0
    have R1 := Lib.hid (TRow.below R.out hb1)
    have S0 := Lib.hid (KeptL.start hk0 (fun t ht => HQF.out _ (hall t ht)) (HQT.out _ hp0))
    have hne : ((k0 : Int) == -1) = false := beq_eq_false_iff_ne.2 (by omega)
    have i00 : (0 : Int) ≤ (k0 : Int) := Int.natCast_nonneg _
    clear hall hp0 X1
    go_wp2
    go_loopw [5, 6] (fun x y wr => ∃ (i j : Nat) (dk : List (Int × Int)), x = .int .i64 i ∧ y = .int .i64 j ∧ j ≤ L.length ∧ KeptL q L j i dk ∧ TRow wr B (.slice (some ⟨g, 0, none⟩) L.length c1) dk ∧ w.grownBy wr (some g)) (fun _ y _ => L.length - (intOf y).toNat)
    case atStart => exact ⟨k0, k0 + 1, L, rfl, by go_num, by omega, S0.out, R1.out, grown_of hb1⟩
    case round =>
      obtain ⟨i, j, dk, rfl, rfl, hj, hk, hr, hg⟩ := hrel
      have hij := hk.2.1
      have hkl := hk.1
      have hzr := hg.size
      have RR := Lib.hid hr
      have HG := Lib.hid hg
      have HK := Lib.hid hk
      clear hr hg hk
      have i0 : (0 : Int) ≤ (i : Int) := Int.natCast_nonneg _
      have j0 : (0 : Int) ≤ (j : Int) := Int.natCast_nonneg _
      have hjl : (j : Int) ≤ 1000000 := by omega
      by_cases hlt : j < L.length
      · obtain ⟨a', c', e', -, -, x⟩ := RR.out.cells
        rw [hkl] at e' x
        obtain ⟨rfl, rfl⟩ : some ⟨g, 0, none⟩ = a' ∧ c1 = c' := by simpa using e'
        obtain ⟨g2, hg2, e1, e2, e3, e4⟩ := x j hlt
        obtain rfl : g = g2 := by simpa using hg2
        rw [HK.out.2.2.2 j (by omega)] at e3 e4
        obtain ⟨g3, hg3, -, -, f3, f4⟩ := x i (by omega)
        obtain rfl : g = g3 := by simpa using hg3
        have z3 : wr.frozen? ⟨g, i * 2, none⟩ = false := World.ownsRow.frozenAt (by have := RR.out; unfold TRow at this; rw [hkl] at this; exact this) _
        have z4 : wr.frozen? ⟨g, i * 2 + 1, none⟩ = false := World.ownsRow.frozenAt (by have := RR.out; unfold TRow at this; rw [hkl] at this; exact this) _
        clear x e' hg2 hg3
        generalize (dk.getD i (0, 0)).1 = o1 at f3
        generalize (dk.getD i (0, 0)).2 = o2 at f4
        have hag : Agree B w wr := agree_of HG.out u1 hB
        have HM := Lib.hid (getD_mem hlt)
        have HSK := Lib.hid (KeptL.skip HK.out hlt)
        have HKP := Lib.hid (KeptL.keep HK.out hlt)
        have HT := Lib.hid (HQT.out (L.getD j (0, 0)))
        have HF := Lib.hid (HQF.out (L.getD j (0, 0)))
        generalize L.getD j (0, 0) = t at *
        obtain ⟨x, y⟩ := t
        simp only at e3 e4
        have hcall := fun W h => HP.out W x y h HM.out
        have i1 : (i : Int) < (L.length : Int) := by omega
        have j1 : (j : Int) < (L.length : Int) := by omega
        cases hq : p (x, y) with
        | true =>
          rw [hq] at hcall
          have HN := Lib.hid (HSK.out (HT.out hq))
          clear hq
          go_wp2_with fail
          refine (hcall _ (Agree.below hag (by (repeat' (first | (with_reducible exact Below.refl _ _) | (with_reducible assumption) | (with_reducible refine Below.alloc ?_ ?_ _) | (with_reducible refine Below.drew ?_) | (with_reducible refine below_drewN ?_ _) | (with_reducible refine Below.setCell ?_ ?_ _) | (with_reducible refine below_call ?_ ?_ (by assumption)) | go_size))) hB)).mono ?_
          (rintro e2 w2 ⟨rfl, hb2⟩; obtain ⟨hc2, hf2⟩ := bcell hb2; have hz2 := hb2.size; (try simp only [World.size_alloc, World.size_setCell, World.size_drew] at hz2); have q2 : w.heap.size ≤ w2.heap.size := (by omega); (try have q2_0 : w.heap.size < w2.heap.size := (by omega)); (try have q2_1 : w.heap.size + 1 < w2.heap.size := (by omega)); (try have q2_2 : w.heap.size + 2 < w2.heap.size := (by omega)); (try have q2_3 : w.heap.size + 3 < w2.heap.size := (by omega)); (try have q2_1_0 : w1.heap.size < w2.heap.size := (by omega)); (try have q2_1_1 : w1.heap.size + 1 < w2.heap.size := (by omega)))
          go_wp2
          go_roundw
          case rel => exact ⟨i, j + 1, dk, rfl, by go_num, by omega, HN.out, TRow.below RR.out (by (repeat' (first | (with_reducible exact Below.refl _ _) | (with_reducible assumption) | (with_reducible refine Below.alloc ?_ ?_ _) | (with_reducible refine Below.drew ?_) | (with_reducible refine below_drewN ?_ _) | (with_reducible refine Below.setCell ?_ ?_ _) | (with_reducible refine below_call ?_ ?_ (by assumption)) | go_size))), grownBy_trans HG.out (grown_of (by (repeat' (first | (with_reducible exact Below.refl _ _) | (with_reducible assumption) | (with_reducible refine Below.alloc ?_ ?_ _) | (with_reducible refine Below.drew ?_) | (with_reducible refine below_drewN ?_ _) | (with_reducible refine Below.setCell ?_ ?_ _) | (with_reducible refine below_call ?_ ?_ (by assumption)) | go_size))))⟩
          case measure => simp [intOf]; omega
        | false =>
          rw [hq] at hcall
          have HN := Lib.hid (HKP.out (HF.out hq))
          clear hq
          go_wp2_with fail
          refine (hcall _ (Agree.below hag (by (repeat' (first | (with_reducible exact Below.refl _ _) | (with_reducible assumption) | (with_reducible refine Below.alloc ?_ ?_ _) | (with_reducible refine Below.drew ?_) | (with_reducible refine below_drewN ?_ _) | (with_reducible refine Below.setCell ?_ ?_ _) | (with_reducible refine below_call ?_ ?_ (by assumption)) | go_size))) hB)).mono ?_
          (rintro e2 w2 ⟨rfl, hb2⟩; obtain ⟨hc2, hf2⟩ := bcell hb2; have hz2 := hb2.size; (try simp only [World.size_alloc, World.size_setCell, World.size_drew] at hz2); have q2 : w.heap.size ≤ w2.heap.size := (by omega); (try have q2_0 : w.heap.size < w2.heap.size := (by omega)); (try have q2_1 : w.heap.size + 1 < w2.heap.size := (by omega)); (try have q2_2 : w.heap.size + 2 < w2.heap.size := (by omega)); (try have q2_3 : w.heap.size + 3 < w2.heap.size := (by omega)); (try have q2_1_0 : w1.heap.size < w2.heap.size := (by omega)); (try have q2_1_1 : w1.heap.size + 1 < w2.heap.size := (by omega)))
          go_wp2
          go_roundw
          case rel =>
            refine ⟨i + 1, j + 1, dk.set i (x, y), by go_num, by go_num, by omega, HN.out, ?_, ?_⟩
            · have r2 := TRow.below (w' := w2) RR.out (by (repeat' (first | (with_reducible exact Below.refl _ _) | (with_reducible assumption) | (with_reducible refine Below.alloc ?_ ?_ _) | (with_reducible refine Below.drew ?_) | (with_reducible refine below_drewN ?_ _) | (with_reducible refine Below.setCell ?_ ?_ _) | (with_reducible refine below_call ?_ ?_ (by assumption)) | go_size)))
              unfold TRow at r2 ⊢
              rw [hkl] at r2
              rw [List.length_set, hkl, ← flat_set]
              exact (World.ownsRow.stored (World.ownsRow.stored r2 (i * 2) (.int .i64 x)).1 (i * 2 + 1) (.int .i64 y)).1
            · have r2 := TRow.below (w' := w2) RR.out (by (repeat' (first | (with_reducible exact Below.refl _ _) | (with_reducible assumption) | (with_reducible refine Below.alloc ?_ ?_ _) | (with_reducible refine Below.drew ?_) | (with_reducible refine below_drewN ?_ _) | (with_reducible refine Below.setCell ?_ ?_ _) | (with_reducible refine below_call ?_ ?_ (by assumption)) | go_size)))
              unfold TRow at r2
              rw [hkl] at r2
              have s1 := World.ownsRow.stored r2 (i * 2) (.int .i64 x)
              exact grownBy_trans HG.out (grownBy_trans (grown_of (by (repeat' (first | (with_reducible exact Below.refl _ _) | (with_reducible assumption) | (with_reducible refine Below.alloc ?_ ?_ _) | (with_reducible refine Below.drew ?_) | (with_reducible refine below_drewN ?_ _) | (with_reducible refine Below.setCell ?_ ?_ _) | (with_reducible refine below_call ?_ ?_ (by assumption)) | go_size)))) (grownBy_trans s1.2 (World.ownsRow.stored s1.1 (i * 2 + 1) (.int .i64 y)).2))
          case measure => simp [intOf]; omega
      · obtain rfl : j = L.length := by omega
        obtain ⟨w2, hcl, ho2, hg2⟩ := clear_tail (w := wr) 0 (by have := RR.out; unfold TRow at this; rw [hkl] at this; exact this) i (c1 - i) (by omega)
        rw [flat_take, HK.out.done] at ho2
        have HO := Lib.hid ho2
        have HG2 := Lib.hid hg2
        have HE := Lib.hid (show i = (L.filter q).length from by rw [← HK.out.done, List.length_take]; omega)
        clear ho2 hg2
        go_wp2
        go_ret
        refine ⟨_, rfl, ?_, grownBy_trans HG.out HG2.out⟩
        have h := HO.out
        unfold TRow
        rw [← HE.out]
        exact h
end Go.Proofs.Ytcfiaacpofpioaa
