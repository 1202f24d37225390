/- A turn put into a list where it belongs: by the model. -/
import Derived.Test.YtcfiaacpofpioaaThree
import Derived.Test.YtcfiaacpofpioaaOrder
set_option linter.unusedSimpArgs false
set_option linter.unusedVariables false
set_option maxRecDepth 100000
namespace Go.Proofs.Ytcfiaacpofpioaa
open Go.RowKit

attribute [local go_sem ↓] Go.wp_at_zero Go.wp_at_succ
attribute [local go_sem ↓] run_eql_turn
/-- What is appended: nothing at nil, or cells that lie somewhere. -/
def Srcs (w : World) (src : Value) (m : Nat) (news : List Value) : Prop :=
  (src = .slice none 0 0 ∧ m = 0 ∧ news = []) ∨ ∃ (ad : Addr) (c : Nat), src = .slice (some ad) m c ∧ news.length = m * 2 ∧ (∀ j u, news[j]? = some u → w.cell? (ad.add j) = some u) ∧ ∀ u ∈ news, u.oneCell' = true
section
variable {P : Program}
theorem run_append_any (w : World) (t ty : TypeId) (base : Nat) (e : TypeId) (i : TypeInfo) (z : Value) (bytes : Nat) (ht : P.underlying t = some (.slice e)) (hi : P.info? e = some i) (hz : i.zero = some z)
    (hsize : i.size = 2) (hby : i.bytes = bytes) (hzs : z.cells.size = 2)
    (v : Value) (n : Nat) (xs : List Value) (hown : w.ownsRow base e 2 v n xs) (src : Value) (m : Nat) (news : List Value) (hsrc : Srcs w src m news)
    (h63 : n + m ≤ maxLen) (hbytes : (n + m) * bytes ≤ 140737488355328) (hbase : base ≤ w.heap.size) :
    ∃ v' w', (Builtin.append_ #[t, t] ty #[v, src]).run P w = .ok v' w' ∧ w'.ownsRow base e 2 v' (n + m) (xs ++ news) ∧ w.grownBy w' v.ownBlock := by
  rcases hsrc with ⟨rfl, rfl, rfl⟩ | ⟨ad, c, rfl, hl, hn, h1⟩
  · exact ⟨v, w, run_append_owned_none w base t ty e i 2 ht hi v n xs hown, by simpa using hown, grownBy_refl _ _⟩
  · obtain ⟨v', w', hr, h2, h3, -⟩ := run_append_own (P := P) w base t ty e i z 2 bytes ht hi hz hsize hby hzs (by omega) v n xs hown ad m c news hl hn h1 h63 hbytes hbase
    exact ⟨v', w', hr, h2, h3⟩
theorem wp_append_any {o : Oper} {a : Act} {w : World} {K : Act → World → Prop} {Q : Exit → Act → World → Prop} (d : Tmp) (hd : o.dst = some d) (s x : Operand) (t : TypeId)
    (ho : o.op = .call { callee := .builtin .append, args := #[s, x], argTypes := #[t, t] })
    (base : Nat) (e : TypeId) (i : TypeInfo) (z : Value) (bytes : Nat) (ht : P.underlying t = some (.slice e)) (hi : P.info? e = some i) (hz : i.zero = some z)
    (hsize : i.size = 2) (hby : i.bytes = bytes) (hzs : z.cells.size = 2)
    (v : Value) (n : Nat) (xs : List Value) (hs : a.eval s = v) (hown : w.ownsRow base e 2 v n xs) (src : Value) (hx : a.eval x = src) (m : Nat) (news : List Value) (hsrc : Srcs w src m news)
    (h63 : n + m ≤ maxLen) (hbytes : (n + m) * bytes ≤ 140737488355328) (hbase : base ≤ w.heap.size)
    (h : ∀ v' w', w'.ownsRow base e 2 v' (n + m) (xs ++ news) → w.grownBy w' v.ownBlock → K (a.put (some d) v') w') : o.wp P a w K Q := by
  obtain ⟨v', w', hr, h2, h3⟩ := run_append_any (P := P) w t o.type base e i z bytes ht hi hz hsize hby hzs v n xs hown src m news hsrc h63 hbytes hbase
  unfold Oper.wp execOp
  simp only [ho, resolve, invoke, builtin, Sem.run_bind, Sem.run_pure, Result.andThen_ok, List.map_toArray, List.map_cons, List.map_nil, hs, hx, hr]
  rw [← hd] at h
  exact h v' w' h2 h3
theorem wpList_append_any {ops : Array Oper} {rest : List Oper} {o : Oper} {a : Act} {w : World} {Q : Exit → Act → World → Prop} (d : Tmp) (hd : o.dst = some d) (hgd : o.guard = none) (s x : Operand) (t : TypeId)
    (ho : o.op = .call { callee := .builtin .append, args := #[s, x], argTypes := #[t, t] })
    (base : Nat) (e : TypeId) (i : TypeInfo) (z : Value) (bytes : Nat) (ht : P.underlying t = some (.slice e)) (hi : P.info? e = some i) (hz : i.zero = some z)
    (hsize : i.size = 2) (hby : i.bytes = bytes) (hzs : z.cells.size = 2)
    (v : Value) (n : Nat) (xs : List Value) (hs : a.eval s = v) (hown : w.ownsRow base e 2 v n xs) (src : Value) (hx : a.eval x = src) (m : Nat) (news : List Value) (hsrc : Srcs w src m news)
    (h63 : n + m ≤ maxLen) (hbytes : (n + m) * bytes ≤ 140737488355328) (hbase : base ≤ w.heap.size)
    (h : ∀ v' w', w'.ownsRow base e 2 v' (n + m) (xs ++ news) → w.grownBy w' v.ownBlock → wpList P ops Q rest (a.put (some d) v') w') : wpList P ops Q (o :: rest) a w :=
  wpList_plain hgd fun _ hK => wp_append_any d hd s x t ho base e i z bytes ht hi hz hsize hby hzs v n xs hs hown src hx m news hsrc h63 hbytes hbase fun v' w' h2 h3 => hK _ _ (h v' w' h2 h3)
end
/-- A part of a list in memory, as it lies in a later world. -/
theorem srcs_part {w W : World} {b g c k n : Nat} {L : List (Int × Int)} (r : TRow w b (.slice (some ⟨g, 0, none⟩) L.length c) L) (hW : ∀ o, W.cell? ⟨g, o, none⟩ = w.cell? ⟨g, o, none⟩) (c' : Nat) (hkn : k + n ≤ L.length) :
    Srcs W (.slice (some ⟨g, k * 2, none⟩) n c') n (flat ((L.drop k).take n)) := by
  refine .inr ⟨⟨g, k * 2, none⟩, c', rfl, ?_, fun j u hu => ?_, fun u hu => ?_⟩
  · rw [flat_length]; simp; omega
  · have hadd : (⟨g, k * 2, none⟩ : Addr).add j = ⟨g, k * 2 + j, none⟩ := by unfold Addr.add; split <;> simp_all
    have hj : j < ((L.drop k).take n).length * 2 := by
      rw [← flat_length]
      exact (List.getElem?_eq_some_iff.1 hu).1
    simp only [List.length_take, List.length_drop] at hj
    rw [hadd, hW, World.ownsRow.cellAt r (k * 2 + j) (by omega), ← hu]
    have e : L = L.take k ++ ((L.drop k).take n ++ (L.drop k).drop n) := by rw [List.take_append_drop, List.take_append_drop]
    have e2 : (L.take k).length = k := by simp; omega
    conv => lhs; rw [e]
    rw [flat_append, List.getElem?_append_right (by rw [flat_length, e2]; omega), flat_length, e2, flat_append, List.getElem?_append_left (by rw [flat_length]; simp; omega)]
    congr 1; omega
  · clear r hW
    generalize (L.drop k).take n = K at *
    induction K with
    | nil => simp [flat] at hu
    | cons t ts ih =>
      simp only [flat, List.mem_cons] at hu
      rcases hu with rfl | rfl | h
      · rfl
      · rfl
      · exact ih h
/-- Less. -/
def ltT (x t : Int × Int) : Bool := decide (x.1 * t.2 - t.1 * x.2 < 0)
/-- Into its place, once. -/
def insU (t : Int × Int) : List (Int × Int) → List (Int × Int)
  | [] => [t]
  | x :: xs => if ltT x t then x :: insU t xs else if x = t then x :: xs else t :: x :: xs
theorem insU_at (t : Int × Int) : ∀ (L : List (Int × Int)) (k : Nat), k ≤ L.length → (∀ j, j < k → ltT (L.getD j (0, 0)) t = true) → (k < L.length → ltT (L.getD k (0, 0)) t = false) →
    insU t L = if k < L.length ∧ L.getD k (0, 0) = t then L else L.take k ++ [t] ++ L.drop k
  | [], k, hk, _, _ => by
    have : k = 0 := by simpa using hk
    subst this
    simp [insU]
  | x :: xs, 0, _, _, h2 => by
    have h := h2 (by simp)
    simp only [List.getD_cons_zero] at h
    simp [insU, h]
  | x :: xs, k + 1, hk, h1, h2 => by
    have h := h1 0 (by omega)
    simp only [List.getD_cons_zero] at h
    have ih := insU_at t xs k (by simpa using hk) (fun j hj => by simpa using h1 (j + 1) (by omega)) (fun hj => by simpa using h2 (by simpa using hj))
    simp only [insU, h, if_true, ih, List.length_cons, List.getD_cons_succ, Nat.add_lt_add_iff_right, List.take_succ_cons, List.drop_succ_cons]
    split <;> simp
theorem insU_len (t : Int × Int) (L : List (Int × Int)) : (insU t L).length ≤ L.length + 1 := by
  induction L with
  | nil => simp [insU]
  | cons x xs ih =>
    unfold insU
    split
    · simp; omega
    · split <;> simp
theorem sg_lt {n : Int} (h : n < 0) : sg n < 0 := by unfold sg; rw [if_neg (by omega), if_pos h]; decide
theorem sg_nlt {n : Int} (h : ¬ n < 0) : ¬ sg n < 0 := by unfold sg; split <;> (try split) <;> omega

set_option maxHeartbeats 1600000 in
theorem meSorted_raw (w : World) (L : List (Int × Int)) (g1 c1 : Nat) (b : Nat) (x y : Int) (r : TRow w b (.slice (some ⟨g1, 0, none⟩) L.length c1) L) (hg1 : g1 < w.heap.size) (gl : GoodL L) (gt : 1 ≤ y ∧ y ≤ 1000000 ∧ 0 ≤ x ∧ x ≤ 999999) (hl : L.length ≤ 1000000) (hb : b ≤ w.heap.size) :
    Calls Try.prog 52 #[.slice (some ⟨g1, 0, none⟩) L.length c1, tv x y] w fun e w' => ∃ v', e = .returned v' ∧ TRow w' b v' (insU (x, y) L) ∧ Below w.heap.size w w' := by
  obtain ⟨a1, c1', e0, l1, m1, x1'⟩ := r.cells
  obtain ⟨rfl, rfl⟩ : some ⟨g1, 0, none⟩ = a1 ∧ c1 = c1' := by simpa using e0
  have x1 : ∀ k, k < L.length → w.cell? ⟨g1, k * 2, none⟩ = some (.int .i64 (L.getD k (0, 0)).1) ∧ w.cell? ⟨g1, k * 2 + 1, none⟩ = some (.int .i64 (L.getD k (0, 0)).2) := fun k hk => by
    obtain ⟨g, hg, -, -, h3, h4⟩ := x1' k hk
    obtain rfl : g1 = g := by simpa using hg
    exact ⟨h3, h4⟩
  clear x1' e0
  have X1 := Lib.hid x1
  have R := Lib.hid r
  have GL := Lib.hid gl
  obtain ⟨i0, hi0, hz0, hz1, hz2⟩ := info_parts Try.infoTurn
  have I0 := Lib.hid hi0
  have Z0 := Lib.hid hz0
  have Z1 := Lib.hid hz1
  have Z2 := Lib.hid hz2
  clear hi0 hz0 hz1 hz2 x1 r gl
  (go_enter Try.func52, Try.ntmps52)
  go_wp2
  go_loopw [5] (fun i wr => ∃ k : Nat, k ≤ L.length ∧ i = .int .i64 k ∧ (∀ j, j < k → ltT (L.getD j (0, 0)) (x, y) = true) ∧ Below w.heap.size w wr ∧ w.heap.size < wr.heap.size ∧ wr.cell? ⟨w.heap.size, 0, none⟩ = some (.int .i64 x) ∧ wr.cell? ⟨w.heap.size, 1, none⟩ = some (.int .i64 y)) (fun i _ => L.length - (intOf i).toNat)
  case atStart => exact ⟨0, Nat.zero_le _, rfl, fun j hj => absurd hj (Nat.not_lt_zero _), by (repeat' (first | (with_reducible exact Below.refl _ _) | (with_reducible assumption) | (with_reducible refine Below.alloc ?_ ?_ _) | (with_reducible refine Below.drew ?_) | (with_reducible refine below_drewN ?_ _) | (with_reducible refine Below.setCell ?_ ?_ _) | (with_reducible refine below_call ?_ ?_ (by assumption)) | go_size)), by go_size, by go_simp, by go_simp⟩
  case round =>
    obtain ⟨k, hk, rfl, hall, hbr, hzz, k0, k1⟩ := hrel
    have HA := Lib.hid hall
    clear hall
    obtain ⟨hcr, hfr⟩ := bcell hbr
    have hzr := hbr.size
    have i0' : (0 : Int) ≤ (k : Int) := Int.natCast_nonneg _
    by_cases hlt : k < L.length
    · obtain ⟨e3, e4⟩ := X1.out k hlt
      have gb := GL.out k hlt
      have i1 : (k : Int) < (L.length : Int) := by omega
      have u1 : g1 < wr.heap.size := by omega
      have e5 := (hcr g1 (k * 2) (by omega)).trans e3
      have e6 := (hcr g1 (k * 2 + 1) (by omega)).trans e4
      clear e3 e4 hcr hfr
      have HS1 : Hid (ltT (L.getD k (0, 0)) (x, y) = true → ∀ j, j < k + 1 → ltT (L.getD j (0, 0)) (x, y) = true) := fun h j hj => by
        by_cases hjk : j = k
        · subst hjk; exact h
        · exact HA.out j (by omega)
      have HIA : Hid (ltT (L.getD k (0, 0)) (x, y) = false → insU (x, y) L = if L.getD k (0, 0) = (x, y) then L else L.take k ++ [(x, y)] ++ L.drop k) := fun h => by
        rw [insU_at (x, y) L k (by omega) HA.out (fun _ => h)]
        simp only [hlt, true_and]
      generalize L.getD k (0, 0) = t at *
      obtain ⟨p, q⟩ := t
      simp only at gb e5 e6
      by_cases hs : p * y - x * q < 0
      · have hsg := sg_lt hs
        have HN := Lib.hid (HS1.out (decide_eq_true hs))
        clear hs
        go_wp2_with fail
        refine wp_region_below (by kernel_rfl) (by kernel_rfl) ?_
        repeat (first | (apply wpB_take (hw := rfl); (intro wq hq; obtain ⟨hcq, hfq⟩ := bcell hq; unfold atB; go_simp; exact ⟨rfl, rfl⟩); simp only [Act.put, List.setIfInBounds_toArray, List.set_cons_zero, List.set_cons_succ]) | (apply wpB_take (hw := rfl); (intro wq hq; unfold atB; go_simp; exact ⟨rfl, diCompare_any p q x y gb gt _⟩); simp only [Act.put, List.setIfInBounds_toArray, List.set_cons_zero, List.set_cons_succ]))
        refine fun w1 hb1 => ?_
        (obtain ⟨hc1, hf1⟩ := bcell hb1; have hz1 := hb1.size; (try simp only [World.size_alloc, World.size_setCell, World.size_drew] at hz1); have q1 : w.heap.size ≤ w1.heap.size := (by omega); (try have q1_0 : w.heap.size < w1.heap.size := (by omega)); (try have q1_1 : w.heap.size + 1 < w1.heap.size := (by omega)); (try have q1_2 : w.heap.size + 2 < w1.heap.size := (by omega)); (try have q1_3 : w.heap.size + 3 < w1.heap.size := (by omega)); try simp only [Act.put, List.setIfInBounds_toArray, List.set_cons_zero, List.set_cons_succ])
        have hbw : Below w.heap.size w w1 := hbr.trans (hb1.mono hbr.size)
        have k0' := (hc1 w.heap.size 0 (by omega)).trans k0
        have k1' := (hc1 w.heap.size 1 (by omega)).trans k1
        go_wp2
        go_roundw
        case rel => exact ⟨k + 1, by omega, by go_num, HN.out, hbw, by omega, k0', k1'⟩
        case measure => simp [intOf]; omega
      · have hsg := sg_nlt hs
        have HN := Lib.hid (HIA.out (decide_eq_false hs))
        clear hs
        go_wp2_with fail
        refine wp_region_below (by kernel_rfl) (by kernel_rfl) ?_
        repeat (first | (apply wpB_take (hw := rfl); (intro wq hq; obtain ⟨hcq, hfq⟩ := bcell hq; unfold atB; go_simp; exact ⟨rfl, rfl⟩); simp only [Act.put, List.setIfInBounds_toArray, List.set_cons_zero, List.set_cons_succ]) | (apply wpB_take (hw := rfl); (intro wq hq; unfold atB; go_simp; exact ⟨rfl, diCompare_any p q x y gb gt _⟩); simp only [Act.put, List.setIfInBounds_toArray, List.set_cons_zero, List.set_cons_succ]))
        refine fun w1 hb1 => ?_
        (obtain ⟨hc1, hf1⟩ := bcell hb1; have hz1 := hb1.size; (try simp only [World.size_alloc, World.size_setCell, World.size_drew] at hz1); have q1 : w.heap.size ≤ w1.heap.size := (by omega); (try have q1_0 : w.heap.size < w1.heap.size := (by omega)); (try have q1_1 : w.heap.size + 1 < w1.heap.size := (by omega)); (try have q1_2 : w.heap.size + 2 < w1.heap.size := (by omega)); (try have q1_3 : w.heap.size + 3 < w1.heap.size := (by omega)); try simp only [Act.put, List.setIfInBounds_toArray, List.set_cons_zero, List.set_cons_succ])
        have hbw : Below w.heap.size w w1 := hbr.trans (hb1.mono hbr.size)
        have k0' := (hc1 w.heap.size 0 (by omega)).trans k0
        have k1' := (hc1 w.heap.size 1 (by omega)).trans k1
        have e5' := (hc1 g1 (k * 2) (by omega)).trans e5
        have e6' := (hc1 g1 (k * 2 + 1) (by omega)).trans e6
        clear k0 k1 e5 e6
        have u2 : g1 < w1.heap.size := by omega
        clear hc1 hf1
        by_cases he : p = x ∧ q = y
        · obtain ⟨rfl, rfl⟩ := he
          have HE := Lib.hid (show insU (p, q) L = L from by rw [HN.out]; simp)
          have hq : eqT p q p q = true := by simp [eqT]
          go_wp2_with fail
          refine wp_region_below (by kernel_rfl) (by kernel_rfl) ?_
          repeat (apply wpB_take (hw := rfl); (intro wq hq; obtain ⟨hcq, hfq⟩ := bcell hq; unfold atB; go_simp; exact ⟨rfl, rfl⟩); simp only [Act.put, List.setIfInBounds_toArray, List.set_cons_zero, List.set_cons_succ])
          refine fun w2 hb2 => ?_
          (obtain ⟨hc2, hf2⟩ := bcell hb2; have hz2 := hb2.size; (try simp only [World.size_alloc, World.size_setCell, World.size_drew] at hz2); have q2 : w.heap.size ≤ w2.heap.size := (by omega); (try have q2_0 : w.heap.size < w2.heap.size := (by omega)); (try have q2_1 : w.heap.size + 1 < w2.heap.size := (by omega)); (try have q2_2 : w.heap.size + 2 < w2.heap.size := (by omega)); (try have q2_3 : w.heap.size + 3 < w2.heap.size := (by omega)); (try have p2_1 : b1 < w2.heap.size := (by omega)); try simp only [Act.put, List.setIfInBounds_toArray, List.set_cons_zero, List.set_cons_succ])
          clear q2
          go_wp2
          go_ret
          have hbz : Below w.heap.size w w2 := hbw.trans (hb2.mono hbw.size)
          exact ⟨_, rfl, by rw [HE.out]; exact TRow.below R.out hbz, hbz⟩
        · have hq : eqT p q x y = false := by simpa [eqT] using he
          rw [if_neg (by simpa using he)] at HN
          go_wp2_with fail
          refine wp_region_below (by kernel_rfl) (by kernel_rfl) ?_
          repeat (apply wpB_take (hw := rfl); (intro wq hq; obtain ⟨hcq, hfq⟩ := bcell hq; unfold atB; go_simp; exact ⟨rfl, rfl⟩); simp only [Act.put, List.setIfInBounds_toArray, List.set_cons_zero, List.set_cons_succ])
          refine fun w2 hb2 => ?_
          (obtain ⟨hc2, hf2⟩ := bcell hb2; have hz2 := hb2.size; (try simp only [World.size_alloc, World.size_setCell, World.size_drew] at hz2); have q2 : w.heap.size ≤ w2.heap.size := (by omega); (try have q2_0 : w.heap.size < w2.heap.size := (by omega)); (try have q2_1 : w.heap.size + 1 < w2.heap.size := (by omega)); (try have q2_2 : w.heap.size + 2 < w2.heap.size := (by omega)); (try have q2_3 : w.heap.size + 3 < w2.heap.size := (by omega)); (try have p2_1 : b1 < w2.heap.size := (by omega)); try simp only [Act.put, List.setIfInBounds_toArray, List.set_cons_zero, List.set_cons_succ])
          clear q2
          have kz0 := (hc2 w.heap.size 0 (by omega)).trans k0'
          have kz1 := (hc2 w.heap.size 1 (by omega)).trans k1'
          have hbw1 := hbw
          have hbw : Below w.heap.size w w2 := hbw1.trans (hb2.mono hbw1.size)
          have wlt : w.heap.size < w2.heap.size := by omega
          have kc : ¬ c1 < k := by omega
          clear hc2 hf2 hbw1 k0' k1' e5' e6'
          go_wp2_with fail
          refine wp_region_held (by kernel_rfl) (S := fun W => Below w2.heap.size w2 W) ?_
          refine take_first (i := 1) (v := .slice (some ⟨g1, 0, none⟩) L.length c1) 36 rfl rfl (by kernel_rfl) (by kernel_rfl) (by kernel_rfl) (fun _ _ _ h => h) (by rfl) ?_ (by first | assumption | exact (Below.refl _ _).drew) ?_
          · intro W hS
            obtain ⟨hcW, hfW⟩ := bcell hS
            go_simp
          simp only [Act.put, List.setIfInBounds_toArray, List.set_cons_zero, List.set_cons_succ]
          refine take_first (i := 2) (v := .int .i64 (k : Nat)) 37 rfl rfl (by kernel_rfl) (by kernel_rfl) (by kernel_rfl) (fun _ _ _ h => h) (by rfl) ?_ (by first | assumption | exact (Below.refl _ _).drew) ?_
          · intro W hS
            obtain ⟨hcW, hfW⟩ := bcell hS
            go_simp
          simp only [Act.put, List.setIfInBounds_toArray, List.set_cons_zero, List.set_cons_succ]
          refine take_first (i := 3) (v := .slice (some ⟨g1, 0, none⟩) (k) c1) 38 rfl rfl (by kernel_rfl) (by kernel_rfl) (by kernel_rfl) (fun _ _ _ h => h) (by rfl) ?_ (by first | assumption | exact (Below.refl _ _).drew) ?_
          · intro W hS
            obtain ⟨hcW, hfW⟩ := bcell hS
            go_simp
          simp only [Act.put, List.setIfInBounds_toArray, List.set_cons_zero, List.set_cons_succ]
          refine take_first (i := 5) (v := .agg #[.int .i64 x, .int .i64 y]) 40 rfl rfl (by kernel_rfl) (by kernel_rfl) (by kernel_rfl) (fun _ _ _ h => h) (by rfl) ?_ (by first | assumption | exact (Below.refl _ _).drew) ?_
          · intro W hS
            obtain ⟨hcW, hfW⟩ := bcell hS
            go_simp
          simp only [Act.put, List.setIfInBounds_toArray, List.set_cons_zero, List.set_cons_succ]
          refine wpAnyH_all (rs := [0, 6]) (by kernel_rfl) (by decide) (List.forall_mem_cons.2 ⟨?_, List.forall_mem_cons.2 ⟨?_, fun _ h => absurd h List.not_mem_nil⟩⟩)
          · refine wpOp_value (v := .slice (some ⟨(w2.drew).heap.size, 0, none⟩) 0 0) (w' := (w2.drew).alloc (.cells #[] 25)) 35 rfl rfl rfl (by go_simp) ⟨by (repeat' (first | (with_reducible exact Below.refl _ _) | (with_reducible assumption) | (with_reducible refine Below.alloc ?_ ?_ _) | (with_reducible refine Below.drew ?_) | (with_reducible refine below_drewN ?_ _) | (with_reducible refine Below.setCell ?_ ?_ _) | (with_reducible refine below_call ?_ ?_ (by assumption)) | go_size)), ?_⟩
            have O35 := Lib.hid (World.ownsRow_made (base := w2.heap.size) (e := 25) (size := 2) (w2.drew) #[] 0 (by go_size) (by unfold maxLen; omega) rfl)
            simp only [Act.put, List.setIfInBounds_toArray, List.set_cons_zero, List.set_cons_succ]
            refine wpAnyH_all (rs := [4, 6]) (by kernel_rfl) (by decide) (List.forall_mem_cons.2 ⟨?_, List.forall_mem_cons.2 ⟨?_, fun _ h => absurd h List.not_mem_nil⟩⟩)
            · have hT : Below w2.heap.size w2 ((World.alloc (w2.drew) (.cells #[] 25))) := by (repeat' (first | (with_reducible exact Below.refl _ _) | (with_reducible assumption) | (with_reducible refine Below.alloc ?_ ?_ _) | (with_reducible refine Below.drew ?_) | (with_reducible refine below_drewN ?_ _) | (with_reducible refine Below.setCell ?_ ?_ _) | (with_reducible refine below_call ?_ ?_ (by assumption)) | go_size))
              refine wpOp_wp rfl rfl (wp_append_any 39 rfl (.tmp 35) (.tmp 38) 30 rfl w2.heap.size 25 i0 _ 16 Try.underlying30 I0.out Z0.out Z1.out Z2.out rfl (.slice (some ⟨(w2.drew).heap.size, 0, none⟩) 0 0) 0 [] rfl O35.out (.slice (some ⟨g1, 0, none⟩) (k) c1) rfl k (flat (L.take k)) (by have h := srcs_part (W := _) (k := 0) (n := k) R.out (fun o => ((bcell hT).1 _ _ (by omega)).trans ((bcell hbw).1 _ _ (by omega))) c1 (by omega); simpa using h) (by unfold maxLen; omega) (by omega) (by go_size) ?_)
              intro v39 w4 own39 grow39
              have hb4 : Below w2.heap.size w2 w4 := Below.grown (w := (World.alloc (w2.drew) (.cells #[] 25))) (by (repeat' (first | (with_reducible exact Below.refl _ _) | (with_reducible assumption) | (with_reducible refine Below.alloc ?_ ?_ _) | (with_reducible refine Below.drew ?_) | (with_reducible refine below_drewN ?_ _) | (with_reducible refine Below.setCell ?_ ?_ _) | (with_reducible refine below_call ?_ ?_ (by assumption)) | go_size))) grow39 (by go_size) (fun j hj => (World.ownsRow.lt O35.out j hj).1)
              have hz4 := grow39.size
              try simp only [World.size_alloc, World.size_drew] at hz4
              have OWN := Lib.hid own39
              have GR := Lib.hid grow39
              clear own39 grow39
              refine ⟨hb4, ?_⟩
              simp only [Act.put, List.setIfInBounds_toArray, List.set_cons_zero, List.set_cons_succ]
              refine wpAnyH_all (rs := [6]) (by kernel_rfl) (by decide) (List.forall_mem_cons.2 ⟨?_, fun _ h => absurd h List.not_mem_nil⟩)
              refine wpOp_value (v := .slice (some ⟨w4.heap.size, 0, none⟩) 1 1) (w' := w4.alloc (.cells #[.int .i64 x, .int .i64 y] 25)) 41 rfl rfl rfl (by go_simp) ⟨by (repeat' (first | (with_reducible exact Below.refl _ _) | (with_reducible assumption) | (with_reducible refine Below.alloc ?_ ?_ _) | (with_reducible refine Below.drew ?_) | (with_reducible refine below_drewN ?_ _) | (with_reducible refine Below.setCell ?_ ?_ _) | (with_reducible refine below_call ?_ ?_ (by assumption)) | go_size)), ?_⟩
              simp only [Act.put, List.setIfInBounds_toArray, List.set_cons_zero, List.set_cons_succ]
              refine wpAnyH_all (rs := [7]) (by kernel_rfl) (by decide) (List.forall_mem_cons.2 ⟨?_, fun _ h => absurd h List.not_mem_nil⟩)
              have hB := Lib.hid (show ((World.alloc w4 (.cells #[.int .i64 x, .int .i64 y] 25))).heap[w4.heap.size]? = some (.cells #[.int .i64 x, .int .i64 y] 25 (0, 0)) from heap_alloc_new w4 _)
              refine wpOp_wp rfl rfl (wp_append_any 42 rfl (.tmp 39) (.tmp 41) 30 rfl w2.heap.size 25 i0 _ 16 Try.underlying30 I0.out Z0.out Z1.out Z2.out rfl v39 (0 + k) _ rfl (OWN.out.alloc _) (.slice (some ⟨w4.heap.size, 0, none⟩) 1 1) rfl 1 [.int .i64 x, .int .i64 y] (.inr ⟨⟨w4.heap.size, 0, none⟩, 1, rfl, rfl, World.news_of_block (cs := #[.int .i64 x, .int .i64 y]) (t := 25) (fr := (0, 0)) hB.out, by simp [Value.oneCell']⟩) (by unfold maxLen; omega) (by omega) (by go_size) ?_)
              intro v42 w7 own42 grow42
              have hb7 : Below w2.heap.size w2 w7 := Below.grown (w := (World.alloc w4 (.cells #[.int .i64 x, .int .i64 y] 25))) (by (repeat' (first | (with_reducible exact Below.refl _ _) | (with_reducible assumption) | (with_reducible refine Below.alloc ?_ ?_ _) | (with_reducible refine Below.drew ?_) | (with_reducible refine below_drewN ?_ _) | (with_reducible refine Below.setCell ?_ ?_ _) | (with_reducible refine below_call ?_ ?_ (by assumption)) | go_size))) grow42 (by go_size) (fun j hj => (World.ownsRow.lt OWN.out j hj).1)
              have hz7 := grow42.size
              try simp only [World.size_alloc, World.size_drew] at hz7
              have OWN7 := Lib.hid own42
              clear own42 grow42 hB OWN GR hb4
              refine ⟨hb7, ?_⟩
              simp only [Act.put, List.setIfInBounds_toArray, List.set_cons_zero, List.set_cons_succ]
              refine wpAnyH_all (rs := [8]) (by kernel_rfl) (by decide) (List.forall_mem_cons.2 ⟨?_, fun _ h => absurd h List.not_mem_nil⟩)
              refine wpOp_value (v := v42) (w' := w7) 6 rfl rfl rfl (by go_simp) ⟨hb7, ?_⟩
              simp only [Act.put, List.setIfInBounds_toArray, List.set_cons_zero, List.set_cons_succ]
              refine wpAnyH_done (by kernel_rfl) ?_ _
              have hcap : ¬ c1 = k := by omega
              have HSR := fun W (hT : Below w2.heap.size w2 W) => (show Srcs W (.slice (some ⟨g1, k * 2, none⟩) (L.length - k) (c1 - k)) (L.length - k) (flat (L.drop k)) from by have h := srcs_part (W := W) (k := k) (n := L.length - k) R.out (fun o => ((bcell hT).1 _ _ (by omega)).trans ((bcell hbw).1 _ _ (by omega))) (c1 - k) (by omega); rw [List.take_of_length_le (by simp)] at h; exact h)
              have HSR7 := Lib.hid (HSR w7 hb7)
              clear HSR
              go_wp2_with (at_builtin; refine wpList_append_any 47 rfl rfl (.tmp 43) (.tmp 46) 30 rfl w2.heap.size 25 i0 _ 16 Try.underlying30 I0.out Z0.out Z1.out Z2.out rfl v42 (0 + k + 1) _ rfl OWN7.out (.slice (some ⟨g1, k * 2, none⟩) (L.length - k) (c1 - k)) rfl (L.length - k) (flat (L.drop k)) HSR7.out (by unfold maxLen; omega) (by omega) (by go_size) ?_; intro v47 w8 own8 grow8)
              have hb8 : Below w2.heap.size w2 w8 := Below.grown (w := w7) hb7 grow8 (by go_size) (fun j hj => (World.ownsRow.lt OWN7.out j hj).1)
              have OWN8 := Lib.hid own8
              clear own8 grow8
              go_ret
              refine ⟨_, rfl, ?_, hbw.trans (hb8.mono hbw.size)⟩
              refine TRow.mono (b := w2.heap.size) ?_ (by omega)
              rw [HN.out]
              unfold TRow
              have e1 : (L.take (k) ++ [(x, y)] ++ L.drop (k)).length = 0 + k + 1 + (L.length - k) := by simp <;> omega
              have e2 : flat (L.take (k) ++ [(x, y)] ++ L.drop (k)) = [] ++ flat (L.take (k)) ++ [.int .i64 x, .int .i64 y] ++ (flat (L.drop k)) := by simp [flat_append, flat]
              rw [e1, e2]
              exact OWN8.out

            · refine wpOp_value (v := .slice (some ⟨(World.alloc (w2.drew) (.cells #[] 25)).heap.size, 0, none⟩) 1 1) (w' := (World.alloc (w2.drew) (.cells #[] 25)).alloc (.cells #[.int .i64 x, .int .i64 y] 25)) 41 rfl rfl rfl (by go_simp) ⟨by (repeat' (first | (with_reducible exact Below.refl _ _) | (with_reducible assumption) | (with_reducible refine Below.alloc ?_ ?_ _) | (with_reducible refine Below.drew ?_) | (with_reducible refine below_drewN ?_ _) | (with_reducible refine Below.setCell ?_ ?_ _) | (with_reducible refine below_call ?_ ?_ (by assumption)) | go_size)), ?_⟩
              simp only [Act.put, List.setIfInBounds_toArray, List.set_cons_zero, List.set_cons_succ]
              refine wpAnyH_all (rs := [4]) (by kernel_rfl) (by decide) (List.forall_mem_cons.2 ⟨?_, fun _ h => absurd h List.not_mem_nil⟩)
              have hT : Below w2.heap.size w2 ((World.alloc (World.alloc (w2.drew) (.cells #[] 25)) (.cells #[.int .i64 x, .int .i64 y] 25))) := by (repeat' (first | (with_reducible exact Below.refl _ _) | (with_reducible assumption) | (with_reducible refine Below.alloc ?_ ?_ _) | (with_reducible refine Below.drew ?_) | (with_reducible refine below_drewN ?_ _) | (with_reducible refine Below.setCell ?_ ?_ _) | (with_reducible refine below_call ?_ ?_ (by assumption)) | go_size))
              refine wpOp_wp rfl rfl (wp_append_any 39 rfl (.tmp 35) (.tmp 38) 30 rfl w2.heap.size 25 i0 _ 16 Try.underlying30 I0.out Z0.out Z1.out Z2.out rfl (.slice (some ⟨(w2.drew).heap.size, 0, none⟩) 0 0) 0 [] rfl (O35.out.alloc _) (.slice (some ⟨g1, 0, none⟩) (k) c1) rfl k (flat (L.take k)) (by have h := srcs_part (W := _) (k := 0) (n := k) R.out (fun o => ((bcell hT).1 _ _ (by omega)).trans ((bcell hbw).1 _ _ (by omega))) c1 (by omega); simpa using h) (by unfold maxLen; omega) (by omega) (by go_size) ?_)
              intro v39 w4 own39 grow39
              have hb4 : Below w2.heap.size w2 w4 := Below.grown (w := (World.alloc (World.alloc (w2.drew) (.cells #[] 25)) (.cells #[.int .i64 x, .int .i64 y] 25))) (by (repeat' (first | (with_reducible exact Below.refl _ _) | (with_reducible assumption) | (with_reducible refine Below.alloc ?_ ?_ _) | (with_reducible refine Below.drew ?_) | (with_reducible refine below_drewN ?_ _) | (with_reducible refine Below.setCell ?_ ?_ _) | (with_reducible refine below_call ?_ ?_ (by assumption)) | go_size))) grow39 (by go_size) (fun j hj => (World.ownsRow.lt O35.out j hj).1)
              have hz4 := grow39.size
              try simp only [World.size_alloc, World.size_drew] at hz4
              have OWN := Lib.hid own39
              have GR := Lib.hid grow39
              clear own39 grow39
              refine ⟨hb4, ?_⟩
              simp only [Act.put, List.setIfInBounds_toArray, List.set_cons_zero, List.set_cons_succ]
              refine wpAnyH_all (rs := [7]) (by kernel_rfl) (by decide) (List.forall_mem_cons.2 ⟨?_, fun _ h => absurd h List.not_mem_nil⟩)
              have hB := Lib.hid (show (w4).heap[(World.alloc (w2.drew) (.cells #[] 25)).heap.size]? = some (.cells #[.int .i64 x, .int .i64 y] 25 (0, 0)) from (GR.out.block _ (by go_size) (by simp [Value.ownBlock])).trans (heap_alloc_new (World.alloc (w2.drew) (.cells #[] 25)) _))
              refine wpOp_wp rfl rfl (wp_append_any 42 rfl (.tmp 39) (.tmp 41) 30 rfl w2.heap.size 25 i0 _ 16 Try.underlying30 I0.out Z0.out Z1.out Z2.out rfl v39 (0 + k) _ rfl OWN.out (.slice (some ⟨(World.alloc (w2.drew) (.cells #[] 25)).heap.size, 0, none⟩) 1 1) rfl 1 [.int .i64 x, .int .i64 y] (.inr ⟨⟨(World.alloc (w2.drew) (.cells #[] 25)).heap.size, 0, none⟩, 1, rfl, rfl, World.news_of_block (cs := #[.int .i64 x, .int .i64 y]) (t := 25) (fr := (0, 0)) hB.out, by simp [Value.oneCell']⟩) (by unfold maxLen; omega) (by omega) (by go_size) ?_)
              intro v42 w7 own42 grow42
              have hb7 : Below w2.heap.size w2 w7 := Below.grown (w := w4) (by (repeat' (first | (with_reducible exact Below.refl _ _) | (with_reducible assumption) | (with_reducible refine Below.alloc ?_ ?_ _) | (with_reducible refine Below.drew ?_) | (with_reducible refine below_drewN ?_ _) | (with_reducible refine Below.setCell ?_ ?_ _) | (with_reducible refine below_call ?_ ?_ (by assumption)) | go_size))) grow42 (by go_size) (fun j hj => (World.ownsRow.lt OWN.out j hj).1)
              have hz7 := grow42.size
              try simp only [World.size_alloc, World.size_drew] at hz7
              have OWN7 := Lib.hid own42
              clear own42 grow42 hB OWN GR hb4
              refine ⟨hb7, ?_⟩
              simp only [Act.put, List.setIfInBounds_toArray, List.set_cons_zero, List.set_cons_succ]
              refine wpAnyH_all (rs := [8]) (by kernel_rfl) (by decide) (List.forall_mem_cons.2 ⟨?_, fun _ h => absurd h List.not_mem_nil⟩)
              refine wpOp_value (v := v42) (w' := w7) 6 rfl rfl rfl (by go_simp) ⟨hb7, ?_⟩
              simp only [Act.put, List.setIfInBounds_toArray, List.set_cons_zero, List.set_cons_succ]
              refine wpAnyH_done (by kernel_rfl) ?_ _
              have hcap : ¬ c1 = k := by omega
              have HSR := fun W (hT : Below w2.heap.size w2 W) => (show Srcs W (.slice (some ⟨g1, k * 2, none⟩) (L.length - k) (c1 - k)) (L.length - k) (flat (L.drop k)) from by have h := srcs_part (W := W) (k := k) (n := L.length - k) R.out (fun o => ((bcell hT).1 _ _ (by omega)).trans ((bcell hbw).1 _ _ (by omega))) (c1 - k) (by omega); rw [List.take_of_length_le (by simp)] at h; exact h)
              have HSR7 := Lib.hid (HSR w7 hb7)
              clear HSR
              go_wp2_with (at_builtin; refine wpList_append_any 47 rfl rfl (.tmp 43) (.tmp 46) 30 rfl w2.heap.size 25 i0 _ 16 Try.underlying30 I0.out Z0.out Z1.out Z2.out rfl v42 (0 + k + 1) _ rfl OWN7.out (.slice (some ⟨g1, k * 2, none⟩) (L.length - k) (c1 - k)) rfl (L.length - k) (flat (L.drop k)) HSR7.out (by unfold maxLen; omega) (by omega) (by go_size) ?_; intro v47 w8 own8 grow8)
              have hb8 : Below w2.heap.size w2 w8 := Below.grown (w := w7) hb7 grow8 (by go_size) (fun j hj => (World.ownsRow.lt OWN7.out j hj).1)
              have OWN8 := Lib.hid own8
              clear own8 grow8
              go_ret
              refine ⟨_, rfl, ?_, hbw.trans (hb8.mono hbw.size)⟩
              refine TRow.mono (b := w2.heap.size) ?_ (by omega)
              rw [HN.out]
              unfold TRow
              have e1 : (L.take (k) ++ [(x, y)] ++ L.drop (k)).length = 0 + k + 1 + (L.length - k) := by simp <;> omega
              have e2 : flat (L.take (k) ++ [(x, y)] ++ L.drop (k)) = [] ++ flat (L.take (k)) ++ [.int .i64 x, .int .i64 y] ++ (flat (L.drop k)) := by simp [flat_append, flat]
              rw [e1, e2]
              exact OWN8.out


          · refine wpOp_value (v := .slice (some ⟨(w2.drew).heap.size, 0, none⟩) 1 1) (w' := (w2.drew).alloc (.cells #[.int .i64 x, .int .i64 y] 25)) 41 rfl rfl rfl (by go_simp) ⟨by (repeat' (first | (with_reducible exact Below.refl _ _) | (with_reducible assumption) | (with_reducible refine Below.alloc ?_ ?_ _) | (with_reducible refine Below.drew ?_) | (with_reducible refine below_drewN ?_ _) | (with_reducible refine Below.setCell ?_ ?_ _) | (with_reducible refine below_call ?_ ?_ (by assumption)) | go_size)), ?_⟩
            simp only [Act.put, List.setIfInBounds_toArray, List.set_cons_zero, List.set_cons_succ]
            refine wpAnyH_all (rs := [0]) (by kernel_rfl) (by decide) (List.forall_mem_cons.2 ⟨?_, fun _ h => absurd h List.not_mem_nil⟩)
            refine wpOp_value (v := .slice (some ⟨(World.alloc (w2.drew) (.cells #[.int .i64 x, .int .i64 y] 25)).heap.size, 0, none⟩) 0 0) (w' := (World.alloc (w2.drew) (.cells #[.int .i64 x, .int .i64 y] 25)).alloc (.cells #[] 25)) 35 rfl rfl rfl (by go_simp) ⟨by (repeat' (first | (with_reducible exact Below.refl _ _) | (with_reducible assumption) | (with_reducible refine Below.alloc ?_ ?_ _) | (with_reducible refine Below.drew ?_) | (with_reducible refine below_drewN ?_ _) | (with_reducible refine Below.setCell ?_ ?_ _) | (with_reducible refine below_call ?_ ?_ (by assumption)) | go_size)), ?_⟩
            have O35 := Lib.hid (World.ownsRow_made (base := w2.heap.size) (e := 25) (size := 2) (World.alloc (w2.drew) (.cells #[.int .i64 x, .int .i64 y] 25)) #[] 0 (by go_size) (by unfold maxLen; omega) rfl)
            simp only [Act.put, List.setIfInBounds_toArray, List.set_cons_zero, List.set_cons_succ]
            refine wpAnyH_all (rs := [4]) (by kernel_rfl) (by decide) (List.forall_mem_cons.2 ⟨?_, fun _ h => absurd h List.not_mem_nil⟩)
            have hT : Below w2.heap.size w2 ((World.alloc (World.alloc (w2.drew) (.cells #[.int .i64 x, .int .i64 y] 25)) (.cells #[] 25))) := by (repeat' (first | (with_reducible exact Below.refl _ _) | (with_reducible assumption) | (with_reducible refine Below.alloc ?_ ?_ _) | (with_reducible refine Below.drew ?_) | (with_reducible refine below_drewN ?_ _) | (with_reducible refine Below.setCell ?_ ?_ _) | (with_reducible refine below_call ?_ ?_ (by assumption)) | go_size))
            refine wpOp_wp rfl rfl (wp_append_any 39 rfl (.tmp 35) (.tmp 38) 30 rfl w2.heap.size 25 i0 _ 16 Try.underlying30 I0.out Z0.out Z1.out Z2.out rfl (.slice (some ⟨(World.alloc (w2.drew) (.cells #[.int .i64 x, .int .i64 y] 25)).heap.size, 0, none⟩) 0 0) 0 [] rfl O35.out (.slice (some ⟨g1, 0, none⟩) (k) c1) rfl k (flat (L.take k)) (by have h := srcs_part (W := _) (k := 0) (n := k) R.out (fun o => ((bcell hT).1 _ _ (by omega)).trans ((bcell hbw).1 _ _ (by omega))) c1 (by omega); simpa using h) (by unfold maxLen; omega) (by omega) (by go_size) ?_)
            intro v39 w4 own39 grow39
            have hb4 : Below w2.heap.size w2 w4 := Below.grown (w := (World.alloc (World.alloc (w2.drew) (.cells #[.int .i64 x, .int .i64 y] 25)) (.cells #[] 25))) (by (repeat' (first | (with_reducible exact Below.refl _ _) | (with_reducible assumption) | (with_reducible refine Below.alloc ?_ ?_ _) | (with_reducible refine Below.drew ?_) | (with_reducible refine below_drewN ?_ _) | (with_reducible refine Below.setCell ?_ ?_ _) | (with_reducible refine below_call ?_ ?_ (by assumption)) | go_size))) grow39 (by go_size) (fun j hj => (World.ownsRow.lt O35.out j hj).1)
            have hz4 := grow39.size
            try simp only [World.size_alloc, World.size_drew] at hz4
            have OWN := Lib.hid own39
            have GR := Lib.hid grow39
            clear own39 grow39
            refine ⟨hb4, ?_⟩
            simp only [Act.put, List.setIfInBounds_toArray, List.set_cons_zero, List.set_cons_succ]
            refine wpAnyH_all (rs := [7]) (by kernel_rfl) (by decide) (List.forall_mem_cons.2 ⟨?_, fun _ h => absurd h List.not_mem_nil⟩)
            have hB := Lib.hid (show (w4).heap[(w2.drew).heap.size]? = some (.cells #[.int .i64 x, .int .i64 y] 25 (0, 0)) from (GR.out.block _ (by go_size) (by simp [Value.ownBlock])).trans ((heap_alloc_old (World.alloc (w2.drew) (.cells #[.int .i64 x, .int .i64 y] 25)) _ (by go_size)).trans (heap_alloc_new (w2.drew) _)))
            refine wpOp_wp rfl rfl (wp_append_any 42 rfl (.tmp 39) (.tmp 41) 30 rfl w2.heap.size 25 i0 _ 16 Try.underlying30 I0.out Z0.out Z1.out Z2.out rfl v39 (0 + k) _ rfl OWN.out (.slice (some ⟨(w2.drew).heap.size, 0, none⟩) 1 1) rfl 1 [.int .i64 x, .int .i64 y] (.inr ⟨⟨(w2.drew).heap.size, 0, none⟩, 1, rfl, rfl, World.news_of_block (cs := #[.int .i64 x, .int .i64 y]) (t := 25) (fr := (0, 0)) hB.out, by simp [Value.oneCell']⟩) (by unfold maxLen; omega) (by omega) (by go_size) ?_)
            intro v42 w7 own42 grow42
            have hb7 : Below w2.heap.size w2 w7 := Below.grown (w := w4) (by (repeat' (first | (with_reducible exact Below.refl _ _) | (with_reducible assumption) | (with_reducible refine Below.alloc ?_ ?_ _) | (with_reducible refine Below.drew ?_) | (with_reducible refine below_drewN ?_ _) | (with_reducible refine Below.setCell ?_ ?_ _) | (with_reducible refine below_call ?_ ?_ (by assumption)) | go_size))) grow42 (by go_size) (fun j hj => (World.ownsRow.lt OWN.out j hj).1)
            have hz7 := grow42.size
            try simp only [World.size_alloc, World.size_drew] at hz7
            have OWN7 := Lib.hid own42
            clear own42 grow42 hB OWN GR hb4
            refine ⟨hb7, ?_⟩
            simp only [Act.put, List.setIfInBounds_toArray, List.set_cons_zero, List.set_cons_succ]
            refine wpAnyH_all (rs := [8]) (by kernel_rfl) (by decide) (List.forall_mem_cons.2 ⟨?_, fun _ h => absurd h List.not_mem_nil⟩)
            refine wpOp_value (v := v42) (w' := w7) 6 rfl rfl rfl (by go_simp) ⟨hb7, ?_⟩
            simp only [Act.put, List.setIfInBounds_toArray, List.set_cons_zero, List.set_cons_succ]
            refine wpAnyH_done (by kernel_rfl) ?_ _
            have hcap : ¬ c1 = k := by omega
            have HSR := fun W (hT : Below w2.heap.size w2 W) => (show Srcs W (.slice (some ⟨g1, k * 2, none⟩) (L.length - k) (c1 - k)) (L.length - k) (flat (L.drop k)) from by have h := srcs_part (W := W) (k := k) (n := L.length - k) R.out (fun o => ((bcell hT).1 _ _ (by omega)).trans ((bcell hbw).1 _ _ (by omega))) (c1 - k) (by omega); rw [List.take_of_length_le (by simp)] at h; exact h)
            have HSR7 := Lib.hid (HSR w7 hb7)
            clear HSR
            go_wp2_with (at_builtin; refine wpList_append_any 47 rfl rfl (.tmp 43) (.tmp 46) 30 rfl w2.heap.size 25 i0 _ 16 Try.underlying30 I0.out Z0.out Z1.out Z2.out rfl v42 (0 + k + 1) _ rfl OWN7.out (.slice (some ⟨g1, k * 2, none⟩) (L.length - k) (c1 - k)) rfl (L.length - k) (flat (L.drop k)) HSR7.out (by unfold maxLen; omega) (by omega) (by go_size) ?_; intro v47 w8 own8 grow8)
            have hb8 : Below w2.heap.size w2 w8 := Below.grown (w := w7) hb7 grow8 (by go_size) (fun j hj => (World.ownsRow.lt OWN7.out j hj).1)
            have OWN8 := Lib.hid own8
            clear own8 grow8
            go_ret
            refine ⟨_, rfl, ?_, hbw.trans (hb8.mono hbw.size)⟩
            refine TRow.mono (b := w2.heap.size) ?_ (by omega)
            rw [HN.out]
            unfold TRow
            have e1 : (L.take (k) ++ [(x, y)] ++ L.drop (k)).length = 0 + k + 1 + (L.length - k) := by simp <;> omega
            have e2 : flat (L.take (k) ++ [(x, y)] ++ L.drop (k)) = [] ++ flat (L.take (k)) ++ [.int .i64 x, .int .i64 y] ++ (flat (L.drop k)) := by simp [flat_append, flat]
            rw [e1, e2]
            exact OWN8.out


    · obtain rfl : k = L.length := by omega
      have HN := Lib.hid (insU_at (x, y) L L.length (Nat.le_refl _) HA.out (fun h => absurd h (Nat.lt_irrefl _)))
      rw [if_neg (fun h => absurd h.1 (Nat.lt_irrefl _))] at HN
      clear hcr hfr
      go_wp2_with fail
      refine wp_region_below (by kernel_rfl) (by kernel_rfl) ?_
      repeat (first | (apply wpB_take (hw := rfl); (intro wq hq; obtain ⟨hcq, hfq⟩ := bcell hq; unfold atB; go_simp; exact ⟨rfl, rfl⟩); simp only [Act.put, List.setIfInBounds_toArray, List.set_cons_zero, List.set_cons_succ]) | (apply wpB_skip (hw := rfl); simp only [Act.put, List.setIfInBounds_toArray, List.set_cons_zero, List.set_cons_succ]))
      refine fun w1 hb1 => ?_
      go_wp2_with fail
      refine wp_region_below (by kernel_rfl) (by kernel_rfl) ?_
      repeat (first | (apply wpB_take (hw := rfl); (intro wq hq; obtain ⟨hcq, hfq⟩ := bcell hq; unfold atB; go_simp; exact ⟨rfl, rfl⟩); simp only [Act.put, List.setIfInBounds_toArray, List.set_cons_zero, List.set_cons_succ]) | (apply wpB_skip (hw := rfl); simp only [Act.put, List.setIfInBounds_toArray, List.set_cons_zero, List.set_cons_succ]))
      refine fun w2 hb2 => ?_
      have hb12 : Below wr.heap.size wr w2 := hb1.trans (hb2.mono hb1.size)
      have hbw : Below w.heap.size w w2 := hbr.trans (hb12.mono hbr.size)
      have hz2 := hb12.size
      have kz0 := ((bcell hb12).1 w.heap.size 0 (by omega)).trans k0
      have kz1 := ((bcell hb12).1 w.heap.size 1 (by omega)).trans k1
      clear k0 k1 hb1 hb2 hb12
      have wlt : w.heap.size < w2.heap.size := by omega
      go_wp2_with fail
      refine wp_region_held (by kernel_rfl) (S := fun W => Below w2.heap.size w2 W) ?_
      refine take_first (i := 1) (v := .slice (some ⟨g1, 0, none⟩) L.length c1) 36 rfl rfl (by kernel_rfl) (by kernel_rfl) (by kernel_rfl) (fun _ _ _ h => h) (by rfl) ?_ (by first | assumption | exact (Below.refl _ _).drew) ?_
      · intro W hS
        obtain ⟨hcW, hfW⟩ := bcell hS
        go_simp
      simp only [Act.put, List.setIfInBounds_toArray, List.set_cons_zero, List.set_cons_succ]
      refine take_first (i := 2) (v := .int .i64 (L.length : Nat)) 37 rfl rfl (by kernel_rfl) (by kernel_rfl) (by kernel_rfl) (fun _ _ _ h => h) (by rfl) ?_ (by first | assumption | exact (Below.refl _ _).drew) ?_
      · intro W hS
        obtain ⟨hcW, hfW⟩ := bcell hS
        go_simp
      simp only [Act.put, List.setIfInBounds_toArray, List.set_cons_zero, List.set_cons_succ]
      refine take_first (i := 3) (v := .slice (some ⟨g1, 0, none⟩) (L.length) c1) 38 rfl rfl (by kernel_rfl) (by kernel_rfl) (by kernel_rfl) (fun _ _ _ h => h) (by rfl) ?_ (by first | assumption | exact (Below.refl _ _).drew) ?_
      · intro W hS
        obtain ⟨hcW, hfW⟩ := bcell hS
        go_simp
      simp only [Act.put, List.setIfInBounds_toArray, List.set_cons_zero, List.set_cons_succ]
      refine take_first (i := 5) (v := .agg #[.int .i64 x, .int .i64 y]) 40 rfl rfl (by kernel_rfl) (by kernel_rfl) (by kernel_rfl) (fun _ _ _ h => h) (by rfl) ?_ (by first | assumption | exact (Below.refl _ _).drew) ?_
      · intro W hS
        obtain ⟨hcW, hfW⟩ := bcell hS
        go_simp
      simp only [Act.put, List.setIfInBounds_toArray, List.set_cons_zero, List.set_cons_succ]
      refine wpAnyH_all (rs := [0, 6]) (by kernel_rfl) (by decide) (List.forall_mem_cons.2 ⟨?_, List.forall_mem_cons.2 ⟨?_, fun _ h => absurd h List.not_mem_nil⟩⟩)
      · refine wpOp_value (v := .slice (some ⟨(w2.drew).heap.size, 0, none⟩) 0 0) (w' := (w2.drew).alloc (.cells #[] 25)) 35 rfl rfl rfl (by go_simp) ⟨by (repeat' (first | (with_reducible exact Below.refl _ _) | (with_reducible assumption) | (with_reducible refine Below.alloc ?_ ?_ _) | (with_reducible refine Below.drew ?_) | (with_reducible refine below_drewN ?_ _) | (with_reducible refine Below.setCell ?_ ?_ _) | (with_reducible refine below_call ?_ ?_ (by assumption)) | go_size)), ?_⟩
        have O35 := Lib.hid (World.ownsRow_made (base := w2.heap.size) (e := 25) (size := 2) (w2.drew) #[] 0 (by go_size) (by unfold maxLen; omega) rfl)
        simp only [Act.put, List.setIfInBounds_toArray, List.set_cons_zero, List.set_cons_succ]
        refine wpAnyH_all (rs := [4, 6]) (by kernel_rfl) (by decide) (List.forall_mem_cons.2 ⟨?_, List.forall_mem_cons.2 ⟨?_, fun _ h => absurd h List.not_mem_nil⟩⟩)
        · have hT : Below w2.heap.size w2 ((World.alloc (w2.drew) (.cells #[] 25))) := by (repeat' (first | (with_reducible exact Below.refl _ _) | (with_reducible assumption) | (with_reducible refine Below.alloc ?_ ?_ _) | (with_reducible refine Below.drew ?_) | (with_reducible refine below_drewN ?_ _) | (with_reducible refine Below.setCell ?_ ?_ _) | (with_reducible refine below_call ?_ ?_ (by assumption)) | go_size))
          refine wpOp_wp rfl rfl (wp_append_any 39 rfl (.tmp 35) (.tmp 38) 30 rfl w2.heap.size 25 i0 _ 16 Try.underlying30 I0.out Z0.out Z1.out Z2.out rfl (.slice (some ⟨(w2.drew).heap.size, 0, none⟩) 0 0) 0 [] rfl O35.out (.slice (some ⟨g1, 0, none⟩) (L.length) c1) rfl L.length (flat (L.take L.length)) (by have h := srcs_part (W := _) (k := 0) (n := L.length) R.out (fun o => ((bcell hT).1 _ _ (by omega)).trans ((bcell hbw).1 _ _ (by omega))) c1 (by omega); simpa using h) (by unfold maxLen; omega) (by omega) (by go_size) ?_)
          intro v39 w4 own39 grow39
          have hb4 : Below w2.heap.size w2 w4 := Below.grown (w := (World.alloc (w2.drew) (.cells #[] 25))) (by (repeat' (first | (with_reducible exact Below.refl _ _) | (with_reducible assumption) | (with_reducible refine Below.alloc ?_ ?_ _) | (with_reducible refine Below.drew ?_) | (with_reducible refine below_drewN ?_ _) | (with_reducible refine Below.setCell ?_ ?_ _) | (with_reducible refine below_call ?_ ?_ (by assumption)) | go_size))) grow39 (by go_size) (fun j hj => (World.ownsRow.lt O35.out j hj).1)
          have hz4 := grow39.size
          try simp only [World.size_alloc, World.size_drew] at hz4
          have OWN := Lib.hid own39
          have GR := Lib.hid grow39
          clear own39 grow39
          refine ⟨hb4, ?_⟩
          simp only [Act.put, List.setIfInBounds_toArray, List.set_cons_zero, List.set_cons_succ]
          refine wpAnyH_all (rs := [6]) (by kernel_rfl) (by decide) (List.forall_mem_cons.2 ⟨?_, fun _ h => absurd h List.not_mem_nil⟩)
          refine wpOp_value (v := .slice (some ⟨w4.heap.size, 0, none⟩) 1 1) (w' := w4.alloc (.cells #[.int .i64 x, .int .i64 y] 25)) 41 rfl rfl rfl (by go_simp) ⟨by (repeat' (first | (with_reducible exact Below.refl _ _) | (with_reducible assumption) | (with_reducible refine Below.alloc ?_ ?_ _) | (with_reducible refine Below.drew ?_) | (with_reducible refine below_drewN ?_ _) | (with_reducible refine Below.setCell ?_ ?_ _) | (with_reducible refine below_call ?_ ?_ (by assumption)) | go_size)), ?_⟩
          simp only [Act.put, List.setIfInBounds_toArray, List.set_cons_zero, List.set_cons_succ]
          refine wpAnyH_all (rs := [7]) (by kernel_rfl) (by decide) (List.forall_mem_cons.2 ⟨?_, fun _ h => absurd h List.not_mem_nil⟩)
          have hB := Lib.hid (show ((World.alloc w4 (.cells #[.int .i64 x, .int .i64 y] 25))).heap[w4.heap.size]? = some (.cells #[.int .i64 x, .int .i64 y] 25 (0, 0)) from heap_alloc_new w4 _)
          refine wpOp_wp rfl rfl (wp_append_any 42 rfl (.tmp 39) (.tmp 41) 30 rfl w2.heap.size 25 i0 _ 16 Try.underlying30 I0.out Z0.out Z1.out Z2.out rfl v39 (0 + L.length) _ rfl (OWN.out.alloc _) (.slice (some ⟨w4.heap.size, 0, none⟩) 1 1) rfl 1 [.int .i64 x, .int .i64 y] (.inr ⟨⟨w4.heap.size, 0, none⟩, 1, rfl, rfl, World.news_of_block (cs := #[.int .i64 x, .int .i64 y]) (t := 25) (fr := (0, 0)) hB.out, by simp [Value.oneCell']⟩) (by unfold maxLen; omega) (by omega) (by go_size) ?_)
          intro v42 w7 own42 grow42
          have hb7 : Below w2.heap.size w2 w7 := Below.grown (w := (World.alloc w4 (.cells #[.int .i64 x, .int .i64 y] 25))) (by (repeat' (first | (with_reducible exact Below.refl _ _) | (with_reducible assumption) | (with_reducible refine Below.alloc ?_ ?_ _) | (with_reducible refine Below.drew ?_) | (with_reducible refine below_drewN ?_ _) | (with_reducible refine Below.setCell ?_ ?_ _) | (with_reducible refine below_call ?_ ?_ (by assumption)) | go_size))) grow42 (by go_size) (fun j hj => (World.ownsRow.lt OWN.out j hj).1)
          have hz7 := grow42.size
          try simp only [World.size_alloc, World.size_drew] at hz7
          have OWN7 := Lib.hid own42
          clear own42 grow42 hB OWN GR hb4
          refine ⟨hb7, ?_⟩
          simp only [Act.put, List.setIfInBounds_toArray, List.set_cons_zero, List.set_cons_succ]
          refine wpAnyH_all (rs := [8]) (by kernel_rfl) (by decide) (List.forall_mem_cons.2 ⟨?_, fun _ h => absurd h List.not_mem_nil⟩)
          refine wpOp_value (v := v42) (w' := w7) 6 rfl rfl rfl (by go_simp) ⟨hb7, ?_⟩
          simp only [Act.put, List.setIfInBounds_toArray, List.set_cons_zero, List.set_cons_succ]
          refine wpAnyH_done (by kernel_rfl) ?_ _
          by_cases hcap : c1 = L.length
          · have HSR := fun W (hT : Below w2.heap.size w2 W) => (show Srcs W (.slice (some ⟨g1, 0, none⟩) 0 0) (0) ([]) from by have h := srcs_part (W := W) (k := L.length) (n := 0) R.out (fun o => ((bcell hT).1 _ _ (by omega)).trans ((bcell hbw).1 _ _ (by omega))) (c1 - L.length) (by omega); exact .inr ⟨⟨g1, 0, none⟩, 0, rfl, rfl, fun j u hu => by simp at hu, fun u hu => by simp at hu⟩)
            have HSR7 := Lib.hid (HSR w7 hb7)
            clear HSR
            go_wp2_with (at_builtin; refine wpList_append_any 47 rfl rfl (.tmp 43) (.tmp 46) 30 rfl w2.heap.size 25 i0 _ 16 Try.underlying30 I0.out Z0.out Z1.out Z2.out rfl v42 (0 + L.length + 1) _ rfl OWN7.out (.slice (some ⟨g1, 0, none⟩) 0 0) rfl (0) ([]) HSR7.out (by unfold maxLen; omega) (by omega) (by go_size) ?_; intro v47 w8 own8 grow8)
            have hb8 : Below w2.heap.size w2 w8 := Below.grown (w := w7) hb7 grow8 (by go_size) (fun j hj => (World.ownsRow.lt OWN7.out j hj).1)
            have OWN8 := Lib.hid own8
            clear own8 grow8
            go_ret
            refine ⟨_, rfl, ?_, hbw.trans (hb8.mono hbw.size)⟩
            refine TRow.mono (b := w2.heap.size) ?_ (by omega)
            rw [HN.out]
            unfold TRow
            have e1 : (L.take (L.length) ++ [(x, y)] ++ L.drop (L.length)).length = 0 + L.length + 1 + (0) := by simp <;> omega
            have e2 : flat (L.take (L.length) ++ [(x, y)] ++ L.drop (L.length)) = [] ++ flat (L.take (L.length)) ++ [.int .i64 x, .int .i64 y] ++ ([]) := by simp [flat_append, flat]
            rw [e1, e2]
            exact OWN8.out

          · have HSR := fun W (hT : Below w2.heap.size w2 W) => (show Srcs W (.slice (some ⟨g1, L.length * 2, none⟩) 0 (c1 - L.length)) (0) ([]) from by have h := srcs_part (W := W) (k := L.length) (n := 0) R.out (fun o => ((bcell hT).1 _ _ (by omega)).trans ((bcell hbw).1 _ _ (by omega))) (c1 - L.length) (by omega); simpa [flat] using h)
            have HSR7 := Lib.hid (HSR w7 hb7)
            clear HSR
            go_wp2_with (at_builtin; refine wpList_append_any 47 rfl rfl (.tmp 43) (.tmp 46) 30 rfl w2.heap.size 25 i0 _ 16 Try.underlying30 I0.out Z0.out Z1.out Z2.out rfl v42 (0 + L.length + 1) _ rfl OWN7.out (.slice (some ⟨g1, L.length * 2, none⟩) 0 (c1 - L.length)) rfl (0) ([]) HSR7.out (by unfold maxLen; omega) (by omega) (by go_size) ?_; intro v47 w8 own8 grow8)
            have hb8 : Below w2.heap.size w2 w8 := Below.grown (w := w7) hb7 grow8 (by go_size) (fun j hj => (World.ownsRow.lt OWN7.out j hj).1)
            have OWN8 := Lib.hid own8
            clear own8 grow8
            go_ret
            refine ⟨_, rfl, ?_, hbw.trans (hb8.mono hbw.size)⟩
            refine TRow.mono (b := w2.heap.size) ?_ (by omega)
            rw [HN.out]
            unfold TRow
            have e1 : (L.take (L.length) ++ [(x, y)] ++ L.drop (L.length)).length = 0 + L.length + 1 + (0) := by simp <;> omega
            have e2 : flat (L.take (L.length) ++ [(x, y)] ++ L.drop (L.length)) = [] ++ flat (L.take (L.length)) ++ [.int .i64 x, .int .i64 y] ++ ([]) := by simp [flat_append, flat]
            rw [e1, e2]
            exact OWN8.out

        · refine wpOp_value (v := .slice (some ⟨(World.alloc (w2.drew) (.cells #[] 25)).heap.size, 0, none⟩) 1 1) (w' := (World.alloc (w2.drew) (.cells #[] 25)).alloc (.cells #[.int .i64 x, .int .i64 y] 25)) 41 rfl rfl rfl (by go_simp) ⟨by (repeat' (first | (with_reducible exact Below.refl _ _) | (with_reducible assumption) | (with_reducible refine Below.alloc ?_ ?_ _) | (with_reducible refine Below.drew ?_) | (with_reducible refine below_drewN ?_ _) | (with_reducible refine Below.setCell ?_ ?_ _) | (with_reducible refine below_call ?_ ?_ (by assumption)) | go_size)), ?_⟩
          simp only [Act.put, List.setIfInBounds_toArray, List.set_cons_zero, List.set_cons_succ]
          refine wpAnyH_all (rs := [4]) (by kernel_rfl) (by decide) (List.forall_mem_cons.2 ⟨?_, fun _ h => absurd h List.not_mem_nil⟩)
          have hT : Below w2.heap.size w2 ((World.alloc (World.alloc (w2.drew) (.cells #[] 25)) (.cells #[.int .i64 x, .int .i64 y] 25))) := by (repeat' (first | (with_reducible exact Below.refl _ _) | (with_reducible assumption) | (with_reducible refine Below.alloc ?_ ?_ _) | (with_reducible refine Below.drew ?_) | (with_reducible refine below_drewN ?_ _) | (with_reducible refine Below.setCell ?_ ?_ _) | (with_reducible refine below_call ?_ ?_ (by assumption)) | go_size))
          refine wpOp_wp rfl rfl (wp_append_any 39 rfl (.tmp 35) (.tmp 38) 30 rfl w2.heap.size 25 i0 _ 16 Try.underlying30 I0.out Z0.out Z1.out Z2.out rfl (.slice (some ⟨(w2.drew).heap.size, 0, none⟩) 0 0) 0 [] rfl (O35.out.alloc _) (.slice (some ⟨g1, 0, none⟩) (L.length) c1) rfl L.length (flat (L.take L.length)) (by have h := srcs_part (W := _) (k := 0) (n := L.length) R.out (fun o => ((bcell hT).1 _ _ (by omega)).trans ((bcell hbw).1 _ _ (by omega))) c1 (by omega); simpa using h) (by unfold maxLen; omega) (by omega) (by go_size) ?_)
          intro v39 w4 own39 grow39
          have hb4 : Below w2.heap.size w2 w4 := Below.grown (w := (World.alloc (World.alloc (w2.drew) (.cells #[] 25)) (.cells #[.int .i64 x, .int .i64 y] 25))) (by (repeat' (first | (with_reducible exact Below.refl _ _) | (with_reducible assumption) | (with_reducible refine Below.alloc ?_ ?_ _) | (with_reducible refine Below.drew ?_) | (with_reducible refine below_drewN ?_ _) | (with_reducible refine Below.setCell ?_ ?_ _) | (with_reducible refine below_call ?_ ?_ (by assumption)) | go_size))) grow39 (by go_size) (fun j hj => (World.ownsRow.lt O35.out j hj).1)
          have hz4 := grow39.size
          try simp only [World.size_alloc, World.size_drew] at hz4
          have OWN := Lib.hid own39
          have GR := Lib.hid grow39
          clear own39 grow39
          refine ⟨hb4, ?_⟩
          simp only [Act.put, List.setIfInBounds_toArray, List.set_cons_zero, List.set_cons_succ]
          refine wpAnyH_all (rs := [7]) (by kernel_rfl) (by decide) (List.forall_mem_cons.2 ⟨?_, fun _ h => absurd h List.not_mem_nil⟩)
          have hB := Lib.hid (show (w4).heap[(World.alloc (w2.drew) (.cells #[] 25)).heap.size]? = some (.cells #[.int .i64 x, .int .i64 y] 25 (0, 0)) from (GR.out.block _ (by go_size) (by simp [Value.ownBlock])).trans (heap_alloc_new (World.alloc (w2.drew) (.cells #[] 25)) _))
          refine wpOp_wp rfl rfl (wp_append_any 42 rfl (.tmp 39) (.tmp 41) 30 rfl w2.heap.size 25 i0 _ 16 Try.underlying30 I0.out Z0.out Z1.out Z2.out rfl v39 (0 + L.length) _ rfl OWN.out (.slice (some ⟨(World.alloc (w2.drew) (.cells #[] 25)).heap.size, 0, none⟩) 1 1) rfl 1 [.int .i64 x, .int .i64 y] (.inr ⟨⟨(World.alloc (w2.drew) (.cells #[] 25)).heap.size, 0, none⟩, 1, rfl, rfl, World.news_of_block (cs := #[.int .i64 x, .int .i64 y]) (t := 25) (fr := (0, 0)) hB.out, by simp [Value.oneCell']⟩) (by unfold maxLen; omega) (by omega) (by go_size) ?_)
          intro v42 w7 own42 grow42
          have hb7 : Below w2.heap.size w2 w7 := Below.grown (w := w4) (by (repeat' (first | (with_reducible exact Below.refl _ _) | (with_reducible assumption) | (with_reducible refine Below.alloc ?_ ?_ _) | (with_reducible refine Below.drew ?_) | (with_reducible refine below_drewN ?_ _) | (with_reducible refine Below.setCell ?_ ?_ _) | (with_reducible refine below_call ?_ ?_ (by assumption)) | go_size))) grow42 (by go_size) (fun j hj => (World.ownsRow.lt OWN.out j hj).1)
          have hz7 := grow42.size
          try simp only [World.size_alloc, World.size_drew] at hz7
          have OWN7 := Lib.hid own42
          clear own42 grow42 hB OWN GR hb4
          refine ⟨hb7, ?_⟩
          simp only [Act.put, List.setIfInBounds_toArray, List.set_cons_zero, List.set_cons_succ]
          refine wpAnyH_all (rs := [8]) (by kernel_rfl) (by decide) (List.forall_mem_cons.2 ⟨?_, fun _ h => absurd h List.not_mem_nil⟩)
          refine wpOp_value (v := v42) (w' := w7) 6 rfl rfl rfl (by go_simp) ⟨hb7, ?_⟩
          simp only [Act.put, List.setIfInBounds_toArray, List.set_cons_zero, List.set_cons_succ]
          refine wpAnyH_done (by kernel_rfl) ?_ _
          by_cases hcap : c1 = L.length
          · have HSR := fun W (hT : Below w2.heap.size w2 W) => (show Srcs W (.slice (some ⟨g1, 0, none⟩) 0 0) (0) ([]) from by have h := srcs_part (W := W) (k := L.length) (n := 0) R.out (fun o => ((bcell hT).1 _ _ (by omega)).trans ((bcell hbw).1 _ _ (by omega))) (c1 - L.length) (by omega); exact .inr ⟨⟨g1, 0, none⟩, 0, rfl, rfl, fun j u hu => by simp at hu, fun u hu => by simp at hu⟩)
            have HSR7 := Lib.hid (HSR w7 hb7)
            clear HSR
            go_wp2_with (at_builtin; refine wpList_append_any 47 rfl rfl (.tmp 43) (.tmp 46) 30 rfl w2.heap.size 25 i0 _ 16 Try.underlying30 I0.out Z0.out Z1.out Z2.out rfl v42 (0 + L.length + 1) _ rfl OWN7.out (.slice (some ⟨g1, 0, none⟩) 0 0) rfl (0) ([]) HSR7.out (by unfold maxLen; omega) (by omega) (by go_size) ?_; intro v47 w8 own8 grow8)
            have hb8 : Below w2.heap.size w2 w8 := Below.grown (w := w7) hb7 grow8 (by go_size) (fun j hj => (World.ownsRow.lt OWN7.out j hj).1)
            have OWN8 := Lib.hid own8
            clear own8 grow8
            go_ret
            refine ⟨_, rfl, ?_, hbw.trans (hb8.mono hbw.size)⟩
            refine TRow.mono (b := w2.heap.size) ?_ (by omega)
            rw [HN.out]
            unfold TRow
            have e1 : (L.take (L.length) ++ [(x, y)] ++ L.drop (L.length)).length = 0 + L.length + 1 + (0) := by simp <;> omega
            have e2 : flat (L.take (L.length) ++ [(x, y)] ++ L.drop (L.length)) = [] ++ flat (L.take (L.length)) ++ [.int .i64 x, .int .i64 y] ++ ([]) := by simp [flat_append, flat]
            rw [e1, e2]
            exact OWN8.out

          · have HSR := fun W (hT : Below w2.heap.size w2 W) => (show Srcs W (.slice (some ⟨g1, L.length * 2, none⟩) 0 (c1 - L.length)) (0) ([]) from by have h := srcs_part (W := W) (k := L.length) (n := 0) R.out (fun o => ((bcell hT).1 _ _ (by omega)).trans ((bcell hbw).1 _ _ (by omega))) (c1 - L.length) (by omega); simpa [flat] using h)
            have HSR7 := Lib.hid (HSR w7 hb7)
            clear HSR
            go_wp2_with (at_builtin; refine wpList_append_any 47 rfl rfl (.tmp 43) (.tmp 46) 30 rfl w2.heap.size 25 i0 _ 16 Try.underlying30 I0.out Z0.out Z1.out Z2.out rfl v42 (0 + L.length + 1) _ rfl OWN7.out (.slice (some ⟨g1, L.length * 2, none⟩) 0 (c1 - L.length)) rfl (0) ([]) HSR7.out (by unfold maxLen; omega) (by omega) (by go_size) ?_; intro v47 w8 own8 grow8)
            have hb8 : Below w2.heap.size w2 w8 := Below.grown (w := w7) hb7 grow8 (by go_size) (fun j hj => (World.ownsRow.lt OWN7.out j hj).1)
            have OWN8 := Lib.hid own8
            clear own8 grow8
            go_ret
            refine ⟨_, rfl, ?_, hbw.trans (hb8.mono hbw.size)⟩
            refine TRow.mono (b := w2.heap.size) ?_ (by omega)
            rw [HN.out]
            unfold TRow
            have e1 : (L.take (L.length) ++ [(x, y)] ++ L.drop (L.length)).length = 0 + L.length + 1 + (0) := by simp <;> omega
            have e2 : flat (L.take (L.length) ++ [(x, y)] ++ L.drop (L.length)) = [] ++ flat (L.take (L.length)) ++ [.int .i64 x, .int .i64 y] ++ ([]) := by simp [flat_append, flat]
            rw [e1, e2]
            exact OWN8.out


      · refine wpOp_value (v := .slice (some ⟨(w2.drew).heap.size, 0, none⟩) 1 1) (w' := (w2.drew).alloc (.cells #[.int .i64 x, .int .i64 y] 25)) 41 rfl rfl rfl (by go_simp) ⟨by (repeat' (first | (with_reducible exact Below.refl _ _) | (with_reducible assumption) | (with_reducible refine Below.alloc ?_ ?_ _) | (with_reducible refine Below.drew ?_) | (with_reducible refine below_drewN ?_ _) | (with_reducible refine Below.setCell ?_ ?_ _) | (with_reducible refine below_call ?_ ?_ (by assumption)) | go_size)), ?_⟩
        simp only [Act.put, List.setIfInBounds_toArray, List.set_cons_zero, List.set_cons_succ]
        refine wpAnyH_all (rs := [0]) (by kernel_rfl) (by decide) (List.forall_mem_cons.2 ⟨?_, fun _ h => absurd h List.not_mem_nil⟩)
        refine wpOp_value (v := .slice (some ⟨(World.alloc (w2.drew) (.cells #[.int .i64 x, .int .i64 y] 25)).heap.size, 0, none⟩) 0 0) (w' := (World.alloc (w2.drew) (.cells #[.int .i64 x, .int .i64 y] 25)).alloc (.cells #[] 25)) 35 rfl rfl rfl (by go_simp) ⟨by (repeat' (first | (with_reducible exact Below.refl _ _) | (with_reducible assumption) | (with_reducible refine Below.alloc ?_ ?_ _) | (with_reducible refine Below.drew ?_) | (with_reducible refine below_drewN ?_ _) | (with_reducible refine Below.setCell ?_ ?_ _) | (with_reducible refine below_call ?_ ?_ (by assumption)) | go_size)), ?_⟩
        have O35 := Lib.hid (World.ownsRow_made (base := w2.heap.size) (e := 25) (size := 2) (World.alloc (w2.drew) (.cells #[.int .i64 x, .int .i64 y] 25)) #[] 0 (by go_size) (by unfold maxLen; omega) rfl)
        simp only [Act.put, List.setIfInBounds_toArray, List.set_cons_zero, List.set_cons_succ]
        refine wpAnyH_all (rs := [4]) (by kernel_rfl) (by decide) (List.forall_mem_cons.2 ⟨?_, fun _ h => absurd h List.not_mem_nil⟩)
        have hT : Below w2.heap.size w2 ((World.alloc (World.alloc (w2.drew) (.cells #[.int .i64 x, .int .i64 y] 25)) (.cells #[] 25))) := by (repeat' (first | (with_reducible exact Below.refl _ _) | (with_reducible assumption) | (with_reducible refine Below.alloc ?_ ?_ _) | (with_reducible refine Below.drew ?_) | (with_reducible refine below_drewN ?_ _) | (with_reducible refine Below.setCell ?_ ?_ _) | (with_reducible refine below_call ?_ ?_ (by assumption)) | go_size))
        refine wpOp_wp rfl rfl (wp_append_any 39 rfl (.tmp 35) (.tmp 38) 30 rfl w2.heap.size 25 i0 _ 16 Try.underlying30 I0.out Z0.out Z1.out Z2.out rfl (.slice (some ⟨(World.alloc (w2.drew) (.cells #[.int .i64 x, .int .i64 y] 25)).heap.size, 0, none⟩) 0 0) 0 [] rfl O35.out (.slice (some ⟨g1, 0, none⟩) (L.length) c1) rfl L.length (flat (L.take L.length)) (by have h := srcs_part (W := _) (k := 0) (n := L.length) R.out (fun o => ((bcell hT).1 _ _ (by omega)).trans ((bcell hbw).1 _ _ (by omega))) c1 (by omega); simpa using h) (by unfold maxLen; omega) (by omega) (by go_size) ?_)
        intro v39 w4 own39 grow39
        have hb4 : Below w2.heap.size w2 w4 := Below.grown (w := (World.alloc (World.alloc (w2.drew) (.cells #[.int .i64 x, .int .i64 y] 25)) (.cells #[] 25))) (by (repeat' (first | (with_reducible exact Below.refl _ _) | (with_reducible assumption) | (with_reducible refine Below.alloc ?_ ?_ _) | (with_reducible refine Below.drew ?_) | (with_reducible refine below_drewN ?_ _) | (with_reducible refine Below.setCell ?_ ?_ _) | (with_reducible refine below_call ?_ ?_ (by assumption)) | go_size))) grow39 (by go_size) (fun j hj => (World.ownsRow.lt O35.out j hj).1)
        have hz4 := grow39.size
        try simp only [World.size_alloc, World.size_drew] at hz4
        have OWN := Lib.hid own39
        have GR := Lib.hid grow39
        clear own39 grow39
        refine ⟨hb4, ?_⟩
        simp only [Act.put, List.setIfInBounds_toArray, List.set_cons_zero, List.set_cons_succ]
        refine wpAnyH_all (rs := [7]) (by kernel_rfl) (by decide) (List.forall_mem_cons.2 ⟨?_, fun _ h => absurd h List.not_mem_nil⟩)
        have hB := Lib.hid (show (w4).heap[(w2.drew).heap.size]? = some (.cells #[.int .i64 x, .int .i64 y] 25 (0, 0)) from (GR.out.block _ (by go_size) (by simp [Value.ownBlock])).trans ((heap_alloc_old (World.alloc (w2.drew) (.cells #[.int .i64 x, .int .i64 y] 25)) _ (by go_size)).trans (heap_alloc_new (w2.drew) _)))
        refine wpOp_wp rfl rfl (wp_append_any 42 rfl (.tmp 39) (.tmp 41) 30 rfl w2.heap.size 25 i0 _ 16 Try.underlying30 I0.out Z0.out Z1.out Z2.out rfl v39 (0 + L.length) _ rfl OWN.out (.slice (some ⟨(w2.drew).heap.size, 0, none⟩) 1 1) rfl 1 [.int .i64 x, .int .i64 y] (.inr ⟨⟨(w2.drew).heap.size, 0, none⟩, 1, rfl, rfl, World.news_of_block (cs := #[.int .i64 x, .int .i64 y]) (t := 25) (fr := (0, 0)) hB.out, by simp [Value.oneCell']⟩) (by unfold maxLen; omega) (by omega) (by go_size) ?_)
        intro v42 w7 own42 grow42
        have hb7 : Below w2.heap.size w2 w7 := Below.grown (w := w4) (by (repeat' (first | (with_reducible exact Below.refl _ _) | (with_reducible assumption) | (with_reducible refine Below.alloc ?_ ?_ _) | (with_reducible refine Below.drew ?_) | (with_reducible refine below_drewN ?_ _) | (with_reducible refine Below.setCell ?_ ?_ _) | (with_reducible refine below_call ?_ ?_ (by assumption)) | go_size))) grow42 (by go_size) (fun j hj => (World.ownsRow.lt OWN.out j hj).1)
        have hz7 := grow42.size
        try simp only [World.size_alloc, World.size_drew] at hz7
        have OWN7 := Lib.hid own42
        clear own42 grow42 hB OWN GR hb4
        refine ⟨hb7, ?_⟩
        simp only [Act.put, List.setIfInBounds_toArray, List.set_cons_zero, List.set_cons_succ]
        refine wpAnyH_all (rs := [8]) (by kernel_rfl) (by decide) (List.forall_mem_cons.2 ⟨?_, fun _ h => absurd h List.not_mem_nil⟩)
        refine wpOp_value (v := v42) (w' := w7) 6 rfl rfl rfl (by go_simp) ⟨hb7, ?_⟩
        simp only [Act.put, List.setIfInBounds_toArray, List.set_cons_zero, List.set_cons_succ]
        refine wpAnyH_done (by kernel_rfl) ?_ _
        by_cases hcap : c1 = L.length
        · have HSR := fun W (hT : Below w2.heap.size w2 W) => (show Srcs W (.slice (some ⟨g1, 0, none⟩) 0 0) (0) ([]) from by have h := srcs_part (W := W) (k := L.length) (n := 0) R.out (fun o => ((bcell hT).1 _ _ (by omega)).trans ((bcell hbw).1 _ _ (by omega))) (c1 - L.length) (by omega); exact .inr ⟨⟨g1, 0, none⟩, 0, rfl, rfl, fun j u hu => by simp at hu, fun u hu => by simp at hu⟩)
          have HSR7 := Lib.hid (HSR w7 hb7)
          clear HSR
          go_wp2_with (at_builtin; refine wpList_append_any 47 rfl rfl (.tmp 43) (.tmp 46) 30 rfl w2.heap.size 25 i0 _ 16 Try.underlying30 I0.out Z0.out Z1.out Z2.out rfl v42 (0 + L.length + 1) _ rfl OWN7.out (.slice (some ⟨g1, 0, none⟩) 0 0) rfl (0) ([]) HSR7.out (by unfold maxLen; omega) (by omega) (by go_size) ?_; intro v47 w8 own8 grow8)
          have hb8 : Below w2.heap.size w2 w8 := Below.grown (w := w7) hb7 grow8 (by go_size) (fun j hj => (World.ownsRow.lt OWN7.out j hj).1)
          have OWN8 := Lib.hid own8
          clear own8 grow8
          go_ret
          refine ⟨_, rfl, ?_, hbw.trans (hb8.mono hbw.size)⟩
          refine TRow.mono (b := w2.heap.size) ?_ (by omega)
          rw [HN.out]
          unfold TRow
          have e1 : (L.take (L.length) ++ [(x, y)] ++ L.drop (L.length)).length = 0 + L.length + 1 + (0) := by simp <;> omega
          have e2 : flat (L.take (L.length) ++ [(x, y)] ++ L.drop (L.length)) = [] ++ flat (L.take (L.length)) ++ [.int .i64 x, .int .i64 y] ++ ([]) := by simp [flat_append, flat]
          rw [e1, e2]
          exact OWN8.out

        · have HSR := fun W (hT : Below w2.heap.size w2 W) => (show Srcs W (.slice (some ⟨g1, L.length * 2, none⟩) 0 (c1 - L.length)) (0) ([]) from by have h := srcs_part (W := W) (k := L.length) (n := 0) R.out (fun o => ((bcell hT).1 _ _ (by omega)).trans ((bcell hbw).1 _ _ (by omega))) (c1 - L.length) (by omega); simpa [flat] using h)
          have HSR7 := Lib.hid (HSR w7 hb7)
          clear HSR
          go_wp2_with (at_builtin; refine wpList_append_any 47 rfl rfl (.tmp 43) (.tmp 46) 30 rfl w2.heap.size 25 i0 _ 16 Try.underlying30 I0.out Z0.out Z1.out Z2.out rfl v42 (0 + L.length + 1) _ rfl OWN7.out (.slice (some ⟨g1, L.length * 2, none⟩) 0 (c1 - L.length)) rfl (0) ([]) HSR7.out (by unfold maxLen; omega) (by omega) (by go_size) ?_; intro v47 w8 own8 grow8)
          have hb8 : Below w2.heap.size w2 w8 := Below.grown (w := w7) hb7 grow8 (by go_size) (fun j hj => (World.ownsRow.lt OWN7.out j hj).1)
          have OWN8 := Lib.hid own8
          clear own8 grow8
          go_ret
          refine ⟨_, rfl, ?_, hbw.trans (hb8.mono hbw.size)⟩
          refine TRow.mono (b := w2.heap.size) ?_ (by omega)
          rw [HN.out]
          unfold TRow
          have e1 : (L.take (L.length) ++ [(x, y)] ++ L.drop (L.length)).length = 0 + L.length + 1 + (0) := by simp <;> omega
          have e2 : flat (L.take (L.length) ++ [(x, y)] ++ L.drop (L.length)) = [] ++ flat (L.take (L.length)) ++ [.int .i64 x, .int .i64 y] ++ ([]) := by simp [flat_append, flat]
          rw [e1, e2]
          exact OWN8.out




set_option maxHeartbeats 1600000 in
theorem meSorted_nil (b : Nat) (x y : Int) (w : World) (hb : b ≤ w.heap.size) :
    Calls Try.prog 52 #[.slice none 0 0, tv x y] w fun e w' => ∃ v', e = .returned v' ∧ TRow w' b v' (insU (x, y) []) ∧ Below w.heap.size w w' := by
  obtain ⟨L, hL⟩ : ∃ L : List (Int × Int), L = [] := ⟨_, rfl⟩
  have HL := Lib.hid hL
  have HN := Lib.hid (show insU (x, y) [] = L.take 0 ++ [(x, y)] ++ L.drop 0 from by rw [hL]; rfl)
  clear hL
  obtain ⟨i0, hi0, hz0, hz1, hz2⟩ := info_parts Try.infoTurn
  have I0 := Lib.hid hi0
  have Z0 := Lib.hid hz0
  have Z1 := Lib.hid hz1
  have Z2 := Lib.hid hz2
  clear hi0 hz0 hz1 hz2
  (go_enter Try.func52, Try.ntmps52)
  go_wp2
  refine wp_loop_rounds 1 ?_
  rw [rounds_succ]
  go_wp2_with fail
  refine wp_region_below (by kernel_rfl) (by kernel_rfl) ?_
  repeat (first | (apply wpB_take (hw := rfl); (intro wq hq; obtain ⟨hcq, hfq⟩ := bcell hq; unfold atB; go_simp; exact ⟨rfl, rfl⟩); simp only [Act.put, List.setIfInBounds_toArray, List.set_cons_zero, List.set_cons_succ]) | (apply wpB_skip (hw := rfl); simp only [Act.put, List.setIfInBounds_toArray, List.set_cons_zero, List.set_cons_succ]))
  refine fun w1 hb1 => ?_
  go_wp2_with fail
  refine wp_region_below (by kernel_rfl) (by kernel_rfl) ?_
  repeat (first | (apply wpB_take (hw := rfl); (intro wq hq; obtain ⟨hcq, hfq⟩ := bcell hq; unfold atB; go_simp; exact ⟨rfl, rfl⟩); simp only [Act.put, List.setIfInBounds_toArray, List.set_cons_zero, List.set_cons_succ]) | (apply wpB_skip (hw := rfl); simp only [Act.put, List.setIfInBounds_toArray, List.set_cons_zero, List.set_cons_succ]))
  refine fun w2 hb2 => ?_
  have hb12 := hb1.trans (hb2.mono hb1.size)
  have hbw : Below w.heap.size w w2 := Below.trans (b := _) (by (repeat' (first | (with_reducible exact Below.refl _ _) | (with_reducible assumption) | (with_reducible refine Below.alloc ?_ ?_ _) | (with_reducible refine Below.drew ?_) | (with_reducible refine below_drewN ?_ _) | (with_reducible refine Below.setCell ?_ ?_ _) | (with_reducible refine below_call ?_ ?_ (by assumption)) | go_size))) (hb12.mono (by go_size))
  have hz2 := hb12.size
  simp only [World.size_alloc, World.size_setCell, World.size_drew] at hz2
  have kz0 : w2.cell? ⟨w.heap.size, 0, none⟩ = some (.int .i64 x) := ((bcell hb12).1 w.heap.size 0 (by go_size)).trans (by go_simp)
  have kz1 : w2.cell? ⟨w.heap.size, 1, none⟩ = some (.int .i64 y) := ((bcell hb12).1 w.heap.size 1 (by go_size)).trans (by go_simp)
  clear hb1 hb2 hb12
  have wlt : w.heap.size < w2.heap.size := by omega
  go_wp2_with fail
  refine wp_region_held (by kernel_rfl) (S := fun W => Below w2.heap.size w2 W) ?_
  refine take_first (i := 1) (v := .slice none 0 0) 36 rfl rfl (by kernel_rfl) (by kernel_rfl) (by kernel_rfl) (fun _ _ _ h => h) (by rfl) ?_ (by first | assumption | exact (Below.refl _ _).drew) ?_
  · intro W hS
    obtain ⟨hcW, hfW⟩ := bcell hS
    go_simp
  simp only [Act.put, List.setIfInBounds_toArray, List.set_cons_zero, List.set_cons_succ]
  refine take_first (i := 2) (v := .int .i64 (0 : Nat)) 37 rfl rfl (by kernel_rfl) (by kernel_rfl) (by kernel_rfl) (fun _ _ _ h => h) (by rfl) ?_ (by first | assumption | exact (Below.refl _ _).drew) ?_
  · intro W hS
    obtain ⟨hcW, hfW⟩ := bcell hS
    go_simp
  simp only [Act.put, List.setIfInBounds_toArray, List.set_cons_zero, List.set_cons_succ]
  refine take_first (i := 3) (v := .slice none 0 0) 38 rfl rfl (by kernel_rfl) (by kernel_rfl) (by kernel_rfl) (fun _ _ _ h => h) (by rfl) ?_ (by first | assumption | exact (Below.refl _ _).drew) ?_
  · intro W hS
    obtain ⟨hcW, hfW⟩ := bcell hS
    go_simp
  simp only [Act.put, List.setIfInBounds_toArray, List.set_cons_zero, List.set_cons_succ]
  refine take_first (i := 5) (v := .agg #[.int .i64 x, .int .i64 y]) 40 rfl rfl (by kernel_rfl) (by kernel_rfl) (by kernel_rfl) (fun _ _ _ h => h) (by rfl) ?_ (by first | assumption | exact (Below.refl _ _).drew) ?_
  · intro W hS
    obtain ⟨hcW, hfW⟩ := bcell hS
    go_simp
  simp only [Act.put, List.setIfInBounds_toArray, List.set_cons_zero, List.set_cons_succ]
  refine wpAnyH_all (rs := [0, 6]) (by kernel_rfl) (by decide) (List.forall_mem_cons.2 ⟨?_, List.forall_mem_cons.2 ⟨?_, fun _ h => absurd h List.not_mem_nil⟩⟩)
  · refine wpOp_value (v := .slice (some ⟨(w2.drew).heap.size, 0, none⟩) 0 0) (w' := (w2.drew).alloc (.cells #[] 25)) 35 rfl rfl rfl (by go_simp) ⟨by (repeat' (first | (with_reducible exact Below.refl _ _) | (with_reducible assumption) | (with_reducible refine Below.alloc ?_ ?_ _) | (with_reducible refine Below.drew ?_) | (with_reducible refine below_drewN ?_ _) | (with_reducible refine Below.setCell ?_ ?_ _) | (with_reducible refine below_call ?_ ?_ (by assumption)) | go_size)), ?_⟩
    have O35 := Lib.hid (World.ownsRow_made (base := w2.heap.size) (e := 25) (size := 2) (w2.drew) #[] 0 (by go_size) (by unfold maxLen; omega) rfl)
    simp only [Act.put, List.setIfInBounds_toArray, List.set_cons_zero, List.set_cons_succ]
    refine wpAnyH_all (rs := [4, 6]) (by kernel_rfl) (by decide) (List.forall_mem_cons.2 ⟨?_, List.forall_mem_cons.2 ⟨?_, fun _ h => absurd h List.not_mem_nil⟩⟩)
    · have hT : Below w2.heap.size w2 ((World.alloc (w2.drew) (.cells #[] 25))) := by (repeat' (first | (with_reducible exact Below.refl _ _) | (with_reducible assumption) | (with_reducible refine Below.alloc ?_ ?_ _) | (with_reducible refine Below.drew ?_) | (with_reducible refine below_drewN ?_ _) | (with_reducible refine Below.setCell ?_ ?_ _) | (with_reducible refine below_call ?_ ?_ (by assumption)) | go_size))
      refine wpOp_wp rfl rfl (wp_append_any 39 rfl (.tmp 35) (.tmp 38) 30 rfl w2.heap.size 25 i0 _ 16 Try.underlying30 I0.out Z0.out Z1.out Z2.out rfl (.slice (some ⟨(w2.drew).heap.size, 0, none⟩) 0 0) 0 [] rfl O35.out (.slice none 0 0) rfl 0 (flat (L.take 0)) (.inl ⟨rfl, rfl, by simp [flat]⟩) (by unfold maxLen; omega) (by omega) (by go_size) ?_)
      intro v39 w4 own39 grow39
      have hb4 : Below w2.heap.size w2 w4 := Below.grown (w := (World.alloc (w2.drew) (.cells #[] 25))) (by (repeat' (first | (with_reducible exact Below.refl _ _) | (with_reducible assumption) | (with_reducible refine Below.alloc ?_ ?_ _) | (with_reducible refine Below.drew ?_) | (with_reducible refine below_drewN ?_ _) | (with_reducible refine Below.setCell ?_ ?_ _) | (with_reducible refine below_call ?_ ?_ (by assumption)) | go_size))) grow39 (by go_size) (fun j hj => (World.ownsRow.lt O35.out j hj).1)
      have hz4 := grow39.size
      try simp only [World.size_alloc, World.size_drew] at hz4
      have OWN := Lib.hid own39
      have GR := Lib.hid grow39
      clear own39 grow39
      refine ⟨hb4, ?_⟩
      simp only [Act.put, List.setIfInBounds_toArray, List.set_cons_zero, List.set_cons_succ]
      refine wpAnyH_all (rs := [6]) (by kernel_rfl) (by decide) (List.forall_mem_cons.2 ⟨?_, fun _ h => absurd h List.not_mem_nil⟩)
      refine wpOp_value (v := .slice (some ⟨w4.heap.size, 0, none⟩) 1 1) (w' := w4.alloc (.cells #[.int .i64 x, .int .i64 y] 25)) 41 rfl rfl rfl (by go_simp) ⟨by (repeat' (first | (with_reducible exact Below.refl _ _) | (with_reducible assumption) | (with_reducible refine Below.alloc ?_ ?_ _) | (with_reducible refine Below.drew ?_) | (with_reducible refine below_drewN ?_ _) | (with_reducible refine Below.setCell ?_ ?_ _) | (with_reducible refine below_call ?_ ?_ (by assumption)) | go_size)), ?_⟩
      simp only [Act.put, List.setIfInBounds_toArray, List.set_cons_zero, List.set_cons_succ]
      refine wpAnyH_all (rs := [7]) (by kernel_rfl) (by decide) (List.forall_mem_cons.2 ⟨?_, fun _ h => absurd h List.not_mem_nil⟩)
      have hB := Lib.hid (show ((World.alloc w4 (.cells #[.int .i64 x, .int .i64 y] 25))).heap[w4.heap.size]? = some (.cells #[.int .i64 x, .int .i64 y] 25 (0, 0)) from heap_alloc_new w4 _)
      refine wpOp_wp rfl rfl (wp_append_any 42 rfl (.tmp 39) (.tmp 41) 30 rfl w2.heap.size 25 i0 _ 16 Try.underlying30 I0.out Z0.out Z1.out Z2.out rfl v39 (0 + 0) _ rfl (OWN.out.alloc _) (.slice (some ⟨w4.heap.size, 0, none⟩) 1 1) rfl 1 [.int .i64 x, .int .i64 y] (.inr ⟨⟨w4.heap.size, 0, none⟩, 1, rfl, rfl, World.news_of_block (cs := #[.int .i64 x, .int .i64 y]) (t := 25) (fr := (0, 0)) hB.out, by simp [Value.oneCell']⟩) (by unfold maxLen; omega) (by omega) (by go_size) ?_)
      intro v42 w7 own42 grow42
      have hb7 : Below w2.heap.size w2 w7 := Below.grown (w := (World.alloc w4 (.cells #[.int .i64 x, .int .i64 y] 25))) (by (repeat' (first | (with_reducible exact Below.refl _ _) | (with_reducible assumption) | (with_reducible refine Below.alloc ?_ ?_ _) | (with_reducible refine Below.drew ?_) | (with_reducible refine below_drewN ?_ _) | (with_reducible refine Below.setCell ?_ ?_ _) | (with_reducible refine below_call ?_ ?_ (by assumption)) | go_size))) grow42 (by go_size) (fun j hj => (World.ownsRow.lt OWN.out j hj).1)
      have hz7 := grow42.size
      try simp only [World.size_alloc, World.size_drew] at hz7
      have OWN7 := Lib.hid own42
      clear own42 grow42 hB OWN GR hb4
      refine ⟨hb7, ?_⟩
      simp only [Act.put, List.setIfInBounds_toArray, List.set_cons_zero, List.set_cons_succ]
      refine wpAnyH_all (rs := [8]) (by kernel_rfl) (by decide) (List.forall_mem_cons.2 ⟨?_, fun _ h => absurd h List.not_mem_nil⟩)
      refine wpOp_value (v := v42) (w' := w7) 6 rfl rfl rfl (by go_simp) ⟨hb7, ?_⟩
      simp only [Act.put, List.setIfInBounds_toArray, List.set_cons_zero, List.set_cons_succ]
      refine wpAnyH_done (by kernel_rfl) ?_ _
      have HSR := fun W (hT : Below w2.heap.size w2 W) => (show Srcs W (.slice none 0 0) (0) ([]) from by exact .inl ⟨rfl, rfl, rfl⟩)
      have HSR7 := Lib.hid (HSR w7 hb7)
      clear HSR
      go_wp2_with (at_builtin; refine wpList_append_any 47 rfl rfl (.tmp 43) (.tmp 46) 30 rfl w2.heap.size 25 i0 _ 16 Try.underlying30 I0.out Z0.out Z1.out Z2.out rfl v42 (0 + 0 + 1) _ rfl OWN7.out (.slice none 0 0) rfl (0) ([]) HSR7.out (by unfold maxLen; omega) (by omega) (by go_size) ?_; intro v47 w8 own8 grow8)
      have hb8 : Below w2.heap.size w2 w8 := Below.grown (w := w7) hb7 grow8 (by go_size) (fun j hj => (World.ownsRow.lt OWN7.out j hj).1)
      have OWN8 := Lib.hid own8
      clear own8 grow8
      go_ret
      refine ⟨_, rfl, ?_, hbw.trans (hb8.mono hbw.size)⟩
      refine TRow.mono (b := w2.heap.size) ?_ (by omega)
      rw [HN.out]
      unfold TRow
      have e1 : (L.take (0) ++ [(x, y)] ++ L.drop (0)).length = 0 + 0 + 1 + (0) := by rw [HL.out]; rfl
      have e2 : flat (L.take (0) ++ [(x, y)] ++ L.drop (0)) = [] ++ flat (L.take (0)) ++ [.int .i64 x, .int .i64 y] ++ ([]) := by rw [HL.out]; rfl
      rw [e1, e2]
      exact OWN8.out

    · refine wpOp_value (v := .slice (some ⟨(World.alloc (w2.drew) (.cells #[] 25)).heap.size, 0, none⟩) 1 1) (w' := (World.alloc (w2.drew) (.cells #[] 25)).alloc (.cells #[.int .i64 x, .int .i64 y] 25)) 41 rfl rfl rfl (by go_simp) ⟨by (repeat' (first | (with_reducible exact Below.refl _ _) | (with_reducible assumption) | (with_reducible refine Below.alloc ?_ ?_ _) | (with_reducible refine Below.drew ?_) | (with_reducible refine below_drewN ?_ _) | (with_reducible refine Below.setCell ?_ ?_ _) | (with_reducible refine below_call ?_ ?_ (by assumption)) | go_size)), ?_⟩
      simp only [Act.put, List.setIfInBounds_toArray, List.set_cons_zero, List.set_cons_succ]
      refine wpAnyH_all (rs := [4]) (by kernel_rfl) (by decide) (List.forall_mem_cons.2 ⟨?_, fun _ h => absurd h List.not_mem_nil⟩)
      have hT : Below w2.heap.size w2 ((World.alloc (World.alloc (w2.drew) (.cells #[] 25)) (.cells #[.int .i64 x, .int .i64 y] 25))) := by (repeat' (first | (with_reducible exact Below.refl _ _) | (with_reducible assumption) | (with_reducible refine Below.alloc ?_ ?_ _) | (with_reducible refine Below.drew ?_) | (with_reducible refine below_drewN ?_ _) | (with_reducible refine Below.setCell ?_ ?_ _) | (with_reducible refine below_call ?_ ?_ (by assumption)) | go_size))
      refine wpOp_wp rfl rfl (wp_append_any 39 rfl (.tmp 35) (.tmp 38) 30 rfl w2.heap.size 25 i0 _ 16 Try.underlying30 I0.out Z0.out Z1.out Z2.out rfl (.slice (some ⟨(w2.drew).heap.size, 0, none⟩) 0 0) 0 [] rfl (O35.out.alloc _) (.slice none 0 0) rfl 0 (flat (L.take 0)) (.inl ⟨rfl, rfl, by simp [flat]⟩) (by unfold maxLen; omega) (by omega) (by go_size) ?_)
      intro v39 w4 own39 grow39
      have hb4 : Below w2.heap.size w2 w4 := Below.grown (w := (World.alloc (World.alloc (w2.drew) (.cells #[] 25)) (.cells #[.int .i64 x, .int .i64 y] 25))) (by (repeat' (first | (with_reducible exact Below.refl _ _) | (with_reducible assumption) | (with_reducible refine Below.alloc ?_ ?_ _) | (with_reducible refine Below.drew ?_) | (with_reducible refine below_drewN ?_ _) | (with_reducible refine Below.setCell ?_ ?_ _) | (with_reducible refine below_call ?_ ?_ (by assumption)) | go_size))) grow39 (by go_size) (fun j hj => (World.ownsRow.lt O35.out j hj).1)
      have hz4 := grow39.size
      try simp only [World.size_alloc, World.size_drew] at hz4
      have OWN := Lib.hid own39
      have GR := Lib.hid grow39
      clear own39 grow39
      refine ⟨hb4, ?_⟩
      simp only [Act.put, List.setIfInBounds_toArray, List.set_cons_zero, List.set_cons_succ]
      refine wpAnyH_all (rs := [7]) (by kernel_rfl) (by decide) (List.forall_mem_cons.2 ⟨?_, fun _ h => absurd h List.not_mem_nil⟩)
      have hB := Lib.hid (show (w4).heap[(World.alloc (w2.drew) (.cells #[] 25)).heap.size]? = some (.cells #[.int .i64 x, .int .i64 y] 25 (0, 0)) from (GR.out.block _ (by go_size) (by simp [Value.ownBlock])).trans (heap_alloc_new (World.alloc (w2.drew) (.cells #[] 25)) _))
      refine wpOp_wp rfl rfl (wp_append_any 42 rfl (.tmp 39) (.tmp 41) 30 rfl w2.heap.size 25 i0 _ 16 Try.underlying30 I0.out Z0.out Z1.out Z2.out rfl v39 (0 + 0) _ rfl OWN.out (.slice (some ⟨(World.alloc (w2.drew) (.cells #[] 25)).heap.size, 0, none⟩) 1 1) rfl 1 [.int .i64 x, .int .i64 y] (.inr ⟨⟨(World.alloc (w2.drew) (.cells #[] 25)).heap.size, 0, none⟩, 1, rfl, rfl, World.news_of_block (cs := #[.int .i64 x, .int .i64 y]) (t := 25) (fr := (0, 0)) hB.out, by simp [Value.oneCell']⟩) (by unfold maxLen; omega) (by omega) (by go_size) ?_)
      intro v42 w7 own42 grow42
      have hb7 : Below w2.heap.size w2 w7 := Below.grown (w := w4) (by (repeat' (first | (with_reducible exact Below.refl _ _) | (with_reducible assumption) | (with_reducible refine Below.alloc ?_ ?_ _) | (with_reducible refine Below.drew ?_) | (with_reducible refine below_drewN ?_ _) | (with_reducible refine Below.setCell ?_ ?_ _) | (with_reducible refine below_call ?_ ?_ (by assumption)) | go_size))) grow42 (by go_size) (fun j hj => (World.ownsRow.lt OWN.out j hj).1)
      have hz7 := grow42.size
      try simp only [World.size_alloc, World.size_drew] at hz7
      have OWN7 := Lib.hid own42
      clear own42 grow42 hB OWN GR hb4
      refine ⟨hb7, ?_⟩
      simp only [Act.put, List.setIfInBounds_toArray, List.set_cons_zero, List.set_cons_succ]
      refine wpAnyH_all (rs := [8]) (by kernel_rfl) (by decide) (List.forall_mem_cons.2 ⟨?_, fun _ h => absurd h List.not_mem_nil⟩)
      refine wpOp_value (v := v42) (w' := w7) 6 rfl rfl rfl (by go_simp) ⟨hb7, ?_⟩
      simp only [Act.put, List.setIfInBounds_toArray, List.set_cons_zero, List.set_cons_succ]
      refine wpAnyH_done (by kernel_rfl) ?_ _
      have HSR := fun W (hT : Below w2.heap.size w2 W) => (show Srcs W (.slice none 0 0) (0) ([]) from by exact .inl ⟨rfl, rfl, rfl⟩)
      have HSR7 := Lib.hid (HSR w7 hb7)
      clear HSR
      go_wp2_with (at_builtin; refine wpList_append_any 47 rfl rfl (.tmp 43) (.tmp 46) 30 rfl w2.heap.size 25 i0 _ 16 Try.underlying30 I0.out Z0.out Z1.out Z2.out rfl v42 (0 + 0 + 1) _ rfl OWN7.out (.slice none 0 0) rfl (0) ([]) HSR7.out (by unfold maxLen; omega) (by omega) (by go_size) ?_; intro v47 w8 own8 grow8)
      have hb8 : Below w2.heap.size w2 w8 := Below.grown (w := w7) hb7 grow8 (by go_size) (fun j hj => (World.ownsRow.lt OWN7.out j hj).1)
      have OWN8 := Lib.hid own8
      clear own8 grow8
      go_ret
      refine ⟨_, rfl, ?_, hbw.trans (hb8.mono hbw.size)⟩
      refine TRow.mono (b := w2.heap.size) ?_ (by omega)
      rw [HN.out]
      unfold TRow
      have e1 : (L.take (0) ++ [(x, y)] ++ L.drop (0)).length = 0 + 0 + 1 + (0) := by rw [HL.out]; rfl
      have e2 : flat (L.take (0) ++ [(x, y)] ++ L.drop (0)) = [] ++ flat (L.take (0)) ++ [.int .i64 x, .int .i64 y] ++ ([]) := by rw [HL.out]; rfl
      rw [e1, e2]
      exact OWN8.out


  · refine wpOp_value (v := .slice (some ⟨(w2.drew).heap.size, 0, none⟩) 1 1) (w' := (w2.drew).alloc (.cells #[.int .i64 x, .int .i64 y] 25)) 41 rfl rfl rfl (by go_simp) ⟨by (repeat' (first | (with_reducible exact Below.refl _ _) | (with_reducible assumption) | (with_reducible refine Below.alloc ?_ ?_ _) | (with_reducible refine Below.drew ?_) | (with_reducible refine below_drewN ?_ _) | (with_reducible refine Below.setCell ?_ ?_ _) | (with_reducible refine below_call ?_ ?_ (by assumption)) | go_size)), ?_⟩
    simp only [Act.put, List.setIfInBounds_toArray, List.set_cons_zero, List.set_cons_succ]
    refine wpAnyH_all (rs := [0]) (by kernel_rfl) (by decide) (List.forall_mem_cons.2 ⟨?_, fun _ h => absurd h List.not_mem_nil⟩)
    refine wpOp_value (v := .slice (some ⟨(World.alloc (w2.drew) (.cells #[.int .i64 x, .int .i64 y] 25)).heap.size, 0, none⟩) 0 0) (w' := (World.alloc (w2.drew) (.cells #[.int .i64 x, .int .i64 y] 25)).alloc (.cells #[] 25)) 35 rfl rfl rfl (by go_simp) ⟨by (repeat' (first | (with_reducible exact Below.refl _ _) | (with_reducible assumption) | (with_reducible refine Below.alloc ?_ ?_ _) | (with_reducible refine Below.drew ?_) | (with_reducible refine below_drewN ?_ _) | (with_reducible refine Below.setCell ?_ ?_ _) | (with_reducible refine below_call ?_ ?_ (by assumption)) | go_size)), ?_⟩
    have O35 := Lib.hid (World.ownsRow_made (base := w2.heap.size) (e := 25) (size := 2) (World.alloc (w2.drew) (.cells #[.int .i64 x, .int .i64 y] 25)) #[] 0 (by go_size) (by unfold maxLen; omega) rfl)
    simp only [Act.put, List.setIfInBounds_toArray, List.set_cons_zero, List.set_cons_succ]
    refine wpAnyH_all (rs := [4]) (by kernel_rfl) (by decide) (List.forall_mem_cons.2 ⟨?_, fun _ h => absurd h List.not_mem_nil⟩)
    have hT : Below w2.heap.size w2 ((World.alloc (World.alloc (w2.drew) (.cells #[.int .i64 x, .int .i64 y] 25)) (.cells #[] 25))) := by (repeat' (first | (with_reducible exact Below.refl _ _) | (with_reducible assumption) | (with_reducible refine Below.alloc ?_ ?_ _) | (with_reducible refine Below.drew ?_) | (with_reducible refine below_drewN ?_ _) | (with_reducible refine Below.setCell ?_ ?_ _) | (with_reducible refine below_call ?_ ?_ (by assumption)) | go_size))
    refine wpOp_wp rfl rfl (wp_append_any 39 rfl (.tmp 35) (.tmp 38) 30 rfl w2.heap.size 25 i0 _ 16 Try.underlying30 I0.out Z0.out Z1.out Z2.out rfl (.slice (some ⟨(World.alloc (w2.drew) (.cells #[.int .i64 x, .int .i64 y] 25)).heap.size, 0, none⟩) 0 0) 0 [] rfl O35.out (.slice none 0 0) rfl 0 (flat (L.take 0)) (.inl ⟨rfl, rfl, by simp [flat]⟩) (by unfold maxLen; omega) (by omega) (by go_size) ?_)
    intro v39 w4 own39 grow39
    have hb4 : Below w2.heap.size w2 w4 := Below.grown (w := (World.alloc (World.alloc (w2.drew) (.cells #[.int .i64 x, .int .i64 y] 25)) (.cells #[] 25))) (by (repeat' (first | (with_reducible exact Below.refl _ _) | (with_reducible assumption) | (with_reducible refine Below.alloc ?_ ?_ _) | (with_reducible refine Below.drew ?_) | (with_reducible refine below_drewN ?_ _) | (with_reducible refine Below.setCell ?_ ?_ _) | (with_reducible refine below_call ?_ ?_ (by assumption)) | go_size))) grow39 (by go_size) (fun j hj => (World.ownsRow.lt O35.out j hj).1)
    have hz4 := grow39.size
    try simp only [World.size_alloc, World.size_drew] at hz4
    have OWN := Lib.hid own39
    have GR := Lib.hid grow39
    clear own39 grow39
    refine ⟨hb4, ?_⟩
    simp only [Act.put, List.setIfInBounds_toArray, List.set_cons_zero, List.set_cons_succ]
    refine wpAnyH_all (rs := [7]) (by kernel_rfl) (by decide) (List.forall_mem_cons.2 ⟨?_, fun _ h => absurd h List.not_mem_nil⟩)
    have hB := Lib.hid (show (w4).heap[(w2.drew).heap.size]? = some (.cells #[.int .i64 x, .int .i64 y] 25 (0, 0)) from (GR.out.block _ (by go_size) (by simp [Value.ownBlock])).trans ((heap_alloc_old (World.alloc (w2.drew) (.cells #[.int .i64 x, .int .i64 y] 25)) _ (by go_size)).trans (heap_alloc_new (w2.drew) _)))
    refine wpOp_wp rfl rfl (wp_append_any 42 rfl (.tmp 39) (.tmp 41) 30 rfl w2.heap.size 25 i0 _ 16 Try.underlying30 I0.out Z0.out Z1.out Z2.out rfl v39 (0 + 0) _ rfl OWN.out (.slice (some ⟨(w2.drew).heap.size, 0, none⟩) 1 1) rfl 1 [.int .i64 x, .int .i64 y] (.inr ⟨⟨(w2.drew).heap.size, 0, none⟩, 1, rfl, rfl, World.news_of_block (cs := #[.int .i64 x, .int .i64 y]) (t := 25) (fr := (0, 0)) hB.out, by simp [Value.oneCell']⟩) (by unfold maxLen; omega) (by omega) (by go_size) ?_)
    intro v42 w7 own42 grow42
    have hb7 : Below w2.heap.size w2 w7 := Below.grown (w := w4) (by (repeat' (first | (with_reducible exact Below.refl _ _) | (with_reducible assumption) | (with_reducible refine Below.alloc ?_ ?_ _) | (with_reducible refine Below.drew ?_) | (with_reducible refine below_drewN ?_ _) | (with_reducible refine Below.setCell ?_ ?_ _) | (with_reducible refine below_call ?_ ?_ (by assumption)) | go_size))) grow42 (by go_size) (fun j hj => (World.ownsRow.lt OWN.out j hj).1)
    have hz7 := grow42.size
    try simp only [World.size_alloc, World.size_drew] at hz7
    have OWN7 := Lib.hid own42
    clear own42 grow42 hB OWN GR hb4
    refine ⟨hb7, ?_⟩
    simp only [Act.put, List.setIfInBounds_toArray, List.set_cons_zero, List.set_cons_succ]
    refine wpAnyH_all (rs := [8]) (by kernel_rfl) (by decide) (List.forall_mem_cons.2 ⟨?_, fun _ h => absurd h List.not_mem_nil⟩)
    refine wpOp_value (v := v42) (w' := w7) 6 rfl rfl rfl (by go_simp) ⟨hb7, ?_⟩
    simp only [Act.put, List.setIfInBounds_toArray, List.set_cons_zero, List.set_cons_succ]
    refine wpAnyH_done (by kernel_rfl) ?_ _
    have HSR := fun W (hT : Below w2.heap.size w2 W) => (show Srcs W (.slice none 0 0) (0) ([]) from by exact .inl ⟨rfl, rfl, rfl⟩)
    have HSR7 := Lib.hid (HSR w7 hb7)
    clear HSR
    go_wp2_with (at_builtin; refine wpList_append_any 47 rfl rfl (.tmp 43) (.tmp 46) 30 rfl w2.heap.size 25 i0 _ 16 Try.underlying30 I0.out Z0.out Z1.out Z2.out rfl v42 (0 + 0 + 1) _ rfl OWN7.out (.slice none 0 0) rfl (0) ([]) HSR7.out (by unfold maxLen; omega) (by omega) (by go_size) ?_; intro v47 w8 own8 grow8)
    have hb8 : Below w2.heap.size w2 w8 := Below.grown (w := w7) hb7 grow8 (by go_size) (fun j hj => (World.ownsRow.lt OWN7.out j hj).1)
    have OWN8 := Lib.hid own8
    clear own8 grow8
    go_ret
    refine ⟨_, rfl, ?_, hbw.trans (hb8.mono hbw.size)⟩
    refine TRow.mono (b := w2.heap.size) ?_ (by omega)
    rw [HN.out]
    unfold TRow
    have e1 : (L.take (0) ++ [(x, y)] ++ L.drop (0)).length = 0 + 0 + 1 + (0) := by rw [HL.out]; rfl
    have e2 : flat (L.take (0) ++ [(x, y)] ++ L.drop (0)) = [] ++ flat (L.take (0)) ++ [.int .i64 x, .int .i64 y] ++ ([]) := by rw [HL.out]; rfl
    rw [e1, e2]
    exact OWN8.out



/-- A turn into its place, once. -/
theorem meSorted_any (L : List (Int × Int)) (v : Value) (b : Nat) (x y : Int) (w : World) (r : TRow w b v L) (gl : GoodL L) (gt : 1 ≤ y ∧ y ≤ 1000000 ∧ 0 ≤ x ∧ x ≤ 999999) (hl : L.length ≤ 1000000) (hb : b ≤ w.heap.size) :
    Calls Try.prog 52 #[v, tv x y] w fun e w' => ∃ v', e = .returned v' ∧ TRow w' b v' (insU (x, y) L) ∧ Below w.heap.size w w' := by
  rcases r.2 with ⟨rfl, h2⟩ | ⟨g, cap, cur, rfl, h2, h3, h4⟩
  · obtain rfl : L = [] := List.eq_nil_of_length_eq_zero (by have := r.1; rw [flat_length] at this; omega)
    exact meSorted_nil b x y w hb
  · refine meSorted_raw w L g cap b x y r ?_ gl gt hl hb
    rcases Nat.lt_or_ge g w.heap.size with hlt | hge
    · exact hlt
    · rw [Array.getElem?_eq_none hge] at h3; cases h3
end Go.Proofs.Ytcfiaacpofpioaa
