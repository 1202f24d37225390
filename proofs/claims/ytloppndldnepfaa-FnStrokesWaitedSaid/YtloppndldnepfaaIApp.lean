/- A number put into a rising list, and whether a list has one: by the model. -/
import Derived.Test.YtloppndldnepfaaStr9
set_option linter.unusedSimpArgs false
set_option linter.unusedVariables false
set_option maxRecDepth 100000
namespace Go.Proofs.Ytloppndldnepfaa
open Go.ChangeShapes Go.WideShapes Go.ChangeAt Go.RowKit

/-- What is appended: nothing at nil, or cells that lie somewhere. -/
def Srcs1 (w : World) (src : Value) (m : Nat) (news : List Value) : Prop :=
  (src = .slice none 0 0 ∧ m = 0 ∧ news = []) ∨ ∃ (ad : Addr) (c : Nat), src = .slice (some ad) m c ∧ news.length = m ∧ (∀ j u, news[j]? = some u → w.cell? (ad.add j) = some u) ∧ ∀ u ∈ news, u.oneCell' = true
section
variable {P : Program}
theorem run_append_one (w : World) (t ty : TypeId) (base : Nat) (e : TypeId) (i : TypeInfo) (z : Value) (bytes : Nat) (ht : P.underlying t = some (.slice e)) (hi : P.info? e = some i) (hz : i.zero = some z)
    (hsize : i.size = 1) (hby : i.bytes = bytes) (hzs : z.cells.size = 1)
    (v : Value) (n : Nat) (xs : List Value) (hown : w.ownsRow base e 1 v n xs) (src : Value) (m : Nat) (news : List Value) (hsrc : Srcs1 w src m news)
    (h63 : n + m ≤ maxLen) (hbytes : (n + m) * bytes ≤ 140737488355328) (hbase : base ≤ w.heap.size) :
    ∃ v' w', (Builtin.append_ #[t, t] ty #[v, src]).run P w = .ok v' w' ∧ w'.ownsRow base e 1 v' (n + m) (xs ++ news) ∧ w.grownBy w' v.ownBlock := by
  rcases hsrc with ⟨rfl, rfl, rfl⟩ | ⟨ad, c, rfl, hl, hn, h1⟩
  · exact ⟨v, w, run_append_owned_none w base t ty e i 1 ht hi v n xs hown, by simpa using hown, grownBy_refl _ _⟩
  · obtain ⟨v', w', hr, h2, h3, -⟩ := run_append_own (P := P) w base t ty e i z 1 bytes ht hi hz hsize hby hzs (by omega) v n xs hown ad m c news (by omega) hn h1 h63 hbytes hbase
    exact ⟨v', w', hr, h2, h3⟩
theorem wp_append_one {o : Oper} {a : Act} {w : World} {K : Act → World → Prop} {Q : Exit → Act → World → Prop} (d : Tmp) (hd : o.dst = some d) (s x : Operand) (t : TypeId)
    (ho : o.op = .call { callee := .builtin .append, args := #[s, x], argTypes := #[t, t] })
    (base : Nat) (e : TypeId) (i : TypeInfo) (z : Value) (bytes : Nat) (ht : P.underlying t = some (.slice e)) (hi : P.info? e = some i) (hz : i.zero = some z)
    (hsize : i.size = 1) (hby : i.bytes = bytes) (hzs : z.cells.size = 1)
    (v : Value) (n : Nat) (xs : List Value) (hs : a.eval s = v) (hown : w.ownsRow base e 1 v n xs) (src : Value) (hx : a.eval x = src) (m : Nat) (news : List Value) (hsrc : Srcs1 w src m news)
    (h63 : n + m ≤ maxLen) (hbytes : (n + m) * bytes ≤ 140737488355328) (hbase : base ≤ w.heap.size)
    (h : ∀ v' w', w'.ownsRow base e 1 v' (n + m) (xs ++ news) → w.grownBy w' v.ownBlock → K (a.put (some d) v') w') : o.wp P a w K Q := by
  obtain ⟨v', w', hr, h2, h3⟩ := run_append_one (P := P) w t o.type base e i z bytes ht hi hz hsize hby hzs v n xs hown src m news hsrc h63 hbytes hbase
  unfold Oper.wp execOp
  simp only [ho, resolve, invoke, builtin, Sem.run_bind, Sem.run_pure, Result.andThen_ok, List.map_toArray, List.map_cons, List.map_nil, hs, hx, hr]
  rw [← hd] at h
  exact h v' w' h2 h3
theorem wpList_append_one {ops : Array Oper} {rest : List Oper} {o : Oper} {a : Act} {w : World} {Q : Exit → Act → World → Prop} (d : Tmp) (hd : o.dst = some d) (hgd : o.guard = none) (s x : Operand) (t : TypeId)
    (ho : o.op = .call { callee := .builtin .append, args := #[s, x], argTypes := #[t, t] })
    (base : Nat) (e : TypeId) (i : TypeInfo) (z : Value) (bytes : Nat) (ht : P.underlying t = some (.slice e)) (hi : P.info? e = some i) (hz : i.zero = some z)
    (hsize : i.size = 1) (hby : i.bytes = bytes) (hzs : z.cells.size = 1)
    (v : Value) (n : Nat) (xs : List Value) (hs : a.eval s = v) (hown : w.ownsRow base e 1 v n xs) (src : Value) (hx : a.eval x = src) (m : Nat) (news : List Value) (hsrc : Srcs1 w src m news)
    (h63 : n + m ≤ maxLen) (hbytes : (n + m) * bytes ≤ 140737488355328) (hbase : base ≤ w.heap.size)
    (h : ∀ v' w', w'.ownsRow base e 1 v' (n + m) (xs ++ news) → w.grownBy w' v.ownBlock → wpList P ops Q rest (a.put (some d) v') w') : wpList P ops Q (o :: rest) a w :=
  wpList_plain hgd fun _ hK => wp_append_one d hd s x t ho base e i z bytes ht hi hz hsize hby hzs v n xs hs hown src hx m news hsrc h63 hbytes hbase fun v' w' h2 h3 => hK _ _ (h v' w' h2 h3)
end
/-- A part of a list in memory, as it lies in a later world. -/
theorem srcsI_part {w W : World} {b g c k n : Nat} {L : List Int} (r : IRow w b (.slice (some ⟨g, 0, none⟩) L.length c) L) (hW : ∀ o, W.cell? ⟨g, o, none⟩ = w.cell? ⟨g, o, none⟩) (c' : Nat) (hkn : k + n ≤ L.length) :
    Srcs1 W (.slice (some ⟨g, k, none⟩) n c') n (ints ((L.drop k).take n)) := by
  refine .inr ⟨⟨g, k, none⟩, c', rfl, ?_, fun j u hu => ?_, fun u hu => ?_⟩
  · rw [ints_length]; simp; omega
  · have hadd : (⟨g, k, none⟩ : Addr).add j = ⟨g, k + j, none⟩ := by unfold Addr.add; split <;> simp_all
    have hj : j < ((L.drop k).take n).length := by
      rw [← ints_length]
      exact (List.getElem?_eq_some_iff.1 hu).1
    simp only [List.length_take, List.length_drop] at hj
    rw [hadd, hW, World.ownsRow.cellAt r (k + j) (by omega), ← hu]
    simp only [ints, List.getElem?_map, List.getElem?_take, List.getElem?_drop]
    rw [if_pos (by omega)]
  · simp only [ints, List.mem_map] at hu
    obtain ⟨y, -, rfl⟩ := hu
    rfl
theorem srcsI_one {w : World} {g : Nat} {x : Int} (h : w.heap[g]? = some (.cells #[.int .i64 x] 3 (0, 0))) : Srcs1 w (.slice (some ⟨g, 0, none⟩) 1 1) 1 [.int .i64 x] :=
  .inr ⟨⟨g, 0, none⟩, 1, rfl, rfl, World.news_of_block (cs := #[.int .i64 x]) (t := 3) (fr := (0, 0)) h, by simp [Value.oneCell']⟩

/-! ### A number put into a rising list -/
def insI (x : Int) : List Int → List Int
  | [] => [x]
  | y :: ys => if y < x then y :: insI x ys else x :: y :: ys
theorem insI_at (x : Int) : ∀ (L : List Int) (k : Nat), k ≤ L.length → (∀ j, j < k → L.getD j 0 < x) → (k < L.length → ¬ L.getD k 0 < x) → insI x L = L.take k ++ [x] ++ L.drop k
  | [], k, hk, _, _ => by
    have : k = 0 := by simpa using hk
    subst this
    simp [insI]
  | y :: ys, 0, _, _, h2 => by
    have h := h2 (by simp)
    simp only [List.getD_cons_zero] at h
    simp [insI, h]
  | y :: ys, k + 1, hk, h1, h2 => by
    have h := h1 0 (by omega)
    simp only [List.getD_cons_zero] at h
    have ih := insI_at x ys k (by simpa using hk) (fun j hj => by simpa using h1 (j + 1) (by omega)) (fun hj => by simpa using h2 (by simpa using hj))
    simp only [insI, h, if_true, ih, List.take_succ_cons, List.drop_succ_cons]
    simp
theorem mem_insI {x z : Int} {L : List Int} : z ∈ insI x L ↔ z = x ∨ z ∈ L := by
  induction L with
  | nil => simp [insI]
  | cons y ys ih =>
    unfold insI
    split
    · simp only [List.mem_cons, ih]; exact ⟨fun h => by rcases h with h | h | h <;> simp [h], fun h => by rcases h with h | h | h <;> simp [h]⟩
    · simp
theorem insI_lt {x : Int} {L : List Int} (h : L.Pairwise (· < ·)) (hx : x ∉ L) : (insI x L).Pairwise (· < ·) := by
  induction L with
  | nil => simp [insI]
  | cons y ys ih =>
    simp only [List.mem_cons, not_or] at hx
    rw [List.pairwise_cons] at h
    unfold insI
    split
    · rename_i hlt
      rw [List.pairwise_cons]
      refine ⟨fun z hz => ?_, ih h.2 hx.2⟩
      rcases mem_insI.1 hz with rfl | hz
      · exact hlt
      · exact h.1 z hz
    · rename_i hlt
      rw [List.pairwise_cons]
      refine ⟨fun z hz => ?_, List.pairwise_cons.2 h⟩
      have hxy : x < y := by omega
      rcases List.mem_cons.1 hz with rfl | hz
      · exact hxy
      · have := h.1 z hz; omega
theorem insI_len (x : Int) (L : List Int) : (insI x L).length = L.length + 1 := by
  induction L with
  | nil => simp [insI]
  | cons y ys ih => unfold insI; split <;> simp [ih]
theorem has_of {L : List Int} {x : Int} {n : Nat} (hn : L.length = n) (h : ∀ j, j < n → L.getD j 0 ≠ x) : x ∉ L := by
  intro hx
  obtain ⟨j, hj, e⟩ := List.mem_iff_getElem.1 hx
  have := h j (by omega)
  rw [List.getD_eq_getElem?_getD, List.getElem?_eq_getElem hj] at this
  exact this e

set_option maxHeartbeats 1600000 in
theorem l1Has_is {r : Bool} (L : List Int) (n : Nat) (hn : L.length = n) (a : Option Addr) (c : Nat) (x : Int) (hr : decide (x ∈ L) = r) (hle : n ≤ 2000000) (w : World) (h1 : IIn w a L) :
    Calls Try.prog 67 #[.slice a n c, .int .i64 x] w (fun e w' => e = .returned (.bool r) ∧ w = w') := by
  have X1 := Lib.hid h1
  have HN1 := Lib.hid hn
  have HT : Hid ((∀ j, j < n → L.getD j 0 ≠ x) → r = false) := fun h => by rw [← hr, decide_eq_false_iff_not]; exact has_of hn h
  have HF : Hid (∀ j, j < n → L.getD j 0 = x → r = true) := fun j hj h => by rw [← hr, decide_eq_true_eq, ← h]; exact getD_mem (by omega)
  clear h1 hn hr
  (go_enter Try.func67, Try.ntmps67)
  go_wp2
  go_loop [9] (fun i => ∃ k : Nat, k ≤ n ∧ i = .int .i64 k ∧ (∀ j, j < k → L.getD j 0 ≠ x)) (fun i => n - (RowKit.intOf i).toNat)
  case atStart => exact ⟨0, Nat.zero_le _, rfl, fun j hj => absurd hj (Nat.not_lt_zero _)⟩
  case round =>
    obtain ⟨k, hk, rfl, hall⟩ := hrel
    have HA := Lib.hid hall
    clear hall
    have i0 : (0 : Int) ≤ (k : Int) := Int.natCast_nonneg _
    by_cases hlt : k < n
    · obtain ⟨g1, o1, rfl, e1, e2⟩ := X1.out k (by have := HN1.out; omega)
      have i1 : (k : Int) < (n : Int) := by omega
      by_cases hxy : L.getD k 0 = x
      · have HR := Lib.hid (HF.out k hlt hxy)
        rw [hxy] at e2
        clear hxy
        go_wp2
        go_ret
        exact ⟨ret_bool HR.out.symm, rfl⟩
      · have HA2 : Hid (∀ j, j < k + 1 → L.getD j 0 ≠ x) := fun j hj => by
          by_cases hjk : j = k
          · subst hjk; exact hxy
          · exact HA.out j (by omega)
        generalize L.getD k 0 = y at e2 hxy
        have hne : (y == x) = false := by simpa using hxy
        go_wp2
        go_round
        case rel => exact ⟨k + 1, by omega, by go_num, HA2.out⟩
        case measure => simp [RowKit.intOf]; omega
    · obtain rfl : k = n := by omega
      have HR := Lib.hid (HT.out HA.out)
      go_wp2
      go_ret
      exact ⟨ret_bool HR.out.symm, rfl⟩

set_option maxHeartbeats 1600000 in
theorem l1Put_any (L : List Int) (v : Value) (b : Nat) (x : Int) (hx : x ∉ L) (hle : L.length ≤ 1000000) (w : World) (r : IRow w b v L) :
    Calls Try.prog 68 #[v, .int .i64 x] w (fun e w' => ∃ v', e = .returned v' ∧ IRow w' w.heap.size v' (insI x L) ∧ Below w.heap.size w w') := by
  obtain ⟨i0, hi0, hz0, hz1, hz2⟩ := info_parts Try.infoInt
  have I0 := Lib.hid hi0
  have Z0 := Lib.hid hz0
  have Z1 := Lib.hid hz1
  have Z2 := Lib.hid hz2
  clear hi0 hz0 hz1 hz2
  obtain ⟨a1, c1, rfl, l1, m1, x1⟩ := r.cells
  have R := Lib.hid r
  cases a1 with
  | none =>
    have hl0 : L = [] := by
      rcases Nat.eq_zero_or_pos L.length with h | h
      · exact List.eq_nil_of_length_eq_zero h
      · obtain ⟨g, e, -⟩ := x1 0 h; cases e
    subst hl0
    have hc0 : c1 = 0 := by
      rcases r.2 with ⟨h1, h2⟩ | ⟨g, cap, cur, h1, h2⟩
      · simpa using h1
      · simp at h1
    subst hc0
    have HN : Hid (insI x [] = ([] : List Int).take 0 ++ [x] ++ ([] : List Int).drop 0) := Lib.hid rfl
    have HS1 : Hid (Srcs1 (w.alloc (.cells #[] 3)) (.slice none 0 0) 0 (ints (([] : List Int).take 0))) := Lib.hid (.inl ⟨rfl, rfl, rfl⟩)
    have HS2F : Hid (∀ W, Below w.heap.size w W → Srcs1 W (.slice none 0 0) 0 []) := Lib.hid (fun W _ => .inl ⟨rfl, rfl, rfl⟩)
    clear r x1
    have O34 := Lib.hid (World.ownsRow_made (base := w.heap.size) (e := 3) (size := 1) w #[] 0 (by go_size) (by unfold maxLen; omega) rfl)
    (go_enter Try.func68, Try.ntmps68)
    go_wp2
    go_loop [5] (fun i => i = .int .i64 0) (fun _ => 0)
    case atStart => rfl
    case round =>
      subst hrel
      have tok1 : True := trivial
      have tok2 : True := trivial
      go_wp2_with (first
        | (at_builtin; have _t := tok1; refine wpList_append_one 38 rfl rfl (.tmp 34) (.tmp 37) 24 rfl w.heap.size 3 i0 _ 8 Try.underlying24 I0.out Z0.out Z1.out Z2.out rfl (.slice (some ⟨w.heap.size, 0, none⟩) 0 0) 0 [] rfl O34.out (.slice none 0 0) rfl (0) (ints (([] : List Int).take 0)) HS1.out (by unfold maxLen; omega) (by omega) (by go_size) ?_; intro v38 w4 own38 grow38; clear tok1 _t; have hb4 : Below w.heap.size w w4 := Below.grown (by (repeat' (first | (with_reducible exact Below.refl _ _) | (with_reducible assumption) | (with_reducible refine Below.alloc ?_ ?_ _) | (with_reducible refine Below.drew ?_) | (with_reducible refine below_drewN ?_ _) | (with_reducible refine Below.setCell ?_ ?_ _) | (with_reducible refine below_call ?_ ?_ (by assumption)) | go_size))) grow38 (by go_size) (fun j hj => (World.ownsRow.lt O34.out j hj).1); have hz4 := hb4.size; have O38 := Lib.hid own38; have HS2 := Lib.hid (HS2F.out w4 hb4); clear own38 grow38)
        | (at_builtin; have _t := tok2; have _s := O38; refine wpList_append_one 42 rfl rfl (.tmp 39) (.tmp 41) 24 rfl w.heap.size 3 i0 _ 8 Try.underlying24 I0.out Z0.out Z1.out Z2.out rfl v38 (0 + 0) _ rfl (O38.out.alloc _) (.slice (some ⟨w4.heap.size, 0, none⟩) 1 1) rfl 1 [.int .i64 x] (srcsI_one (heap_alloc_new w4 _)) (by unfold maxLen; omega) (by omega) (by go_size) ?_; intro v42 w5 own42 grow42; clear tok2 _t _s; have hb5 : Below w.heap.size w w5 := Below.grown (by (repeat' (first | (with_reducible exact Below.refl _ _) | (with_reducible assumption) | (with_reducible refine Below.alloc ?_ ?_ _) | (with_reducible refine Below.drew ?_) | (with_reducible refine below_drewN ?_ _) | (with_reducible refine Below.setCell ?_ ?_ _) | (with_reducible refine below_call ?_ ?_ (by assumption)) | go_size))) grow42 (by go_size) (fun j hj => (World.ownsRow.lt O38.out j hj).1); have hz5 := hb5.size; have O42 := Lib.hid own42; have HS3 := Lib.hid (HS2F.out w5 hb5); clear own42 grow42)
        | (at_builtin; have _s := O42; refine wpList_append_one 47 rfl rfl (.tmp 43) (.tmp 46) 24 rfl w.heap.size 3 i0 _ 8 Try.underlying24 I0.out Z0.out Z1.out Z2.out rfl v42 (0 + 0 + 1) _ rfl O42.out (.slice none 0 0) rfl (0) ([]) HS3.out (by unfold maxLen; omega) (by omega) (by go_size) ?_; intro v47 w6 own47 grow47; clear _s; have hb6 : Below w.heap.size w w6 := Below.grown (by (repeat' (first | (with_reducible exact Below.refl _ _) | (with_reducible assumption) | (with_reducible refine Below.alloc ?_ ?_ _) | (with_reducible refine Below.drew ?_) | (with_reducible refine below_drewN ?_ _) | (with_reducible refine Below.setCell ?_ ?_ _) | (with_reducible refine below_call ?_ ?_ (by assumption)) | go_size))) grow47 (by go_size) (fun j hj => (World.ownsRow.lt O42.out j hj).1); have O47 := Lib.hid own47; clear own47 grow47))
      go_ret
      refine ⟨_, rfl, ?_, hb6⟩
      rw [HN.out]
      unfold IRow
      have e1 : (([] : List Int).take 0 ++ [x] ++ ([] : List Int).drop 0).length = 0 + 0 + 1 + (0) := by simp <;> omega
      have e2 : ints (([] : List Int).take 0 ++ [x] ++ ([] : List Int).drop 0) = [] ++ ints (([] : List Int).take 0) ++ [.int .i64 x] ++ ([]) := by simp [ints]
      rw [e1, e2]
      exact O47.out
  | some ad =>
    obtain ⟨g1, off, sp⟩ := ad
    have hg : off = 0 ∧ sp = none ∧ g1 < w.heap.size := by
      rcases r.2 with ⟨h1, h2⟩ | ⟨g, cap, cur, h1, h2, h3, -⟩
      · simp at h1
      · simp only [Value.slice.injEq, Option.some.injEq, Addr.mk.injEq] at h1
        obtain ⟨⟨rfl, rfl, rfl⟩, -⟩ := h1
        refine ⟨rfl, rfl, ?_⟩
        rcases Nat.lt_or_ge g1 w.heap.size with h | h
        · exact h
        · rw [Array.getElem?_eq_none h] at h3; cases h3
    obtain ⟨rfl, rfl, hg1⟩ := hg
    have hx1 : ∀ k, k < L.length → w.cell? ⟨g1, k, none⟩ = some (.int .i64 (L.getD k 0)) := fun k hk => by
      obtain ⟨g, e, -, -, e2⟩ := x1 k hk
      obtain rfl : g1 = g := by simpa using e
      exact e2
    have X1 := Lib.hid hx1
    clear x1 hx1 r
    have O34 := Lib.hid (World.ownsRow_made (base := w.heap.size) (e := 3) (size := 1) w #[] 0 (by go_size) (by unfold maxLen; omega) rfl)
    have HXN := Lib.hid hx
    clear hx
    (go_enter Try.func68, Try.ntmps68)
    go_wp2
    go_loop [5] (fun i => ∃ k : Nat, k ≤ L.length ∧ i = .int .i64 k ∧ (∀ j, j < k → L.getD j 0 < x)) (fun i => L.length - (RowKit.intOf i).toNat)
    case atStart => exact ⟨0, Nat.zero_le _, rfl, fun j hj => absurd hj (Nat.not_lt_zero _)⟩
    case round =>
      obtain ⟨k, hk, rfl, hall⟩ := hrel
      have HA := Lib.hid hall
      clear hall
      have i0' : (0 : Int) ≤ (k : Int) := Int.natCast_nonneg _
      have kc : ¬ c1 < k := by omega
      by_cases hlt : k < L.length
      · have e2 := X1.out k hlt
        have i1 : (k : Int) < (L.length : Int) := by omega
        have hu1 : g1 < w.heap.size := hg1
        by_cases hxy : L.getD k 0 < x
        · have HA2 : Hid (∀ j, j < k + 1 → L.getD j 0 < x) := fun j hj => by
            by_cases hjk : j = k
            · subst hjk; exact hxy
            · exact HA.out j (by omega)
          generalize L.getD k 0 = y at e2 hxy
          go_wp2
          go_round
          case rel => exact ⟨k + 1, by omega, by go_num, HA2.out⟩
          case measure => simp [RowKit.intOf]; omega
        · have HN := Lib.hid (insI_at x L k hk HA.out (fun _ => hxy))
          have hne : (L.getD k 0 == x) = false := by
            have : L.getD k 0 ≠ x := fun e => HXN.out (by rw [← e]; exact getD_mem hlt)
            simpa using this
          generalize L.getD k 0 = y at e2 hxy hne
          have hcap : ¬ c1 = k := by omega
          have HS1 : Hid (Srcs1 (w.alloc (.cells #[] 3)) (.slice (some ⟨g1, 0, none⟩) k c1) k (ints (L.take k))) := Lib.hid (by
            have h := srcsI_part (W := w.alloc (.cells #[] 3)) (k := 0) (n := k) R.out (fun o => World.cell?_alloc_past _ _ _ (by simpa using hg1)) c1 (by omega)
            simpa using h)
          have HS2F : Hid (∀ W, Below w.heap.size w W → Srcs1 W (.slice (some ⟨g1, k, none⟩) (L.length - k) (c1 - k)) (L.length - k) (ints (L.drop k))) := Lib.hid (fun W hW => by
            have h := srcsI_part (W := W) (k := k) (n := L.length - k) R.out (fun o => (bcell hW).1 _ _ hg1) (c1 - k) (by omega)
            rwa [List.take_of_length_le (by simp)] at h)
          have tok1 : True := trivial
          have tok2 : True := trivial
          go_wp2_with (first
            | (at_builtin; have _t := tok1; refine wpList_append_one 38 rfl rfl (.tmp 34) (.tmp 37) 24 rfl w.heap.size 3 i0 _ 8 Try.underlying24 I0.out Z0.out Z1.out Z2.out rfl (.slice (some ⟨w.heap.size, 0, none⟩) 0 0) 0 [] rfl O34.out (.slice (some ⟨g1, 0, none⟩) k c1) rfl (k) (ints (L.take k)) HS1.out (by unfold maxLen; omega) (by omega) (by go_size) ?_; intro v38 w4 own38 grow38; clear tok1 _t; have hb4 : Below w.heap.size w w4 := Below.grown (by (repeat' (first | (with_reducible exact Below.refl _ _) | (with_reducible assumption) | (with_reducible refine Below.alloc ?_ ?_ _) | (with_reducible refine Below.drew ?_) | (with_reducible refine below_drewN ?_ _) | (with_reducible refine Below.setCell ?_ ?_ _) | (with_reducible refine below_call ?_ ?_ (by assumption)) | go_size))) grow38 (by go_size) (fun j hj => (World.ownsRow.lt O34.out j hj).1); have hz4 := hb4.size; have O38 := Lib.hid own38; have HS2 := Lib.hid (HS2F.out w4 hb4); clear own38 grow38)
            | (at_builtin; have _t := tok2; have _s := O38; refine wpList_append_one 42 rfl rfl (.tmp 39) (.tmp 41) 24 rfl w.heap.size 3 i0 _ 8 Try.underlying24 I0.out Z0.out Z1.out Z2.out rfl v38 (0 + k) _ rfl (O38.out.alloc _) (.slice (some ⟨w4.heap.size, 0, none⟩) 1 1) rfl 1 [.int .i64 x] (srcsI_one (heap_alloc_new w4 _)) (by unfold maxLen; omega) (by omega) (by go_size) ?_; intro v42 w5 own42 grow42; clear tok2 _t _s; have hb5 : Below w.heap.size w w5 := Below.grown (by (repeat' (first | (with_reducible exact Below.refl _ _) | (with_reducible assumption) | (with_reducible refine Below.alloc ?_ ?_ _) | (with_reducible refine Below.drew ?_) | (with_reducible refine below_drewN ?_ _) | (with_reducible refine Below.setCell ?_ ?_ _) | (with_reducible refine below_call ?_ ?_ (by assumption)) | go_size))) grow42 (by go_size) (fun j hj => (World.ownsRow.lt O38.out j hj).1); have hz5 := hb5.size; have O42 := Lib.hid own42; have HS3 := Lib.hid (HS2F.out w5 hb5); clear own42 grow42)
            | (at_builtin; have _s := O42; refine wpList_append_one 47 rfl rfl (.tmp 43) (.tmp 46) 24 rfl w.heap.size 3 i0 _ 8 Try.underlying24 I0.out Z0.out Z1.out Z2.out rfl v42 (0 + k + 1) _ rfl O42.out (.slice (some ⟨g1, k, none⟩) (L.length - k) (c1 - k)) rfl (L.length - k) (ints (L.drop k)) HS3.out (by unfold maxLen; omega) (by omega) (by go_size) ?_; intro v47 w6 own47 grow47; clear _s; have hb6 : Below w.heap.size w w6 := Below.grown (by (repeat' (first | (with_reducible exact Below.refl _ _) | (with_reducible assumption) | (with_reducible refine Below.alloc ?_ ?_ _) | (with_reducible refine Below.drew ?_) | (with_reducible refine below_drewN ?_ _) | (with_reducible refine Below.setCell ?_ ?_ _) | (with_reducible refine below_call ?_ ?_ (by assumption)) | go_size))) grow47 (by go_size) (fun j hj => (World.ownsRow.lt O42.out j hj).1); have O47 := Lib.hid own47; clear own47 grow47))
          go_ret
          refine ⟨_, rfl, ?_, hb6⟩
          rw [HN.out]
          unfold IRow
          have e1 : (L.take k ++ [x] ++ L.drop k).length = 0 + k + 1 + (L.length - k) := by simp <;> omega
          have e2 : ints (L.take k ++ [x] ++ L.drop k) = [] ++ ints (L.take k) ++ [.int .i64 x] ++ (ints (L.drop k)) := by simp [ints]
          rw [e1, e2]
          exact O47.out
      · obtain rfl : k = L.length := by omega
        have HN := Lib.hid (insI_at x L L.length hk HA.out (fun h => absurd h (Nat.lt_irrefl _)))
        have HS1 : Hid (Srcs1 (w.alloc (.cells #[] 3)) (.slice (some ⟨g1, 0, none⟩) L.length c1) L.length (ints (L.take L.length))) := Lib.hid (by
          have h := srcsI_part (W := w.alloc (.cells #[] 3)) (k := 0) (n := L.length) R.out (fun o => World.cell?_alloc_past _ _ _ (by simpa using hg1)) c1 (by omega)
          simpa using h)
        by_cases hcap : c1 = L.length
        · have HS2F : Hid (∀ W, Below w.heap.size w W → Srcs1 W (.slice (some ⟨g1, 0, none⟩) 0 0) 0 []) := Lib.hid (fun W _ => .inr ⟨⟨g1, 0, none⟩, 0, rfl, rfl, fun j u hu => by simp at hu, fun u hu => by simp at hu⟩)
          subst hcap
          have tok1 : True := trivial
          have tok2 : True := trivial
          go_wp2_with (first
            | (at_builtin; have _t := tok1; refine wpList_append_one 38 rfl rfl (.tmp 34) (.tmp 37) 24 rfl w.heap.size 3 i0 _ 8 Try.underlying24 I0.out Z0.out Z1.out Z2.out rfl (.slice (some ⟨w.heap.size, 0, none⟩) 0 0) 0 [] rfl O34.out (.slice (some ⟨g1, 0, none⟩) L.length L.length) rfl (L.length) (ints (L.take L.length)) HS1.out (by unfold maxLen; omega) (by omega) (by go_size) ?_; intro v38 w4 own38 grow38; clear tok1 _t; have hb4 : Below w.heap.size w w4 := Below.grown (by (repeat' (first | (with_reducible exact Below.refl _ _) | (with_reducible assumption) | (with_reducible refine Below.alloc ?_ ?_ _) | (with_reducible refine Below.drew ?_) | (with_reducible refine below_drewN ?_ _) | (with_reducible refine Below.setCell ?_ ?_ _) | (with_reducible refine below_call ?_ ?_ (by assumption)) | go_size))) grow38 (by go_size) (fun j hj => (World.ownsRow.lt O34.out j hj).1); have hz4 := hb4.size; have O38 := Lib.hid own38; have HS2 := Lib.hid (HS2F.out w4 hb4); clear own38 grow38)
            | (at_builtin; have _t := tok2; have _s := O38; refine wpList_append_one 42 rfl rfl (.tmp 39) (.tmp 41) 24 rfl w.heap.size 3 i0 _ 8 Try.underlying24 I0.out Z0.out Z1.out Z2.out rfl v38 (0 + L.length) _ rfl (O38.out.alloc _) (.slice (some ⟨w4.heap.size, 0, none⟩) 1 1) rfl 1 [.int .i64 x] (srcsI_one (heap_alloc_new w4 _)) (by unfold maxLen; omega) (by omega) (by go_size) ?_; intro v42 w5 own42 grow42; clear tok2 _t _s; have hb5 : Below w.heap.size w w5 := Below.grown (by (repeat' (first | (with_reducible exact Below.refl _ _) | (with_reducible assumption) | (with_reducible refine Below.alloc ?_ ?_ _) | (with_reducible refine Below.drew ?_) | (with_reducible refine below_drewN ?_ _) | (with_reducible refine Below.setCell ?_ ?_ _) | (with_reducible refine below_call ?_ ?_ (by assumption)) | go_size))) grow42 (by go_size) (fun j hj => (World.ownsRow.lt O38.out j hj).1); have hz5 := hb5.size; have O42 := Lib.hid own42; have HS3 := Lib.hid (HS2F.out w5 hb5); clear own42 grow42)
            | (at_builtin; have _s := O42; refine wpList_append_one 47 rfl rfl (.tmp 43) (.tmp 46) 24 rfl w.heap.size 3 i0 _ 8 Try.underlying24 I0.out Z0.out Z1.out Z2.out rfl v42 (0 + L.length + 1) _ rfl O42.out (.slice (some ⟨g1, 0, none⟩) 0 0) rfl (0) ([]) HS3.out (by unfold maxLen; omega) (by omega) (by go_size) ?_; intro v47 w6 own47 grow47; clear _s; have hb6 : Below w.heap.size w w6 := Below.grown (by (repeat' (first | (with_reducible exact Below.refl _ _) | (with_reducible assumption) | (with_reducible refine Below.alloc ?_ ?_ _) | (with_reducible refine Below.drew ?_) | (with_reducible refine below_drewN ?_ _) | (with_reducible refine Below.setCell ?_ ?_ _) | (with_reducible refine below_call ?_ ?_ (by assumption)) | go_size))) grow47 (by go_size) (fun j hj => (World.ownsRow.lt O42.out j hj).1); have O47 := Lib.hid own47; clear own47 grow47))
          go_ret
          refine ⟨_, rfl, ?_, hb6⟩
          rw [HN.out]
          unfold IRow
          have e1 : (L.take L.length ++ [x] ++ L.drop L.length).length = 0 + L.length + 1 + (0) := by simp <;> omega
          have e2 : ints (L.take L.length ++ [x] ++ L.drop L.length) = [] ++ ints (L.take L.length) ++ [.int .i64 x] ++ ([]) := by simp [ints]
          rw [e1, e2]
          exact O47.out
        · have HS2F : Hid (∀ W, Below w.heap.size w W → Srcs1 W (.slice (some ⟨g1, L.length, none⟩) 0 (c1 - L.length)) 0 []) := Lib.hid (fun W _ => .inr ⟨⟨g1, L.length, none⟩, _, rfl, rfl, fun j u hu => by simp at hu, fun u hu => by simp at hu⟩)
          have tok1 : True := trivial
          have tok2 : True := trivial
          go_wp2_with (first
            | (at_builtin; have _t := tok1; refine wpList_append_one 38 rfl rfl (.tmp 34) (.tmp 37) 24 rfl w.heap.size 3 i0 _ 8 Try.underlying24 I0.out Z0.out Z1.out Z2.out rfl (.slice (some ⟨w.heap.size, 0, none⟩) 0 0) 0 [] rfl O34.out (.slice (some ⟨g1, 0, none⟩) L.length c1) rfl (L.length) (ints (L.take L.length)) HS1.out (by unfold maxLen; omega) (by omega) (by go_size) ?_; intro v38 w4 own38 grow38; clear tok1 _t; have hb4 : Below w.heap.size w w4 := Below.grown (by (repeat' (first | (with_reducible exact Below.refl _ _) | (with_reducible assumption) | (with_reducible refine Below.alloc ?_ ?_ _) | (with_reducible refine Below.drew ?_) | (with_reducible refine below_drewN ?_ _) | (with_reducible refine Below.setCell ?_ ?_ _) | (with_reducible refine below_call ?_ ?_ (by assumption)) | go_size))) grow38 (by go_size) (fun j hj => (World.ownsRow.lt O34.out j hj).1); have hz4 := hb4.size; have O38 := Lib.hid own38; have HS2 := Lib.hid (HS2F.out w4 hb4); clear own38 grow38)
            | (at_builtin; have _t := tok2; have _s := O38; refine wpList_append_one 42 rfl rfl (.tmp 39) (.tmp 41) 24 rfl w.heap.size 3 i0 _ 8 Try.underlying24 I0.out Z0.out Z1.out Z2.out rfl v38 (0 + L.length) _ rfl (O38.out.alloc _) (.slice (some ⟨w4.heap.size, 0, none⟩) 1 1) rfl 1 [.int .i64 x] (srcsI_one (heap_alloc_new w4 _)) (by unfold maxLen; omega) (by omega) (by go_size) ?_; intro v42 w5 own42 grow42; clear tok2 _t _s; have hb5 : Below w.heap.size w w5 := Below.grown (by (repeat' (first | (with_reducible exact Below.refl _ _) | (with_reducible assumption) | (with_reducible refine Below.alloc ?_ ?_ _) | (with_reducible refine Below.drew ?_) | (with_reducible refine below_drewN ?_ _) | (with_reducible refine Below.setCell ?_ ?_ _) | (with_reducible refine below_call ?_ ?_ (by assumption)) | go_size))) grow42 (by go_size) (fun j hj => (World.ownsRow.lt O38.out j hj).1); have hz5 := hb5.size; have O42 := Lib.hid own42; have HS3 := Lib.hid (HS2F.out w5 hb5); clear own42 grow42)
            | (at_builtin; have _s := O42; refine wpList_append_one 47 rfl rfl (.tmp 43) (.tmp 46) 24 rfl w.heap.size 3 i0 _ 8 Try.underlying24 I0.out Z0.out Z1.out Z2.out rfl v42 (0 + L.length + 1) _ rfl O42.out (.slice (some ⟨g1, L.length, none⟩) 0 (c1 - L.length)) rfl (0) ([]) HS3.out (by unfold maxLen; omega) (by omega) (by go_size) ?_; intro v47 w6 own47 grow47; clear _s; have hb6 : Below w.heap.size w w6 := Below.grown (by (repeat' (first | (with_reducible exact Below.refl _ _) | (with_reducible assumption) | (with_reducible refine Below.alloc ?_ ?_ _) | (with_reducible refine Below.drew ?_) | (with_reducible refine below_drewN ?_ _) | (with_reducible refine Below.setCell ?_ ?_ _) | (with_reducible refine below_call ?_ ?_ (by assumption)) | go_size))) grow47 (by go_size) (fun j hj => (World.ownsRow.lt O42.out j hj).1); have O47 := Lib.hid own47; clear own47 grow47))
          go_ret
          refine ⟨_, rfl, ?_, hb6⟩
          rw [HN.out]
          unfold IRow
          have e1 : (L.take L.length ++ [x] ++ L.drop L.length).length = 0 + L.length + 1 + (0) := by simp <;> omega
          have e2 : ints (L.take L.length ++ [x] ++ L.drop L.length) = [] ++ ints (L.take L.length) ++ [.int .i64 x] ++ ([]) := by simp [ints]
          rw [e1, e2]
          exact O47.out

end Go.Proofs.Ytloppndldnepfaa
