/- The tune that begins with another phrase: by the program and by the model. -/
import Derived.Test.YtijnppomeoaebaaBel4
import Derived.Test.YtijnppomeoaebaaOrder
import Derived.Test.YtijnppomeoaebaaPivot
import Derived.Lib.AppendZeros
set_option linter.unusedSimpArgs false
set_option linter.unusedVariables false
set_option maxRecDepth 100000
namespace Go.Proofs.Ytijnppomeoaebaa
open Go.ChangeShapes Go.WideShapes Go.ChangeAt Go.RowKit

/-- What is appended: nothing at nil, or cells that lie somewhere. -/
def Srcs1 (w : World) (src : Value) (m : Nat) (news : List Value) : Prop :=
  (src = .slice none 0 0 ∧ m = 0 ∧ news = []) ∨ ∃ (ad : Addr) (c : Nat), src = .slice (some ad) m c ∧ news.length = m ∧ (∀ j u, news[j]? = some u → w.cell? (ad.add j) = some u) ∧ ∀ u ∈ news, u.oneCell' = true
theorem run_append_one {P : Program} (w : World) (t ty : TypeId) (base : Nat) (e : TypeId) (i : TypeInfo) (z : Value) (bytes : Nat) (ht : P.underlying t = some (.slice e)) (hi : P.info? e = some i) (hz : i.zero = some z)
    (hsize : i.size = 1) (hby : i.bytes = bytes) (hzs : z.cells.size = 1)
    (v : Value) (n : Nat) (xs : List Value) (hown : w.ownsRow base e 1 v n xs) (src : Value) (m : Nat) (news : List Value) (hsrc : Srcs1 w src m news)
    (h63 : n + m ≤ maxLen) (hbytes : (n + m) * bytes ≤ 140737488355328) (hbase : base ≤ w.heap.size) :
    ∃ v' w', (Builtin.append_ #[t, t] ty #[v, src]).run P w = .ok v' w' ∧ w'.ownsRow base e 1 v' (n + m) (xs ++ news) ∧ w.grownBy w' v.ownBlock := by
  rcases hsrc with ⟨rfl, rfl, rfl⟩ | ⟨ad, c, rfl, hl, hn, h1⟩
  · exact ⟨v, w, run_append_owned_none w base t ty e i 1 ht hi v n xs hown, by simpa using hown, grownBy_refl _ _⟩
  · obtain ⟨v', w', hr, h2, h3, -⟩ := run_append_own (P := P) w base t ty e i z 1 bytes ht hi hz hsize hby hzs (by omega) v n xs hown ad m c news (by omega) hn h1 h63 hbytes hbase
    exact ⟨v', w', hr, h2, h3⟩
theorem wp_append_one {P : Program} {o : Oper} {a : Act} {w : World} {K : Act → World → Prop} {Q : Exit → Act → World → Prop} (d : Tmp) (hd : o.dst = some d) (s x : Operand) (t : TypeId)
    (ho : o.op = .call { callee := .builtin .append, args := #[s, x], argTypes := #[t, t] })
    (base : Nat) (e : TypeId) (i : TypeInfo) (z : Value) (bytes : Nat) (ht : P.underlying t = some (.slice e)) (hi : P.info? e = some i) (hz : i.zero = some z)
    (hsize : i.size = 1) (hby : i.bytes = bytes) (hzs : z.cells.size = 1)
    (v : Value) (n : Nat) (xs : List Value) (hs : a.eval s = v) (hown : w.ownsRow base e 1 v n xs) (src : Value) (hx : a.eval x = src) (m : Nat) (news : List Value) (hsrc : Srcs1 w src m news)
    (h63 : n + m ≤ maxLen) (hbytes : (n + m) * bytes ≤ 140737488355328) (hbase : base ≤ w.heap.size)
    (h : ∀ v' w', w'.ownsRow base e 1 v' (n + m) (xs ++ news) → w.grownBy w' v.ownBlock → K (a.put (some d) v') w') : o.wp P a w K Q := by
  obtain ⟨v', w', hr, h2, h3⟩ := run_append_one (P := P) w t o.type base e i z bytes ht hi hz hsize hby hzs v n xs hown src m news hsrc h63 hbytes hbase
  unfold Oper.wp execOp
  simp only [ho, resolve, invoke, builtin, Sem.run_bind, Sem.run_pure, Result.andThen_ok, List.map_toArray, List.map_cons, List.map_nil, hs, hx, hr]
  rw [← hd] at h
  exact h v' w' h2 h3
theorem wpList_append_one {P : Program} {ops : Array Oper} {rest : List Oper} {o : Oper} {a : Act} {w : World} {Q : Exit → Act → World → Prop} (d : Tmp) (hd : o.dst = some d) (hgd : o.guard = none) (s x : Operand) (t : TypeId)
    (ho : o.op = .call { callee := .builtin .append, args := #[s, x], argTypes := #[t, t] })
    (base : Nat) (e : TypeId) (i : TypeInfo) (z : Value) (bytes : Nat) (ht : P.underlying t = some (.slice e)) (hi : P.info? e = some i) (hz : i.zero = some z)
    (hsize : i.size = 1) (hby : i.bytes = bytes) (hzs : z.cells.size = 1)
    (v : Value) (n : Nat) (xs : List Value) (hs : a.eval s = v) (hown : w.ownsRow base e 1 v n xs) (src : Value) (hx : a.eval x = src) (m : Nat) (news : List Value) (hsrc : Srcs1 w src m news)
    (h63 : n + m ≤ maxLen) (hbytes : (n + m) * bytes ≤ 140737488355328) (hbase : base ≤ w.heap.size)
    (h : ∀ v' w', w'.ownsRow base e 1 v' (n + m) (xs ++ news) → w.grownBy w' v.ownBlock → wpList P ops Q rest (a.put (some d) v') w') : wpList P ops Q (o :: rest) a w :=
  wpList_plain hgd fun _ hK => wp_append_one d hd s x t ho base e i z bytes ht hi hz hsize hby hzs v n xs hs hown src hx m news hsrc h63 hbytes hbase fun v' w' h2 h3 => hK _ _ (h v' w' h2 h3)
/-- What is appended: a list of texts that lies somewhere. -/
theorem srcsX_at {w : World} {b off c : Nat} {L : List (List UInt8)} (h : XIn w (some ⟨b, off, none⟩) L) : Srcs1 w (.slice (some ⟨b, off, none⟩) L.length c) L.length (texts L) := by
  refine .inr ⟨⟨b, off, none⟩, c, rfl, texts_length L, fun j u hu => ?_, fun u hu => ?_⟩
  · have hadd : (⟨b, off, none⟩ : Addr).add j = ⟨b, off + j, none⟩ := by unfold Addr.add; split <;> simp_all
    have hj : j < L.length := by
      rw [← texts_length]
      exact (List.getElem?_eq_some_iff.1 hu).1
    obtain ⟨b', o', e1, -, e2⟩ := h j hj
    obtain ⟨rfl, rfl⟩ : b = b' ∧ off = o' := by simpa using e1
    rw [hadd, e2, ← hu, texts_get L j hj]
  · simp only [texts, List.mem_map] at hu
    obtain ⟨y, -, rfl⟩ := hu
    rfl
theorem XIn.drop {w : World} {b off : Nat} {L : List (List UInt8)} (h : XIn w (some ⟨b, off, none⟩) L) (k : Nat) : XIn w (some ⟨b, off + k, none⟩) (L.drop k) := fun j hj => by
  rw [List.length_drop] at hj
  obtain ⟨b', o', e1, e2, e3⟩ := h (k + j) (by omega)
  obtain ⟨rfl, rfl⟩ : b = b' ∧ off = o' := by simpa using e1
  refine ⟨b, off + k, rfl, e2, ?_⟩
  rw [Nat.add_assoc, e3]
  simp [List.getD_eq_getElem?_getD]
theorem XIn.take {w : World} {b off : Nat} {L : List (List UInt8)} (h : XIn w (some ⟨b, off, none⟩) L) (k : Nat) : XIn w (some ⟨b, off, none⟩) (L.take k) := fun j hj => by
  rw [List.length_take] at hj
  obtain ⟨b', o', e1, e2, e3⟩ := h j (by omega)
  obtain ⟨rfl, rfl⟩ : b = b' ∧ off = o' := by simpa using e1
  refine ⟨b, off, rfl, e2, ?_⟩
  rw [e3]
  simp [List.getD_eq_getElem?_getD, show j < k by omega]

set_option maxHeartbeats 1600000 in
theorem growS_any (n : Nat) (h1 : 1 ≤ n ∧ n ≤ 1000000) (w : World) :
    Calls Try.prog 71 #[.slice none 0 0, .int .i64 (n : Int)] w fun e w' => ∃ v, e = .returned v ∧ w'.ownsRow w.heap.size 9 1 v 0 [] ∧ Below w.heap.size w w' := by
  obtain ⟨i0, hi0, hz0, hz1, hz2⟩ := info_parts Try.infoString
  have I0 := Lib.hid hi0
  have Z0 := Lib.hid hz0
  have Z1 := Lib.hid hz1
  have Z2 := Lib.hid hz2
  clear hi0 hz0 hz1 hz2
  have H48 : Hid (n * i0.bytes ≤ 281474976710656) := Lib.hid (by rw [Z2.out]; omega)
  have HS0 : Hid (0 < i0.size) := Lib.hid (by rw [Z1.out]; omega)
  have hcap := grownCap_ge w n 0 9
  have hmax := grownCap_le_maxLen w n 0 9 (by unfold maxLen; omega)
  have HW : Hid (Below w.heap.size w (w.drew.alloc (.cells (Builtin.zeroCells (Value.string ⟨#[]⟩).cells n ++ Builtin.zeroCells (Value.string ⟨#[]⟩).cells (grownCap w n 0 9 - n)) 9))) := Lib.hid (by (repeat' (first | (with_reducible exact Below.refl _ _) | (with_reducible assumption) | (with_reducible refine Below.alloc ?_ ?_ _) | (with_reducible refine Below.drew ?_) | (with_reducible refine below_drewN ?_ _) | (with_reducible refine Below.setCell ?_ ?_ _) | (with_reducible refine below_call ?_ ?_ (by assumption)) | go_size)))
  have HC : Hid ((w.drew.alloc (.cells (Builtin.zeroCells (Value.string ⟨#[]⟩).cells n ++ Builtin.zeroCells (Value.string ⟨#[]⟩).cells (grownCap w n 0 9 - n)) 9)).ownsRow w.heap.size 9 1 (.slice (some ⟨w.heap.size, 0, none⟩) 0 (grownCap w n 0 9)) 0 []) := Lib.hid ⟨rfl, .inr ⟨w.heap.size, grownCap w n 0 9, _, rfl, Nat.le_refl _, heap_alloc_new w.drew _, Nat.zero_le _, hmax, by rw [Array.size_append, size_zeroCells, size_zeroCells]; simp [Value.cells]; omega, rfl⟩⟩
  have hn1 : (0 : Int) < (n : Int) := by omega
  have hn2 : ¬ (n : Int) < 0 := by omega
  generalize hq : grownCap w n 0 9 = q at *
  (go_enter Try.func71, Try.ntmps71)
  go_wp2_with (at_builtin; refine Lib.wpList_append_run _ rfl _ _ _ _ rfl _ _ rfl rfl _ _ (Lib.run_append_nil_zeros w 22 3 _ 9 i0 (.string ⟨#[]⟩) .i64 .i64 Try.underlying22 Try.underlying3 I0.out Z0.out n (by omega) HS0.out (by omega) H48.out) ?_)
  go_ret
  exact ⟨_, rfl, HC.out, HW.out⟩

/-- Two lists behind one another, as far as their parts have come. -/
def twoL (A B : List (List UInt8)) (k : Nat) : List (List UInt8) := if k = 0 then [] else if k = 1 then A else A ++ B
def nthL (A B : List (List UInt8)) (k : Nat) : List (List UInt8) := if k = 0 then A else B
theorem twoL_next {A B : List (List UInt8)} {k : Nat} (h : k < 2) : twoL A B (k + 1) = twoL A B k ++ nthL A B k := by
  rcases (show k = 0 ∨ k = 1 by omega) with rfl | rfl <;> simp [twoL, nthL]
theorem texts_append (A B : List (List UInt8)) : texts (A ++ B) = texts A ++ texts B := by simp [texts]
set_option maxHeartbeats 1600000 in
theorem concat_any (A B : List (List UInt8)) (b o1 o2 c1 c2 g : Nat) (hl : 1 ≤ (A ++ B).length ∧ (A ++ B).length ≤ 1000000) (w : World) (hA : XIn w (some ⟨b, o1, none⟩) A) (hB : XIn w (some ⟨b, o2, none⟩) B)
    (hg : g < w.heap.size) (h0 : w.cell? ⟨g, 0, none⟩ = some (.slice (some ⟨b, o1, none⟩) A.length c1)) (h1 : w.cell? ⟨g, 1, none⟩ = some (.slice (some ⟨b, o2, none⟩) B.length c2)) :
    Calls Try.prog 61 #[.slice (some ⟨g, 0, none⟩) 2 2] w fun e w' => ∃ v, e = .returned v ∧ XRow w' w.heap.size v (A ++ B) ∧ Below w.heap.size w w' := by
  obtain ⟨i0, hi0, hz0, hz1, hz2⟩ := info_parts Try.infoString
  have I0 := Lib.hid hi0
  have Z0 := Lib.hid hz0
  have Z1 := Lib.hid hz1
  have Z2 := Lib.hid hz2
  clear hi0 hz0 hz1 hz2
  have XA := Lib.hid hA
  have XB := Lib.hid hB
  have HK : Hid (∀ k, k < 2 → ∃ o c, w.cell? ⟨g, k, none⟩ = some (.slice (some ⟨b, o, none⟩) (nthL A B k).length c) ∧ XIn w (some ⟨b, o, none⟩) (nthL A B k)) := Lib.hid (fun k hk => by
    rcases (show k = 0 ∨ k = 1 by omega) with rfl | rfl
    · exact ⟨o1, c1, h0, hA⟩
    · exact ⟨o2, c2, h1, hB⟩)
  have HT : Hid (∀ k, k < 2 → (twoL A B (k + 1)).length = (twoL A B k).length + (nthL A B k).length) := Lib.hid (fun k hk => by rw [twoL_next hk, List.length_append])
  have HLB : Hid (∀ k, k ≤ 2 → (twoL A B k).length ≤ 1000000) := Lib.hid (fun k hk => by
    have := hl.2
    rw [List.length_append] at this
    unfold twoL
    split
    · simp
    · split
      · omega
      · rw [List.length_append]; omega)
  have HEND : Hid (twoL A B 2 = A ++ B) := Lib.hid (by simp [twoL])
  clear hA hB h0 h1 XA XB
  (go_enter Try.func61, Try.ntmps61)
  go_wp2
  go_loop [3, 11] (fun s i => ∃ k : Nat, k ≤ 2 ∧ i = .int .i64 k ∧ s = .int .i64 ((twoL A B k).length : Nat)) (fun _ i => 2 - (intOf i).toNat)
  case atStart => exact ⟨0, by omega, rfl, rfl⟩
  case round =>
    obtain ⟨k, hk, rfl, rfl⟩ := hrel
    have i1' : (0 : Int) ≤ (k : Int) := Int.natCast_nonneg _
    by_cases hlt : k < 2
    · obtain ⟨oo, cc, e1, -⟩ := HK.out k hlt
      have e2 := HT.out k hlt
      have e3 := HLB.out (k + 1) (by omega)
      have i1 : (k : Int) < 2 := by omega
      have HS := Lib.hid e2
      rw [e2] at e3
      clear e2
      generalize (twoL A B k).length = p at *
      generalize (nthL A B k).length = q at *
      have f1 := w64 (n := (p : Int) + q) (by omega)
      have f2 : ¬ (p : Int) + (q : Int) < 0 := by omega
      go_wp2
      go_round
      case rel =>
        refine ⟨k + 1, by omega, by go_num, ?_⟩
        rw [HS.out]
        exact ret_num (by push_cast; first | rfl | omega | (simp only [f1]))
      case measure => simp [intOf]; omega
    · obtain rfl : k = 2 := by omega
      rw [HEND.out]
      obtain ⟨N, hN⟩ : ∃ N, (A ++ B).length = N := ⟨_, rfl⟩
      rw [hN] at hl ⊢
      have HN := Lib.hid hN
      clear hN
      go_wp2_with fail
      refine (growS_any N hl _).mono ?_
      rintro e1 w1 ⟨v1, rfl, hr1, hb1⟩
      have hz1 := hb1.size
      have HR1 := Lib.hid hr1
      clear hr1
      go_wp2
      go_loopw [6, 27] (fun o i wr => ∃ k : Nat, k ≤ 2 ∧ i = .int .i64 k ∧ XRow wr w.heap.size o (twoL A B k) ∧ Below w.heap.size w wr) (fun _ i _ => 2 - (intOf i).toNat)
      case atStart => exact ⟨0, by omega, rfl, HR1.out, hb1⟩
      case round =>
        obtain ⟨k, hk, rfl, hrow, hbr⟩ := hrel
        have HO := Lib.hid hrow
        have hzr := hbr.size
        clear hrow
        obtain ⟨hcr, hfr⟩ := bcell hbr
        have i1' : (0 : Int) ≤ (k : Int) := Int.natCast_nonneg _
        by_cases hlt : k < 2
        · obtain ⟨oo, cc, e1, hin⟩ := HK.out k hlt
          have HSRC := Lib.hid (srcsX_at (c := cc) (hin.below hbr))
          have HNX := Lib.hid (twoL_next (A := A) (B := B) hlt)
          have e3 := HLB.out (k + 1) (by omega)
          rw [HT.out k hlt] at e3
          have i1 : (k : Int) < 2 := by omega
          have u1 : g < wr.heap.size := by omega
          clear hin
          generalize twoL A B k = M at *
          generalize nthL A B k = Q at *
          have HLT : ∀ k, u6.ownBlock = some k → w.heap.size ≤ k := fun k hk => (World.ownsRow.lt HO.out k hk).1
          go_wp2_with (at_builtin; refine wpList_append_one 33 rfl rfl (.tmp 31) (.tmp 32) 22 rfl w.heap.size 9 i0 _ 16 Try.underlying22 I0.out Z0.out Z1.out Z2.out rfl u6 M.length _ rfl HO.out (.slice (some ⟨b, oo, none⟩) Q.length cc) rfl Q.length (texts Q) HSRC.out (by unfold maxLen; omega) (by omega) hzr ?_; intro v33 w4 own4 grow4)
          go_roundw
          case rel =>
            refine ⟨k + 1, by omega, by go_num, ?_, Below.grown hbr grow4 hzr HLT⟩
            rw [HNX.out]
            unfold XRow
            rw [texts_append, List.length_append]
            exact own4
          case measure => simp [intOf]; omega
        · obtain rfl : k = 2 := by omega
          go_wp2
          go_ret
          refine ⟨_, rfl, ?_, hbr⟩
          rw [← HEND.out]
          exact HO.out

set_option maxHeartbeats 800000 in
theorem l1OwnS_any (b off c n : Nat) (L : List (List UInt8)) (hn : L.length = n) (hl : L.length ≤ 1000000) (w : World) (hin : XIn w (some ⟨b, off, none⟩) L) :
    Calls Try.prog 60 #[.slice (some ⟨b, off, none⟩) n c] w fun e w' => ∃ v, e = .returned v ∧ XRow w' w.heap.size v L ∧ Below w.heap.size w w' := by
  subst hn
  obtain ⟨i0, hi0, hz0, hz1, hz2⟩ := info_parts Try.infoString
  have I0 := Lib.hid hi0
  have Z0 := Lib.hid hz0
  have Z1 := Lib.hid hz1
  have Z2 := Lib.hid hz2
  clear hi0 hz0 hz1 hz2
  have HS := Lib.hid (srcsX_at (c := c) (XIn.below hin (w' := w.alloc (.cells #[] 9)) (Below.alloc (Below.refl _ _) (Nat.le_refl _) _)))
  have O3 := Lib.hid (World.ownsRow_made (base := w.heap.size) (e := 9) (size := 1) w #[] 0 (by go_size) (by unfold maxLen; omega) rfl)
  clear hin
  (go_enter Try.func60, Try.ntmps60)
  go_wp2_with (at_builtin; refine wpList_append_one 5 rfl rfl (.tmp 3) (.tmp 4) 22 rfl w.heap.size 9 i0 _ 16 Try.underlying22 I0.out Z0.out Z1.out Z2.out rfl (.slice (some ⟨w.heap.size, 0, none⟩) 0 0) 0 [] rfl O3.out (.slice (some ⟨b, off, none⟩) L.length c) rfl L.length (texts L) HS.out (by unfold maxLen; omega) (by omega) (by go_size) ?_; intro v5 w5 own5 grow5)
  go_ret
  refine ⟨_, rfl, ?_, Below.grown (by (repeat' (first | (with_reducible exact Below.refl _ _) | (with_reducible assumption) | (with_reducible refine Below.alloc ?_ ?_ _) | (with_reducible refine Below.drew ?_) | (with_reducible refine below_drewN ?_ _) | (with_reducible refine Below.setCell ?_ ?_ _) | (with_reducible refine below_call ?_ ?_ (by assumption)) | go_size))) grow5 (by go_size) (fun j hj => (World.ownsRow.lt O3.out j hj).1)⟩
  unfold XRow
  rw [Nat.zero_add, List.nil_append] at own5
  exact own5
def tuR (T : List (List UInt8)) (k : Int) : List (List UInt8) × Bool := if okT T && inB k 0 ((T.length : Int) - 1) then (T.drop k.toNat ++ T.take k.toNat, true) else ([], false)
theorem tuR_len (T : List (List UInt8)) (k : Int) : (tuR T k).1.length ≤ 2000000 := by
  unfold tuR
  split
  · rename_i h
    rw [Bool.and_eq_true] at h
    have := (okT_bd h.1).1
    simp only [List.length_append, List.length_drop, List.length_take]
    omega
  · exact Nat.zero_le _
set_option maxHeartbeats 3200000 in
theorem specTurnTune_any (a : Option Addr) (c : Nat) (T : List (List UInt8)) (t : Int) (kt : I64 t) (hc : T.length ≤ c) (hcm : c ≤ maxLen) (hm : T.length ≤ maxLen) (hs : ∀ k, k < T.length → (T.getD k []).length ≤ maxLen) (w : World) (hin : XIn w a T) :
    Calls Try.prog 33 #[.slice a T.length c, .int .i64 t] w (TextsOut w (tuR T t).1 (tuR T t).2) := by
  obtain ⟨i0, hi0, hz0, hz1, hz2⟩ := info_parts Try.infoString
  have I0 := Lib.hid hi0
  have Z0 := Lib.hid hz0
  have Z1 := Lib.hid hz1
  have Z2 := Lib.hid hz2
  clear hi0 hz0 hz1 hz2
  have X := Lib.hid hin
  have HSZ := Lib.hid hs
  clear hin hs
  cases ht : okT T
  · have HM := Lib.hid (show (([] : List (List UInt8)), false) = tuR T t from by simp [tuR, ht])
    (go_enter Try.func33, Try.ntmps33)
    go_wp2_with fail
    refine (beTune_is a c T hm ht _ X.out).mono ?_
    (rintro e1 w1 ⟨rfl, hb1⟩; obtain ⟨hc1, hf1⟩ := bcell hb1; have hz1 := hb1.size; (try simp only [World.size_alloc, World.size_setCell, World.size_drew] at hz1); have q1 : w.heap.size ≤ w1.heap.size := (by omega); (try have q1_0 : w.heap.size < w1.heap.size := (by omega)); (try have q1_1 : w.heap.size + 1 < w1.heap.size := (by omega)); (try have q1_2 : w.heap.size + 2 < w1.heap.size := (by omega)); (try have q1_3 : w.heap.size + 3 < w1.heap.size := (by omega)))
    go_wp2
    (refine bodyPost_ret (by simp [results, Try.results33, go_sem, *]; try rfl) rfl ?_)
    rw [← HM.out]
    exact TextsOut.none (by (repeat' (first | (with_reducible exact Below.refl _ _) | (with_reducible assumption) | (with_reducible refine Below.alloc ?_ ?_ _) | (with_reducible refine Below.drew ?_) | (with_reducible refine below_drewN ?_ _) | (with_reducible refine Below.setCell ?_ ?_ _) | (with_reducible refine below_call ?_ ?_ (by assumption)) | go_size)))
  · obtain ⟨hn, -⟩ := okT_bd ht
    have f1 := w64 (n := (T.length : Int) - 1) (by omega)
    cases gb : inB t 0 ((T.length : Int) - 1)
    · have HM := Lib.hid (show (([] : List (List UInt8)), false) = tuR T t from by simp [tuR, ht, gb])
      (go_enter Try.func33, Try.ntmps33)
      go_wp2_with fail
      refine (beTune_is a c T hm ht _ X.out).mono ?_
      (rintro e1 w1 ⟨rfl, hb1⟩; obtain ⟨hc1, hf1⟩ := bcell hb1; have hz1 := hb1.size; (try simp only [World.size_alloc, World.size_setCell, World.size_drew] at hz1); have q1 : w.heap.size ≤ w1.heap.size := (by omega); (try have q1_0 : w.heap.size < w1.heap.size := (by omega)); (try have q1_1 : w.heap.size + 1 < w1.heap.size := (by omega)); (try have q1_2 : w.heap.size + 2 < w1.heap.size := (by omega)); (try have q1_3 : w.heap.size + 3 < w1.heap.size := (by omega)))
      go_wp2_with fail
      refine (l1In_is _ _ _ gb _).mono ?_
      (rintro e1 w1 ⟨rfl, rfl⟩)
      go_wp2
      (refine bodyPost_ret (by simp [results, Try.results33, go_sem, *]; try rfl) rfl ?_)
      rw [← HM.out]
      exact TextsOut.none (by (repeat' (first | (with_reducible exact Below.refl _ _) | (with_reducible assumption) | (with_reducible refine Below.alloc ?_ ?_ _) | (with_reducible refine Below.drew ?_) | (with_reducible refine below_drewN ?_ _) | (with_reducible refine Below.setCell ?_ ?_ _) | (with_reducible refine below_call ?_ ?_ (by assumption)) | go_size)))
    · have hq := inB_bd gb
      obtain ⟨k, rfl⟩ := Int.eq_ofNat_of_zero_le hq.1
      have HM := Lib.hid (show (T.drop k ++ T.take k, true) = tuR T (k : Int) from by simp [tuR, ht, gb])
      obtain ⟨b, off, rfl, e1, -⟩ := X.out 0 (by omega)
      unfold maxLen at hcm
      (go_enter Try.func33, Try.ntmps33)
      go_wp2_with fail
      refine (beTune_is (some ⟨b, off, none⟩) c T hm ht _ X.out).mono ?_
      rintro e1' w1 ⟨rfl, hb1⟩
      have XK := Lib.hid (X.out.below hb1)
      have hz1 := hb1.size
      have hk1 : k ≤ T.length := by omega
      have hk2 : ¬ c = k := by omega
      have hk3 : ¬ c < k := by omega
      have hl1 : (T.drop k).length = T.length - k := by simp
      have hl2 : (T.take k).length = k := by simp; omega
      go_wp2_with fail
      refine (l1In_is _ _ _ gb _).mono ?_
      (rintro e1 w1 ⟨rfl, rfl⟩)
      go_wp2_with fail
      have hS1 : Below w1.heap.size w1 w1.drew := (Below.refl _ _).drew
      refine wp_region_held (by kernel_rfl) (S := fun W => Below w1.heap.size w1 W) ?_
      refine take_first (i := 0) (v := .slice (some ⟨b, off, none⟩) T.length c) 17 rfl rfl (by kernel_rfl) (by kernel_rfl) (by kernel_rfl) (fun _ _ _ h => h) (by rfl) ?_ (by assumption) ?_
      · intro W hS'
        go_simp
      simp only [Act.put, List.setIfInBounds_toArray, List.set_cons_zero, List.set_cons_succ]
      refine take_first (i := 1) (v := .int .i64 (k : Int)) 18 rfl rfl (by kernel_rfl) (by kernel_rfl) (by kernel_rfl) (fun _ _ _ h => h) (by rfl) ?_ (by assumption) ?_
      · intro W hS'
        go_simp
      simp only [Act.put, List.setIfInBounds_toArray, List.set_cons_zero, List.set_cons_succ]
      refine take_first (i := 2) (v := .slice (some ⟨b, off + k, none⟩) (T.length - k) (c - k)) 19 rfl rfl (by kernel_rfl) (by kernel_rfl) (by kernel_rfl) (fun _ _ _ h => h) (by rfl) ?_ (by assumption) ?_
      · intro W hS'
        go_simp
      simp only [Act.put, List.setIfInBounds_toArray, List.set_cons_zero, List.set_cons_succ]
      refine take_first (i := 4) (v := .slice (some ⟨b, off, none⟩) T.length c) 21 rfl rfl (by kernel_rfl) (by kernel_rfl) (by kernel_rfl) (fun _ _ _ h => h) (by rfl) ?_ (by assumption) ?_
      · intro W hS'
        go_simp
      simp only [Act.put, List.setIfInBounds_toArray, List.set_cons_zero, List.set_cons_succ]
      refine take_first (i := 5) (v := .int .i64 (k : Int)) 22 rfl rfl (by kernel_rfl) (by kernel_rfl) (by kernel_rfl) (fun _ _ _ h => h) (by rfl) ?_ (by assumption) ?_
      · intro W hS'
        go_simp
      simp only [Act.put, List.setIfInBounds_toArray, List.set_cons_zero, List.set_cons_succ]
      refine take_first (i := 6) (v := .slice (some ⟨b, off, none⟩) k c) 23 rfl rfl (by kernel_rfl) (by kernel_rfl) (by kernel_rfl) (fun _ _ _ h => h) (by rfl) ?_ (by assumption) ?_
      · intro W hS'
        go_simp
      simp only [Act.put, List.setIfInBounds_toArray, List.set_cons_zero, List.set_cons_succ]
      refine wpAnyH_all (rs := [3]) (by kernel_rfl) (by decide) (List.forall_mem_cons.2 ⟨?_, fun _ h => absurd h List.not_mem_nil⟩)
      refine wpOp_wp rfl rfl (wp_call_at 20 rfl (f := 60) (args := #[.slice (some ⟨b, off + k, none⟩) (T.length - k) (c - k)]) (by go_simp) ((l1OwnS_any b (off + k) (c - k) (T.length - k) (T.drop k) hl1 (by omega) _ (XIn.drop (XK.out.below hS1) k)).mono ?_))
      rintro e2 w2 ⟨v2, rfl, hr2, hb2⟩
      have hS2 : Below w1.heap.size w1 w2 := hS1.trans (hb2.mono hS1.size)
      have HR2 := Lib.hid (XRow.mono hr2 (b' := w.heap.size) (by have := hS1.size; omega))
      have hr2b := Lib.hid hr2
      clear hr2
      refine ⟨_, rfl, hS2, ?_⟩
      simp only [Act.put, List.setIfInBounds_toArray, List.set_cons_zero, List.set_cons_succ]
      have HSRC := Lib.hid (srcsX_at (c := c) (XIn.take (XK.out.below hS2) k))
      rw [hl2] at HSRC
      have HR2' : Hid (w2.ownsRow w.heap.size 9 1 v2 (T.length - k) (texts (T.drop k))) := Lib.hid (by rw [← hl1]; exact HR2.out)
      refine wpAnyH_all (rs := [7]) (by kernel_rfl) (by decide) (List.forall_mem_cons.2 ⟨?_, fun _ h => absurd h List.not_mem_nil⟩)
      refine wpOp_wp rfl rfl (wp_append_one 24 rfl (.tmp 20) (.tmp 23) 22 rfl w.heap.size 9 i0 _ 16 Try.underlying22 I0.out Z0.out Z1.out Z2.out rfl v2 (T.length - k) _ rfl HR2'.out (.slice (some ⟨b, off, none⟩) k c) rfl k (texts (T.take k)) HSRC.out (by unfold maxLen; omega) (by omega) (by have := hS2.size; omega) ?_)
      intro v3 w3 own3 grow3
      have hS3 : Below w.heap.size w w3 := Below.grown (hb1.trans (hS2.mono hz1)) grow3 (by have := hS2.size; omega) (fun j hj => (World.ownsRow.lt HR2'.out j hj).1)
      have hS3' : Below w1.heap.size w1 w3 := Below.grown hS2 grow3 hS2.size (fun j hj => by have h1 := (World.ownsRow.lt hr2b.out j hj).1; have h2 := hS1.size; omega)
      refine ⟨hS3', ?_⟩
      simp only [Act.put, List.setIfInBounds_toArray, List.set_cons_zero, List.set_cons_succ]
      refine take_first (i := 8) (v := v3) 4 rfl rfl (by kernel_rfl) (by kernel_rfl) (by kernel_rfl) (fun _ _ _ h => h) (by rfl) ?_ (by assumption) ?_
      · intro W hS'
        go_simp
      simp only [Act.put, List.setIfInBounds_toArray, List.set_cons_zero, List.set_cons_succ]
      refine take_first (i := 9) (v := .bool true) 5 rfl rfl (by kernel_rfl) (by kernel_rfl) (by kernel_rfl) (fun _ _ _ h => h) (by rfl) ?_ (by assumption) ?_
      · intro W hS'
        go_simp
      simp only [Act.put, List.setIfInBounds_toArray, List.set_cons_zero, List.set_cons_succ]
      refine wpAnyH_done (by kernel_rfl) ?_ _
      go_wp2
      (refine bodyPost_ret (by simp [results, Try.results33, go_sem, *]; try rfl) rfl ?_)
      rw [← HM.out]
      refine ⟨_, rfl, ?_, hS3⟩
      unfold XRow
      rw [texts_append, List.length_append, hl1, hl2]
      exact own3

set_option maxHeartbeats 3200000 in
theorem implTurnTune_any (a : Option Addr) (c : Nat) (T : List (List UInt8)) (t : Int) (kt : I64 t) (hc : T.length ≤ c) (hcm : c ≤ maxLen) (hm : T.length ≤ maxLen) (hs : ∀ k, k < T.length → (T.getD k []).length ≤ maxLen) (w : World) (hin : XIn w a T) :
    Calls Try.prog 34 #[.slice a T.length c, .int .i64 t] w (TextsOut w (tuR T t).1 (tuR T t).2) := by
  obtain ⟨i0, hi0, hz0, hz1, hz2⟩ := info_parts Try.infoString
  have I0 := Lib.hid hi0
  have Z0 := Lib.hid hz0
  have Z1 := Lib.hid hz1
  have Z2 := Lib.hid hz2
  clear hi0 hz0 hz1 hz2
  have X := Lib.hid hin
  have HSZ := Lib.hid hs
  clear hin hs
  cases ht : okT T
  · have HM := Lib.hid (show (([] : List (List UInt8)), false) = tuR T t from by simp [tuR, ht])
    (go_enter Try.func34, Try.ntmps34)
    go_wp2_with fail
    refine (isTune_is a c T HSZ.out ht _ X.out).mono ?_
    (rintro e1 w1 ⟨rfl, hb1⟩; obtain ⟨hc1, hf1⟩ := bcell hb1; have hz1 := hb1.size; (try simp only [World.size_alloc, World.size_setCell, World.size_drew] at hz1); have q1 : w.heap.size ≤ w1.heap.size := (by omega); (try have q1_0 : w.heap.size < w1.heap.size := (by omega)); (try have q1_1 : w.heap.size + 1 < w1.heap.size := (by omega)); (try have q1_2 : w.heap.size + 2 < w1.heap.size := (by omega)); (try have q1_3 : w.heap.size + 3 < w1.heap.size := (by omega)))
    go_wp2
    (refine bodyPost_ret (by simp [results, Try.results34, go_sem, *]; try rfl) rfl ?_)
    rw [← HM.out]
    exact TextsOut.none (by (repeat' (first | (with_reducible exact Below.refl _ _) | (with_reducible assumption) | (with_reducible refine Below.alloc ?_ ?_ _) | (with_reducible refine Below.drew ?_) | (with_reducible refine below_drewN ?_ _) | (with_reducible refine Below.setCell ?_ ?_ _) | (with_reducible refine below_call ?_ ?_ (by assumption)) | go_size)))
  · obtain ⟨hn, -⟩ := okT_bd ht
    have f1 := w64 (n := (T.length : Int) - 1) (by omega)
    cases gb : inB t 0 ((T.length : Int) - 1)
    · have HM := Lib.hid (show (([] : List (List UInt8)), false) = tuR T t from by simp [tuR, ht, gb])
      (go_enter Try.func34, Try.ntmps34)
      go_wp2_with fail
      refine (isTune_is a c T HSZ.out ht _ X.out).mono ?_
      (rintro e1 w1 ⟨rfl, hb1⟩; obtain ⟨hc1, hf1⟩ := bcell hb1; have hz1 := hb1.size; (try simp only [World.size_alloc, World.size_setCell, World.size_drew] at hz1); have q1 : w.heap.size ≤ w1.heap.size := (by omega); (try have q1_0 : w.heap.size < w1.heap.size := (by omega)); (try have q1_1 : w.heap.size + 1 < w1.heap.size := (by omega)); (try have q1_2 : w.heap.size + 2 < w1.heap.size := (by omega)); (try have q1_3 : w.heap.size + 3 < w1.heap.size := (by omega)))
      go_wp2_with fail
      refine (isWithin_is _ _ _ gb _).mono ?_
      (rintro e1 w1 ⟨rfl, rfl⟩)
      go_wp2
      (refine bodyPost_ret (by simp [results, Try.results34, go_sem, *]; try rfl) rfl ?_)
      rw [← HM.out]
      exact TextsOut.none (by (repeat' (first | (with_reducible exact Below.refl _ _) | (with_reducible assumption) | (with_reducible refine Below.alloc ?_ ?_ _) | (with_reducible refine Below.drew ?_) | (with_reducible refine below_drewN ?_ _) | (with_reducible refine Below.setCell ?_ ?_ _) | (with_reducible refine below_call ?_ ?_ (by assumption)) | go_size)))
    · have hq := inB_bd gb
      obtain ⟨k, rfl⟩ := Int.eq_ofNat_of_zero_le hq.1
      have HM := Lib.hid (show (T.drop k ++ T.take k, true) = tuR T (k : Int) from by simp [tuR, ht, gb])
      obtain ⟨b, off, rfl, e1, -⟩ := X.out 0 (by omega)
      unfold maxLen at hcm
      (go_enter Try.func34, Try.ntmps34)
      go_wp2_with fail
      refine (isTune_is (some ⟨b, off, none⟩) c T HSZ.out ht _ X.out).mono ?_
      rintro e1' w1 ⟨rfl, hb1⟩
      have XK := Lib.hid (X.out.below hb1)
      have hz1 := hb1.size
      have hk1 : k ≤ T.length := by omega
      have hk2 : ¬ c = k := by omega
      have hk3 : ¬ c < k := by omega
      have hl1 : (T.drop k).length = T.length - k := by simp
      have hl2 : (T.take k).length = k := by simp; omega
      go_wp2_with fail
      refine (isWithin_is _ _ _ gb _).mono ?_
      (rintro e1 w1 ⟨rfl, rfl⟩)
      go_wp2_with fail
      have hS1 : Below w1.heap.size w1 w1.drew := (Below.refl _ _).drew
      refine wp_region_held (by kernel_rfl) (S := fun W => Below w1.heap.size w1 W) ?_
      refine take_first (i := 0) (v := .slice (some ⟨b, off, none⟩) T.length c) 17 rfl rfl (by kernel_rfl) (by kernel_rfl) (by kernel_rfl) (fun _ _ _ h => h) (by rfl) ?_ (by assumption) ?_
      · intro W hS'
        go_simp
      simp only [Act.put, List.setIfInBounds_toArray, List.set_cons_zero, List.set_cons_succ]
      refine take_first (i := 1) (v := .int .i64 (k : Int)) 18 rfl rfl (by kernel_rfl) (by kernel_rfl) (by kernel_rfl) (fun _ _ _ h => h) (by rfl) ?_ (by assumption) ?_
      · intro W hS'
        go_simp
      simp only [Act.put, List.setIfInBounds_toArray, List.set_cons_zero, List.set_cons_succ]
      refine take_first (i := 2) (v := .slice (some ⟨b, off + k, none⟩) (T.length - k) (c - k)) 19 rfl rfl (by kernel_rfl) (by kernel_rfl) (by kernel_rfl) (fun _ _ _ h => h) (by rfl) ?_ (by assumption) ?_
      · intro W hS'
        go_simp
      simp only [Act.put, List.setIfInBounds_toArray, List.set_cons_zero, List.set_cons_succ]
      refine take_first (i := 3) (v := .slice (some ⟨b, off, none⟩) T.length c) 20 rfl rfl (by kernel_rfl) (by kernel_rfl) (by kernel_rfl) (fun _ _ _ h => h) (by rfl) ?_ (by assumption) ?_
      · intro W hS'
        go_simp
      simp only [Act.put, List.setIfInBounds_toArray, List.set_cons_zero, List.set_cons_succ]
      refine take_first (i := 4) (v := .int .i64 (k : Int)) 21 rfl rfl (by kernel_rfl) (by kernel_rfl) (by kernel_rfl) (fun _ _ _ h => h) (by rfl) ?_ (by assumption) ?_
      · intro W hS'
        go_simp
      simp only [Act.put, List.setIfInBounds_toArray, List.set_cons_zero, List.set_cons_succ]
      refine take_first (i := 5) (v := .slice (some ⟨b, off, none⟩) k c) 22 rfl rfl (by kernel_rfl) (by kernel_rfl) (by kernel_rfl) (fun _ _ _ h => h) (by rfl) ?_ (by assumption) ?_
      · intro W hS'
        go_simp
      simp only [Act.put, List.setIfInBounds_toArray, List.set_cons_zero, List.set_cons_succ]
      refine wpAnyH_all (rs := [6]) (by kernel_rfl) (by decide) (List.forall_mem_cons.2 ⟨?_, fun _ h => absurd h List.not_mem_nil⟩)
      refine wpOp_value (v := .slice (some ⟨w1.drew.heap.size, 0, none⟩) 2 2) (w' := (w1.drew.alloc (.cells #[.slice (some ⟨b, off + k, none⟩) (T.length - k) (c - k), .slice (some ⟨b, off, none⟩) k c] 22))) 23 rfl rfl rfl (by go_simp) ⟨by (repeat' (first | (with_reducible exact Below.refl _ _) | (with_reducible assumption) | (with_reducible refine Below.alloc ?_ ?_ _) | (with_reducible refine Below.drew ?_) | (with_reducible refine below_drewN ?_ _) | (with_reducible refine Below.setCell ?_ ?_ _) | (with_reducible refine below_call ?_ ?_ (by assumption)) | go_size)), ?_⟩
      simp only [Act.put, List.setIfInBounds_toArray, List.set_cons_zero, List.set_cons_succ]
      have hS2 : Below w1.heap.size w1 (w1.drew.alloc (.cells #[.slice (some ⟨b, off + k, none⟩) (T.length - k) (c - k), .slice (some ⟨b, off, none⟩) k c] 22)) := by (repeat' (first | (with_reducible exact Below.refl _ _) | (with_reducible assumption) | (with_reducible refine Below.alloc ?_ ?_ _) | (with_reducible refine Below.drew ?_) | (with_reducible refine below_drewN ?_ _) | (with_reducible refine Below.setCell ?_ ?_ _) | (with_reducible refine below_call ?_ ?_ (by assumption)) | go_size))
      refine wpAnyH_all (rs := [7]) (by kernel_rfl) (by decide) (List.forall_mem_cons.2 ⟨?_, fun _ h => absurd h List.not_mem_nil⟩)
      refine wpOp_wp rfl rfl (wp_call_at 24 rfl (f := 61) (args := #[.slice (some ⟨w1.drew.heap.size, 0, none⟩) 2 2]) (by go_simp) ((concat_any (T.drop k) (T.take k) b (off + k) off (c - k) c w1.drew.heap.size (by rw [List.length_append, hl1, hl2]; omega) _ (XIn.drop (XK.out.below hS2) k) (XIn.take (XK.out.below hS2) k) (by simp) (by rw [hl1]; go_simp) (by rw [hl2]; go_simp)).mono ?_))
      rintro e3 w3 ⟨v3, rfl, hr3, hb3⟩
      have hS3 : Below w1.heap.size w1 w3 := hS2.trans (hb3.mono hS2.size)
      have HR3 := Lib.hid (XRow.mono hr3 (b' := w.heap.size) (by have := hS2.size; omega))
      clear hr3
      refine ⟨_, rfl, hS3, ?_⟩
      simp only [Act.put, List.setIfInBounds_toArray, List.set_cons_zero, List.set_cons_succ]
      refine take_first (i := 8) (v := v3) 4 rfl rfl (by kernel_rfl) (by kernel_rfl) (by kernel_rfl) (fun _ _ _ h => h) (by rfl) ?_ (by assumption) ?_
      · intro W hS'
        go_simp
      simp only [Act.put, List.setIfInBounds_toArray, List.set_cons_zero, List.set_cons_succ]
      refine take_first (i := 9) (v := .bool true) 5 rfl rfl (by kernel_rfl) (by kernel_rfl) (by kernel_rfl) (fun _ _ _ h => h) (by rfl) ?_ (by assumption) ?_
      · intro W hS'
        go_simp
      simp only [Act.put, List.setIfInBounds_toArray, List.set_cons_zero, List.set_cons_succ]
      refine wpAnyH_done (by kernel_rfl) ?_ _
      go_wp2
      (refine bodyPost_ret (by simp [results, Try.results34, go_sem, *]; try rfl) rfl ?_)
      rw [← HM.out]
      exact ⟨_, rfl, HR3.out, hb1.trans (hS3.mono hz1)⟩

end Go.Proofs.Ytijnppomeoaebaa
