/- A train driven from its other end: by the program and by the model. -/
import Derived.Test.YtaifcemdabcfjaaFstP
import Derived.Deep.AppendLies
import Derived.Maps.AppendAt
set_option linter.unusedSimpArgs false
set_option linter.unusedVariables false
set_option maxRecDepth 100000
namespace Go.Proofs.Ytaifcemdabcfjaa
open Go.RowKit Go.Shelf
attribute [local go_sem] Oper.semAt_some

abbrev Ip := Int × (Int × Int)
/-- What has been handed over behind k rounds: from the last pair on. -/
def bkK (L : List (Int × Int)) : Nat → List Ip
  | 0 => []
  | k + 1 => bkK L k ++ [((L.length : Int) - 1 - (k : Int), L.getD (L.length - 1 - k) (0, 0))]
theorem bkK_len (L : List (Int × Int)) (k : Nat) : (bkK L k).length = k := by
  induction k with
  | zero => rfl
  | succ k ih => simp [bkK, ih]
theorem bkK_pre (L : List (Int × Int)) {k K : Nat} (h : k ≤ K) : bkK L k <+: bkK L K := by
  induction K with
  | zero => obtain rfl : k = 0 := by omega
            exact List.prefix_refl _
  | succ K ih =>
    by_cases hc : k = K + 1
    · subst hc; exact List.prefix_refl _
    · exact (ih (by omega)).trans (List.prefix_append _ _)
def swapP (p : Int × Int) : Int × Int := (p.2, p.1)
def backK (L : List (Int × Int)) : Nat → List (Int × Int)
  | 0 => []
  | k + 1 => backK L k ++ [swapP (L.getD (L.length - 1 - k) (0, 0))]
theorem backK_of (L : List (Int × Int)) (k : Nat) : (bkK L k).map (fun x => swapP x.2) = backK L k := by
  induction k with
  | zero => rfl
  | succ k ih => simp [bkK, backK, ih]
theorem backK_len (L : List (Int × Int)) (k : Nat) : (backK L k).length = k := by
  induction k with
  | zero => rfl
  | succ k ih => simp [backK, ih]
def backR (L : List (Int × Int)) : List (Int × Int) × Bool := if trainB L then (backK L L.length, true) else ([], false)
/-- What is handed back of a list of pairs and whether there is one. -/
def PairsOut (w0 : World) (r : List (Int × Int) × Bool) (e : Ending) (w' : World) : Prop :=
  ∃ v, e = .returned (.tuple #[v, .bool r.2]) ∧ RowPair w' w0.heap.size v r.1 ∧ Below w0.heap.size w0 w'
set_option maxHeartbeats 400000 in
theorem backward_makes (v : Value) (hv : v.oneCell' = true) (w : World) :
    Calls Try.prog 73 #[v] w fun e w' => e = .returned (.func (.func 101) #[] #[.pointer (some ⟨w.heap.size, 0, none⟩)]) ∧ w' = w.alloc (.cells #[v] 31) := by
  (go_enter Try.func73, Try.ntmps73)
  go_wp2
  go_ret
  exact ⟨rfl, rfl⟩
abbrev bkEnc (x : Ip) : Array Value := #[.int .i64 x.1, tv x.2.1 x.2.2]
set_option maxRecDepth 100000 in
set_option maxHeartbeats 1600000 in
theorem backward_seqs (a : Option Addr) (c : Nat) (L : List (Int × Int)) (hl : L.length ≤ 1048576) (B : Nat) (w0 : World) (hC : CellsAt w0 [(B, 0, .slice a L.length c)]) (hin : PIn w0 a L) :
    Seqs Try.prog 101 #[.pointer (some ⟨B, 0, none⟩)] bkEnc (fun _ _ => True) (fun _ _ => False) (fun xs => xs = bkK L L.length) (fun pre => pre <+: bkK L L.length) (fun k => k = B ∨ ∃ ad, a = some ad ∧ 0 < L.length ∧ k = ad.block) w0 := by
  intro l J Jx M0 W hW hJ hJx hO hM0 hY h0
  have hCW := hC.below hW
  have HI := Lib.hid (hin.below hW)
  have hn1 : ¬ M0 B := hO B (.inl rfl)
  have HO := Lib.hid hO
  have HY := Lib.hid hY
  clear hY hJ hJx hC hW hin hO
  have cc0 : W.cell? ⟨B, 0, none⟩ = some (.slice a L.length c) := (hCW (B, 0, .slice a L.length c) (by simp)).2.1
  have cf0 : W.frozen? ⟨B, 0, none⟩ = false := (hCW (B, 0, .slice a L.length c) (by simp)).2.2
  have cs0 : B < W.heap.size := (hCW (B, 0, .slice a L.length c) (by simp)).1
  refine (callsIn_wide (n := 0)).1 (callsIn_of_wp Try.func101 rfl trivial ?_ rfl)
  simp only [Try.ntmps101, List.size_toArray, List.length_cons, List.length_nil, Nat.reduceAdd, Nat.reduceSub, Array.replicate_succ, Array.replicate_zero, List.push_toArray, List.append_toArray, List.nil_append, List.cons_append]
  gi_wp2
  gi_loopw [3] (fun i wr => ∃ (k : Nat) (x : Int) (M : Nat → Prop), x = (L.length : Int) - 1 - (k : Int) ∧ k ≤ L.length ∧ i = .int .i64 x ∧ J (bkK L k) M wr ∧ ¬ M B ∧ (∀ k, M k → M0 k ∨ W.heap.size ≤ k) ∧ Kept M0 W wr ∧ W.heap.size ≤ wr.heap.size) (fun i _ => (intOf i + 1).toNat)
  case atStart => exact ⟨0, (L.length : Int) - 1, M0, by omega, Nat.zero_le _, rfl, h0, hn1, fun k h => .inl h, Kept.refl _ _, Nat.le_refl _⟩
  case round =>
    obtain ⟨k, x, M, hx, hk, rfl, hJk, hMB, hg, hkp, hsz⟩ := hrel
    have hcB : wr.cell? ⟨B, 0, none⟩ = some (.slice a L.length c) := (World.cell?_of_block (hkp.block B cs0 hn1)).trans cc0
    have HX := Lib.hid hx
    by_cases hlt : 0 ≤ x
    · have hk2 : k < L.length := by omega
      have hx2 : x < (L.length : Int) := by omega
      obtain ⟨p, q, hpq⟩ : ∃ p q, L.getD (L.length - 1 - k) (0, 0) = (p, q) := ⟨_, _, rfl⟩
      obtain ⟨b, off, rfl, u1, f2, f3⟩ := HI.out.at (k := L.length - 1 - k) (by omega) (Below.refl _ _) hpq
      have hnb : ¬ M0 b := HO.out b (.inr ⟨⟨b, off, none⟩, rfl, by omega, rfl⟩)
      have hix : ((L.length - 1 - k : Nat) : Int) = x := by omega
      have HP := Lib.hid (show bkK L (k + 1) = bkK L k ++ [(x, (p, q))] by rw [bkK, hpq, ← HX.out])
      have g2 : wr.cell? ⟨b, off + (L.length - 1 - k) * 2, none⟩ = some (.int .i64 p) := (World.cell?_of_block (hkp.block b u1 hnb)).trans f2
      have g3 : wr.cell? ⟨b, off + (L.length - 1 - k) * 2 + 1, none⟩ = some (.int .i64 q) := (World.cell?_of_block (hkp.block b u1 hnb)).trans f3
      obtain ⟨j, hj⟩ : ∃ j : Nat, j = L.length - 1 - k := ⟨_, rfl⟩
      rw [← hj] at g2 g3 hix
      obtain ⟨fn, tmps, assign, body, hy, hR⟩ := HY.out (bkK L k) (x, (p, q)) M wr hJk trivial (fun _ h => h.elim) (by rw [← HP.out]; exact bkK_pre L (by omega))
      rw [← HP.out] at hR
      have hjn : x.toNat = j := by omega
      clear hx hpq hj f2 f3
      subst hix
      simp only [bkEnc] at hy
      gi_wp2
      refine ⟨rfl, hR.mono ?_⟩
      rintro e W3 ⟨M', hk3, hg', hh⟩
      have hs3 := hk3.size
      have hkp3 : Kept M0 W W3 := Kept.trans hkp hk3 (fun _ _ h => h) (fun i hi h => (hg i h).elim id (fun h' => absurd hi (by omega)))
      have hM3 : ¬ M' B := fun h => (hg' B h).1.elim hMB (fun h => h.elim (fun h => h.elim) (fun h => by omega))
      have hg3 : ∀ i, M' i → M0 i ∨ W.heap.size ≤ i := fun i h => (hg' i h).1.elim (fun h => hg i h) (fun h => h.elim (fun h => h.elim) (fun h => .inr (by omega)))
      rcases hh with ⟨rfl, hJ3⟩ | ⟨rfl, hJx3⟩
      · gi_wp2
        go_roundw
        case rel => exact ⟨k + 1, (j : Int) - 1, M', by have := HX.out; omega, by omega, rfl, hJ3, hM3, hg3, hkp3, by omega⟩
        case measure => simp [intOf]
      · gi_wp2
        refine bodyPost_ret (results_none rfl _ _ _) rfl ?_
        exact ⟨⟨_, rfl⟩, M', hg3, .inr ⟨_, bkK_pre L (by omega), hJx3⟩⟩
    · have hke : k = L.length := by omega
      clear hx
      gi_wp2
      go_end0
      exact ⟨⟨_, rfl⟩, M, hg, .inl (by rw [hke] at hJk; first | exact hJk | exact ⟨_, rfl, hJk⟩)⟩
theorem own_same {W W' : World} {b g n cap s : Nat} {e : TypeId} {xs : List Value} (h : W.ownsRow b e s (.slice (some ⟨g, 0, none⟩) n cap) n xs) (hb : W'.heap[g]? = W.heap[g]?) : W'.ownsRow b e s (.slice (some ⟨g, 0, none⟩) n cap) n xs := by
  refine ⟨h.1, ?_⟩
  rcases h.2 with ⟨e, -⟩ | ⟨g', cap', cur, h1, h2, h3, h4⟩
  · cases e
  · have hg : g' = g := by
      simp only [Value.slice.injEq, Option.some.injEq, Addr.mk.injEq] at h1
      exact h1.1.1.symm
    subst hg
    exact .inr ⟨g', cap', cur, h1, h2, hb.trans h3, h4⟩
/-- What the loop of BackTrain knows. -/
def BkI (w : World) (G TT len : Nat) (pre : List Ip) (M : Nat → Prop) (V : World) : Prop :=
  M = (fun k => k = TT ∨ k = G) ∧ Below w.heap.size w V ∧ CellsAt V [(TT, 0, .slice (some ⟨G, 0, none⟩) pre.length len)] ∧ V.ownsRow w.heap.size 25 2 (.slice (some ⟨G, 0, none⟩) pre.length len) pre.length (flatPair (pre.map fun x => swapP x.2)) ∧ G < V.heap.size
set_option maxRecDepth 100000 in
set_option maxHeartbeats 3200000 in
theorem implBackTrain_any (a : Option Addr) (c : Nat) (L : List (Int × Int)) (w : World) (hin : PIn w a L) (hm : L.length ≤ maxLen) :
    Calls Try.prog 34 #[.slice a L.length c] w (PairsOut w (backR L)) := by
  have X1 := Lib.hid hin
  clear hin
  cases ht : trainB L
  · have HM := Lib.hid (show backR L = ([], false) from by simp [backR, ht])
    refine (callsIn_wide (n := 0)).1 (callsIn_of_wp_marks Try.func34 rfl trivial ?_ rfl)
    simp only [Try.ntmps34, List.size_toArray, List.length_cons, List.length_nil, Nat.reduceAdd, Nat.reduceSub, Array.replicate_succ, Array.replicate_zero, List.push_toArray, List.append_toArray, List.nil_append, List.cons_append]
    gi_wp2
    refine ⟨trivial, rfl, (callsIn_wide.2 (implIsTrain_is a c L ht _ X1.out hm)).mono ?_⟩
    rintro e1 w1 ⟨rfl, hb1⟩
    gi_wp2
    refine ⟨.tuple #[.slice none 0 0, .bool false], ?_, ?_⟩
    · simp [results, Try.f34, go_sem]
    · rw [HM.out]; exact ⟨_, rfl, World.ownsRow_nil _ _ _ _, hb1⟩
  · have HM := Lib.hid (show backR L = (backK L L.length, true) from by simp [backR, ht])
    have h4 := (trainB_bd ht).1
    obtain ⟨i0, hi0, hz0, hz1, hz2⟩ := info_parts Try.infoPair
    have I0 := Lib.hid hi0
    have Z0 := Lib.hid hz0
    have Z1 := Lib.hid hz1
    have Z2 := Lib.hid hz2
    clear hi0 hz0 hz1 hz2
    refine (callsIn_wide (n := 0)).1 (callsIn_of_wp_marks Try.func34 rfl trivial ?_ rfl)
    simp only [Try.ntmps34, List.size_toArray, List.length_cons, List.length_nil, Nat.reduceAdd, Nat.reduceSub, Array.replicate_succ, Array.replicate_zero, List.push_toArray, List.append_toArray, List.nil_append, List.cons_append]
    gi_wp2
    refine ⟨trivial, rfl, (callsIn_wide.2 (implIsTrain_is a c L ht _ X1.out hm)).mono ?_⟩
    rintro e1 w1 ⟨rfl, hb1⟩
    have hz1 := hb1.size
    gi_wp2_with (gi_at_make; refine wpListIn_make_own _ rfl _ _ 31 rfl w.heap.size 25 i0 (.agg #[.int .i64 0, .int .i64 0]) 2 Try.underlying31 I0.out Z0.out Z1.out .i64 .i64 _ L.length rfl rfl rfl (by rw [Z2.out]; omega) (by unfold maxLen; omega) (by go_size) ?_; intro w2 hown hgrow; have hz2 := hgrow.size; have GL : w1.heap.size < w2.heap.size := (World.ownsRow.lt hown w1.heap.size rfl).2; have HO := Lib.hid hown; have hb2 : Below w1.heap.size w1 w2 := Below.grown (Below.refl _ _) hgrow (Nat.le_refl _) (fun k hk => by cases hk); clear hown hgrow)
    refine ⟨trivial, rfl, (callsIn_wide.2 (backward_makes (.slice a L.length c) rfl _)).mono ?_⟩
    rintro e3 w3 ⟨rfl, hw3⟩
    have hb3 : Below w2.heap.size w2 w3 := by rw [hw3]; (repeat' (first | (with_reducible exact Below.refl _ _) | (with_reducible assumption) | (with_reducible refine Below.alloc ?_ ?_ _) | (with_reducible refine Below.drew ?_) | (with_reducible refine below_drewN ?_ _) | (with_reducible refine Below.setCell ?_ ?_ _) | (with_reducible refine below_call ?_ ?_ (by assumption)) | go_size))
    have hs3 : w3.heap.size = w2.heap.size + 2 := by rw [hw3]; simp
    have hbw2 : Below w.heap.size w w2 := hb1.trans (hb2.mono hz1)
    have hbw3 : Below w.heap.size w w3 := hbw2.trans (hb3.mono hbw2.size)
    have hcT : CellsAt w3 [(w2.heap.size, 0, .slice (some ⟨w1.heap.size, 0, none⟩) 0 L.length)] := by
      rw [hw3]
      intro p hp
      simp only [List.mem_cons, List.not_mem_nil, or_false] at hp
      subst hp
      all_goals exact ⟨by (simp only [World.size_alloc]; omega), by go_simp, by go_simp⟩

    have hcB : CellsAt w3 [(w2.heap.size + 1, 0, .slice a L.length c)] := by
      rw [hw3]
      intro p hp
      simp only [List.mem_cons, List.not_mem_nil, or_false] at hp
      subst hp
      all_goals exact ⟨by (simp only [World.size_alloc]; omega), by go_simp, by go_simp⟩

    have hO3 : w3.ownsRow w.heap.size 25 2 (.slice (some ⟨w1.heap.size, 0, none⟩) 0 L.length) 0 [] := own_same HO.out (hb3.block _ GL)
    clear hw3
    simp only [World.size_alloc]
    gi_wp2
    refine range_outer rfl (enters_of Try.func101 (by kernel_rfl) rfl) (backward_seqs a c L (by omega) (w2.heap.size + 1) w3 hcB ((X1.out).below hbw3)) (Below.refl _ _) (fun _ => rfl)
      (fun pre M V => BkI w w1.heap.size w2.heap.size L.length pre M V) (fun c pre M V => False)
      ?hI ?hIx (fun k => k = w2.heap.size ∨ k = w1.heap.size) ?hM0 ?hO ?h0 ?hround ?hdone ?hstop
    case hI =>
      rintro s M A A' ⟨rfl, hb, hc, hr, hg⟩ hk
      exact ⟨rfl, Below.low hb hk (Nat.le_refl _) (by omega), hc.low hk (by simp; omega), own_same hr (hk.mine hg (.inr rfl)), Nat.lt_of_lt_of_le hg hk.size⟩
    case hIx => rintro c s M A A' h; exact h.elim
    case hM0 => rintro k (rfl | rfl) <;> omega
    case hO =>
      have hPw := X1.out
      rintro k (rfl | ⟨ad, rfl, h0, rfl⟩)
      · exact ⟨by omega, by rintro (h | h) <;> omega⟩
      · obtain ⟨b, off, e, hlt, -⟩ := hPw 0 h0
        cases e
        exact ⟨by simp only; omega, by rintro (h | h) <;> simp only at h <;> omega⟩
    case h0 => exact ⟨rfl, hbw3, hcT, hO3, by omega⟩
    case hround =>
      rintro l pre ⟨x, p, q⟩ M V hl hMl hMb hlt ⟨rfl, hb, hc, hr, hg⟩ - - hsp
      have hpl : pre.length + 1 ≤ L.length := by
        have := hsp.length_le
        simpa [bkK_len] using this
      have hz := hb.size
      gi_wp2
      refine ⟨by (repeat' (first | (with_reducible exact Below.refl _ _) | (with_reducible assumption) | (with_reducible refine Below.alloc ?_ ?_ _) | (with_reducible refine Below.drew ?_) | (with_reducible refine below_drewN ?_ _) | (with_reducible refine Below.setCell ?_ ?_ _) | (with_reducible refine below_call ?_ ?_ (by assumption)) | go_size)), fun W2 ht2 => ?_⟩
      obtain ⟨hk2, hs0, -⟩ := ht2
      have hs2 : W2.heap.size = V.heap.size + 1 := by rw [hs0]; simp
      clear hs0
      have hc2 := (hc.below (show Below V.heap.size V _ by (repeat' (first | (with_reducible exact Below.refl _ _) | (with_reducible assumption) | (with_reducible refine Below.alloc ?_ ?_ _) | (with_reducible refine Below.drew ?_) | (with_reducible refine below_drewN ?_ _) | (with_reducible refine Below.setCell ?_ ?_ _) | (with_reducible refine below_call ?_ ?_ (by assumption)) | go_size)))).kept hk2 (by simp; omega)
      have hgl : w1.heap.size ≠ l := by omega
      have bV : Below V.heap.size V (V.alloc (Obj.cells #[Value.int .i64 p, Value.int .i64 q] 25)) := by (repeat' (first | (with_reducible exact Below.refl _ _) | (with_reducible assumption) | (with_reducible refine Below.alloc ?_ ?_ _) | (with_reducible refine Below.drew ?_) | (with_reducible refine below_drewN ?_ _) | (with_reducible refine Below.setCell ?_ ?_ _) | (with_reducible refine below_call ?_ ?_ (by assumption)) | go_size))
      have hr2 := own_same (own_same hr (bV.block _ hg)) (hk2.block _ (by simp; omega) hgl)
      have b2 : Below w.heap.size w W2 := (hb.trans (bV.mono hz)).trans (hk2.below (by simp; omega) (fun k hk e => by omega))
      have x0 : W2.cell? ⟨V.heap.size, 0, none⟩ = some (.int .i64 p) := (World.cell?_of_block (hk2.block V.heap.size (by simp) (by omega))).trans (by go_simp)
      have x1 : W2.cell? ⟨V.heap.size, 1, none⟩ = some (.int .i64 q) := (World.cell?_of_block (hk2.block V.heap.size (by simp) (by omega))).trans (by go_simp)
      have sa : V.heap.size + 1 ≤ W2.heap.size := by omega
      have rc0 : W2.cell? ⟨w2.heap.size, 0, none⟩ = some (.slice (some ⟨w1.heap.size, 0, none⟩) pre.length L.length) := (hc2 (w2.heap.size, 0, .slice (some ⟨w1.heap.size, 0, none⟩) pre.length L.length) (by simp)).2.1
      have rf0 : W2.frozen? ⟨w2.heap.size, 0, none⟩ = false := (hc2 (w2.heap.size, 0, .slice (some ⟨w1.heap.size, 0, none⟩) pre.length L.length) (by simp)).2.2
      have rs0 : w2.heap.size < W2.heap.size := (hc2 (w2.heap.size, 0, .slice (some ⟨w1.heap.size, 0, none⟩) pre.length L.length) (by simp)).1
      have HR2 := Lib.hid hr2
      have hg2 : w1.heap.size < W2.heap.size := by omega
      have HPL := Lib.hid hpl
      clear hs2 hc hc2 hk2 hr hr2 bV hpl
      gi_wp2_with (gi_at_builtin; refine wpListIn_append_fits _ rfl _ _ 31 rfl w.heap.size 25 i0 2 Try.underlying31 I0.out Z1.out w1.heap.size pre.length L.length _ rfl (own_same HR2.out ((show Below W2.heap.size W2 (W2.alloc (Obj.cells #[Value.int .i64 q, Value.int .i64 p] 25)) by (repeat' (first | (with_reducible exact Below.refl _ _) | (with_reducible assumption) | (with_reducible refine Below.alloc ?_ ?_ _) | (with_reducible refine Below.drew ?_) | (with_reducible refine below_drewN ?_ _) | (with_reducible refine Below.setCell ?_ ?_ _) | (with_reducible refine below_call ?_ ?_ (by assumption)) | go_size))).block _ hg2)) ⟨W2.heap.size, 0, none⟩ 1 1 [.int .i64 q, .int .i64 p] rfl rfl (World.news_of_block (cs := #[.int .i64 q, .int .i64 p]) (t := 25) (fr := (0, 0)) (by simpa using heap_alloc_new W2 _)) (by simp [Value.oneCell']) HPL.out ?_; intro w5 hown5 hgrow5; have hz5 := hgrow5.size; simp only [World.size_alloc] at hz5; have t0 : w5.cell? ⟨w2.heap.size, 0, none⟩ = some (.slice (some ⟨w1.heap.size, 0, none⟩) pre.length L.length) := (World.cell?_of_block (hgrow5.block w2.heap.size (by simp; omega) (by simp; omega))).trans (by go_simp); have t1 : w5.frozen? ⟨w2.heap.size, 0, none⟩ = false := (World.frozen?_of_block (hgrow5.block w2.heap.size (by simp; omega) (by simp; omega))).trans (by go_simp); have t2 : w2.heap.size < w5.heap.size := (by omega); have HO5 := Lib.hid hown5; have HG5 := Lib.hid hgrow5; clear hown5 hgrow5)
      have k5 : Kept (fun k => k = w2.heap.size ∨ k = w1.heap.size) W2 w5 := Kept.trans (M := fun _ => False) (Kept.of_below (show Below W2.heap.size W2 (W2.alloc (Obj.cells #[Value.int .i64 q, Value.int .i64 p] 25)) by (repeat' (first | (with_reducible exact Below.refl _ _) | (with_reducible assumption) | (with_reducible refine Below.alloc ?_ ?_ _) | (with_reducible refine Below.drew ?_) | (with_reducible refine below_drewN ?_ _) | (with_reducible refine Below.setCell ?_ ?_ _) | (with_reducible refine below_call ?_ ?_ (by assumption)) | go_size)))) (Kept.of_grown (M := fun k => k = w1.heap.size) HG5.out (fun k e => by cases e; rfl)) (fun _ _ h => h.elim) (fun _ _ h => .inr h)
      have b5 : Below w.heap.size w w5 := b2.trans (k5.below b2.size (fun k hk h => by rcases h with rfl | rfl <;> omega))
      refine ⟨fun k => k = w2.heap.size ∨ k = w1.heap.size, by (repeat' (first | (with_reducible exact Kept.refl _ _) | (with_reducible assumption) | (with_reducible refine Kept.setCell ?_ ?_) | (with_reducible refine Kept.alloc ?_) | (with_reducible refine Kept.drew ?_) | (exact .inl (by assumption)) | (exact .inl (by simp; done)) | (exact .inl (by omega)) | (exact .inr (by go_size)))), fun k hk => ⟨.inl hk, by rcases hk with rfl | rfl <;> simp <;> omega⟩, (show BkI _ _ _ _ _ _ _ from ⟨rfl, by (repeat' (first | (with_reducible exact Below.refl _ _) | (with_reducible assumption) | (with_reducible refine Below.alloc ?_ ?_ _) | (with_reducible refine Below.drew ?_) | (with_reducible refine below_drewN ?_ _) | (with_reducible refine Below.setCell ?_ ?_ _) | (with_reducible refine below_call ?_ ?_ (by assumption)) | go_size)), ?_, ?_, by simp; omega⟩)⟩
      · rw [show (pre ++ [(x, p, q)]).length = pre.length + 1 by simp]
        intro p hp
        simp only [List.mem_cons, List.not_mem_nil, or_false] at hp
        subst hp
        all_goals exact ⟨by (simp; omega), by go_simp, by go_simp⟩

      · have h6 := own_same HO5.out (setCell_far (b := w2.heap.size) (o := 0) (v := .slice (some ⟨w1.heap.size, 0, none⟩) (pre.length + 1) L.length) w5 (show w1.heap.size ≠ w2.heap.size by omega))
        have e1 : (pre ++ [(x, p, q)]).length = pre.length + 1 := by simp
        have e2 : flatPair ((pre ++ [(x, p, q)]).map fun x => swapP x.2) = flatPair (pre.map fun x => swapP x.2) ++ [.int .i64 q, .int .i64 p] := by
          simp [flatPair_append, flatPair, swapP]
        rw [e1, e2]
        exact h6
    case hdone =>
      rintro D xs M V hD hMD hMb rfl ⟨rfl, hb, hc, hr, hg⟩ hK
      have hz := hb.size
      rw [bkK_len] at hc hr
      rw [backK_of] at hr
      have rc0 : V.cell? ⟨w2.heap.size, 0, none⟩ = some (.slice (some ⟨w1.heap.size, 0, none⟩) L.length L.length) := (hc (w2.heap.size, 0, .slice (some ⟨w1.heap.size, 0, none⟩) L.length L.length) (by simp)).2.1
      have rf0 : V.frozen? ⟨w2.heap.size, 0, none⟩ = false := (hc (w2.heap.size, 0, .slice (some ⟨w1.heap.size, 0, none⟩) L.length L.length) (by simp)).2.2
      have rs0 : w2.heap.size < V.heap.size := (hc (w2.heap.size, 0, .slice (some ⟨w1.heap.size, 0, none⟩) L.length L.length) (by simp)).1
      have HR := Lib.hid hr
      clear hr
      gi_wp2
      refine ⟨by simp, .inl ⟨_, _, rfl, run_takeDeferred hK, ?_⟩⟩
      have hb9 : Below w.heap.size w (V.putObj D (.deferred none)) := hb.trans ((Kept.putObj (M := fun k => k = D) V D (.deferred none) rfl).below hb.size (fun k hk e => by omega))
      rw [HM.out]
      refine ⟨.tuple #[.slice (some ⟨w1.heap.size, 0, none⟩) L.length L.length, .bool true], ?_, _, rfl, ?_, hb9⟩
      · simp [results, Try.f34, go_sem]
      · unfold RowPair
        rw [backK_len]
        exact own_same HR.out (World.putObj_heap_other (by omega))
    case hstop =>
      rintro D c pre M V - - - - h
      exact h.elim
end Go.Proofs.Ytaifcemdabcfjaa
