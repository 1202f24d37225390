/- The nearest one of the pairs that an iterator hands over: by the program. -/
import Derived.Test.YtaifcemdabcfjaaNear1
set_option linter.unusedSimpArgs false
set_option linter.unusedVariables false
set_option maxRecDepth 100000
namespace Go.Proofs.Ytaifcemdabcfjaa
open Go.RowKit Go.Shelf
attribute [local go_sem] Oper.semAt_some

/-- The nearer one. -/
def stN (N D : Int) (b x : Int × Int) : Int × Int := if nrO N D x.1 x.2 b.1 b.2 < 0 then x else b
theorem stN_mem {N D : Int} {P : Int × Int → Prop} {L : List (Int × Int)} {b : Int × Int} (hb : P b) (hL : ∀ x, x ∈ L → P x) : P (L.foldl (stN N D) b) := by
  induction L generalizing b with
  | nil => exact hb
  | cons a L ih =>
    refine ih ?_ fun x hx => hL x (List.mem_cons_of_mem _ hx)
    unfold stN
    split
    · exact hL a List.mem_cons_self
    · exact hb
/-- What the loop knows. -/
def NrI (N D : Int) (w w1 : World) (c : Nat) (p0 : Int × Int) (pre : List (Int × Int)) (M : Nat → Prop) (W : World) : Prop :=
  ∃ px py : Int, pre.foldl (stN N D) p0 = (px, py) ∧ pairB (px, py) = true ∧ M = (fun k => k = w1.heap.size) ∧ Below w.heap.size w W ∧ CellsAt W [(w1.heap.size, 0, .int .i64 px), (w1.heap.size, 1, .int .i64 py), (w.heap.size, 0, .func (.func 86) #[] #[.pointer (some ⟨c, 0, none⟩)]), (w.heap.size + 1, 0, .int .i64 0), (w.heap.size + 1, 1, .int .i64 0)]
set_option maxRecDepth 100000 in
set_option maxHeartbeats 3200000 in
theorem leastOf_pair {N D : Int} (hN : 1 ≤ N ∧ N ≤ 1000) (hD : 1 ≤ D ∧ D ≤ 1000) {gf : FuncId} {lb : Array Value} {O : Nat → Prop} {w0 : World} (qx qy : Int) (LL : List (Int × Int)) (hok : ∀ t, t ∈ (qx, qy) :: LL → pairB t = true)
    (eg : ∀ args w, (callFunc gf args).run Try.prog w = .ok (.enter gf args) w)
    (hseq : Seqs Try.prog gf lb (fun p : Int × Int => #[tv p.1 p.2]) (fun _ _ => True) (fun _ _ => False) (fun xs => xs = (qx, qy) :: LL) (fun pre => pre <+: (qx, qy) :: LL) O w0) (hO : ∀ k, O k → k < w0.heap.size) (w : World) (hb0 : Below w0.heap.size w0 w)
    (c : Nat) (hc : c < w.heap.size) (hc0 : w.cell? ⟨c, 0, none⟩ = some (.int .i64 N)) (hc1 : w.cell? ⟨c, 1, none⟩ = some (.int .i64 D)) :
    Calls Try.prog 84 #[.func (.func gf) #[] lb, .func (.func 86) #[] #[.pointer (some ⟨c, 0, none⟩)]] w fun e w' => e = .returned (pv (((qx, qy) :: LL).foldl (stN N D) (qx, qy) |>.1, ((qx, qy) :: LL).foldl (stN N D) (qx, qy) |>.2, true)) ∧ Below w.heap.size w w' := by
  have CO := fun (x1 y1 x2 y2 : Int) h1 h2 (W : World) => nearOrder_any (x1 := x1) (y1 := y1) (x2 := x2) (y2 := y2) hN hD h1 h2 c W
  have CO := Lib.hid CO
  clear hN hD
  refine (callsIn_wide (n := 0)).1 (callsIn_of_wp_marks Try.func84 rfl trivial ?_ rfl)
  simp only [Try.ntmps84, List.size_toArray, List.length_cons, List.length_nil, Nat.reduceAdd, Nat.reduceSub, Array.replicate_succ, Array.replicate_zero, List.push_toArray, List.append_toArray, List.nil_append, List.cons_append]
  gi_wp2
  refine ⟨trivial, rfl, (callsIn_wide.2 (firstOf_pair ((qx, qy) :: LL) eg hseq hO _ (hb0.trans (Below.mono (B := w.heap.size) (by (repeat' (first | (with_reducible exact Below.refl _ _) | (with_reducible assumption) | (with_reducible refine Below.alloc ?_ ?_ _) | (with_reducible refine Below.drew ?_) | (with_reducible refine below_drewN ?_ _) | (with_reducible refine Below.setCell ?_ ?_ _) | (with_reducible refine below_call ?_ ?_ (by assumption)) | go_size))) hb0.size)))).mono ?_⟩
  rintro e1 w1 ⟨rfl, hb1⟩
  simp only [headR]
  have hz1 := hb1.size
  simp only [World.size_alloc] at hz1
  have hbw : Below w.heap.size w w1 := Below.trans (b := (w.alloc (Obj.cells #[.func (.func 86) #[] #[.pointer (some ⟨c, 0, none⟩)]] 90)).alloc (Obj.cells #[Value.int .i64 0, Value.int .i64 0] 25)) (by (repeat' (first | (with_reducible exact Below.refl _ _) | (with_reducible assumption) | (with_reducible refine Below.alloc ?_ ?_ _) | (with_reducible refine Below.drew ?_) | (with_reducible refine below_drewN ?_ _) | (with_reducible refine Below.setCell ?_ ?_ _) | (with_reducible refine below_call ?_ ?_ (by assumption)) | go_size))) (hb1.mono (by simp; omega))
  have g0 : w1.cell? ⟨w.heap.size, 0, none⟩ = some (.func (.func 86) #[] #[.pointer (some ⟨c, 0, none⟩)]) := ((bcell hb1).1 _ _ (by simp; omega)).trans (by go_simp)
  have g1 : w1.frozen? ⟨w.heap.size, 0, none⟩ = false := ((bcell hb1).2 _ _ (by simp; omega)).trans (by go_simp)
  have g2 : w1.cell? ⟨w.heap.size + 1, 0, none⟩ = some (.int .i64 0) := ((bcell hb1).1 _ _ (by simp)).trans (by go_simp)
  have g3 : w1.frozen? ⟨w.heap.size + 1, 0, none⟩ = false := ((bcell hb1).2 _ _ (by simp)).trans (by go_simp)
  have g4 : w1.cell? ⟨w.heap.size + 1, 1, none⟩ = some (.int .i64 0) := ((bcell hb1).1 _ _ (by simp)).trans (by go_simp)
  have g5 : w1.frozen? ⟨w.heap.size + 1, 1, none⟩ = false := ((bcell hb1).2 _ _ (by simp)).trans (by go_simp)
  have hlt0 : w.heap.size + 1 < w1.heap.size := by omega
  have hlt1 : w.heap.size < w1.heap.size := by omega
  clear hb1
  gi_wp2
  have sz2 : (w1.alloc (Obj.cells #[Value.int .i64 qx, Value.int .i64 qy] 25)).heap.size = w1.heap.size + 1 := by simp only [World.size_alloc]
  refine range_outer rfl eg hseq ((hb0.trans (hbw.mono hb0.size)).trans (Below.mono (B := w1.heap.size) (by (repeat' (first | (with_reducible exact Below.refl _ _) | (with_reducible assumption) | (with_reducible refine Below.alloc ?_ ?_ _) | (with_reducible refine Below.drew ?_) | (with_reducible refine below_drewN ?_ _) | (with_reducible refine Below.setCell ?_ ?_ _) | (with_reducible refine below_call ?_ ?_ (by assumption)) | go_size))) (by have := hb0.size; have := hbw.size; omega))) (fun _ => rfl)
    (fun pre M W => NrI N D w w1 c (qx, qy) pre M W) (fun c pre M W => False)
    ?hI ?hIx (fun k => k = w1.heap.size) ?hM0 ?hO ?h0 ?hround ?hdone ?hstop
  case hI =>
    rintro s M A A' ⟨px, py, hf, hp, rfl, hb, hc⟩ hk
    rw [sz2] at hk
    exact ⟨px, py, hf, hp, rfl, Below.low hb hk (Nat.le_refl _) (by have := hbw.size; omega), hc.low hk (by simp; omega)⟩
  case hIx => rintro c s M A A' h; exact h.elim
  case hM0 => rw [sz2]; rintro k rfl; omega
  case hO =>
    rw [sz2]
    intro k hk
    have := hO k hk; have := hb0.size; have := hbw.size
    exact ⟨by omega, fun e => by omega⟩
  case h0 =>
    refine ⟨qx, qy, rfl, hok _ List.mem_cons_self, rfl, hbw.trans (Below.mono (B := w1.heap.size) (by (repeat' (first | (with_reducible exact Below.refl _ _) | (with_reducible assumption) | (with_reducible refine Below.alloc ?_ ?_ _) | (with_reducible refine Below.drew ?_) | (with_reducible refine below_drewN ?_ _) | (with_reducible refine Below.setCell ?_ ?_ _) | (with_reducible refine below_call ?_ ?_ (by assumption)) | go_size))) hbw.size), ?_⟩
    intro p hp
    simp only [List.mem_cons, List.not_mem_nil, or_false] at hp
    rcases hp with rfl | rfl | rfl | rfl | rfl
    all_goals exact ⟨by (simp only [World.size_alloc]; omega), by go_simp, by go_simp⟩

  case hround =>
    rintro l pre ⟨x, y⟩ M W hl hMl hMb hlt ⟨px, py, hf, hp, rfl, hb, hcc⟩ - - hsp
    rw [sz2] at hl
    have hokx : pairB (x, y) = true := hok _ (hsp.subset (by simp))
    gi_wp2
    refine ⟨by (repeat' (first | (with_reducible exact Below.refl _ _) | (with_reducible assumption) | (with_reducible refine Below.alloc ?_ ?_ _) | (with_reducible refine Below.drew ?_) | (with_reducible refine below_drewN ?_ _) | (with_reducible refine Below.setCell ?_ ?_ _) | (with_reducible refine below_call ?_ ?_ (by assumption)) | go_size)), fun W2 ht => ?_⟩
    obtain ⟨hk2, hs2, -⟩ := ht
    have hz := hb.size
    have hzw := hbw.size
    have hsW2 : W2.heap.size = W.heap.size + 1 := by rw [hs2]; simp
    clear hs2
    have hc2 := (hcc.below (show Below W.heap.size W _ by (repeat' (first | (with_reducible exact Below.refl _ _) | (with_reducible assumption) | (with_reducible refine Below.alloc ?_ ?_ _) | (with_reducible refine Below.drew ?_) | (with_reducible refine below_drewN ?_ _) | (with_reducible refine Below.setCell ?_ ?_ _) | (with_reducible refine below_call ?_ ?_ (by assumption)) | go_size)))).kept hk2 (by simp; omega)
    have b2 : Below w.heap.size w W2 := (hb.trans (Below.mono (B := W.heap.size) (by (repeat' (first | (with_reducible exact Below.refl _ _) | (with_reducible assumption) | (with_reducible refine Below.alloc ?_ ?_ _) | (with_reducible refine Below.drew ?_) | (with_reducible refine below_drewN ?_ _) | (with_reducible refine Below.setCell ?_ ?_ _) | (with_reducible refine below_call ?_ ?_ (by assumption)) | go_size))) hz)).trans (hk2.below (by simp; omega) (fun k hk e => by omega))
    have hlw : w1.heap.size < W.heap.size := (hcc (w1.heap.size, 0, .int .i64 px) (by simp)).1
    have xc0 : W2.cell? ⟨W.heap.size, 0, none⟩ = some (.int .i64 x) := (World.cell?_of_block (hk2.block W.heap.size (by simp) (by omega))).trans (by go_simp)
    have xc1 : W2.cell? ⟨W.heap.size, 1, none⟩ = some (.int .i64 y) := (World.cell?_of_block (hk2.block W.heap.size (by simp) (by omega))).trans (by go_simp)
    have sW : W.heap.size < W2.heap.size := by omega
    have rc0 : W2.cell? ⟨w1.heap.size, 0, none⟩ = some (.int .i64 px) := (hc2 (w1.heap.size, 0, .int .i64 px) (by simp)).2.1
    have rf0 : W2.frozen? ⟨w1.heap.size, 0, none⟩ = false := (hc2 (w1.heap.size, 0, .int .i64 px) (by simp)).2.2
    have rs0 : w1.heap.size < W2.heap.size := (hc2 (w1.heap.size, 0, .int .i64 px) (by simp)).1
    have rc1 : W2.cell? ⟨w1.heap.size, 1, none⟩ = some (.int .i64 py) := (hc2 (w1.heap.size, 1, .int .i64 py) (by simp)).2.1
    have rf1 : W2.frozen? ⟨w1.heap.size, 1, none⟩ = false := (hc2 (w1.heap.size, 1, .int .i64 py) (by simp)).2.2
    have rc2 : W2.cell? ⟨w.heap.size, 0, none⟩ = some (.func (.func 86) #[] #[.pointer (some ⟨c, 0, none⟩)]) := (hc2 (w.heap.size, 0, .func (.func 86) #[] #[.pointer (some ⟨c, 0, none⟩)]) (by simp)).2.1
    have rf2 : W2.frozen? ⟨w.heap.size, 0, none⟩ = false := (hc2 (w.heap.size, 0, .func (.func 86) #[] #[.pointer (some ⟨c, 0, none⟩)]) (by simp)).2.2
    have rs2 : w.heap.size < W2.heap.size := (hc2 (w.heap.size, 0, .func (.func 86) #[] #[.pointer (some ⟨c, 0, none⟩)]) (by simp)).1
    have rc3 : W2.cell? ⟨w.heap.size + 1, 0, none⟩ = some (.int .i64 0) := (hc2 (w.heap.size + 1, 0, .int .i64 0) (by simp)).2.1
    have rf3 : W2.frozen? ⟨w.heap.size + 1, 0, none⟩ = false := (hc2 (w.heap.size + 1, 0, .int .i64 0) (by simp)).2.2
    have rs3 : w.heap.size + 1 < W2.heap.size := (hc2 (w.heap.size + 1, 0, .int .i64 0) (by simp)).1
    have rc4 : W2.cell? ⟨w.heap.size + 1, 1, none⟩ = some (.int .i64 0) := (hc2 (w.heap.size + 1, 1, .int .i64 0) (by simp)).2.1
    have rf4 : W2.frozen? ⟨w.heap.size + 1, 1, none⟩ = false := (hc2 (w.heap.size + 1, 1, .int .i64 0) (by simp)).2.2
    have d0 : W2.cell? ⟨c, 0, none⟩ = some (.int .i64 N) := (b2.cell (p := ⟨c, 0, none⟩) hc).trans hc0
    have d1 : W2.cell? ⟨c, 1, none⟩ = some (.int .i64 D) := (b2.cell (p := ⟨c, 1, none⟩) hc).trans hc1
    have dl : c < W2.heap.size := by omega
    have CC := Lib.hid (CO.out x y px py hokx hp W2 dl d0 d1)
    clear hc2 hk2 d0 d1
    gi_wp2
    refine ⟨trivial, rfl, (callsIn_wide.2 CC.out).mono ?_⟩
    rintro e3 W3 ⟨rfl, hb3⟩
    have hz3 := hb3.size
    have k3 : Kept (fun k => k = w1.heap.size) W2 W3 := Kept.of_below hb3
    have b3 : Below w.heap.size w W3 := b2.trans (hb3.mono b2.size)
    have urc0 : W3.cell? ⟨w1.heap.size, 0, none⟩ = some (.int .i64 px) := ((bcell hb3).1 _ _ (by omega)).trans rc0
    have urf0 : W3.frozen? ⟨w1.heap.size, 0, none⟩ = false := ((bcell hb3).2 _ _ (by omega)).trans rf0
    have urc1 : W3.cell? ⟨w1.heap.size, 1, none⟩ = some (.int .i64 py) := ((bcell hb3).1 _ _ (by omega)).trans rc1
    have urf1 : W3.frozen? ⟨w1.heap.size, 1, none⟩ = false := ((bcell hb3).2 _ _ (by omega)).trans rf1
    have urc2 : W3.cell? ⟨w.heap.size, 0, none⟩ = some (.func (.func 86) #[] #[.pointer (some ⟨c, 0, none⟩)]) := ((bcell hb3).1 _ _ (by omega)).trans rc2
    have urf2 : W3.frozen? ⟨w.heap.size, 0, none⟩ = false := ((bcell hb3).2 _ _ (by omega)).trans rf2
    have urc3 : W3.cell? ⟨w.heap.size + 1, 0, none⟩ = some (.int .i64 0) := ((bcell hb3).1 _ _ (by omega)).trans rc3
    have urf3 : W3.frozen? ⟨w.heap.size + 1, 0, none⟩ = false := ((bcell hb3).2 _ _ (by omega)).trans rf3
    have urc4 : W3.cell? ⟨w.heap.size + 1, 1, none⟩ = some (.int .i64 0) := ((bcell hb3).1 _ _ (by omega)).trans rc4
    have urf4 : W3.frozen? ⟨w.heap.size + 1, 1, none⟩ = false := ((bcell hb3).2 _ _ (by omega)).trans rf4
    have ux0 : W3.cell? ⟨W.heap.size, 0, none⟩ = some (.int .i64 x) := ((bcell hb3).1 _ _ (by omega)).trans xc0
    have ux1 : W3.cell? ⟨W.heap.size, 1, none⟩ = some (.int .i64 y) := ((bcell hb3).1 _ _ (by omega)).trans xc1
    clear rc0 rf0 rc1 rf1 rc2 rf2 rc3 rf3 rc4 rf4 xc0 xc1
    have s3 : w1.heap.size < W3.heap.size := by omega
    have s4 : W.heap.size < W3.heap.size := by omega
    have s5 : w.heap.size < W3.heap.size := by omega
    have s6 : w.heap.size + 1 < W3.heap.size := by omega
    by_cases hless : nrO N D x y px py < 0
    · have hf2 := Lib.hid (show (pre ++ [(x, y)]).foldl (stN N D) (qx, qy) = (x, y) by
        rw [List.foldl_append, hf]
        simp [stN, hless])
      clear hf hsp hMl
      gi_wp2
      refine ⟨fun k => k = w1.heap.size, by (repeat' (first | (with_reducible exact Kept.refl _ _) | (with_reducible assumption) | (with_reducible refine Kept.setCell ?_ ?_) | (with_reducible refine Kept.alloc ?_) | (with_reducible refine Kept.drew ?_) | (exact .inl (by assumption)) | (exact .inl (by simp; done)) | (exact .inl (by omega)) | (exact .inr (by go_size)))), fun k hk => ⟨.inl hk, by rcases hk with rfl; simp; omega⟩, x, y, hf2.out, hokx, rfl, by (repeat' (first | (with_reducible exact Below.refl _ _) | (with_reducible assumption) | (with_reducible refine Below.alloc ?_ ?_ _) | (with_reducible refine Below.drew ?_) | (with_reducible refine below_drewN ?_ _) | (with_reducible refine Below.setCell ?_ ?_ _) | (with_reducible refine below_call ?_ ?_ (by assumption)) | go_size)), ?_⟩
      · intro p hp
        simp only [List.mem_cons, List.not_mem_nil, or_false] at hp
        rcases hp with rfl | rfl | rfl | rfl | rfl
        all_goals exact ⟨by (simp; omega), by go_simp, by go_simp⟩

    · have hf2 := Lib.hid (show (pre ++ [(x, y)]).foldl (stN N D) (qx, qy) = (px, py) by
        rw [List.foldl_append, hf]
        simp [stN, hless])
      clear hf hsp hMl
      gi_wp2
      refine ⟨fun k => k = w1.heap.size, k3, fun k hk => ⟨.inl hk, by rcases hk with rfl; omega⟩, px, py, hf2.out, hp, rfl, b3, ?_⟩
      · intro p hp
        simp only [List.mem_cons, List.not_mem_nil, or_false] at hp
        rcases hp with rfl | rfl | rfl | rfl | rfl
        all_goals exact ⟨by (simp only; omega), by assumption, by assumption⟩

  case hdone =>
    rintro Dd xs M W hD hMD hMb rfl ⟨px, py, hf, hp, rfl, hb, hcc⟩ hK
    rw [sz2] at hD
    have hz := hb.size
    have hzw := hbw.size
    have hDl := (Array.getElem?_eq_some_iff.1 hK).1
    have HF := Lib.hid hf
    clear hf
    have rc0 : W.cell? ⟨w1.heap.size, 0, none⟩ = some (.int .i64 px) := (hcc (w1.heap.size, 0, .int .i64 px) (by simp)).2.1
    have rf0 : W.frozen? ⟨w1.heap.size, 0, none⟩ = false := (hcc (w1.heap.size, 0, .int .i64 px) (by simp)).2.2
    have rs0 : w1.heap.size < W.heap.size := (hcc (w1.heap.size, 0, .int .i64 px) (by simp)).1
    have rc1 : W.cell? ⟨w1.heap.size, 1, none⟩ = some (.int .i64 py) := (hcc (w1.heap.size, 1, .int .i64 py) (by simp)).2.1
    have rf1 : W.frozen? ⟨w1.heap.size, 1, none⟩ = false := (hcc (w1.heap.size, 1, .int .i64 py) (by simp)).2.2
    have rc2 : W.cell? ⟨w.heap.size, 0, none⟩ = some (.func (.func 86) #[] #[.pointer (some ⟨c, 0, none⟩)]) := (hcc (w.heap.size, 0, .func (.func 86) #[] #[.pointer (some ⟨c, 0, none⟩)]) (by simp)).2.1
    have rf2 : W.frozen? ⟨w.heap.size, 0, none⟩ = false := (hcc (w.heap.size, 0, .func (.func 86) #[] #[.pointer (some ⟨c, 0, none⟩)]) (by simp)).2.2
    have rs2 : w.heap.size < W.heap.size := (hcc (w.heap.size, 0, .func (.func 86) #[] #[.pointer (some ⟨c, 0, none⟩)]) (by simp)).1
    have rc3 : W.cell? ⟨w.heap.size + 1, 0, none⟩ = some (.int .i64 0) := (hcc (w.heap.size + 1, 0, .int .i64 0) (by simp)).2.1
    have rf3 : W.frozen? ⟨w.heap.size + 1, 0, none⟩ = false := (hcc (w.heap.size + 1, 0, .int .i64 0) (by simp)).2.2
    have rs3 : w.heap.size + 1 < W.heap.size := (hcc (w.heap.size + 1, 0, .int .i64 0) (by simp)).1
    have rc4 : W.cell? ⟨w.heap.size + 1, 1, none⟩ = some (.int .i64 0) := (hcc (w.heap.size + 1, 1, .int .i64 0) (by simp)).2.1
    have rf4 : W.frozen? ⟨w.heap.size + 1, 1, none⟩ = false := (hcc (w.heap.size + 1, 1, .int .i64 0) (by simp)).2.2
    have r1 : w.heap.size + 1 < W.heap.size := by omega
    gi_wp2
    have hkk : Kept (fun k => k = w.heap.size + 1) W ((W.setCell ⟨w.heap.size + 1, 0, none⟩ (.int .i64 px)).setCell ⟨w.heap.size + 1, 1, none⟩ (.int .i64 py)) := by (repeat' (first | (with_reducible exact Kept.refl _ _) | (with_reducible assumption) | (with_reducible refine Kept.setCell ?_ ?_) | (with_reducible refine Kept.alloc ?_) | (with_reducible refine Kept.drew ?_) | (exact .inl (by assumption)) | (exact .inl (by simp; done)) | (exact .inl (by omega)) | (exact .inr (by go_size))))
    have hc7 : CellsAt ((W.setCell ⟨w.heap.size + 1, 0, none⟩ (.int .i64 px)).setCell ⟨w.heap.size + 1, 1, none⟩ (.int .i64 py)) [(w.heap.size + 1, 0, .int .i64 px), (w.heap.size + 1, 1, .int .i64 py)] := by
      intro p hp
      simp only [List.mem_cons, List.not_mem_nil, or_false] at hp
      rcases hp with rfl | rfl
      all_goals exact ⟨by go_size, by go_simp, by go_simp⟩

    have hbb : Below w.heap.size w ((W.setCell ⟨w.heap.size + 1, 0, none⟩ (.int .i64 px)).setCell ⟨w.heap.size + 1, 1, none⟩ (.int .i64 py)) := by (repeat' (first | (with_reducible exact Below.refl _ _) | (with_reducible assumption) | (with_reducible refine Below.alloc ?_ ?_ _) | (with_reducible refine Below.drew ?_) | (with_reducible refine below_drewN ?_ _) | (with_reducible refine Below.setCell ?_ ?_ _) | (with_reducible refine below_call ?_ ?_ (by assumption)) | go_size))
    generalize ((W.setCell ⟨w.heap.size + 1, 0, none⟩ (.int .i64 px)).setCell ⟨w.heap.size + 1, 1, none⟩ (.int .i64 py)) = W9 at *
    have hK' := (hkk.block Dd hDl (by omega)).trans hK
    refine ⟨by simp, .inl ⟨_, _, rfl, run_takeDeferred hK', ?_⟩⟩
    have hc9 := hc7.kept (Kept.putObj (M := fun k => k = Dd) W9 Dd (.deferred none) rfl) (by simp; omega)
    have hb9 : Below w.heap.size w (W9.putObj Dd (.deferred none)) := hbb.trans ((Kept.putObj (M := fun k => k = Dd) W9 Dd (.deferred none) rfl).below hbb.size (fun k hk e => by omega))
    have qc0 : (W9.putObj Dd (.deferred none)).cell? ⟨w.heap.size + 1, 0, none⟩ = some (.int .i64 px) := (hc9 (w.heap.size + 1, 0, .int .i64 px) (by simp)).2.1
    have qf0 : (W9.putObj Dd (.deferred none)).frozen? ⟨w.heap.size + 1, 0, none⟩ = false := (hc9 (w.heap.size + 1, 0, .int .i64 px) (by simp)).2.2
    have qs0 : w.heap.size + 1 < (W9.putObj Dd (.deferred none)).heap.size := (hc9 (w.heap.size + 1, 0, .int .i64 px) (by simp)).1
    have qc1 : (W9.putObj Dd (.deferred none)).cell? ⟨w.heap.size + 1, 1, none⟩ = some (.int .i64 py) := (hc9 (w.heap.size + 1, 1, .int .i64 py) (by simp)).2.1
    have qf1 : (W9.putObj Dd (.deferred none)).frozen? ⟨w.heap.size + 1, 1, none⟩ = false := (hc9 (w.heap.size + 1, 1, .int .i64 py) (by simp)).2.2
    refine ⟨pv (px, py, true), ?_, by have h9 := HF.out; rw [List.foldl_cons] at h9; rw [h9], hb9⟩
    simp [results, Try.f84, go_sem, qc0, qc1]
  case hstop =>
    rintro D c pre M W - - - - h
    exact h.elim
end Go.Proofs.Ytaifcemdabcfjaa
