/- All motion works: an iterator's contract. -/
import Derived.Test.YtaifcemdabcfjaaFew
import Derived.Test.YtaifcemdabcfjaaRelR
import Derived.Test.YtaifcemdabcfjaaNear1
set_option linter.unusedSimpArgs false
set_option linter.unusedVariables false
set_option maxRecDepth 100000
namespace Go.Proofs.Ytaifcemdabcfjaa
open Go.RowKit Go.Shelf
attribute [local go_sem] Oper.semAt_some

theorem lit27 {t : Array Value} (h : t.size = 27) : ∃ x0 x1 x2 x3 x4 x5 x6 x7 x8 x9 x10 x11 x12 x13 x14 x15 x16 x17 x18 x19 x20 x21 x22 x23 x24 x25 x26, t = #[x0, x1, x2, x3, x4, x5, x6, x7, x8, x9, x10, x11, x12, x13, x14, x15, x16, x17, x18, x19, x20, x21, x22, x23, x24, x25, x26] := by
  obtain ⟨l⟩ := t
  simp only [List.size_toArray] at h
  rcases l with _ | ⟨x0, l⟩
  · simp at h
  rcases l with _ | ⟨x1, l⟩
  · simp at h
  rcases l with _ | ⟨x2, l⟩
  · simp at h
  rcases l with _ | ⟨x3, l⟩
  · simp at h
  rcases l with _ | ⟨x4, l⟩
  · simp at h
  rcases l with _ | ⟨x5, l⟩
  · simp at h
  rcases l with _ | ⟨x6, l⟩
  · simp at h
  rcases l with _ | ⟨x7, l⟩
  · simp at h
  rcases l with _ | ⟨x8, l⟩
  · simp at h
  rcases l with _ | ⟨x9, l⟩
  · simp at h
  rcases l with _ | ⟨x10, l⟩
  · simp at h
  rcases l with _ | ⟨x11, l⟩
  · simp at h
  rcases l with _ | ⟨x12, l⟩
  · simp at h
  rcases l with _ | ⟨x13, l⟩
  · simp at h
  rcases l with _ | ⟨x14, l⟩
  · simp at h
  rcases l with _ | ⟨x15, l⟩
  · simp at h
  rcases l with _ | ⟨x16, l⟩
  · simp at h
  rcases l with _ | ⟨x17, l⟩
  · simp at h
  rcases l with _ | ⟨x18, l⟩
  · simp at h
  rcases l with _ | ⟨x19, l⟩
  · simp at h
  rcases l with _ | ⟨x20, l⟩
  · simp at h
  rcases l with _ | ⟨x21, l⟩
  · simp at h
  rcases l with _ | ⟨x22, l⟩
  · simp at h
  rcases l with _ | ⟨x23, l⟩
  · simp at h
  rcases l with _ | ⟨x24, l⟩
  · simp at h
  rcases l with _ | ⟨x25, l⟩
  · simp at h
  rcases l with _ | ⟨x26, l⟩
  · simp at h
  obtain rfl : l = [] := List.eq_nil_of_length_eq_zero (by simp at h; simpa using h)
  exact ⟨x0, x1, x2, x3, x4, x5, x6, x7, x8, x9, x10, x11, x12, x13, x14, x15, x16, x17, x18, x19, x20, x21, x22, x23, x24, x25, x26, rfl⟩
def sameB (t : Tr) : Bool := decide (sumT [t.1] = sumT [t.2])
/-- All of them, in order. -/
def worksL (h : Int) (n : Nat) : List Tr := (trainsL 1 h n).filter sameB
set_option maxHeartbeats 400000 in
theorem worksOf_makes (h m : Int) (w : World) :
    Calls Try.prog 96 #[.int .i64 h, .int .i64 m] w fun e w' => e = .returned (.func (.func 108) #[] #[.pointer (some ⟨w.heap.size, 0, none⟩), .pointer (some ⟨w.heap.size + 1, 0, none⟩)]) ∧ w' = (w.alloc (.cells #[.int .i64 h] 3)).alloc (.cells #[.int .i64 m] 3) := by
  (go_enter Try.func96, Try.ntmps96)
  go_wp2
  go_ret
  exact ⟨by simp, rfl⟩
theorem gc_unit (h : Int) : gc 1 h = 1 := by unfold gc; simp
theorem TrAt.mono {B B' : Nat} {x : Nat × Tr} {W : World} (h : TrAt B x W) (hb : B' ≤ B) : TrAt B' x W := RowPair.mono h hb
theorem TrAt.cells {B g : Nat} {a b c d : Int} {W : World} (h : TrAt B (g, ((a, b), (c, d))) W) :
    W.cell? ⟨g, 0, none⟩ = some (.int .i64 a) ∧ W.cell? ⟨g, 1, none⟩ = some (.int .i64 b) ∧ W.cell? ⟨g, 2, none⟩ = some (.int .i64 c) ∧ W.cell? ⟨g, 3, none⟩ = some (.int .i64 d) := by
  have hi := h.inn
  obtain ⟨b0, o0, e0, -, f0, f1⟩ := hi 0 (by simp)
  obtain ⟨b1, o1, e1, -, f2, f3⟩ := hi 1 (by simp)
  simp only [Option.some.injEq, Addr.mk.injEq] at e0 e1
  obtain ⟨rfl, rfl, -⟩ := e0
  obtain ⟨rfl, rfl, -⟩ := e1
  exact ⟨by simpa using f0, by simpa using f1, by simpa using f2, by simpa using f3⟩
def wkR (a b c d : Int) (g : Nat) (i : Nat) (v : Value) (W : World) : Prop := match i with
  | 0 => v = .slice (some ⟨g, 0, none⟩) 2 2
  | 1 => v = .pointer (some ⟨g, 0, none⟩)
  | 2 => v = tv a b
  | 3 => PairSl a b v W
  | 4 => v = .int .i64 (sumT [(a, b)])
  | 5 => v = .slice (some ⟨g, 0, none⟩) 2 2
  | 6 => v = .pointer (some ⟨g, 2, none⟩)
  | 7 => v = tv c d
  | 8 => PairSl c d v W
  | 9 => v = .int .i64 (sumT [(c, d)])
  | 10 => v = .bool (sumT [(a, b)] == sumT [(c, d)])
  | _ => True
theorem wkR_stays {a b c d : Int} {g : Nat} : ∀ i v w1 w2, wkR a b c d g i v w1 → Below w1.heap.size w1 w2 → wkR a b c d g i v w2 := by
  intro i v w1 w2 h hb
  unfold wkR at h ⊢
  split <;> first
    | exact h
    | exact PairSl.below h hb
    | trivial
set_option maxRecDepth 100000 in
set_option maxHeartbeats 4000000 in
theorem worksOf_seqs (h : Int) (hh : 1 ≤ h ∧ h ≤ 1000) (n : Nat) (hn : n ≤ 115) (B1 B2 : Nat) (w0 : World)
    (hC : CellsAt w0 [(B1, 0, .int .i64 h), (B2, 0, .int .i64 (5 + (n : Int)))]) :
    Seqs Try.prog 108 #[.pointer (some ⟨B1, 0, none⟩), .pointer (some ⟨B2, 0, none⟩)] trEnc (fun x W => TrAt w0.heap.size x W) (fun x k => k = x.1) (fun xs => xs.map (·.2) = worksL h n) (fun pre => pre.map (·.2) <+: worksL h n) (fun k => k = B1 ∨ k = B2) w0 := by
  intro l J Jx M0 W hW hJ hJx hO hM0 hY h0
  have hCW := hC.below hW
  have hsW := hW.size
  have HY := Lib.hid hY
  have HJ := Lib.hid hJ
  have HJx := Lib.hid hJx
  have HM0 := Lib.hid hM0
  clear hY hJ hJx hO hM0 hC hW
  have cc0 : W.cell? ⟨B1, 0, none⟩ = some (.int .i64 h) := (hCW (B1, 0, .int .i64 h) (by simp)).2.1
  have cs0 : B1 < W.heap.size := (hCW (B1, 0, .int .i64 h) (by simp)).1
  have cc2 : W.cell? ⟨B2, 0, none⟩ = some (.int .i64 (5 + (n : Int))) := (hCW (B2, 0, .int .i64 (5 + (n : Int))) (by simp)).2.1
  have cs2 : B2 < W.heap.size := (hCW (B2, 0, .int .i64 (5 + (n : Int))) (by simp)).1
  clear hCW
  refine (callsIn_wide (n := 0)).1 (callsIn_of_wp_marks Try.func108 rfl trivial ?_ rfl)
  simp only [Try.ntmps108, List.size_toArray, List.length_cons, List.length_nil, Nat.reduceAdd, Nat.reduceSub, Array.replicate_succ, Array.replicate_zero, List.push_toArray, List.append_toArray, List.nil_append, List.cons_append]
  gi_wp2
  refine ⟨trivial, rfl, (callsIn_wide.2 (trainsOfTwo_makes 1 h (5 + (n : Int)) _)).mono ?_⟩
  rintro e1 w1 ⟨rfl, hw1⟩
  simp only [World.size_alloc] at hw1 ⊢
  have hb1 : Below W.heap.size W w1 := by rw [hw1]; (repeat' (first | (with_reducible exact Below.refl _ _) | (with_reducible assumption) | (with_reducible refine Below.alloc ?_ ?_ _) | (with_reducible refine Below.drew ?_) | (with_reducible refine below_drewN ?_ _) | (with_reducible refine Below.setCell ?_ ?_ _) | (with_reducible refine below_call ?_ ?_ (by assumption)) | go_size))
  have hs1 : w1.heap.size = W.heap.size + 3 := by rw [hw1]; simp
  have hm1 : CellsAt w1 [(W.heap.size + 1, 0, .int .i64 (spN 1 h)), (W.heap.size + 1, 1, .int .i64 (spD 1 h)), (W.heap.size + 2, 0, .int .i64 (5 + (n : Int)))] := by
    rw [(sp_one (gc_unit h)).1, (sp_one (gc_unit h)).2, hw1]
    intro p hp
    simp only [List.mem_cons, List.not_mem_nil, or_false] at hp
    rcases hp with rfl | rfl | rfl
    all_goals exact ⟨by (simp only [World.size_alloc]; omega), by go_simp, by go_simp⟩

  have hcell1 : CellsAt w1 [(W.heap.size, 0, .func (.yield l) #[] #[])] := by
    rw [hw1]
    intro p hp
    simp only [List.mem_cons, List.not_mem_nil, or_false] at hp
    subst hp
    all_goals exact ⟨by (simp only [World.size_alloc]; omega), by go_simp, by go_simp⟩

  clear hw1
  gi_wp2
  refine range_outer rfl (enters_of Try.func104 (by kernel_rfl) rfl) (trainsOfTwo_seqs 1 h ⟨by omega, by omega⟩ hh n hn (W.heap.size + 1) (W.heap.size + 2) w1 hm1) (Below.refl _ _) (fun _ => rfl)
    (fun pre M V => ∃ ts : List (Nat × Tr), J ts M V ∧ ts.map (·.2) = (pre.map (·.2)).filter sameB ∧ ¬ M W.heap.size ∧ (∀ k, M k → M0 k ∨ W.heap.size ≤ k) ∧ w1.heap.size ≤ V.heap.size ∧ CellsAt V [(W.heap.size, 0, .func (.yield l) #[] #[])])
    (fun c pre M V => c = .ret ∧ ∃ ts : List (Nat × Tr), Jx ts M V ∧ ts.map (·.2) <+: worksL h n ∧ (∀ k, M k → M0 k ∨ W.heap.size ≤ k))
    ?hI ?hIx M0 ?hM0 ?hO ?h0 ?hround ?hdone ?hstop
  case hI =>
    rintro s M A A' ⟨ts, h1, h2, h3, h4, h5, h6⟩ hk
    rw [hs1] at hk
    exact ⟨ts, HJ.out _ _ _ _ h1 (hk.weaken (fun k _ h => ⟨by omega, h.2⟩)), h2, h3, h4, Nat.le_trans h5 hk.size, h6.low hk (by simp)⟩
  case hIx =>
    rintro c s M A A' ⟨rfl, ts, h1, h2, h3⟩ hk
    rw [hs1] at hk
    exact ⟨rfl, ts, HJx.out _ _ _ _ h1 (hk.weaken (fun k _ h => ⟨by omega, h.2⟩)), h2, h3⟩
  case hM0 => intro k hk; have := HM0.out k hk; omega
  case hO =>
    rintro k (rfl | rfl)
    · exact ⟨by omega, fun h => by have := HM0.out _ h; omega⟩
    · exact ⟨by omega, fun h => by have := HM0.out _ h; omega⟩
  case h0 =>
    refine ⟨[], HJ.out _ _ _ _ h0 (Kept.of_below hb1), rfl, fun h => by have := HM0.out _ h; omega, fun k h => .inl h, Nat.le_refl _, hcell1⟩
  case hround =>
    rintro l1 pre ⟨g, ⟨a, b⟩, ⟨c, d⟩⟩ M V hl hMl hMb hlt ⟨ts, hJt, hts, n1, hgr, hsV, hcV⟩ hv htx hsp
    obtain ⟨q1, q2, q3, q4⟩ := htx g rfl
    have hmem : (((a, b), (c, d)) : Tr) ∈ trainsL 1 h n := hsp.subset (by simp)
    obtain ⟨hp1, hp2⟩ := okTr_trainsL hn hmem
    have HP1 := Lib.hid hp1
    have HP2 := Lib.hid hp2
    clear hp1 hp2
    gi_wp2
    refine ⟨Below.refl _ _, fun W2 ht => ?_⟩
    obtain ⟨hk2, hs2, -⟩ := ht
    have hcA : CellsAt W2 [(W.heap.size, 0, .func (.yield l) #[] #[])] := hcV.kept hk2 (by simp; omega)
    have hv2 : TrAt w1.heap.size (g, ((a, b), (c, d))) W2 := hv.same (hk2.block g q2 q4)
    have hJ2 : J ts M W2 := HJ.out _ _ _ _ hJt (hk2.weaken (fun k _ e => ⟨by omega, by subst e; exact hMl⟩))
    obtain ⟨gc0, gc1, gc2, gc3⟩ := hv2.cells
    have hgU := hv2.lt
    have hsa : W.heap.size < W2.heap.size := by omega
    have hspF := List.IsPrefix.filter sameB hsp
    have HV2 := Lib.hid hv2
    have HCA := Lib.hid hcA
    clear hv hv2 hk2 hcV hJt hcA
    gi_wp2
    refine region_heads 11 (wkR a b c d g) (by kernel_rfl) (by kernel_rfl) (by simp) (by kernel_rfl) (by kernel_rfl) (by kernel_rfl) wkR_stays ?hstep ?hend
    case hstep =>
      refine ⟨?_, ?_, ?_, ?_, ?_, ?_, ?_, ?_, ?_, ?_, ?_, trivial⟩
      · intro a' w' hS hF hdep
        obtain ⟨hcq, hfq⟩ := bcell hS
        have t4 : a'.eval (.tmp 4) = .slice (some ⟨g, 0, none⟩) 2 2 := (hF.2.2 4 (by kernel_rfl)).trans (by first | rfl | (simp [Act.eval]; done))
        have tk0 : a'.eval (.const (.int .i64 0)) = .int .i64 0 := rfl
        have tk1 : a'.eval (.const (.int .i64 1)) = .int .i64 1 := rfl
        clear hdep hF
        refine relR_value (.slice (some ⟨g, 0, none⟩) 2 2) 10 rfl rfl rfl ?_ (Below.refl _ _) rfl
        generalize a'.eval = ev at *
        go_simp
      · intro a' w' hS hF hdep
        obtain ⟨hcq, hfq⟩ := bcell hS
        have t4 : a'.eval (.tmp 4) = .slice (some ⟨g, 0, none⟩) 2 2 := (hF.2.2 4 (by kernel_rfl)).trans (by first | rfl | (simp [Act.eval]; done))
        have e0 : (a'.eval (.tmp 10)) = .slice (some ⟨g, 0, none⟩) 2 2 := hdep 0 10 (by kernel_rfl) rfl
        have tk0 : a'.eval (.const (.int .i64 0)) = .int .i64 0 := rfl
        have tk1 : a'.eval (.const (.int .i64 1)) = .int .i64 1 := rfl
        clear hdep hF
        refine relR_value (.pointer (some ⟨g, 0, none⟩)) 11 rfl rfl rfl ?_ (Below.refl _ _) rfl
        generalize a'.eval = ev at *
        go_simp
      · intro a' w' hS hF hdep
        obtain ⟨hcq, hfq⟩ := bcell hS
        have t4 : a'.eval (.tmp 4) = .slice (some ⟨g, 0, none⟩) 2 2 := (hF.2.2 4 (by kernel_rfl)).trans (by first | rfl | (simp [Act.eval]; done))
        have e0 : (a'.eval (.tmp 11)) = .pointer (some ⟨g, 0, none⟩) := hdep 1 11 (by kernel_rfl) rfl
        have tk0 : a'.eval (.const (.int .i64 0)) = .int .i64 0 := rfl
        have tk1 : a'.eval (.const (.int .i64 1)) = .int .i64 1 := rfl
        clear hdep hF
        have q0 : w'.cell? ⟨g, 0, none⟩ = some (.int .i64 a) := (hcq _ _ hgU).trans gc0
        have q1 : w'.cell? ⟨g, 1, none⟩ = some (.int .i64 b) := (hcq _ _ hgU).trans gc1
        refine relR_value (tv a b) 12 rfl rfl rfl ?_ (Below.refl _ _) rfl
        generalize a'.eval = ev at *
        go_simp
      · intro a' w' hS hF hdep
        obtain ⟨hcq, hfq⟩ := bcell hS
        have t4 : a'.eval (.tmp 4) = .slice (some ⟨g, 0, none⟩) 2 2 := (hF.2.2 4 (by kernel_rfl)).trans (by first | rfl | (simp [Act.eval]; done))
        have e0 : (a'.eval (.tmp 12)) = tv a b := hdep 2 12 (by kernel_rfl) rfl
        have tk0 : a'.eval (.const (.int .i64 0)) = .int .i64 0 := rfl
        have tk1 : a'.eval (.const (.int .i64 1)) = .int .i64 1 := rfl
        clear hdep hF
        refine relR_value (w2 := w'.alloc (.cells #[.int .i64 a, .int .i64 b] 25)) (.slice (some ⟨w'.heap.size, 0, none⟩) 1 1) 13 rfl rfl rfl ?_ (by (repeat' (first | (with_reducible exact Below.refl _ _) | (with_reducible assumption) | (with_reducible refine Below.alloc ?_ ?_ _) | (with_reducible refine Below.drew ?_) | (with_reducible refine below_drewN ?_ _) | (with_reducible refine Below.setCell ?_ ?_ _) | (with_reducible refine below_call ?_ ?_ (by assumption)) | go_size))) ⟨_, rfl, by simp, by go_simp, by go_simp⟩
        generalize a'.eval = ev at *
        go_simp
        try rfl
      · intro a' w' hS hF hdep
        obtain ⟨hcq, hfq⟩ := bcell hS
        have t4 : a'.eval (.tmp 4) = .slice (some ⟨g, 0, none⟩) 2 2 := (hF.2.2 4 (by kernel_rfl)).trans (by first | rfl | (simp [Act.eval]; done))
        have e0 : PairSl a b (a'.eval (.tmp 13)) w' := hdep 3 13 (by kernel_rfl) rfl
        have tk0 : a'.eval (.const (.int .i64 0)) = .int .i64 0 := rfl
        have tk1 : a'.eval (.const (.int .i64 1)) = .int .i64 1 := rfl
        clear hdep hF
        have tf : a'.eval (.func 91) = .func (.func 91) #[] #[] := rfl
        refine relR_call (args := #[a'.eval (.tmp 13)]) 14 rfl rfl rfl ?_ (teethOf_sl HP1.out _ e0) (fun _ _ => rfl)
        generalize a'.eval = ev at *
        go_simp
      · intro a' w' hS hF hdep
        obtain ⟨hcq, hfq⟩ := bcell hS
        have t4 : a'.eval (.tmp 4) = .slice (some ⟨g, 0, none⟩) 2 2 := (hF.2.2 4 (by kernel_rfl)).trans (by first | rfl | (simp [Act.eval]; done))
        have tk0 : a'.eval (.const (.int .i64 0)) = .int .i64 0 := rfl
        have tk1 : a'.eval (.const (.int .i64 1)) = .int .i64 1 := rfl
        clear hdep hF
        refine relR_value (.slice (some ⟨g, 0, none⟩) 2 2) 15 rfl rfl rfl ?_ (Below.refl _ _) rfl
        generalize a'.eval = ev at *
        go_simp
      · intro a' w' hS hF hdep
        obtain ⟨hcq, hfq⟩ := bcell hS
        have t4 : a'.eval (.tmp 4) = .slice (some ⟨g, 0, none⟩) 2 2 := (hF.2.2 4 (by kernel_rfl)).trans (by first | rfl | (simp [Act.eval]; done))
        have e0 : (a'.eval (.tmp 15)) = .slice (some ⟨g, 0, none⟩) 2 2 := hdep 5 15 (by kernel_rfl) rfl
        have tk0 : a'.eval (.const (.int .i64 0)) = .int .i64 0 := rfl
        have tk1 : a'.eval (.const (.int .i64 1)) = .int .i64 1 := rfl
        clear hdep hF
        refine relR_value (.pointer (some ⟨g, 2, none⟩)) 16 rfl rfl rfl ?_ (Below.refl _ _) rfl
        generalize a'.eval = ev at *
        go_simp
      · intro a' w' hS hF hdep
        obtain ⟨hcq, hfq⟩ := bcell hS
        have t4 : a'.eval (.tmp 4) = .slice (some ⟨g, 0, none⟩) 2 2 := (hF.2.2 4 (by kernel_rfl)).trans (by first | rfl | (simp [Act.eval]; done))
        have e0 : (a'.eval (.tmp 16)) = .pointer (some ⟨g, 2, none⟩) := hdep 6 16 (by kernel_rfl) rfl
        have tk0 : a'.eval (.const (.int .i64 0)) = .int .i64 0 := rfl
        have tk1 : a'.eval (.const (.int .i64 1)) = .int .i64 1 := rfl
        clear hdep hF
        have q0 : w'.cell? ⟨g, 2, none⟩ = some (.int .i64 c) := (hcq _ _ hgU).trans gc2
        have q1 : w'.cell? ⟨g, 3, none⟩ = some (.int .i64 d) := (hcq _ _ hgU).trans gc3
        refine relR_value (tv c d) 17 rfl rfl rfl ?_ (Below.refl _ _) rfl
        generalize a'.eval = ev at *
        go_simp
      · intro a' w' hS hF hdep
        obtain ⟨hcq, hfq⟩ := bcell hS
        have t4 : a'.eval (.tmp 4) = .slice (some ⟨g, 0, none⟩) 2 2 := (hF.2.2 4 (by kernel_rfl)).trans (by first | rfl | (simp [Act.eval]; done))
        have e0 : (a'.eval (.tmp 17)) = tv c d := hdep 7 17 (by kernel_rfl) rfl
        have tk0 : a'.eval (.const (.int .i64 0)) = .int .i64 0 := rfl
        have tk1 : a'.eval (.const (.int .i64 1)) = .int .i64 1 := rfl
        clear hdep hF
        refine relR_value (w2 := w'.alloc (.cells #[.int .i64 c, .int .i64 d] 25)) (.slice (some ⟨w'.heap.size, 0, none⟩) 1 1) 18 rfl rfl rfl ?_ (by (repeat' (first | (with_reducible exact Below.refl _ _) | (with_reducible assumption) | (with_reducible refine Below.alloc ?_ ?_ _) | (with_reducible refine Below.drew ?_) | (with_reducible refine below_drewN ?_ _) | (with_reducible refine Below.setCell ?_ ?_ _) | (with_reducible refine below_call ?_ ?_ (by assumption)) | go_size))) ⟨_, rfl, by simp, by go_simp, by go_simp⟩
        generalize a'.eval = ev at *
        go_simp
        try rfl
      · intro a' w' hS hF hdep
        obtain ⟨hcq, hfq⟩ := bcell hS
        have t4 : a'.eval (.tmp 4) = .slice (some ⟨g, 0, none⟩) 2 2 := (hF.2.2 4 (by kernel_rfl)).trans (by first | rfl | (simp [Act.eval]; done))
        have e0 : PairSl c d (a'.eval (.tmp 18)) w' := hdep 8 18 (by kernel_rfl) rfl
        have tk0 : a'.eval (.const (.int .i64 0)) = .int .i64 0 := rfl
        have tk1 : a'.eval (.const (.int .i64 1)) = .int .i64 1 := rfl
        clear hdep hF
        have tf : a'.eval (.func 91) = .func (.func 91) #[] #[] := rfl
        refine relR_call (args := #[a'.eval (.tmp 18)]) 19 rfl rfl rfl ?_ (teethOf_sl HP2.out _ e0) (fun _ _ => rfl)
        generalize a'.eval = ev at *
        go_simp
      · intro a' w' hS hF hdep
        obtain ⟨hcq, hfq⟩ := bcell hS
        have t4 : a'.eval (.tmp 4) = .slice (some ⟨g, 0, none⟩) 2 2 := (hF.2.2 4 (by kernel_rfl)).trans (by first | rfl | (simp [Act.eval]; done))
        have e0 : (a'.eval (.tmp 14)) = .int .i64 (sumT [(a, b)]) := hdep 4 14 (by kernel_rfl) rfl
        have e1 : (a'.eval (.tmp 19)) = .int .i64 (sumT [(c, d)]) := hdep 9 19 (by kernel_rfl) rfl
        have tk0 : a'.eval (.const (.int .i64 0)) = .int .i64 0 := rfl
        have tk1 : a'.eval (.const (.int .i64 1)) = .int .i64 1 := rfl
        clear hdep hF
        refine relR_value (.bool (sumT [(a, b)] == sumT [(c, d)])) 20 rfl rfl rfl ?_ (Below.refl _ _) rfl
        generalize a'.eval = ev at *
        go_simp

    case hend =>
      rintro ⟨tm, df⟩ U hS ⟨hF1, hF2, hF3⟩ hD
      have hq20 := hD 10 _ (by omega) rfl 20 rfl
      have hq3 := hF3 3 (by kernel_rfl)
      have hq4 := hF3 4 (by kernel_rfl)
      obtain ⟨z0, z1, z2, z3, z4, z5, z6, z7, z8, z9, z10, z11, z12, z13, z14, z15, z16, z17, z18, z19, z20, z21, z22, z23, z24, z25, z26, rfl⟩ := lit27 hF1
      obtain rfl : df = [] := hF2
      have hz3 : z3 = .pointer (some ⟨W.heap.size, 0, none⟩) := hq3
      have hz4 : z4 = .slice (some ⟨g, 0, none⟩) 2 2 := hq4
      have hz20 : z20 = .bool (sumT [(a, b)] == sumT [(c, d)]) := hq20
      clear hq20 hq3 hq4 hD hF1 hF3
      subst hz3 hz4 hz20
      have hzU := hS.size
      have hgU2 : g < U.heap.size := by omega
      have hVU : TrAt w1.heap.size (g, ((a, b), (c, d))) U := HV2.out.same (hS.block g hgU)
      have hJU : J ts M U := HJ.out _ _ _ _ hJ2 (Kept.of_below hS)
      have hCU : CellsAt U [(W.heap.size, 0, .func (.yield l) #[] #[])] := HCA.out.below hS
      have hkU : Kept M W2 U := Kept.of_below hS
      have yc : U.cell? ⟨W.heap.size, 0, none⟩ = some (.func (.yield l) #[] #[]) := (hCU (W.heap.size, 0, .func (.yield l) #[] #[]) (by simp)).2.1
      have ys : W.heap.size < U.heap.size := (hCU (W.heap.size, 0, .func (.yield l) #[] #[]) (by simp)).1
      have HCU := Lib.hid hCU
      clear hCU
      show anyR _ _ _ _ _ 6 _ _ _
      cases hq : (sumT [(a, b)] == sumT [(c, d)])
      · have hsame : sameB ((a, b), (c, d)) = false := by unfold sameB; rw [decide_eq_false_iff_not]; simpa using hq
        have hflt : (List.map (fun x : Nat × Tr => x.2) (pre ++ [(g, ((a, b), (c, d)))])).filter sameB = ts.map (·.2) := by
          rw [hts]; simp [hsame]
        have HFL := Lib.hid hflt
        clear hflt hsame
        refine takeR (i := 11) (v := .bool false) 21 rfl rfl (by kernel_rfl) (by kernel_rfl) (by kernel_rfl) (fun _ _ _ h => h) (by rfl) ?_ trivial ?_
        · intro U9 _
          go_simp
        simp only [Act.put, List.setIfInBounds_toArray, List.set_cons_zero, List.set_cons_succ]
        refine skipR (i := 12) 22 rfl rfl (by kernel_rfl) (by kernel_rfl) (by kernel_rfl) (fun _ _ _ h => h) (by rfl) trivial ?_
        simp only [Act.put, List.setIfInBounds_toArray, List.set_cons_zero, List.set_cons_succ]
        refine skipR (i := 13) 23 rfl rfl (by kernel_rfl) (by kernel_rfl) (by kernel_rfl) (fun _ _ _ h => h) (by rfl) trivial ?_
        simp only [Act.put, List.setIfInBounds_toArray, List.set_cons_zero, List.set_cons_succ]
        refine skipR (i := 14) 24 rfl rfl (by kernel_rfl) (by kernel_rfl) (by kernel_rfl) (fun _ _ _ h => h) (by rfl) trivial ?_
        simp only [Act.put, List.setIfInBounds_toArray, List.set_cons_zero, List.set_cons_succ]
        refine skipR (i := 15) 25 rfl rfl (by kernel_rfl) (by kernel_rfl) (by kernel_rfl) (fun _ _ _ h => h) (by rfl) trivial ?_
        simp only [Act.put, List.setIfInBounds_toArray, List.set_cons_zero, List.set_cons_succ]
        refine takeR (i := 16) (v := .bool false) 26 rfl rfl (by kernel_rfl) (by kernel_rfl) (by kernel_rfl) (fun _ _ _ h => h) (by rfl) ?_ trivial ?_
        · intro U9 _
          go_simp
        simp only [Act.put, List.setIfInBounds_toArray, List.set_cons_zero, List.set_cons_succ]
        refine doneR (by kernel_rfl) ?_ _
        gi_wp2
        refine ⟨M, hkU, fun k hk => ⟨.inl hk, Nat.lt_of_lt_of_le (hMb k hk) (by omega)⟩, ts, hJU, HFL.out.symm, n1, hgr, by omega, HCU.out⟩
      · have hsame : sameB ((a, b), (c, d)) = true := by unfold sameB; rw [decide_eq_true_eq]; simpa using hq
        have hsp3 : (ts ++ [(g, (((a, b), (c, d)) : Tr))]).map (·.2) <+: worksL h n := by
          have := hspF
          rw [List.map_append, hts]
          simpa [hsame, worksL] using this
        have hflt : (List.map (fun x : Nat × Tr => x.2) (pre ++ [(g, ((a, b), (c, d)))])).filter sameB = (ts ++ [(g, (((a, b), (c, d)) : Tr))]).map (·.2) := by
          rw [List.map_append, List.map_append, hts]; simp [hsame]
        have HFL := Lib.hid hflt
        clear hflt hsame
        obtain ⟨fn, tmps, assign, body, hyl, hR⟩ := HY.out ts (g, ((a, b), (c, d))) M _ hJU (hVU.mono (by omega)) (fun k e => by subst e; exact ⟨by first | omega | (simp only; omega), hgU2, q3⟩) hsp3
        simp only [trEnc] at hyl
        refine takeR (i := 11) (v := .bool true) 21 rfl rfl (by kernel_rfl) (by kernel_rfl) (by kernel_rfl) (fun _ _ _ h => h) (by rfl) ?_ trivial ?_
        · intro U9 _
          go_simp
        simp only [Act.put, List.setIfInBounds_toArray, List.set_cons_zero, List.set_cons_succ]
        refine takeR (i := 13) (v := .slice (some ⟨g, 0, none⟩) 2 2) 23 rfl rfl (by kernel_rfl) (by kernel_rfl) (by kernel_rfl) (fun _ _ _ h => h) (by rfl) ?_ trivial ?_
        · intro U9 _
          go_simp
        simp only [Act.put, List.setIfInBounds_toArray, List.set_cons_zero, List.set_cons_succ]
        refine allR (rs := [12]) (by kernel_rfl) (by decide) (List.forall_mem_cons.2 ⟨?_, fun _ h => absurd h List.not_mem_nil⟩)
        refine valueR (v := .func (.yield l) #[] #[]) (w' := U) 22 rfl rfl (by rfl) (by go_simp) ⟨trivial, ?_⟩
        simp only [Act.put, List.setIfInBounds_toArray, List.set_cons_zero, List.set_cons_succ]
        refine allR (rs := [14]) (by kernel_rfl) (by decide) (List.forall_mem_cons.2 ⟨?_, fun _ h => absurd h List.not_mem_nil⟩)
        refine yieldR 24 rfl rfl (by rfl) (l := l) (fn := fn) (tmps := tmps) (assign := assign) (body := body) (by go_simp) (hR.mono ?_)
        rintro e3 Z3 ⟨M3, hk4, hg3, hh⟩
        have hsz3 := hk4.size
        have hkM : Kept M W2 Z3 := Kept.trans hkU hk4 (fun _ _ h => h) (fun _ _ h => h)
        have hgZ : ∀ k, M3 k → (M k ∨ k = g ∨ V.heap.size ≤ k) ∧ k < Z3.heap.size := fun k h => ⟨by
          rcases (hg3 k h).1 with h' | h' | h'
          · exact .inl h'
          · exact .inr (.inl h')
          · exact .inr (.inr (by omega)), (hg3 k h).2⟩
        have hgM : ∀ k, M3 k → M0 k ∨ W.heap.size ≤ k := fun k h => by
          rcases (hgZ k h).1 with h' | h' | h'
          · exact hgr k h'
          · exact .inr (by omega)
          · exact .inr (by omega)
        have hn3 : ¬ M3 W.heap.size := fun h => by
          rcases (hgZ _ h).1 with h' | h' | h'
          · exact n1 h'
          · omega
          · omega
        rcases hh with ⟨rfl, hJ4⟩ | ⟨rfl, hJ4⟩
        · refine ⟨_, rfl, trivial, ?_⟩
          simp only [Act.put, List.setIfInBounds_toArray, List.set_cons_zero, List.set_cons_succ]
          refine takeR (i := 15) (v := .bool false) 25 rfl rfl (by kernel_rfl) (by kernel_rfl) (by kernel_rfl) (fun _ _ _ h => h) (by rfl) ?_ trivial ?_
          · intro U9 _
            go_simp
          simp only [Act.put, List.setIfInBounds_toArray, List.set_cons_zero, List.set_cons_succ]
          refine takeR (i := 16) (v := .bool false) 26 rfl rfl (by kernel_rfl) (by kernel_rfl) (by kernel_rfl) (fun _ _ _ h => h) (by rfl) ?_ trivial ?_
          · intro U9 _
            go_simp
          simp only [Act.put, List.setIfInBounds_toArray, List.set_cons_zero, List.set_cons_succ]
          refine doneR (by kernel_rfl) ?_ _
          gi_wp2
          refine ⟨M3, hkM, hgZ, ts ++ [(g, ((a, b), (c, d)))], hJ4, HFL.out.symm, hn3, hgM, by omega, HCU.out.kept hk4 (by simpa using n1)⟩
        · refine ⟨_, rfl, trivial, ?_⟩
          simp only [Act.put, List.setIfInBounds_toArray, List.set_cons_zero, List.set_cons_succ]
          refine takeR (i := 15) (v := .bool true) 25 rfl rfl (by kernel_rfl) (by kernel_rfl) (by kernel_rfl) (fun _ _ _ h => h) (by rfl) ?_ trivial ?_
          · intro U9 _
            go_simp
          simp only [Act.put, List.setIfInBounds_toArray, List.set_cons_zero, List.set_cons_succ]
          refine takeR (i := 16) (v := .bool true) 26 rfl rfl (by kernel_rfl) (by kernel_rfl) (by kernel_rfl) (fun _ _ _ h => h) (by rfl) ?_ trivial ?_
          · intro U9 _
            go_simp
          simp only [Act.put, List.setIfInBounds_toArray, List.set_cons_zero, List.set_cons_succ]
          refine doneR (by kernel_rfl) ?_ _
          gi_wp2
          refine ⟨M3, hkM, hgZ, rfl, ts ++ [(g, ((a, b), (c, d)))], hJ4, hsp3, hgM⟩
  case hdone =>
    rintro D9 xs M V hD hMD hMb hS ⟨ts, hJt, hts, n1, hgr, hsV, hcV⟩ hK
    gi_wp2
    refine ⟨by simp, .inl ⟨_, _, rfl, run_takeDeferred hK, ?_⟩⟩
    refine ⟨.tuple #[], by simp [results, Try.f108, go_sem], ⟨_, rfl⟩, M, hgr, .inl ⟨ts, by rw [hts, hS]; rfl, HJ.out _ _ _ _ hJt (Kept.putObj _ _ _ ⟨by omega, hMD⟩)⟩⟩
  case hstop =>
    rintro D9 c pre M V hD hMD hMb hsp ⟨rfl, ts, hJt, hts, hgr⟩ hK
    gi_wp2
    refine ⟨by simp, .inl ⟨_, _, rfl, run_takeDeferred hK, ?_⟩⟩
    refine ⟨.tuple #[], by simp [results, Try.f108, go_sem], ⟨_, rfl⟩, M, hgr, .inr ⟨ts, hts, HJx.out _ _ _ _ hJt (Kept.putObj _ _ _ ⟨by omega, hMD⟩)⟩⟩
end Go.Proofs.Ytaifcemdabcfjaa
