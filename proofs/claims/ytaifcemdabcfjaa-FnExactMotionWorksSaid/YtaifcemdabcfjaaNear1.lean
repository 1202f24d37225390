/- Which of two pairs is nearer: by the program. -/
import Derived.Test.YtaifcemdabcfjaaNear0
set_option linter.unusedSimpArgs false
set_option linter.unusedVariables false
set_option maxRecDepth 100000
namespace Go.Proofs.Ytaifcemdabcfjaa
open Go.RowKit

theorem lit26 {t : Array Value} (h : t.size = 26) : ∃ x0 x1 x2 x3 x4 x5 x6 x7 x8 x9 x10 x11 x12 x13 x14 x15 x16 x17 x18 x19 x20 x21 x22 x23 x24 x25, t = #[x0, x1, x2, x3, x4, x5, x6, x7, x8, x9, x10, x11, x12, x13, x14, x15, x16, x17, x18, x19, x20, x21, x22, x23, x24, x25] := by
  obtain ⟨l⟩ := t
  simp only [List.size_toArray] at h
  rcases l with _ | ⟨x0, l⟩
  · simp at h
  rcases l with _ | ⟨x1, l⟩
  · simp at h
  rcases l with _ | ⟨x2, l⟩
  · simp at h
  rcases l with _ | ⟨x3, l⟩
  · simp at h
  rcases l with _ | ⟨x4, l⟩
  · simp at h
  rcases l with _ | ⟨x5, l⟩
  · simp at h
  rcases l with _ | ⟨x6, l⟩
  · simp at h
  rcases l with _ | ⟨x7, l⟩
  · simp at h
  rcases l with _ | ⟨x8, l⟩
  · simp at h
  rcases l with _ | ⟨x9, l⟩
  · simp at h
  rcases l with _ | ⟨x10, l⟩
  · simp at h
  rcases l with _ | ⟨x11, l⟩
  · simp at h
  rcases l with _ | ⟨x12, l⟩
  · simp at h
  rcases l with _ | ⟨x13, l⟩
  · simp at h
  rcases l with _ | ⟨x14, l⟩
  · simp at h
  rcases l with _ | ⟨x15, l⟩
  · simp at h
  rcases l with _ | ⟨x16, l⟩
  · simp at h
  rcases l with _ | ⟨x17, l⟩
  · simp at h
  rcases l with _ | ⟨x18, l⟩
  · simp at h
  rcases l with _ | ⟨x19, l⟩
  · simp at h
  rcases l with _ | ⟨x20, l⟩
  · simp at h
  rcases l with _ | ⟨x21, l⟩
  · simp at h
  rcases l with _ | ⟨x22, l⟩
  · simp at h
  rcases l with _ | ⟨x23, l⟩
  · simp at h
  rcases l with _ | ⟨x24, l⟩
  · simp at h
  rcases l with _ | ⟨x25, l⟩
  · simp at h
  obtain rfl : l = [] := List.eq_nil_of_length_eq_zero (by simp at h; simpa using h)
  exact ⟨x0, x1, x2, x3, x4, x5, x6, x7, x8, x9, x10, x11, x12, x13, x14, x15, x16, x17, x18, x19, x20, x21, x22, x23, x24, x25, rfl⟩
/-- A slice of one pair, of two numbers. -/
def PairSl (x y : Int) (v : Value) (W : World) : Prop := ∃ g, v = .slice (some ⟨g, 0, none⟩) 1 1 ∧ g < W.heap.size ∧ W.cell? ⟨g, 0, none⟩ = some (.int .i64 x) ∧ W.cell? ⟨g, 1, none⟩ = some (.int .i64 y)
def TwoSl (x y : Int) (v : Value) (W : World) : Prop := ∃ g, v = .slice (some ⟨g, 0, none⟩) 2 2 ∧ g < W.heap.size ∧ W.cell? ⟨g, 0, none⟩ = some (.int .i64 x) ∧ W.cell? ⟨g, 1, none⟩ = some (.int .i64 y)
theorem PairSl.below {x y : Int} {v : Value} {w w' : World} (h : PairSl x y v w) (hb : Below w.heap.size w w') : PairSl x y v w' := by
  obtain ⟨g, e, hg, h0, h1⟩ := h
  obtain ⟨hc, -⟩ := bcell hb
  exact ⟨g, e, by have := hb.size; omega, (hc _ _ hg).trans h0, (hc _ _ hg).trans h1⟩
theorem TwoSl.below {x y : Int} {v : Value} {w w' : World} (h : TwoSl x y v w) (hb : Below w.heap.size w w') : TwoSl x y v w' := by
  obtain ⟨g, e, hg, h0, h1⟩ := h
  obtain ⟨hc, -⟩ := bcell hb
  exact ⟨g, e, by have := hb.size; omega, (hc _ _ hg).trans h0, (hc _ _ hg).trans h1⟩
def nrA (N D x1 y1 x2 y2 : Int) : Int := sg (dsN N D (spN x1 y1) (spD x1 y1) * dsD N D (spN x2 y2) (spD x2 y2) - dsN N D (spN x2 y2) (spD x2 y2) * dsD N D (spN x1 y1) (spD x1 y1))
def nrB (x1 y1 x2 y2 : Int) : Int := sg (sumT [(x1, y1)] - sumT [(x2, y2)])
/-- How the first of two pairs compares with the second one. -/
def nrO (N D x1 y1 x2 y2 : Int) : Int := orI (nrA N D x1 y1 x2 y2) (nrB x1 y1 x2 y2)
def nearR (N D x1 y1 x2 y2 : Int) (i : Nat) (v : Value) (W : World) : Prop := match i with
  | 0 => v = tv N D
  | 1 => v = tv x1 y1
  | 2 => PairSl x1 y1 v W
  | 3 => v = tv (spN x1 y1) (spD x1 y1)
  | 4 => v = tv (dsN N D (spN x1 y1) (spD x1 y1)) (dsD N D (spN x1 y1) (spD x1 y1))
  | 5 => v = tv N D
  | 6 => v = tv x2 y2
  | 7 => PairSl x2 y2 v W
  | 8 => v = tv (spN x2 y2) (spD x2 y2)
  | 9 => v = tv (dsN N D (spN x2 y2) (spD x2 y2)) (dsD N D (spN x2 y2) (spD x2 y2))
  | 10 => v = .int .i64 (nrA N D x1 y1 x2 y2)
  | 11 => v = tv x1 y1
  | 12 => PairSl x1 y1 v W
  | 13 => v = .int .i64 (sumT [(x1, y1)])
  | 14 => v = tv x2 y2
  | 15 => PairSl x2 y2 v W
  | 16 => v = .int .i64 (sumT [(x2, y2)])
  | 17 => v = .int .i64 (nrB x1 y1 x2 y2)
  | 18 => TwoSl (nrA N D x1 y1 x2 y2) (nrB x1 y1 x2 y2) v W
  | 19 => v = .int .i64 (nrO N D x1 y1 x2 y2)
  | 20 => v = .int .i64 (nrO N D x1 y1 x2 y2)
  | _ => True
theorem nearR_stays {N D x1 y1 x2 y2 : Int} : ∀ i v w1 w2, nearR N D x1 y1 x2 y2 i v w1 → Below w1.heap.size w1 w2 → nearR N D x1 y1 x2 y2 i v w2 := by
  intro i v w1 w2 h hb
  unfold nearR at h ⊢
  split <;> first
    | exact h
    | exact PairSl.below h hb
    | exact TwoSl.below h hb
    | trivial
theorem ratioOf_sl {x y : Int} (h : pairB (x, y) = true) {v : Value} (w : World) (hv : PairSl x y v w) : Calls Try.prog 65 #[v] w fun e w' => e = .returned (tv (spN x y) (spD x y)) ∧ Below w.heap.size w w' := by
  obtain ⟨g, rfl, hg, h0, h1⟩ := hv
  exact ratioOf_one h w hg h0 h1
theorem teethOf_sl {x y : Int} (h : pairB (x, y) = true) {v : Value} (w : World) (hv : PairSl x y v w) : Calls Try.prog 91 #[v] w fun e w' => e = .returned (.int .i64 (sumT [(x, y)])) ∧ Below w.heap.size w w' := by
  obtain ⟨g, rfl, hg, h0, h1⟩ := hv
  exact teethOf_any (some ⟨g, 0, none⟩) 1 [(x, y)] (train_one h) w (PIn_one hg h0 h1)
theorem same_below {P : Program} {f : FuncId} {args : Array Value} {w : World} {v : Value} (h : Calls P f args w fun e w' => e = .returned v ∧ w = w') : Calls P f args w fun e w' => e = .returned v ∧ Below w.heap.size w w' :=
  h.mono fun e w' ⟨he, hw⟩ => ⟨he, by subst hw; exact Below.refl _ _⟩
theorem cmpOr_sl {x y : Int} {v : Value} (w : World) (hv : TwoSl x y v w) : Calls Try.prog 87 #[v] w fun e w' => e = .returned (.int .i64 (orI x y)) ∧ Below w.heap.size w w' := by
  obtain ⟨g, rfl, hg, h0, h1⟩ := hv
  exact same_below (cmpOr_two g x y w hg h0 h1)
set_option maxRecDepth 100000 in
set_option maxHeartbeats 3200000 in
theorem nearOrder_any {N D x1 y1 x2 y2 : Int} (hN : 1 ≤ N ∧ N ≤ 1000) (hD : 1 ≤ D ∧ D ≤ 1000) (h1 : pairB (x1, y1) = true) (h2 : pairB (x2, y2) = true) (c : Nat) (w : World) (hc : c < w.heap.size) (hc0 : w.cell? ⟨c, 0, none⟩ = some (.int .i64 N)) (hc1 : w.cell? ⟨c, 1, none⟩ = some (.int .i64 D)) :
    Calls Try.prog 86 #[tv x1 y1, tv x2 y2, .pointer (some ⟨c, 0, none⟩)] w fun e w' => e = .returned (.int .i64 (nrO N D x1 y1 x2 y2)) ∧ Below w.heap.size w w' := by
  obtain ⟨⟨a1, a2⟩, a3, a4⟩ := pairB_bd h1
  obtain ⟨⟨b1, b2⟩, b3, b4⟩ := pairB_bd h2
  simp only at a1 a2 a3 a4 b1 b2 b3 b4
  have sa := sp_pos x1 y1 (by omega) (by omega)
  have sb := sp_pos x2 y2 (by omega) (by omega)
  have ka := ds_ok hN hD (x := spN x1 y1) (y := spD x1 y1) ⟨sa.1.1, by omega⟩ ⟨sa.2.1, by omega⟩
  have kb := ds_ok hN hD (x := spN x2 y2) (y := spD x2 y2) ⟨sb.1.1, by omega⟩ ⟨sb.2.1, by omega⟩
  have CDa := fun w => distance_any hN hD (x := spN x1 y1) (y := spD x1 y1) ⟨sa.1.1, by omega⟩ ⟨sa.2.1, by omega⟩ w
  have CDb := fun w => distance_any hN hD (x := spN x2 y2) (y := spD x2 y2) ⟨sb.1.1, by omega⟩ ⟨sb.2.1, by omega⟩ w
  have CS := fun w => spanOrder_nn _ _ _ _ ⟨⟨ka.1.1, by omega⟩, ka.2.1, by omega⟩ ⟨⟨kb.1.1, by omega⟩, kb.2.1, by omega⟩ w
  have CDa := Lib.hid CDa
  have CDb := Lib.hid CDb
  have CS := Lib.hid CS
  have HP1 := Lib.hid h1
  have HP2 := Lib.hid h2
  clear ka kb sa sb h1 h2 hN hD
  (go_enter Try.func86, Try.ntmps86)
  go_wp2_with fail
  refine wp_region_rels (nearR N D x1 y1 x2 y2) (by kernel_rfl) (by kernel_rfl) nearR_stays ?hstep ?hend
  case hstep =>
    refine ⟨?_, ?_, ?_, ?_, ?_, ?_, ?_, ?_, ?_, ?_, ?_, ?_, ?_, ?_, ?_, ?_, ?_, ?_, ?_, ?_, ?_, trivial⟩
    · intro a' w' hS hF hdep
      obtain ⟨hcq, hfq⟩ := bcell hS
      have t2 : a'.eval (.tmp 2) = .pointer (some ⟨c, 0, none⟩) := (hF.2.2 2 (by kernel_rfl)).trans (by first | rfl | (simp [Act.eval]; done))
      have t3 : a'.eval (.tmp 3) = .pointer (some ⟨w.heap.size, 0, none⟩) := (hF.2.2 3 (by kernel_rfl)).trans (by first | rfl | (simp [Act.eval]; done))
      have t4 : a'.eval (.tmp 4) = .pointer (some ⟨w.heap.size + 1, 0, none⟩) := (hF.2.2 4 (by kernel_rfl)).trans (by first | rfl | (simp [Act.eval]; done))
      clear hdep hF
      have q0 : w'.cell? ⟨c, 0, none⟩ = some (.int .i64 N) := (hcq _ _ (by simp; omega)).trans (by go_simp)
      have q1 : w'.cell? ⟨c, 1, none⟩ = some (.int .i64 D) := (hcq _ _ (by simp; omega)).trans (by go_simp)
      refine rel_value (tv N D) ?_ (Below.refl _ _) rfl
      generalize a'.eval = ev at *
      go_simp
    · intro a' w' hS hF hdep
      obtain ⟨hcq, hfq⟩ := bcell hS
      have t2 : a'.eval (.tmp 2) = .pointer (some ⟨c, 0, none⟩) := (hF.2.2 2 (by kernel_rfl)).trans (by first | rfl | (simp [Act.eval]; done))
      have t3 : a'.eval (.tmp 3) = .pointer (some ⟨w.heap.size, 0, none⟩) := (hF.2.2 3 (by kernel_rfl)).trans (by first | rfl | (simp [Act.eval]; done))
      have t4 : a'.eval (.tmp 4) = .pointer (some ⟨w.heap.size + 1, 0, none⟩) := (hF.2.2 4 (by kernel_rfl)).trans (by first | rfl | (simp [Act.eval]; done))
      clear hdep hF
      have q0 : w'.cell? ⟨c, 0, none⟩ = some (.int .i64 N) := (hcq _ _ (by simp; omega)).trans (by go_simp)
      have q1 : w'.cell? ⟨c, 1, none⟩ = some (.int .i64 D) := (hcq _ _ (by simp; omega)).trans (by go_simp)
      refine rel_value (tv x1 y1) ?_ (Below.refl _ _) rfl
      generalize a'.eval = ev at *
      go_simp
    · intro a' w' hS hF hdep
      obtain ⟨hcq, hfq⟩ := bcell hS
      have t2 : a'.eval (.tmp 2) = .pointer (some ⟨c, 0, none⟩) := (hF.2.2 2 (by kernel_rfl)).trans (by first | rfl | (simp [Act.eval]; done))
      have t3 : a'.eval (.tmp 3) = .pointer (some ⟨w.heap.size, 0, none⟩) := (hF.2.2 3 (by kernel_rfl)).trans (by first | rfl | (simp [Act.eval]; done))
      have t4 : a'.eval (.tmp 4) = .pointer (some ⟨w.heap.size + 1, 0, none⟩) := (hF.2.2 4 (by kernel_rfl)).trans (by first | rfl | (simp [Act.eval]; done))
      have e0 : (a'.eval (.tmp 7)) = tv x1 y1 := hdep 1 7 (by kernel_rfl) rfl
      clear hdep hF
      refine rel_value (w2 := w'.alloc (.cells #[.int .i64 x1, .int .i64 y1] 25)) (.slice (some ⟨w'.heap.size, 0, none⟩) 1 1) ?_ (by (repeat' (first | (with_reducible exact Below.refl _ _) | (with_reducible assumption) | (with_reducible refine Below.alloc ?_ ?_ _) | (with_reducible refine Below.drew ?_) | (with_reducible refine below_drewN ?_ _) | (with_reducible refine Below.setCell ?_ ?_ _) | (with_reducible refine below_call ?_ ?_ (by assumption)) | go_size))) ⟨_, rfl, by simp, by go_simp, by go_simp⟩
      generalize a'.eval = ev at *
      go_simp
      try rfl
    · intro a' w' hS hF hdep
      obtain ⟨hcq, hfq⟩ := bcell hS
      have t2 : a'.eval (.tmp 2) = .pointer (some ⟨c, 0, none⟩) := (hF.2.2 2 (by kernel_rfl)).trans (by first | rfl | (simp [Act.eval]; done))
      have t3 : a'.eval (.tmp 3) = .pointer (some ⟨w.heap.size, 0, none⟩) := (hF.2.2 3 (by kernel_rfl)).trans (by first | rfl | (simp [Act.eval]; done))
      have t4 : a'.eval (.tmp 4) = .pointer (some ⟨w.heap.size + 1, 0, none⟩) := (hF.2.2 4 (by kernel_rfl)).trans (by first | rfl | (simp [Act.eval]; done))
      have e0 : PairSl x1 y1 (a'.eval (.tmp 8)) w' := hdep 2 8 (by kernel_rfl) rfl
      clear hdep hF
      have tf : a'.eval (.func 65) = .func (.func 65) #[] #[] := rfl
      refine rel_call (args := #[a'.eval (.tmp 8)]) ?_ (ratioOf_sl HP1.out _ e0) (fun _ _ => rfl)
      generalize a'.eval = ev at *
      go_simp
    · intro a' w' hS hF hdep
      obtain ⟨hcq, hfq⟩ := bcell hS
      have t2 : a'.eval (.tmp 2) = .pointer (some ⟨c, 0, none⟩) := (hF.2.2 2 (by kernel_rfl)).trans (by first | rfl | (simp [Act.eval]; done))
      have t3 : a'.eval (.tmp 3) = .pointer (some ⟨w.heap.size, 0, none⟩) := (hF.2.2 3 (by kernel_rfl)).trans (by first | rfl | (simp [Act.eval]; done))
      have t4 : a'.eval (.tmp 4) = .pointer (some ⟨w.heap.size + 1, 0, none⟩) := (hF.2.2 4 (by kernel_rfl)).trans (by first | rfl | (simp [Act.eval]; done))
      have e0 : (a'.eval (.tmp 6)) = tv N D := hdep 0 6 (by kernel_rfl) rfl
      have e1 : (a'.eval (.tmp 9)) = tv (spN x1 y1) (spD x1 y1) := hdep 3 9 (by kernel_rfl) rfl
      clear hdep hF
      have tf : a'.eval (.func 89) = .func (.func 89) #[] #[] := rfl
      refine rel_call (args := #[tv N D, tv (spN x1 y1) (spD x1 y1)]) ?_ (CDa.out _) (fun _ _ => rfl)
      generalize a'.eval = ev at *
      go_simp
    · intro a' w' hS hF hdep
      obtain ⟨hcq, hfq⟩ := bcell hS
      have t2 : a'.eval (.tmp 2) = .pointer (some ⟨c, 0, none⟩) := (hF.2.2 2 (by kernel_rfl)).trans (by first | rfl | (simp [Act.eval]; done))
      have t3 : a'.eval (.tmp 3) = .pointer (some ⟨w.heap.size, 0, none⟩) := (hF.2.2 3 (by kernel_rfl)).trans (by first | rfl | (simp [Act.eval]; done))
      have t4 : a'.eval (.tmp 4) = .pointer (some ⟨w.heap.size + 1, 0, none⟩) := (hF.2.2 4 (by kernel_rfl)).trans (by first | rfl | (simp [Act.eval]; done))
      clear hdep hF
      have q0 : w'.cell? ⟨c, 0, none⟩ = some (.int .i64 N) := (hcq _ _ (by simp; omega)).trans (by go_simp)
      have q1 : w'.cell? ⟨c, 1, none⟩ = some (.int .i64 D) := (hcq _ _ (by simp; omega)).trans (by go_simp)
      refine rel_value (tv N D) ?_ (Below.refl _ _) rfl
      generalize a'.eval = ev at *
      go_simp
    · intro a' w' hS hF hdep
      obtain ⟨hcq, hfq⟩ := bcell hS
      have t2 : a'.eval (.tmp 2) = .pointer (some ⟨c, 0, none⟩) := (hF.2.2 2 (by kernel_rfl)).trans (by first | rfl | (simp [Act.eval]; done))
      have t3 : a'.eval (.tmp 3) = .pointer (some ⟨w.heap.size, 0, none⟩) := (hF.2.2 3 (by kernel_rfl)).trans (by first | rfl | (simp [Act.eval]; done))
      have t4 : a'.eval (.tmp 4) = .pointer (some ⟨w.heap.size + 1, 0, none⟩) := (hF.2.2 4 (by kernel_rfl)).trans (by first | rfl | (simp [Act.eval]; done))
      clear hdep hF
      have q0 : w'.cell? ⟨c, 0, none⟩ = some (.int .i64 N) := (hcq _ _ (by simp; omega)).trans (by go_simp)
      have q1 : w'.cell? ⟨c, 1, none⟩ = some (.int .i64 D) := (hcq _ _ (by simp; omega)).trans (by go_simp)
      refine rel_value (tv x2 y2) ?_ (Below.refl _ _) rfl
      generalize a'.eval = ev at *
      go_simp
    · intro a' w' hS hF hdep
      obtain ⟨hcq, hfq⟩ := bcell hS
      have t2 : a'.eval (.tmp 2) = .pointer (some ⟨c, 0, none⟩) := (hF.2.2 2 (by kernel_rfl)).trans (by first | rfl | (simp [Act.eval]; done))
      have t3 : a'.eval (.tmp 3) = .pointer (some ⟨w.heap.size, 0, none⟩) := (hF.2.2 3 (by kernel_rfl)).trans (by first | rfl | (simp [Act.eval]; done))
      have t4 : a'.eval (.tmp 4) = .pointer (some ⟨w.heap.size + 1, 0, none⟩) := (hF.2.2 4 (by kernel_rfl)).trans (by first | rfl | (simp [Act.eval]; done))
      have e0 : (a'.eval (.tmp 12)) = tv x2 y2 := hdep 6 12 (by kernel_rfl) rfl
      clear hdep hF
      refine rel_value (w2 := w'.alloc (.cells #[.int .i64 x2, .int .i64 y2] 25)) (.slice (some ⟨w'.heap.size, 0, none⟩) 1 1) ?_ (by (repeat' (first | (with_reducible exact Below.refl _ _) | (with_reducible assumption) | (with_reducible refine Below.alloc ?_ ?_ _) | (with_reducible refine Below.drew ?_) | (with_reducible refine below_drewN ?_ _) | (with_reducible refine Below.setCell ?_ ?_ _) | (with_reducible refine below_call ?_ ?_ (by assumption)) | go_size))) ⟨_, rfl, by simp, by go_simp, by go_simp⟩
      generalize a'.eval = ev at *
      go_simp
      try rfl
    · intro a' w' hS hF hdep
      obtain ⟨hcq, hfq⟩ := bcell hS
      have t2 : a'.eval (.tmp 2) = .pointer (some ⟨c, 0, none⟩) := (hF.2.2 2 (by kernel_rfl)).trans (by first | rfl | (simp [Act.eval]; done))
      have t3 : a'.eval (.tmp 3) = .pointer (some ⟨w.heap.size, 0, none⟩) := (hF.2.2 3 (by kernel_rfl)).trans (by first | rfl | (simp [Act.eval]; done))
      have t4 : a'.eval (.tmp 4) = .pointer (some ⟨w.heap.size + 1, 0, none⟩) := (hF.2.2 4 (by kernel_rfl)).trans (by first | rfl | (simp [Act.eval]; done))
      have e0 : PairSl x2 y2 (a'.eval (.tmp 13)) w' := hdep 7 13 (by kernel_rfl) rfl
      clear hdep hF
      have tf : a'.eval (.func 65) = .func (.func 65) #[] #[] := rfl
      refine rel_call (args := #[a'.eval (.tmp 13)]) ?_ (ratioOf_sl HP2.out _ e0) (fun _ _ => rfl)
      generalize a'.eval = ev at *
      go_simp
    · intro a' w' hS hF hdep
      obtain ⟨hcq, hfq⟩ := bcell hS
      have t2 : a'.eval (.tmp 2) = .pointer (some ⟨c, 0, none⟩) := (hF.2.2 2 (by kernel_rfl)).trans (by first | rfl | (simp [Act.eval]; done))
      have t3 : a'.eval (.tmp 3) = .pointer (some ⟨w.heap.size, 0, none⟩) := (hF.2.2 3 (by kernel_rfl)).trans (by first | rfl | (simp [Act.eval]; done))
      have t4 : a'.eval (.tmp 4) = .pointer (some ⟨w.heap.size + 1, 0, none⟩) := (hF.2.2 4 (by kernel_rfl)).trans (by first | rfl | (simp [Act.eval]; done))
      have e0 : (a'.eval (.tmp 11)) = tv N D := hdep 5 11 (by kernel_rfl) rfl
      have e1 : (a'.eval (.tmp 14)) = tv (spN x2 y2) (spD x2 y2) := hdep 8 14 (by kernel_rfl) rfl
      clear hdep hF
      have tf : a'.eval (.func 89) = .func (.func 89) #[] #[] := rfl
      refine rel_call (args := #[tv N D, tv (spN x2 y2) (spD x2 y2)]) ?_ (CDb.out _) (fun _ _ => rfl)
      generalize a'.eval = ev at *
      go_simp
    · intro a' w' hS hF hdep
      obtain ⟨hcq, hfq⟩ := bcell hS
      have t2 : a'.eval (.tmp 2) = .pointer (some ⟨c, 0, none⟩) := (hF.2.2 2 (by kernel_rfl)).trans (by first | rfl | (simp [Act.eval]; done))
      have t3 : a'.eval (.tmp 3) = .pointer (some ⟨w.heap.size, 0, none⟩) := (hF.2.2 3 (by kernel_rfl)).trans (by first | rfl | (simp [Act.eval]; done))
      have t4 : a'.eval (.tmp 4) = .pointer (some ⟨w.heap.size + 1, 0, none⟩) := (hF.2.2 4 (by kernel_rfl)).trans (by first | rfl | (simp [Act.eval]; done))
      have e0 : (a'.eval (.tmp 10)) = tv (dsN N D (spN x1 y1) (spD x1 y1)) (dsD N D (spN x1 y1) (spD x1 y1)) := hdep 4 10 (by kernel_rfl) rfl
      have e1 : (a'.eval (.tmp 15)) = tv (dsN N D (spN x2 y2) (spD x2 y2)) (dsD N D (spN x2 y2) (spD x2 y2)) := hdep 9 15 (by kernel_rfl) rfl
      clear hdep hF
      have tf : a'.eval (.func 88) = .func (.func 88) #[] #[] := rfl
      refine rel_call (args := #[tv (dsN N D (spN x1 y1) (spD x1 y1)) (dsD N D (spN x1 y1) (spD x1 y1)), tv (dsN N D (spN x2 y2) (spD x2 y2)) (dsD N D (spN x2 y2) (spD x2 y2))]) ?_ (CS.out _) (fun _ _ => rfl)
      generalize a'.eval = ev at *
      go_simp
    · intro a' w' hS hF hdep
      obtain ⟨hcq, hfq⟩ := bcell hS
      have t2 : a'.eval (.tmp 2) = .pointer (some ⟨c, 0, none⟩) := (hF.2.2 2 (by kernel_rfl)).trans (by first | rfl | (simp [Act.eval]; done))
      have t3 : a'.eval (.tmp 3) = .pointer (some ⟨w.heap.size, 0, none⟩) := (hF.2.2 3 (by kernel_rfl)).trans (by first | rfl | (simp [Act.eval]; done))
      have t4 : a'.eval (.tmp 4) = .pointer (some ⟨w.heap.size + 1, 0, none⟩) := (hF.2.2 4 (by kernel_rfl)).trans (by first | rfl | (simp [Act.eval]; done))
      clear hdep hF
      have q0 : w'.cell? ⟨c, 0, none⟩ = some (.int .i64 N) := (hcq _ _ (by simp; omega)).trans (by go_simp)
      have q1 : w'.cell? ⟨c, 1, none⟩ = some (.int .i64 D) := (hcq _ _ (by simp; omega)).trans (by go_simp)
      refine rel_value (tv x1 y1) ?_ (Below.refl _ _) rfl
      generalize a'.eval = ev at *
      go_simp
    · intro a' w' hS hF hdep
      obtain ⟨hcq, hfq⟩ := bcell hS
      have t2 : a'.eval (.tmp 2) = .pointer (some ⟨c, 0, none⟩) := (hF.2.2 2 (by kernel_rfl)).trans (by first | rfl | (simp [Act.eval]; done))
      have t3 : a'.eval (.tmp 3) = .pointer (some ⟨w.heap.size, 0, none⟩) := (hF.2.2 3 (by kernel_rfl)).trans (by first | rfl | (simp [Act.eval]; done))
      have t4 : a'.eval (.tmp 4) = .pointer (some ⟨w.heap.size + 1, 0, none⟩) := (hF.2.2 4 (by kernel_rfl)).trans (by first | rfl | (simp [Act.eval]; done))
      have e0 : (a'.eval (.tmp 17)) = tv x1 y1 := hdep 11 17 (by kernel_rfl) rfl
      clear hdep hF
      refine rel_value (w2 := w'.alloc (.cells #[.int .i64 x1, .int .i64 y1] 25)) (.slice (some ⟨w'.heap.size, 0, none⟩) 1 1) ?_ (by (repeat' (first | (with_reducible exact Below.refl _ _) | (with_reducible assumption) | (with_reducible refine Below.alloc ?_ ?_ _) | (with_reducible refine Below.drew ?_) | (with_reducible refine below_drewN ?_ _) | (with_reducible refine Below.setCell ?_ ?_ _) | (with_reducible refine below_call ?_ ?_ (by assumption)) | go_size))) ⟨_, rfl, by simp, by go_simp, by go_simp⟩
      generalize a'.eval = ev at *
      go_simp
      try rfl
    · intro a' w' hS hF hdep
      obtain ⟨hcq, hfq⟩ := bcell hS
      have t2 : a'.eval (.tmp 2) = .pointer (some ⟨c, 0, none⟩) := (hF.2.2 2 (by kernel_rfl)).trans (by first | rfl | (simp [Act.eval]; done))
      have t3 : a'.eval (.tmp 3) = .pointer (some ⟨w.heap.size, 0, none⟩) := (hF.2.2 3 (by kernel_rfl)).trans (by first | rfl | (simp [Act.eval]; done))
      have t4 : a'.eval (.tmp 4) = .pointer (some ⟨w.heap.size + 1, 0, none⟩) := (hF.2.2 4 (by kernel_rfl)).trans (by first | rfl | (simp [Act.eval]; done))
      have e0 : PairSl x1 y1 (a'.eval (.tmp 18)) w' := hdep 12 18 (by kernel_rfl) rfl
      clear hdep hF
      have tf : a'.eval (.func 91) = .func (.func 91) #[] #[] := rfl
      refine rel_call (args := #[a'.eval (.tmp 18)]) ?_ (teethOf_sl HP1.out _ e0) (fun _ _ => rfl)
      generalize a'.eval = ev at *
      go_simp
    · intro a' w' hS hF hdep
      obtain ⟨hcq, hfq⟩ := bcell hS
      have t2 : a'.eval (.tmp 2) = .pointer (some ⟨c, 0, none⟩) := (hF.2.2 2 (by kernel_rfl)).trans (by first | rfl | (simp [Act.eval]; done))
      have t3 : a'.eval (.tmp 3) = .pointer (some ⟨w.heap.size, 0, none⟩) := (hF.2.2 3 (by kernel_rfl)).trans (by first | rfl | (simp [Act.eval]; done))
      have t4 : a'.eval (.tmp 4) = .pointer (some ⟨w.heap.size + 1, 0, none⟩) := (hF.2.2 4 (by kernel_rfl)).trans (by first | rfl | (simp [Act.eval]; done))
      clear hdep hF
      have q0 : w'.cell? ⟨c, 0, none⟩ = some (.int .i64 N) := (hcq _ _ (by simp; omega)).trans (by go_simp)
      have q1 : w'.cell? ⟨c, 1, none⟩ = some (.int .i64 D) := (hcq _ _ (by simp; omega)).trans (by go_simp)
      refine rel_value (tv x2 y2) ?_ (Below.refl _ _) rfl
      generalize a'.eval = ev at *
      go_simp
    · intro a' w' hS hF hdep
      obtain ⟨hcq, hfq⟩ := bcell hS
      have t2 : a'.eval (.tmp 2) = .pointer (some ⟨c, 0, none⟩) := (hF.2.2 2 (by kernel_rfl)).trans (by first | rfl | (simp [Act.eval]; done))
      have t3 : a'.eval (.tmp 3) = .pointer (some ⟨w.heap.size, 0, none⟩) := (hF.2.2 3 (by kernel_rfl)).trans (by first | rfl | (simp [Act.eval]; done))
      have t4 : a'.eval (.tmp 4) = .pointer (some ⟨w.heap.size + 1, 0, none⟩) := (hF.2.2 4 (by kernel_rfl)).trans (by first | rfl | (simp [Act.eval]; done))
      have e0 : (a'.eval (.tmp 20)) = tv x2 y2 := hdep 14 20 (by kernel_rfl) rfl
      clear hdep hF
      refine rel_value (w2 := w'.alloc (.cells #[.int .i64 x2, .int .i64 y2] 25)) (.slice (some ⟨w'.heap.size, 0, none⟩) 1 1) ?_ (by (repeat' (first | (with_reducible exact Below.refl _ _) | (with_reducible assumption) | (with_reducible refine Below.alloc ?_ ?_ _) | (with_reducible refine Below.drew ?_) | (with_reducible refine below_drewN ?_ _) | (with_reducible refine Below.setCell ?_ ?_ _) | (with_reducible refine below_call ?_ ?_ (by assumption)) | go_size))) ⟨_, rfl, by simp, by go_simp, by go_simp⟩
      generalize a'.eval = ev at *
      go_simp
      try rfl
    · intro a' w' hS hF hdep
      obtain ⟨hcq, hfq⟩ := bcell hS
      have t2 : a'.eval (.tmp 2) = .pointer (some ⟨c, 0, none⟩) := (hF.2.2 2 (by kernel_rfl)).trans (by first | rfl | (simp [Act.eval]; done))
      have t3 : a'.eval (.tmp 3) = .pointer (some ⟨w.heap.size, 0, none⟩) := (hF.2.2 3 (by kernel_rfl)).trans (by first | rfl | (simp [Act.eval]; done))
      have t4 : a'.eval (.tmp 4) = .pointer (some ⟨w.heap.size + 1, 0, none⟩) := (hF.2.2 4 (by kernel_rfl)).trans (by first | rfl | (simp [Act.eval]; done))
      have e0 : PairSl x2 y2 (a'.eval (.tmp 21)) w' := hdep 15 21 (by kernel_rfl) rfl
      clear hdep hF
      have tf : a'.eval (.func 91) = .func (.func 91) #[] #[] := rfl
      refine rel_call (args := #[a'.eval (.tmp 21)]) ?_ (teethOf_sl HP2.out _ e0) (fun _ _ => rfl)
      generalize a'.eval = ev at *
      go_simp
    · intro a' w' hS hF hdep
      obtain ⟨hcq, hfq⟩ := bcell hS
      have t2 : a'.eval (.tmp 2) = .pointer (some ⟨c, 0, none⟩) := (hF.2.2 2 (by kernel_rfl)).trans (by first | rfl | (simp [Act.eval]; done))
      have t3 : a'.eval (.tmp 3) = .pointer (some ⟨w.heap.size, 0, none⟩) := (hF.2.2 3 (by kernel_rfl)).trans (by first | rfl | (simp [Act.eval]; done))
      have t4 : a'.eval (.tmp 4) = .pointer (some ⟨w.heap.size + 1, 0, none⟩) := (hF.2.2 4 (by kernel_rfl)).trans (by first | rfl | (simp [Act.eval]; done))
      have e0 : (a'.eval (.tmp 19)) = .int .i64 (sumT [(x1, y1)]) := hdep 13 19 (by kernel_rfl) rfl
      have e1 : (a'.eval (.tmp 22)) = .int .i64 (sumT [(x2, y2)]) := hdep 16 22 (by kernel_rfl) rfl
      clear hdep hF
      have tf : a'.eval (.func 90) = .func (.func 90) #[] #[] := rfl
      refine rel_call (args := #[.int .i64 (sumT [(x1, y1)]), .int .i64 (sumT [(x2, y2)])]) ?_ (same_below (cmpCompare_any _ _ _)) (fun _ _ => rfl)
      generalize a'.eval = ev at *
      go_simp
    · intro a' w' hS hF hdep
      obtain ⟨hcq, hfq⟩ := bcell hS
      have t2 : a'.eval (.tmp 2) = .pointer (some ⟨c, 0, none⟩) := (hF.2.2 2 (by kernel_rfl)).trans (by first | rfl | (simp [Act.eval]; done))
      have t3 : a'.eval (.tmp 3) = .pointer (some ⟨w.heap.size, 0, none⟩) := (hF.2.2 3 (by kernel_rfl)).trans (by first | rfl | (simp [Act.eval]; done))
      have t4 : a'.eval (.tmp 4) = .pointer (some ⟨w.heap.size + 1, 0, none⟩) := (hF.2.2 4 (by kernel_rfl)).trans (by first | rfl | (simp [Act.eval]; done))
      have e0 : (a'.eval (.tmp 16)) = .int .i64 (nrA N D x1 y1 x2 y2) := hdep 10 16 (by kernel_rfl) rfl
      have e1 : (a'.eval (.tmp 23)) = .int .i64 (nrB x1 y1 x2 y2) := hdep 17 23 (by kernel_rfl) rfl
      clear hdep hF
      refine rel_value (w2 := w'.alloc (.cells #[.int .i64 (nrA N D x1 y1 x2 y2), .int .i64 (nrB x1 y1 x2 y2)] 3)) (.slice (some ⟨w'.heap.size, 0, none⟩) 2 2) ?_ (by (repeat' (first | (with_reducible exact Below.refl _ _) | (with_reducible assumption) | (with_reducible refine Below.alloc ?_ ?_ _) | (with_reducible refine Below.drew ?_) | (with_reducible refine below_drewN ?_ _) | (with_reducible refine Below.setCell ?_ ?_ _) | (with_reducible refine below_call ?_ ?_ (by assumption)) | go_size))) ⟨_, rfl, by simp, by go_simp, by go_simp⟩
      generalize a'.eval = ev at *
      go_simp
      try rfl
    · intro a' w' hS hF hdep
      obtain ⟨hcq, hfq⟩ := bcell hS
      have t2 : a'.eval (.tmp 2) = .pointer (some ⟨c, 0, none⟩) := (hF.2.2 2 (by kernel_rfl)).trans (by first | rfl | (simp [Act.eval]; done))
      have t3 : a'.eval (.tmp 3) = .pointer (some ⟨w.heap.size, 0, none⟩) := (hF.2.2 3 (by kernel_rfl)).trans (by first | rfl | (simp [Act.eval]; done))
      have t4 : a'.eval (.tmp 4) = .pointer (some ⟨w.heap.size + 1, 0, none⟩) := (hF.2.2 4 (by kernel_rfl)).trans (by first | rfl | (simp [Act.eval]; done))
      have e0 : TwoSl (nrA N D x1 y1 x2 y2) (nrB x1 y1 x2 y2) (a'.eval (.tmp 24)) w' := hdep 18 24 (by kernel_rfl) rfl
      clear hdep hF
      have tf : a'.eval (.func 87) = .func (.func 87) #[] #[] := rfl
      refine rel_call (args := #[a'.eval (.tmp 24)]) ?_ (cmpOr_sl _ e0) (fun _ _ => rfl)
      generalize a'.eval = ev at *
      go_simp
    · intro a' w' hS hF hdep
      obtain ⟨hcq, hfq⟩ := bcell hS
      have t2 : a'.eval (.tmp 2) = .pointer (some ⟨c, 0, none⟩) := (hF.2.2 2 (by kernel_rfl)).trans (by first | rfl | (simp [Act.eval]; done))
      have t3 : a'.eval (.tmp 3) = .pointer (some ⟨w.heap.size, 0, none⟩) := (hF.2.2 3 (by kernel_rfl)).trans (by first | rfl | (simp [Act.eval]; done))
      have t4 : a'.eval (.tmp 4) = .pointer (some ⟨w.heap.size + 1, 0, none⟩) := (hF.2.2 4 (by kernel_rfl)).trans (by first | rfl | (simp [Act.eval]; done))
      have e0 : (a'.eval (.tmp 25)) = .int .i64 (nrO N D x1 y1 x2 y2) := hdep 19 25 (by kernel_rfl) rfl
      clear hdep hF
      have q0 : w'.cell? ⟨c, 0, none⟩ = some (.int .i64 N) := (hcq _ _ (by simp; omega)).trans (by go_simp)
      have q1 : w'.cell? ⟨c, 1, none⟩ = some (.int .i64 D) := (hcq _ _ (by simp; omega)).trans (by go_simp)
      refine rel_value (.int .i64 (nrO N D x1 y1 x2 y2)) ?_ (Below.refl _ _) rfl
      generalize a'.eval = ev at *
      go_simp
  case hend =>
    rintro ⟨tm, df⟩ w' hS ⟨hF1, hF2, -⟩ hD
    obtain ⟨z0, z1, z2, z3, z4, z5, z6, z7, z8, z9, z10, z11, z12, z13, z14, z15, z16, z17, z18, z19, z20, z21, z22, z23, z24, z25, rfl⟩ := lit26 hF1
    have h5 : z5 = .int .i64 (nrO N D x1 y1 x2 y2) := hD 20 _ rfl 5 rfl
    have hb9 : Below w.heap.size w w' := Below.trans (b := (w.alloc (Obj.cells #[Value.int .i64 x1, Value.int .i64 y1] 25)).alloc (Obj.cells #[Value.int .i64 x2, Value.int .i64 y2] 25)) (by (repeat' (first | (with_reducible exact Below.refl _ _) | (with_reducible assumption) | (with_reducible refine Below.alloc ?_ ?_ _) | (with_reducible refine Below.drew ?_) | (with_reducible refine below_drewN ?_ _) | (with_reducible refine Below.setCell ?_ ?_ _) | (with_reducible refine below_call ?_ ?_ (by assumption)) | go_size))) (hS.mono (by simp; omega))
    obtain rfl : df = [] := hF2
    subst h5
    clear hD hF1 hS
    go_wp2
    go_ret
    exact ⟨rfl, hb9⟩
end Go.Proofs.Ytaifcemdabcfjaa
