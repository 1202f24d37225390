/- The pairs of a ratio of which no wheel has more than so many teeth: an iterator's contract. -/
import Derived.Test.YtaifcemdabcfjaaIt1
set_option linter.unusedSimpArgs false
set_option linter.unusedVariables false
set_option maxRecDepth 100000
namespace Go.Proofs.Ytaifcemdabcfjaa
open Go.RowKit Go.Shelf
attribute [local go_sem] Oper.semAt_some

/-! ### The pairs of a ratio P / Q, in order -/
def wlE (P Q : Int) (k : Nat) : List (Int × Int) := if pairB (((k : Int) + 1) * P, ((k : Int) + 1) * Q) then [(((k : Int) + 1) * P, ((k : Int) + 1) * Q)] else []
def wlK (P Q : Int) : Nat → List (Int × Int)
  | 0 => []
  | k + 1 => wlK P Q k ++ wlE P Q k
theorem wlK_pre (P Q : Int) {k K : Nat} (h : k ≤ K) : wlK P Q k <+: wlK P Q K := by
  induction K with
  | zero => obtain rfl : k = 0 := by omega
            exact List.prefix_refl _
  | succ K ih =>
    by_cases hc : k = K + 1
    · subst hc; exact List.prefix_refl _
    · exact (ih (by omega)).trans (List.prefix_append _ _)
def mx (x y : Int) : Int := if x < y then y else x
/-- How many multiples of P and Q have at most m teeth. -/
def wlN (P Q m : Int) : Nat := (m / mx P Q).toNat
theorem mx_pos {P Q : Int} (hP : 1 ≤ P) (hQ : 1 ≤ Q) : 1 ≤ mx P Q := by unfold mx; split <;> omega
theorem mx_mul {P Q c : Int} (hc : 1 ≤ c) : mx (c * P) (c * Q) = c * mx P Q := by
  unfold mx
  have : c * P < c * Q ↔ P < Q := ⟨fun h => Int.lt_of_mul_lt_mul_left h (by omega), fun h => Int.mul_lt_mul_of_pos_left h (by omega)⟩
  by_cases h : P < Q
  · rw [if_pos h, if_pos (this.2 h)]
  · rw [if_neg h, if_neg (fun h' => h (this.1 h'))]
theorem wlN_iff {P Q m : Int} (hP : 1 ≤ P) (hQ : 1 ≤ Q) (k : Nat) : k < wlN P Q m ↔ mx (((k : Int) + 1) * P) (((k : Int) + 1) * Q) ≤ m := by
  have hx := mx_pos hP hQ
  rw [mx_mul (by omega)]
  unfold wlN
  have := Int.le_ediv_iff_mul_le (a := (k : Int) + 1) (b := m) (show 0 < mx P Q by omega)
  rw [← this]
  omega
/-- For the loop's measure: how far the first wheel is from having more teeth than any. -/
def leftP (v : Value) (w : World) : Nat :=
  match v with
  | .pointer (some a) => match w.cell? a with
    | some x => (121 - intOf x).toNat
    | none => 0
  | _ => 0
theorem leftP_eq {b : Nat} {w : World} {x : Int} (h : w.cell? ⟨b, 0, none⟩ = some (.int .i64 x)) : leftP (.pointer (some ⟨b, 0, none⟩)) w = (121 - x).toNat := by simp [leftP, h, intOf]

set_option maxHeartbeats 400000 in
theorem pairsWith_makes (P Q m : Int) (w : World) :
    Calls Try.prog 77 #[tv P Q, .int .i64 m] w fun e w' => e = .returned (.func (.func 102) #[] #[.pointer (some ⟨w.heap.size, 0, none⟩), .pointer (some ⟨w.heap.size + 1, 0, none⟩)]) ∧ w' = (w.alloc (.cells #[.int .i64 P, .int .i64 Q] 63)).alloc (.cells #[.int .i64 m] 3) := by
  (go_enter Try.func77, Try.ntmps77)
  go_wp2
  go_ret
  exact ⟨by simp, rfl⟩

/-- What the loop of the iterator knows between two rounds. -/
structure WithAt (P Q m : Int) (B1 B2 : Nat) (M0 : Nat → Prop) (W : World) (k Bp : Nat) (M : Nat → Prop) (wr : World) : Prop where
  nM : ¬ M Bp
  lt : Bp < wr.heap.size
  ge : W.heap.size ≤ Bp
  n1 : ¬ M B1
  n2 : ¬ M B2
  grow : ∀ k, M k → M0 k ∨ W.heap.size ≤ k
  bound : ∀ k, M k → k < wr.heap.size
  x : wr.cell? ⟨Bp, 0, none⟩ = some (.int .i64 (((k : Int) + 1) * P))
  y : wr.cell? ⟨Bp, 1, none⟩ = some (.int .i64 (((k : Int) + 1) * Q))
  fx : wr.frozen? ⟨Bp, 0, none⟩ = false
  fy : wr.frozen? ⟨Bp, 1, none⟩ = false
  p : wr.cell? ⟨B1, 0, none⟩ = some (.int .i64 P)
  q : wr.cell? ⟨B1, 1, none⟩ = some (.int .i64 Q)
  t : wr.cell? ⟨B2, 0, none⟩ = some (.int .i64 m)
  size : W.heap.size ≤ wr.heap.size

set_option maxRecDepth 100000 in
set_option maxHeartbeats 3200000 in
theorem pairsWith_seqs (P Q m : Int) (hP : 1 ≤ P ∧ P ≤ 1000000000) (hQ : 1 ≤ Q ∧ Q ≤ 1000000000) (hm : 0 ≤ m ∧ m ≤ 120) (B1 B2 : Nat) (w0 : World) (hB1 : B1 < w0.heap.size) (hB2 : B2 < w0.heap.size)
    (c0 : w0.cell? ⟨B1, 0, none⟩ = some (.int .i64 P)) (c1 : w0.cell? ⟨B1, 1, none⟩ = some (.int .i64 Q)) (c2 : w0.cell? ⟨B2, 0, none⟩ = some (.int .i64 m)) :
    Seqs Try.prog 102 #[.pointer (some ⟨B1, 0, none⟩), .pointer (some ⟨B2, 0, none⟩)] (fun p : Int × Int => #[tv p.1 p.2]) (fun _ _ => True) (fun _ _ => False) (fun xs => xs = wlK P Q (wlN P Q m)) (fun pre => pre <+: wlK P Q (wlN P Q m)) (fun k => k = B1 ∨ k = B2) w0 := by
  intro l J Jx M0 W hW hJ hJx hO hM0 hY h0
  have hW1 : B1 < W.heap.size := Nat.lt_of_lt_of_le hB1 hW.size
  have hW2 : B2 < W.heap.size := Nat.lt_of_lt_of_le hB2 hW.size
  have d0 : W.cell? ⟨B1, 0, none⟩ = some (.int .i64 P) := (hW.cell (p := ⟨B1, 0, none⟩) hB1).trans c0
  have d1 : W.cell? ⟨B1, 1, none⟩ = some (.int .i64 Q) := (hW.cell (p := ⟨B1, 1, none⟩) hB1).trans c1
  have d2 : W.cell? ⟨B2, 0, none⟩ = some (.int .i64 m) := (hW.cell (p := ⟨B2, 0, none⟩) hB2).trans c2
  have hn1 : ¬ M0 B1 := hO B1 (.inl rfl)
  have hn2 : ¬ M0 B2 := hO B2 (.inr rfl)
  have HY := Lib.hid hY
  have HJ := Lib.hid hJ
  have HM0 := Lib.hid hM0
  clear hY hJ hJx hO c0 c1 c2 hW hM0
  refine (callsIn_wide (n := 0)).1 (callsIn_of_wp Try.func102 rfl trivial ?_ rfl)
  simp only [Try.ntmps102, List.size_toArray, List.length_cons, List.length_nil, Nat.reduceAdd, Nat.reduceSub, Array.replicate_succ, Array.replicate_zero, List.push_toArray, List.append_toArray, List.nil_append, List.cons_append]
  gi_wp2
  gi_loopw [4] (fun v wr => ∃ (k Bp : Nat) (M : Nat → Prop), v = .pointer (some ⟨Bp, 0, none⟩) ∧ k ≤ wlN P Q m ∧ J (wlK P Q k) M wr ∧ WithAt P Q m B1 B2 M0 W k Bp M wr) (fun v wr => leftP v wr)
  case atStart =>
    refine ⟨0, W.heap.size, M0, rfl, Nat.zero_le _, HJ.out _ _ _ _ h0 (Kept.of_below (by (repeat' (first | (with_reducible exact Below.refl _ _) | (with_reducible assumption) | (with_reducible refine Below.alloc ?_ ?_ _) | (with_reducible refine Below.drew ?_) | (with_reducible refine below_drewN ?_ _) | (with_reducible refine Below.setCell ?_ ?_ _) | (with_reducible refine below_call ?_ ?_ (by assumption)) | go_size)))), ⟨fun h => by have := HM0.out _ h; omega, by simp, Nat.le_refl _, hn1, hn2, fun k h => .inl h, fun k h => by have := HM0.out k h; simp; omega, ?_, ?_, ?_, ?_, ?_, ?_, ?_, by simp⟩⟩
    · simp only [Int.natCast_zero, Int.zero_add, Int.one_mul]; go_simp
    · simp only [Int.natCast_zero, Int.zero_add, Int.one_mul]; go_simp
    all_goals go_simp
  case round =>
    obtain ⟨k, Bp, M, rfl, hk, hJk, h⟩ := hrel
    obtain ⟨g1, g2, g3, g4, g5, g6, g7, x0, y0, fx, fy, p0, q0, t0, hz⟩ := h
    have HI := Lib.hid (wlN_iff (m := m) hP.1 hQ.1 k)
    have HX := Lib.hid (show ((k : Int) + 1) * P + P = (((k + 1 : Nat) : Int) + 1) * P by rw [Int.natCast_add, Int.add_mul ((k : Int) + ((1 : Nat) : Int)), Int.one_mul]; rfl)
    have HYY := Lib.hid (show ((k : Int) + 1) * Q + Q = (((k + 1 : Nat) : Int) + 1) * Q by rw [Int.natCast_add, Int.add_mul ((k : Int) + ((1 : Nat) : Int)), Int.one_mul]; rfl)
    have HE := Lib.hid (show wlK P Q (k + 1) = wlK P Q k ++ (if pairB (((k : Int) + 1) * P, ((k : Int) + 1) * Q) then [(((k : Int) + 1) * P, ((k : Int) + 1) * Q)] else []) from rfl)
    have x1 : 1 ≤ ((k : Int) + 1) * P := by have := Int.mul_le_mul (show (1 : Int) ≤ (k : Int) + 1 by omega) hP.1 (by omega) (by omega); omega
    have y1 : 1 ≤ ((k : Int) + 1) * Q := by have := Int.mul_le_mul (show (1 : Int) ≤ (k : Int) + 1 by omega) hQ.1 (by omega) (by omega); omega
    obtain ⟨x, ex⟩ : ∃ x, ((k : Int) + 1) * P = x := ⟨_, rfl⟩
    obtain ⟨y, ey⟩ : ∃ y, ((k : Int) + 1) * Q = y := ⟨_, rfl⟩
    rw [ex] at x0 x1
    rw [ey] at y0 y1
    have HI := Lib.hid (show k < wlN P Q m ↔ mx x y ≤ m by rw [← ex, ← ey]; exact HI.out)
    have HX := Lib.hid (show x + P = (((k + 1 : Nat) : Int) + 1) * P by rw [← ex]; exact HX.out)
    have HYY := Lib.hid (show y + Q = (((k + 1 : Nat) : Int) + 1) * Q by rw [← ey]; exact HYY.out)
    have HE := Lib.hid (show wlK P Q (k + 1) = wlK P Q k ++ (if pairB (x, y) then [(x, y)] else []) by rw [← ex, ← ey]; exact HE.out)
    clear ex ey
    have u1 : B1 < wr.heap.size := by omega
    have u2 : B2 < wr.heap.size := by omega
    by_cases hlt : mx x y ≤ m
    · have hkn := HI.out.2 hlt
      have hx : x ≤ m ∧ y ≤ m := by unfold mx at hlt; split at hlt <;> omega
      obtain ⟨hx, hy⟩ := hx
      have HML := Lib.hid (leftP_eq x0)
      have hxy : x < y ∨ ¬ x < y := Classical.em _
      cases hp : pairB (x, y)
      · have HE := Lib.hid (show wlK P Q (k + 1) = wlK P Q k by rw [HE.out, hp]; simp)
        have s1 : wr.heap.size < wr.heap.size + 1 := by omega
        rcases hxy with hxy | hxy
        · gi_wp2
          refine ⟨trivial, rfl, (callsIn_wide.2 (implIsPair_is x y hp _)).mono ?_⟩
          rintro e1 w1 ⟨rfl, hb1⟩
          obtain ⟨hc1, hf1⟩ := bcell hb1
          have hz1 := hb1.size
          have v1 : B1 < w1.heap.size := by omega
          have v2 : B2 < w1.heap.size := by omega
          have v3 : Bp < w1.heap.size := by omega
          have b1 := Lib.hid hb1
          clear hb1
          gi_wp2
          refine ⟨fun _ h => (by cases h), ?_⟩
          gi_wp2
          go_roundw
          case rel =>
            refine ⟨k + 1, w1.heap.size, M, rfl, by omega, ?_, ⟨fun h => by have := g7 _ h; omega, by simp, by go_size, g4, g5, g6, fun k h => by have := g7 k h; simp; omega, ?_, ?_, ?_, ?_, ?_, ?_, ?_, by go_size⟩⟩
            · rw [HE.out]; exact HJ.out _ _ _ _ hJk (Kept.of_below (Below.trans (b := _) b1.out (by (repeat' (first | (with_reducible exact Below.refl _ _) | (with_reducible assumption) | (with_reducible refine Below.alloc ?_ ?_ _) | (with_reducible refine Below.drew ?_) | (with_reducible refine below_drewN ?_ _) | (with_reducible refine Below.setCell ?_ ?_ _) | (with_reducible refine below_call ?_ ?_ (by assumption)) | go_size)))))
            · rw [← HX.out]; go_simp
            · rw [← HYY.out]; go_simp
            all_goals go_simp
          case measure =>
            rw [leftP_eq (b := w1.heap.size) (x := x + P) (by go_simp), HML.out]; omega
        · have hxy' : y ≤ x := by omega
          gi_wp2
          refine ⟨trivial, rfl, (callsIn_wide.2 (implIsPair_is x y hp _)).mono ?_⟩
          rintro e1 w1 ⟨rfl, hb1⟩
          obtain ⟨hc1, hf1⟩ := bcell hb1
          have hz1 := hb1.size
          have v1 : B1 < w1.heap.size := by omega
          have v2 : B2 < w1.heap.size := by omega
          have v3 : Bp < w1.heap.size := by omega
          have b1 := Lib.hid hb1
          clear hb1
          gi_wp2
          refine ⟨fun _ h => (by cases h), ?_⟩
          gi_wp2
          go_roundw
          case rel =>
            refine ⟨k + 1, w1.heap.size, M, rfl, by omega, ?_, ⟨fun h => by have := g7 _ h; omega, by simp, by go_size, g4, g5, g6, fun k h => by have := g7 k h; simp; omega, ?_, ?_, ?_, ?_, ?_, ?_, ?_, by go_size⟩⟩
            · rw [HE.out]; exact HJ.out _ _ _ _ hJk (Kept.of_below (Below.trans (b := _) b1.out (by (repeat' (first | (with_reducible exact Below.refl _ _) | (with_reducible assumption) | (with_reducible refine Below.alloc ?_ ?_ _) | (with_reducible refine Below.drew ?_) | (with_reducible refine below_drewN ?_ _) | (with_reducible refine Below.setCell ?_ ?_ _) | (with_reducible refine below_call ?_ ?_ (by assumption)) | go_size)))))
            · rw [← HX.out]; go_simp
            · rw [← HYY.out]; go_simp
            all_goals go_simp
          case measure =>
            rw [leftP_eq (b := w1.heap.size) (x := x + P) (by go_simp), HML.out]; omega
      · have HE := Lib.hid (show wlK P Q (k + 1) = wlK P Q k ++ [(x, y)] by rw [HE.out, hp]; simp)
        rcases hxy with hxy | hxy
        · gi_wp2
          refine ⟨trivial, rfl, (callsIn_wide.2 (implIsPair_is x y hp _)).mono ?_⟩
          rintro e1 w1 ⟨rfl, hb1⟩
          obtain ⟨hc1, hf1⟩ := bcell hb1
          have hz1 := hb1.size
          have v1 : B1 < w1.heap.size := by omega
          have v2 : B2 < w1.heap.size := by omega
          have v3 : Bp < w1.heap.size := by omega
          have b1 := Lib.hid hb1
          clear hb1
          have hJ1 := HJ.out _ _ _ _ hJk (Kept.of_below b1.out)
          obtain ⟨fn, tmps, assign, body, hyl, hR⟩ := HY.out (wlK P Q k) (x, y) M w1 hJ1 trivial (fun _ h => h.elim) (by rw [← HE.out]; exact wlK_pre P Q hkn)
          rw [← HE.out] at hR
          gi_wp2
          refine ⟨rfl, hR.mono ?_⟩
          rintro e W3 ⟨M', hk3, hg', hh⟩
          have hs3 := hk3.size
          have n3 : ∀ b, b < w1.heap.size → ¬ M b → ¬ M' b := fun b hb hm h => by
            rcases (hg' b h).1 with h | h | h
            · exact hm h
            · exact h
            · omega
          have b3 : ∀ k, M' k → k < W3.heap.size := fun k h => (hg' k h).2
          have gr3 : ∀ k, M' k → M0 k ∨ W.heap.size ≤ k := fun k h => (hg' k h).1.elim (fun h => g6 k h) (fun h => h.elim (fun h => h.elim) (fun h => .inr (by omega)))
          rcases hh with ⟨rfl, hJ3⟩ | ⟨rfl, hJx3⟩
          · have x3 : W3.cell? ⟨Bp, 0, none⟩ = some (.int .i64 x) := (World.cell?_of_block (hk3.block Bp v3 g1)).trans ((hc1 Bp 0 g2).trans x0)
            have y3 : W3.cell? ⟨Bp, 1, none⟩ = some (.int .i64 y) := (World.cell?_of_block (hk3.block Bp v3 g1)).trans ((hc1 Bp 1 g2).trans y0)
            have p3 : W3.cell? ⟨B1, 0, none⟩ = some (.int .i64 P) := (World.cell?_of_block (hk3.block B1 v1 g4)).trans ((hc1 B1 0 u1).trans p0)
            have q3 : W3.cell? ⟨B1, 1, none⟩ = some (.int .i64 Q) := (World.cell?_of_block (hk3.block B1 v1 g4)).trans ((hc1 B1 1 u1).trans q0)
            have t3 : W3.cell? ⟨B2, 0, none⟩ = some (.int .i64 m) := (World.cell?_of_block (hk3.block B2 v2 g5)).trans ((hc1 B2 0 u2).trans t0)
            have u31 : B1 < W3.heap.size := by omega
            have u32 : B2 < W3.heap.size := by omega
            have N1 := Lib.hid (n3 B1 v1 g4)
            have N2 := Lib.hid (n3 B2 v2 g5)
            clear hc1 hf1 hk3 x0 y0 p0 q0 t0
            gi_wp2
            go_roundw
            case rel =>
              refine ⟨k + 1, W3.heap.size, M', rfl, by omega, ?_, ⟨fun h => by have := b3 _ h; omega, by simp, by go_size, N1.out, N2.out, gr3, fun k h => by have := b3 k h; simp; omega, ?_, ?_, ?_, ?_, ?_, ?_, ?_, by go_size⟩⟩
              · rw [show wlK P Q (k + 1) = wlK P Q (k + 1) from rfl]; exact HJ.out _ _ _ _ hJ3 (Kept.of_below (Below.trans (b := _) (Below.refl _ _) (by (repeat' (first | (with_reducible exact Below.refl _ _) | (with_reducible assumption) | (with_reducible refine Below.alloc ?_ ?_ _) | (with_reducible refine Below.drew ?_) | (with_reducible refine below_drewN ?_ _) | (with_reducible refine Below.setCell ?_ ?_ _) | (with_reducible refine below_call ?_ ?_ (by assumption)) | go_size)))))
              · rw [← HX.out]; go_simp
              · rw [← HYY.out]; go_simp
              all_goals go_simp
            case measure =>
              rw [leftP_eq (b := W3.heap.size) (x := x + P) (by go_simp), HML.out]; omega
          · gi_wp2
            refine bodyPost_ret (results_none rfl _ _ _) rfl ?_
            exact ⟨⟨_, rfl⟩, M', gr3, .inr ⟨_, wlK_pre P Q hkn, hJx3⟩⟩
        · have hxy' : y ≤ x := by omega
          gi_wp2
          refine ⟨trivial, rfl, (callsIn_wide.2 (implIsPair_is x y hp _)).mono ?_⟩
          rintro e1 w1 ⟨rfl, hb1⟩
          obtain ⟨hc1, hf1⟩ := bcell hb1
          have hz1 := hb1.size
          have v1 : B1 < w1.heap.size := by omega
          have v2 : B2 < w1.heap.size := by omega
          have v3 : Bp < w1.heap.size := by omega
          have b1 := Lib.hid hb1
          clear hb1
          have hJ1 := HJ.out _ _ _ _ hJk (Kept.of_below b1.out)
          obtain ⟨fn, tmps, assign, body, hyl, hR⟩ := HY.out (wlK P Q k) (x, y) M w1 hJ1 trivial (fun _ h => h.elim) (by rw [← HE.out]; exact wlK_pre P Q hkn)
          rw [← HE.out] at hR
          gi_wp2
          refine ⟨rfl, hR.mono ?_⟩
          rintro e W3 ⟨M', hk3, hg', hh⟩
          have hs3 := hk3.size
          have n3 : ∀ b, b < w1.heap.size → ¬ M b → ¬ M' b := fun b hb hm h => by
            rcases (hg' b h).1 with h | h | h
            · exact hm h
            · exact h
            · omega
          have b3 : ∀ k, M' k → k < W3.heap.size := fun k h => (hg' k h).2
          have gr3 : ∀ k, M' k → M0 k ∨ W.heap.size ≤ k := fun k h => (hg' k h).1.elim (fun h => g6 k h) (fun h => h.elim (fun h => h.elim) (fun h => .inr (by omega)))
          rcases hh with ⟨rfl, hJ3⟩ | ⟨rfl, hJx3⟩
          · have x3 : W3.cell? ⟨Bp, 0, none⟩ = some (.int .i64 x) := (World.cell?_of_block (hk3.block Bp v3 g1)).trans ((hc1 Bp 0 g2).trans x0)
            have y3 : W3.cell? ⟨Bp, 1, none⟩ = some (.int .i64 y) := (World.cell?_of_block (hk3.block Bp v3 g1)).trans ((hc1 Bp 1 g2).trans y0)
            have p3 : W3.cell? ⟨B1, 0, none⟩ = some (.int .i64 P) := (World.cell?_of_block (hk3.block B1 v1 g4)).trans ((hc1 B1 0 u1).trans p0)
            have q3 : W3.cell? ⟨B1, 1, none⟩ = some (.int .i64 Q) := (World.cell?_of_block (hk3.block B1 v1 g4)).trans ((hc1 B1 1 u1).trans q0)
            have t3 : W3.cell? ⟨B2, 0, none⟩ = some (.int .i64 m) := (World.cell?_of_block (hk3.block B2 v2 g5)).trans ((hc1 B2 0 u2).trans t0)
            have u31 : B1 < W3.heap.size := by omega
            have u32 : B2 < W3.heap.size := by omega
            have N1 := Lib.hid (n3 B1 v1 g4)
            have N2 := Lib.hid (n3 B2 v2 g5)
            clear hc1 hf1 hk3 x0 y0 p0 q0 t0
            gi_wp2
            go_roundw
            case rel =>
              refine ⟨k + 1, W3.heap.size, M', rfl, by omega, ?_, ⟨fun h => by have := b3 _ h; omega, by simp, by go_size, N1.out, N2.out, gr3, fun k h => by have := b3 k h; simp; omega, ?_, ?_, ?_, ?_, ?_, ?_, ?_, by go_size⟩⟩
              · rw [show wlK P Q (k + 1) = wlK P Q (k + 1) from rfl]; exact HJ.out _ _ _ _ hJ3 (Kept.of_below (Below.trans (b := _) (Below.refl _ _) (by (repeat' (first | (with_reducible exact Below.refl _ _) | (with_reducible assumption) | (with_reducible refine Below.alloc ?_ ?_ _) | (with_reducible refine Below.drew ?_) | (with_reducible refine below_drewN ?_ _) | (with_reducible refine Below.setCell ?_ ?_ _) | (with_reducible refine below_call ?_ ?_ (by assumption)) | go_size)))))
              · rw [← HX.out]; go_simp
              · rw [← HYY.out]; go_simp
              all_goals go_simp
            case measure =>
              rw [leftP_eq (b := W3.heap.size) (x := x + P) (by go_simp), HML.out]; omega
          · gi_wp2
            refine bodyPost_ret (results_none rfl _ _ _) rfl ?_
            exact ⟨⟨_, rfl⟩, M', gr3, .inr ⟨_, wlK_pre P Q hkn, hJx3⟩⟩
    · have hke : k = wlN P Q m := by
        have := mt HI.out.1 hlt
        omega
      subst hke
      by_cases hxy : x < y
      · have hy : m < y := by unfold mx at hlt; rw [if_pos hxy] at hlt; omega
        gi_wp2
        go_end0
        exact ⟨⟨_, rfl⟩, M, g6, .inl (by first | exact hJk | exact ⟨_, rfl, hJk⟩)⟩
      · have hx : m < x := by unfold mx at hlt; rw [if_neg hxy] at hlt; omega
        have hxy' : y ≤ x := by omega
        gi_wp2
        go_end0
        exact ⟨⟨_, rfl⟩, M, g6, .inl (by first | exact hJk | exact ⟨_, rfl, hJk⟩)⟩
end Go.Proofs.Ytaifcemdabcfjaa
