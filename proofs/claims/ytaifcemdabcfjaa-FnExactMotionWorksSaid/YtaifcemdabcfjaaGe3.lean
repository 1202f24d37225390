/- Ratios by the program: products, what is left, along a train. -/
import Derived.Test.YtaifcemdabcfjaaGe2
set_option linter.unusedSimpArgs false
set_option linter.unusedVariables false
set_option maxRecDepth 100000
namespace Go.Proofs.Ytaifcemdabcfjaa
open Go.RowKit

theorem sp_swap (x y : Int) : spN y x = spD x y ∧ spD y x = spN x y := by
  unfold spN spD gc
  rw [Int.gcd_comm y x]
  exact ⟨rfl, rfl⟩
theorem sp_pos (n d : Int) (hn : 1 ≤ n) (hd : 1 ≤ d) : (1 ≤ spN n d ∧ spN n d ≤ n) ∧ 1 ≤ spD n d ∧ spD n d ≤ d := by
  obtain ⟨h1, h2, h3, h4⟩ := sp_bd n d (by omega) hd
  obtain ⟨g1, g2, g3, g4⟩ := sp_bd d n (by omega) hn
  rw [(sp_swap n d).1] at g1 g2
  rw [(sp_swap n d).2] at g3 g4
  exact ⟨⟨g3, h2⟩, h3, h4⟩
theorem sp_times {P Q x y : Int} (hP : 1 ≤ P) (hQ : 1 ≤ Q) (hx : 1 ≤ x) (hy : 1 ≤ y) :
    spN (spN P Q * spN x y) (spD P Q * spD x y) = spN (P * x) (Q * y) ∧ spD (spN P Q * spN x y) (spD P Q * spD x y) = spD (P * x) (Q * y) := by
  obtain ⟨e1, e2⟩ := sp_mul P Q
  obtain ⟨e3, e4⟩ := sp_mul x y
  obtain ⟨-, p1, -⟩ := sp_pos P Q hP hQ
  obtain ⟨-, p2, -⟩ := sp_pos x y hx hy
  refine sp_eq (by have := Int.mul_pos (show 0 < spD P Q by omega) (show 0 < spD x y by omega); omega) (by have := Int.mul_pos (show 0 < Q by omega) (show 0 < y by omega); omega) ?_
  generalize gc P Q = g at *
  generalize gc x y = h at *
  generalize spN P Q = a at *
  generalize spD P Q = b at *
  generalize spN x y = c at *
  generalize spD x y = d at *
  rw [e1, e2, e3, e4]
  grind
set_option maxHeartbeats 800000 in
theorem product_raw (a b c d : Int) (h1 : 0 ≤ a * c) (h2 : a * c ≤ 9000000000000000000) (h3 : 1 ≤ b * d) (h4 : b * d ≤ 9000000000000000000) (w : World) :
    Calls Try.prog 109 #[tv a b, tv c d] w fun e w' => e = .returned (tv (spN (a * c) (b * d)) (spD (a * c) (b * d))) ∧ Below w.heap.size w w' := by
  (go_enter Try.func109, Try.ntmps109)
  go_wp2_with fail
  refine (lowestSpan_any (a * c) (b * d) (by omega) (by omega) (by omega) (by omega) _).mono ?_
  (rintro e1 w1 ⟨rfl, hb1⟩; obtain ⟨hc1, hf1⟩ := bcell hb1; have hz1 := hb1.size; (try simp only [World.size_alloc, World.size_setCell, World.size_drew] at hz1); have q1 : w.heap.size ≤ w1.heap.size := (by omega); (try have q1_0 : w.heap.size < w1.heap.size := (by omega)); (try have q1_1 : w.heap.size + 1 < w1.heap.size := (by omega)); (try have q1_2 : w.heap.size + 2 < w1.heap.size := (by omega)); (try have q1_3 : w.heap.size + 3 < w1.heap.size := (by omega)))
  go_wp2
  (refine bodyPost_ret (by simp [results, Try.results109, go_sem, *]; try rfl) rfl ?_)
  exact ⟨rfl, by (repeat' (first | (with_reducible exact Below.refl _ _) | (with_reducible assumption) | (with_reducible refine Below.alloc ?_ ?_ _) | (with_reducible refine Below.drew ?_) | (with_reducible refine below_drewN ?_ _) | (with_reducible refine Below.setCell ?_ ?_ _) | (with_reducible refine below_call ?_ ?_ (by assumption)) | go_size))⟩
set_option maxHeartbeats 800000 in
theorem times_raw (a b c d : Int) (h1 : 0 ≤ a * c) (h2 : a * c ≤ 9000000000000000000) (h3 : 1 ≤ b * d) (h4 : b * d ≤ 9000000000000000000) (w : World) :
    Calls Try.prog 99 #[tv a b, tv c d] w fun e w' => e = .returned (tv (spN (a * c) (b * d)) (spD (a * c) (b * d))) ∧ Below w.heap.size w w' := by
  (go_enter Try.func99, Try.ntmps99)
  go_wp2_with fail
  refine (product_raw a b c d h1 h2 h3 h4 _).mono ?_
  (rintro e1 w1 ⟨rfl, hb1⟩; obtain ⟨hc1, hf1⟩ := bcell hb1; have hz1 := hb1.size; (try simp only [World.size_alloc, World.size_setCell, World.size_drew] at hz1); have q1 : w.heap.size ≤ w1.heap.size := (by omega); (try have q1_0 : w.heap.size < w1.heap.size := (by omega)); (try have q1_1 : w.heap.size + 1 < w1.heap.size := (by omega)); (try have q1_2 : w.heap.size + 2 < w1.heap.size := (by omega)); (try have q1_3 : w.heap.size + 3 < w1.heap.size := (by omega)))
  go_wp2
  (refine bodyPost_ret (by simp [results, Try.results99, go_sem, *]; try rfl) rfl ?_)
  exact ⟨rfl, by (repeat' (first | (with_reducible exact Below.refl _ _) | (with_reducible assumption) | (with_reducible refine Below.alloc ?_ ?_ _) | (with_reducible refine Below.drew ?_) | (with_reducible refine below_drewN ?_ _) | (with_reducible refine Below.setCell ?_ ?_ _) | (with_reducible refine below_call ?_ ?_ (by assumption)) | go_size))⟩
set_option maxHeartbeats 800000 in
theorem without_raw (a b c d : Int) (h1 : 0 ≤ a * d) (h2 : a * d ≤ 9000000000000000000) (h3 : 1 ≤ b * c) (h4 : b * c ≤ 9000000000000000000) (w : World) :
    Calls Try.prog 105 #[tv a b, tv c d] w fun e w' => e = .returned (tv (spN (a * d) (b * c)) (spD (a * d) (b * c))) ∧ Below w.heap.size w w' := by
  (go_enter Try.func105, Try.ntmps105)
  go_wp2_with fail
  refine (times_raw a b d c h1 h2 h3 h4 _).mono ?_
  (rintro e1 w1 ⟨rfl, hb1⟩; obtain ⟨hc1, hf1⟩ := bcell hb1; have hz1 := hb1.size; (try simp only [World.size_alloc, World.size_setCell, World.size_drew] at hz1); have q1 : w.heap.size ≤ w1.heap.size := (by omega); (try have q1_0 : w.heap.size < w1.heap.size := (by omega)); (try have q1_1 : w.heap.size + 1 < w1.heap.size := (by omega)); (try have q1_2 : w.heap.size + 2 < w1.heap.size := (by omega)); (try have q1_3 : w.heap.size + 3 < w1.heap.size := (by omega)))
  go_wp2
  (refine bodyPost_ret (by simp [results, Try.results105, go_sem, *]; try rfl) rfl ?_)
  exact ⟨rfl, by (repeat' (first | (with_reducible exact Below.refl _ _) | (with_reducible assumption) | (with_reducible refine Below.alloc ?_ ?_ _) | (with_reducible refine Below.drew ?_) | (with_reducible refine below_drewN ?_ _) | (with_reducible refine Below.setCell ?_ ?_ _) | (with_reducible refine below_call ?_ ?_ (by assumption)) | go_size))⟩
set_option maxHeartbeats 400000 in
theorem lowestRatio_any (n d : Int) (hn : 0 ≤ n) (hn' : n ≤ 9000000000000000000) (hd : 1 ≤ d) (hd' : d ≤ 9000000000000000000) (w : World) :
    Calls Try.prog 78 #[.int .i64 n, .int .i64 d] w fun e w' => e = .returned (tv (spN n d) (spD n d)) ∧ Below w.heap.size w w' := by
  (go_enter Try.func78, Try.ntmps78)
  go_wp2_with fail
  refine (lowestSpan_any n d hn hn' hd hd' _).mono ?_
  (rintro e1 w1 ⟨rfl, hb1⟩; obtain ⟨hc1, hf1⟩ := bcell hb1; have hz1 := hb1.size; (try simp only [World.size_alloc, World.size_setCell, World.size_drew] at hz1); have q1 : w.heap.size ≤ w1.heap.size := (by omega); (try have q1_0 : w.heap.size < w1.heap.size := (by omega)); (try have q1_1 : w.heap.size + 1 < w1.heap.size := (by omega)); (try have q1_2 : w.heap.size + 2 < w1.heap.size := (by omega)); (try have q1_3 : w.heap.size + 3 < w1.heap.size := (by omega)))
  go_wp2
  (refine bodyPost_ret (by simp [results, Try.results78, go_sem, *]; try rfl) rfl ?_)
  exact ⟨rfl, by (repeat' (first | (with_reducible exact Below.refl _ _) | (with_reducible assumption) | (with_reducible refine Below.alloc ?_ ?_ _) | (with_reducible refine Below.drew ?_) | (with_reducible refine below_drewN ?_ _) | (with_reducible refine Below.setCell ?_ ?_ _) | (with_reducible refine below_call ?_ ?_ (by assumption)) | go_size))⟩
/-- Of a ratio in lowest terms and a pair's: their product. -/
theorem times_low {P Q x y : Int} (hP : 1 ≤ P ∧ P ≤ 1000000000000) (hQ : 1 ≤ Q ∧ Q ≤ 1000000000000) (hx : 1 ≤ x ∧ x ≤ 1000) (hy : 1 ≤ y ∧ y ≤ 1000) (w : World) :
    Calls Try.prog 99 #[tv (spN P Q) (spD P Q), tv (spN x y) (spD x y)] w fun e w' => e = .returned (tv (spN (P * x) (Q * y)) (spD (P * x) (Q * y))) ∧ Below w.heap.size w w' := by
  obtain ⟨⟨a1, a2⟩, b1, b2⟩ := sp_pos P Q hP.1 hQ.1
  obtain ⟨⟨c1, c2⟩, d1, d2⟩ := sp_pos x y hx.1 hy.1
  obtain ⟨m1, m2⟩ := mulb (show 0 ≤ spN P Q by omega) (show spN P Q ≤ 1000000000000 by omega) (show 0 ≤ spN x y by omega) (show spN x y ≤ 1000 by omega)
  obtain ⟨m3, m4⟩ := mulb (show 0 ≤ spD P Q by omega) (show spD P Q ≤ 1000000000000 by omega) (show 0 ≤ spD x y by omega) (show spD x y ≤ 1000 by omega)
  have m5 := Int.mul_pos (show 0 < spD P Q by omega) (show 0 < spD x y by omega)
  obtain ⟨e1, e2⟩ := sp_times hP.1 hQ.1 hx.1 hy.1
  have h := times_raw (spN P Q) (spD P Q) (spN x y) (spD x y) m1 (by omega) (by omega) (by omega) w
  rw [e1, e2] at h
  exact h
/-- Of a ratio in lowest terms and a pair's: what is left of it. -/
theorem without_low {P Q x y : Int} (hP : 1 ≤ P ∧ P ≤ 1000000000000) (hQ : 1 ≤ Q ∧ Q ≤ 1000000000000) (hx : 1 ≤ x ∧ x ≤ 1000) (hy : 1 ≤ y ∧ y ≤ 1000) (w : World) :
    Calls Try.prog 105 #[tv (spN P Q) (spD P Q), tv (spN x y) (spD x y)] w fun e w' => e = .returned (tv (spN (P * y) (Q * x)) (spD (P * y) (Q * x))) ∧ Below w.heap.size w w' := by
  obtain ⟨⟨a1, a2⟩, b1, b2⟩ := sp_pos P Q hP.1 hQ.1
  obtain ⟨⟨c1, c2⟩, d1, d2⟩ := sp_pos x y hx.1 hy.1
  obtain ⟨m1, m2⟩ := mulb (show 0 ≤ spN P Q by omega) (show spN P Q ≤ 1000000000000 by omega) (show 0 ≤ spD x y by omega) (show spD x y ≤ 1000 by omega)
  obtain ⟨m3, m4⟩ := mulb (show 0 ≤ spD P Q by omega) (show spD P Q ≤ 1000000000000 by omega) (show 0 ≤ spN x y by omega) (show spN x y ≤ 1000 by omega)
  have m5 := Int.mul_pos (show 0 < spD P Q by omega) (show 0 < spN x y by omega)
  obtain ⟨e1, e2⟩ := sp_times hP.1 hQ.1 hy.1 hx.1
  rw [(sp_swap x y).1, (sp_swap x y).2] at e1 e2
  have h := without_raw (spN P Q) (spD P Q) (spN x y) (spD x y) m1 (by omega) (by omega) (by omega) w
  rw [e1, e2] at h
  exact h
set_option maxHeartbeats 3200000 in
theorem through_times (A B : Int) (hA : 1 ≤ A ∧ A ≤ 4800) (hB : 1 ≤ B ∧ B ≤ 4800) (a : Option Addr) (c : Nat) (L : List (Int × Int)) (hr : trainB L = true) (w : World) (hin : PIn w a L) :
    Calls Try.prog 98 #[tv (spN A B) (spD A B), .func (.func 99) #[] #[], .slice a L.length c] w fun e w' => e = .returned (tv (spN (A * numT L) (B * denT L)) (spD (A * numT L) (B * denT L))) ∧ Below w.heap.size w w' := by
  have X1 := Lib.hid hin
  clear hin
  have hT := trainB_bd hr
  have hTl := hT.1
  have HT := Lib.hid hT.2
  clear hT
  have HB := Lib.hid (fun k => train_bd (trainB_take hr k))
  (go_enter Try.func98, Try.ntmps98)
  go_wp2
  go_loopw [11] (fun i wr => ∃ k : Nat, k ≤ L.length ∧ i = .int .i64 k ∧ wr.cell? ⟨w.heap.size, 0, none⟩ = some (.int .i64 (spN (A * numT (L.take k)) (B * denT (L.take k)))) ∧ wr.cell? ⟨w.heap.size, 1, none⟩ = some (.int .i64 (spD (A * numT (L.take k)) (B * denT (L.take k)))) ∧
      wr.frozen? ⟨w.heap.size, 0, none⟩ = false ∧ wr.frozen? ⟨w.heap.size, 1, none⟩ = false ∧ wr.cell? ⟨w.heap.size + 1, 0, none⟩ = some (.int .i64 0) ∧ wr.cell? ⟨w.heap.size + 1, 1, none⟩ = some (.int .i64 0) ∧
      wr.frozen? ⟨w.heap.size + 1, 0, none⟩ = false ∧ wr.frozen? ⟨w.heap.size + 1, 1, none⟩ = false ∧ Below w.heap.size w wr ∧ w.heap.size + 2 ≤ wr.heap.size) (fun i _ => L.length - (intOf i).toNat)
  case atStart =>
    refine ⟨0, Nat.zero_le _, rfl, ?_, ?_, ?_, ?_, ?_, ?_, ?_, ?_, by (repeat' (first | (with_reducible exact Below.refl _ _) | (with_reducible assumption) | (with_reducible refine Below.alloc ?_ ?_ _) | (with_reducible refine Below.drew ?_) | (with_reducible refine below_drewN ?_ _) | (with_reducible refine Below.setCell ?_ ?_ _) | (with_reducible refine below_call ?_ ?_ (by assumption)) | go_size)), by go_size⟩
    · simp only [List.take_zero, numT, denT, Int.mul_one]; go_simp
    · simp only [List.take_zero, numT, denT, Int.mul_one]; go_simp
    all_goals go_simp
  case round =>
    obtain ⟨k, hk, rfl, r0, r1, z0, z1, r2, r3, z2, z3, hbel, hq⟩ := hrel
    have hz := hbel.size
    have qa : w.heap.size < wr.heap.size := by omega
    have qb : w.heap.size + 1 < wr.heap.size := by omega
    have i0 : (0 : Int) ≤ (k : Int) := Int.natCast_nonneg _
    by_cases hlt : k < L.length
    · obtain ⟨x, y, hxy⟩ : ∃ x y, L.getD k (0, 0) = (x, y) := ⟨_, _, rfl⟩
      obtain ⟨b, off, rfl, u1, f2, f3⟩ := X1.out.at hlt hbel hxy
      have hp := HT.out k hlt
      rw [hxy] at hp
      obtain ⟨⟨p1, p2⟩, p3, p4⟩ := pairB_bd hp
      simp only at p1 p2 p3 p4
      have HN := Lib.hid (numT_next hlt hxy)
      have HD := Lib.hid (denT_next hlt hxy)
      obtain ⟨⟨s1, s2⟩, ⟨t1, t2⟩, -⟩ := HB.out k
      have KA : 1 ≤ A * numT (L.take k) ∧ A * numT (L.take k) ≤ 1000000000000 := by
        have h1 := mulb (show 0 ≤ A by omega) hA.2 (show 0 ≤ numT (L.take k) by omega) (show numT (L.take k) ≤ 207360000 by omega)
        have h2 := Int.mul_pos (show 0 < A by omega) (show 0 < numT (L.take k) by omega)
        omega
      have KB : 1 ≤ B * denT (L.take k) ∧ B * denT (L.take k) ≤ 1000000000000 := by
        have h1 := mulb (show 0 ≤ B by omega) hB.2 (show 0 ≤ denT (L.take k) by omega) (show denT (L.take k) ≤ 207360000 by omega)
        have h2 := Int.mul_pos (show 0 < B by omega) (show 0 < denT (L.take k) by omega)
        omega
      have GA : A * numT (L.take (k + 1)) = (A * numT (L.take k)) * x := by rw [HN.out, ← Int.mul_assoc]
      have GB : B * denT (L.take (k + 1)) = (B * denT (L.take k)) * y := by rw [HD.out, ← Int.mul_assoc]
      have GA := Lib.hid GA
      have GB := Lib.hid GB
      clear hxy hp HN HD s1 s2 t1 t2
      generalize A * numT (L.take k) = P at *
      generalize B * denT (L.take k) = Q at *
      have i1 : (k : Int) < (L.length : Int) := by omega
      have CT := fun w => times_low KA KB (show 1 ≤ x ∧ x ≤ 1000 from ⟨by omega, by omega⟩) (show 1 ≤ y ∧ y ≤ 1000 from ⟨by omega, by omega⟩) w
      have CT := Lib.hid CT
      go_wp2_with fail
      refine wp_region_btail 8 (by kernel_rfl) (by kernel_rfl) ?_
      simp only [List.take_succ_cons, List.take_zero, List.drop_succ_cons, List.drop_zero]
      (apply wpB_take (hw := rfl); (intro wq hq; obtain ⟨hcq, hfq⟩ := bcell hq; unfold atB; go_simp; exact ⟨rfl, rfl⟩); simp only [Act.put, List.setIfInBounds_toArray, List.set_cons_zero, List.set_cons_succ])
      (apply wpB_take (hw := rfl); (intro wq hq; obtain ⟨hcq, hfq⟩ := bcell hq; unfold atB; go_simp; exact ⟨rfl, rfl⟩); simp only [Act.put, List.setIfInBounds_toArray, List.set_cons_zero, List.set_cons_succ])
      (apply wpB_take (hw := rfl); (intro wq hq; obtain ⟨hcq, hfq⟩ := bcell hq; unfold atB; go_simp; exact ⟨rfl, rfl⟩); simp only [Act.put, List.setIfInBounds_toArray, List.set_cons_zero, List.set_cons_succ])
      (apply wpB_take (hw := rfl); (intro wq hq; obtain ⟨hcq, hfq⟩ := bcell hq; unfold atB; go_simp; exact ⟨rfl, rfl⟩); simp only [Act.put, List.setIfInBounds_toArray, List.set_cons_zero, List.set_cons_succ])
      (apply wpB_take (hw := rfl); (intro wq hq; obtain ⟨hcq, hfq⟩ := bcell hq; unfold atB; go_simp; exact ⟨rfl, rfl⟩); simp only [Act.put, List.setIfInBounds_toArray, List.set_cons_zero, List.set_cons_succ])
      (apply wpB_take (hw := rfl); (intro wq hq; obtain ⟨hcq, hfq⟩ := bcell hq; unfold atB; go_simp; exact ⟨rfl, rfl⟩); simp only [Act.put, List.setIfInBounds_toArray, List.set_cons_zero, List.set_cons_succ])
      (apply wpB_take (hw := rfl); (intro wq hq; unfold atB; go_simp; exact ⟨rfl, lowestRatio_any x y (by omega) (by omega) (by omega) (by omega) _⟩); simp only [Act.put, List.setIfInBounds_toArray, List.set_cons_zero, List.set_cons_succ])
      (apply wpB_take (hw := rfl); (intro wq hq; unfold atB; go_simp; exact ⟨rfl, CT.out _⟩); simp only [Act.put, List.setIfInBounds_toArray, List.set_cons_zero, List.set_cons_succ])
      refine fun wn hbn => ?_
      obtain ⟨hcn, hfn⟩ := bcell hbn
      have hzn := hbn.size
      simp only [World.size_alloc, World.size_setCell, World.size_drew] at hzn
      have g0 : wn.cell? ⟨w.heap.size, 0, none⟩ = some (.int .i64 (spN P Q)) := (hcn _ _ (by go_size)).trans (by go_simp)
      have g1 : wn.cell? ⟨w.heap.size, 1, none⟩ = some (.int .i64 (spD P Q)) := (hcn _ _ (by go_size)).trans (by go_simp)
      have y0 : wn.frozen? ⟨w.heap.size, 0, none⟩ = false := (hfn _ _ (by go_size)).trans (by go_simp)
      have y1 : wn.frozen? ⟨w.heap.size, 1, none⟩ = false := (hfn _ _ (by go_size)).trans (by go_simp)
      have g2 : wn.cell? ⟨w.heap.size + 1, 0, none⟩ = some (.int .i64 0) := (hcn _ _ (by go_size)).trans (by go_simp)
      have g3 : wn.cell? ⟨w.heap.size + 1, 1, none⟩ = some (.int .i64 0) := (hcn _ _ (by go_size)).trans (by go_simp)
      have y2 : wn.frozen? ⟨w.heap.size + 1, 0, none⟩ = false := (hfn _ _ (by go_size)).trans (by go_simp)
      have y3 : wn.frozen? ⟨w.heap.size + 1, 1, none⟩ = false := (hfn _ _ (by go_size)).trans (by go_simp)
      have hb2 : Below w.heap.size w wn := Below.trans (b := _) (by (repeat' (first | (with_reducible exact Below.refl _ _) | (with_reducible assumption) | (with_reducible refine Below.alloc ?_ ?_ _) | (with_reducible refine Below.drew ?_) | (with_reducible refine below_drewN ?_ _) | (with_reducible refine Below.setCell ?_ ?_ _) | (with_reducible refine below_call ?_ ?_ (by assumption)) | go_size))) (hbn.mono (by go_size))
      clear r0 r1 z0 z1 r2 r3 z2 z3 hcn hfn hbn
      try simp only [Act.put, List.setIfInBounds_toArray, List.set_cons_zero, List.set_cons_succ]
      go_wp2
      go_roundw
      case rel =>
        refine ⟨k + 1, by omega, by go_num, ?_, ?_, ?_, ?_, ?_, ?_, ?_, ?_, by (repeat' (first | (with_reducible exact Below.refl _ _) | (with_reducible assumption) | (with_reducible refine Below.alloc ?_ ?_ _) | (with_reducible refine Below.drew ?_) | (with_reducible refine below_drewN ?_ _) | (with_reducible refine Below.setCell ?_ ?_ _) | (with_reducible refine below_call ?_ ?_ (by assumption)) | go_size)), by go_size⟩
        · rw [GA.out, GB.out]; go_simp
        · rw [GA.out, GB.out]; go_simp
        all_goals go_simp
      case measure => simp [intOf]; omega
    · obtain rfl : k = L.length := by omega
      rw [List.take_length] at r0 r1
      go_wp2
      (refine bodyPost_ret (by simp [results, Try.results98, go_sem, *]; try rfl) rfl ?_)
      exact ⟨rfl, by (repeat' (first | (with_reducible exact Below.refl _ _) | (with_reducible assumption) | (with_reducible refine Below.alloc ?_ ?_ _) | (with_reducible refine Below.drew ?_) | (with_reducible refine below_drewN ?_ _) | (with_reducible refine Below.setCell ?_ ?_ _) | (with_reducible refine below_call ?_ ?_ (by assumption)) | go_size))⟩
set_option maxHeartbeats 3200000 in
theorem through_without (A B : Int) (hA : 1 ≤ A ∧ A ≤ 4800) (hB : 1 ≤ B ∧ B ≤ 4800) (a : Option Addr) (c : Nat) (L : List (Int × Int)) (hr : trainB L = true) (w : World) (hin : PIn w a L) :
    Calls Try.prog 98 #[tv (spN A B) (spD A B), .func (.func 105) #[] #[], .slice a L.length c] w fun e w' => e = .returned (tv (spN (A * denT L) (B * numT L)) (spD (A * denT L) (B * numT L))) ∧ Below w.heap.size w w' := by
  have X1 := Lib.hid hin
  clear hin
  have hT := trainB_bd hr
  have hTl := hT.1
  have HT := Lib.hid hT.2
  clear hT
  have HB := Lib.hid (fun k => train_bd (trainB_take hr k))
  (go_enter Try.func98, Try.ntmps98)
  go_wp2
  go_loopw [11] (fun i wr => ∃ k : Nat, k ≤ L.length ∧ i = .int .i64 k ∧ wr.cell? ⟨w.heap.size, 0, none⟩ = some (.int .i64 (spN (A * denT (L.take k)) (B * numT (L.take k)))) ∧ wr.cell? ⟨w.heap.size, 1, none⟩ = some (.int .i64 (spD (A * denT (L.take k)) (B * numT (L.take k)))) ∧
      wr.frozen? ⟨w.heap.size, 0, none⟩ = false ∧ wr.frozen? ⟨w.heap.size, 1, none⟩ = false ∧ wr.cell? ⟨w.heap.size + 1, 0, none⟩ = some (.int .i64 0) ∧ wr.cell? ⟨w.heap.size + 1, 1, none⟩ = some (.int .i64 0) ∧
      wr.frozen? ⟨w.heap.size + 1, 0, none⟩ = false ∧ wr.frozen? ⟨w.heap.size + 1, 1, none⟩ = false ∧ Below w.heap.size w wr ∧ w.heap.size + 2 ≤ wr.heap.size) (fun i _ => L.length - (intOf i).toNat)
  case atStart =>
    refine ⟨0, Nat.zero_le _, rfl, ?_, ?_, ?_, ?_, ?_, ?_, ?_, ?_, by (repeat' (first | (with_reducible exact Below.refl _ _) | (with_reducible assumption) | (with_reducible refine Below.alloc ?_ ?_ _) | (with_reducible refine Below.drew ?_) | (with_reducible refine below_drewN ?_ _) | (with_reducible refine Below.setCell ?_ ?_ _) | (with_reducible refine below_call ?_ ?_ (by assumption)) | go_size)), by go_size⟩
    · simp only [List.take_zero, denT, numT, Int.mul_one]; go_simp
    · simp only [List.take_zero, denT, numT, Int.mul_one]; go_simp
    all_goals go_simp
  case round =>
    obtain ⟨k, hk, rfl, r0, r1, z0, z1, r2, r3, z2, z3, hbel, hq⟩ := hrel
    have hz := hbel.size
    have qa : w.heap.size < wr.heap.size := by omega
    have qb : w.heap.size + 1 < wr.heap.size := by omega
    have i0 : (0 : Int) ≤ (k : Int) := Int.natCast_nonneg _
    by_cases hlt : k < L.length
    · obtain ⟨x, y, hxy⟩ : ∃ x y, L.getD k (0, 0) = (x, y) := ⟨_, _, rfl⟩
      obtain ⟨b, off, rfl, u1, f2, f3⟩ := X1.out.at hlt hbel hxy
      have hp := HT.out k hlt
      rw [hxy] at hp
      obtain ⟨⟨p1, p2⟩, p3, p4⟩ := pairB_bd hp
      simp only at p1 p2 p3 p4
      have HN := Lib.hid (numT_next hlt hxy)
      have HD := Lib.hid (denT_next hlt hxy)
      obtain ⟨⟨s1, s2⟩, ⟨t1, t2⟩, -⟩ := HB.out k
      have KA : 1 ≤ A * denT (L.take k) ∧ A * denT (L.take k) ≤ 1000000000000 := by
        have h1 := mulb (show 0 ≤ A by omega) hA.2 (show 0 ≤ denT (L.take k) by omega) (show denT (L.take k) ≤ 207360000 by omega)
        have h2 := Int.mul_pos (show 0 < A by omega) (show 0 < denT (L.take k) by omega)
        omega
      have KB : 1 ≤ B * numT (L.take k) ∧ B * numT (L.take k) ≤ 1000000000000 := by
        have h1 := mulb (show 0 ≤ B by omega) hB.2 (show 0 ≤ numT (L.take k) by omega) (show numT (L.take k) ≤ 207360000 by omega)
        have h2 := Int.mul_pos (show 0 < B by omega) (show 0 < numT (L.take k) by omega)
        omega
      have GA : A * denT (L.take (k + 1)) = (A * denT (L.take k)) * y := by rw [HD.out, ← Int.mul_assoc]
      have GB : B * numT (L.take (k + 1)) = (B * numT (L.take k)) * x := by rw [HN.out, ← Int.mul_assoc]
      have GA := Lib.hid GA
      have GB := Lib.hid GB
      clear hxy hp HN HD s1 s2 t1 t2
      generalize A * denT (L.take k) = P at *
      generalize B * numT (L.take k) = Q at *
      have i1 : (k : Int) < (L.length : Int) := by omega
      have CT := fun w => without_low KA KB (show 1 ≤ x ∧ x ≤ 1000 from ⟨by omega, by omega⟩) (show 1 ≤ y ∧ y ≤ 1000 from ⟨by omega, by omega⟩) w
      have CT := Lib.hid CT
      go_wp2_with fail
      refine wp_region_btail 8 (by kernel_rfl) (by kernel_rfl) ?_
      simp only [List.take_succ_cons, List.take_zero, List.drop_succ_cons, List.drop_zero]
      (apply wpB_take (hw := rfl); (intro wq hq; obtain ⟨hcq, hfq⟩ := bcell hq; unfold atB; go_simp; exact ⟨rfl, rfl⟩); simp only [Act.put, List.setIfInBounds_toArray, List.set_cons_zero, List.set_cons_succ])
      (apply wpB_take (hw := rfl); (intro wq hq; obtain ⟨hcq, hfq⟩ := bcell hq; unfold atB; go_simp; exact ⟨rfl, rfl⟩); simp only [Act.put, List.setIfInBounds_toArray, List.set_cons_zero, List.set_cons_succ])
      (apply wpB_take (hw := rfl); (intro wq hq; obtain ⟨hcq, hfq⟩ := bcell hq; unfold atB; go_simp; exact ⟨rfl, rfl⟩); simp only [Act.put, List.setIfInBounds_toArray, List.set_cons_zero, List.set_cons_succ])
      (apply wpB_take (hw := rfl); (intro wq hq; obtain ⟨hcq, hfq⟩ := bcell hq; unfold atB; go_simp; exact ⟨rfl, rfl⟩); simp only [Act.put, List.setIfInBounds_toArray, List.set_cons_zero, List.set_cons_succ])
      (apply wpB_take (hw := rfl); (intro wq hq; obtain ⟨hcq, hfq⟩ := bcell hq; unfold atB; go_simp; exact ⟨rfl, rfl⟩); simp only [Act.put, List.setIfInBounds_toArray, List.set_cons_zero, List.set_cons_succ])
      (apply wpB_take (hw := rfl); (intro wq hq; obtain ⟨hcq, hfq⟩ := bcell hq; unfold atB; go_simp; exact ⟨rfl, rfl⟩); simp only [Act.put, List.setIfInBounds_toArray, List.set_cons_zero, List.set_cons_succ])
      (apply wpB_take (hw := rfl); (intro wq hq; unfold atB; go_simp; exact ⟨rfl, lowestRatio_any x y (by omega) (by omega) (by omega) (by omega) _⟩); simp only [Act.put, List.setIfInBounds_toArray, List.set_cons_zero, List.set_cons_succ])
      (apply wpB_take (hw := rfl); (intro wq hq; unfold atB; go_simp; exact ⟨rfl, CT.out _⟩); simp only [Act.put, List.setIfInBounds_toArray, List.set_cons_zero, List.set_cons_succ])
      refine fun wn hbn => ?_
      obtain ⟨hcn, hfn⟩ := bcell hbn
      have hzn := hbn.size
      simp only [World.size_alloc, World.size_setCell, World.size_drew] at hzn
      have g0 : wn.cell? ⟨w.heap.size, 0, none⟩ = some (.int .i64 (spN P Q)) := (hcn _ _ (by go_size)).trans (by go_simp)
      have g1 : wn.cell? ⟨w.heap.size, 1, none⟩ = some (.int .i64 (spD P Q)) := (hcn _ _ (by go_size)).trans (by go_simp)
      have y0 : wn.frozen? ⟨w.heap.size, 0, none⟩ = false := (hfn _ _ (by go_size)).trans (by go_simp)
      have y1 : wn.frozen? ⟨w.heap.size, 1, none⟩ = false := (hfn _ _ (by go_size)).trans (by go_simp)
      have g2 : wn.cell? ⟨w.heap.size + 1, 0, none⟩ = some (.int .i64 0) := (hcn _ _ (by go_size)).trans (by go_simp)
      have g3 : wn.cell? ⟨w.heap.size + 1, 1, none⟩ = some (.int .i64 0) := (hcn _ _ (by go_size)).trans (by go_simp)
      have y2 : wn.frozen? ⟨w.heap.size + 1, 0, none⟩ = false := (hfn _ _ (by go_size)).trans (by go_simp)
      have y3 : wn.frozen? ⟨w.heap.size + 1, 1, none⟩ = false := (hfn _ _ (by go_size)).trans (by go_simp)
      have hb2 : Below w.heap.size w wn := Below.trans (b := _) (by (repeat' (first | (with_reducible exact Below.refl _ _) | (with_reducible assumption) | (with_reducible refine Below.alloc ?_ ?_ _) | (with_reducible refine Below.drew ?_) | (with_reducible refine below_drewN ?_ _) | (with_reducible refine Below.setCell ?_ ?_ _) | (with_reducible refine below_call ?_ ?_ (by assumption)) | go_size))) (hbn.mono (by go_size))
      clear r0 r1 z0 z1 r2 r3 z2 z3 hcn hfn hbn
      try simp only [Act.put, List.setIfInBounds_toArray, List.set_cons_zero, List.set_cons_succ]
      go_wp2
      go_roundw
      case rel =>
        refine ⟨k + 1, by omega, by go_num, ?_, ?_, ?_, ?_, ?_, ?_, ?_, ?_, by (repeat' (first | (with_reducible exact Below.refl _ _) | (with_reducible assumption) | (with_reducible refine Below.alloc ?_ ?_ _) | (with_reducible refine Below.drew ?_) | (with_reducible refine below_drewN ?_ _) | (with_reducible refine Below.setCell ?_ ?_ _) | (with_reducible refine below_call ?_ ?_ (by assumption)) | go_size)), by go_size⟩
        · rw [GA.out, GB.out]; go_simp
        · rw [GA.out, GB.out]; go_simp
        all_goals go_simp
      case measure => simp [intOf]; omega
    · obtain rfl : k = L.length := by omega
      rw [List.take_length] at r0 r1
      go_wp2
      (refine bodyPost_ret (by simp [results, Try.results98, go_sem, *]; try rfl) rfl ?_)
      exact ⟨rfl, by (repeat' (first | (with_reducible exact Below.refl _ _) | (with_reducible assumption) | (with_reducible refine Below.alloc ?_ ?_ _) | (with_reducible refine Below.drew ?_) | (with_reducible refine below_drewN ?_ _) | (with_reducible refine Below.setCell ?_ ?_ _) | (with_reducible refine below_call ?_ ?_ (by assumption)) | go_size))⟩
/-- The ratio of a train. -/
abbrev rt (L : List (Int × Int)) : Value := tv (spN (numT L) (denT L)) (spD (numT L) (denT L))
theorem sp11 : spN 1 1 = 1 ∧ spD 1 1 = 1 := by decide
set_option maxHeartbeats 400000 in
theorem ratioOf_any (a : Option Addr) (c : Nat) (L : List (Int × Int)) (hr : trainB L = true) (w : World) (hin : PIn w a L) :
    Calls Try.prog 65 #[.slice a L.length c] w fun e w' => e = .returned (rt L) ∧ Below w.heap.size w w' := by
  have X1 := Lib.hid hin
  clear hin
  have C := fun w hin => through_times 1 1 (by decide) (by decide) a c L hr w hin
  simp only [sp11.1, sp11.2, Int.one_mul] at C
  have C := Lib.hid C
  (go_enter Try.func65, Try.ntmps65)
  go_wp2_with fail
  refine (C.out _ (X1.out.below (by (repeat' (first | (with_reducible exact Below.refl _ _) | (with_reducible assumption) | (with_reducible refine Below.alloc ?_ ?_ _) | (with_reducible refine Below.drew ?_) | (with_reducible refine below_drewN ?_ _) | (with_reducible refine Below.setCell ?_ ?_ _) | (with_reducible refine below_call ?_ ?_ (by assumption)) | go_size))))).mono ?_
  (rintro e1 w1 ⟨rfl, hb1⟩; obtain ⟨hc1, hf1⟩ := bcell hb1; have hz1 := hb1.size; (try simp only [World.size_alloc, World.size_setCell, World.size_drew] at hz1); have q1 : w.heap.size ≤ w1.heap.size := (by omega); (try have q1_0 : w.heap.size < w1.heap.size := (by omega)); (try have q1_1 : w.heap.size + 1 < w1.heap.size := (by omega)); (try have q1_2 : w.heap.size + 2 < w1.heap.size := (by omega)); (try have q1_3 : w.heap.size + 3 < w1.heap.size := (by omega)))
  go_wp2
  (refine bodyPost_ret (by simp [results, Try.results65, go_sem, *]; try rfl) rfl ?_)
  exact ⟨rfl, by (repeat' (first | (with_reducible exact Below.refl _ _) | (with_reducible assumption) | (with_reducible refine Below.alloc ?_ ?_ _) | (with_reducible refine Below.drew ?_) | (with_reducible refine below_drewN ?_ _) | (with_reducible refine Below.setCell ?_ ?_ _) | (with_reducible refine below_call ?_ ?_ (by assumption)) | go_size))⟩
end Go.Proofs.Ytaifcemdabcfjaa
