/- The gaps between hands, by the model. -/
import Derived.Test.YtgdjnnelonnoaaaGImpl2
set_option linter.unusedSimpArgs false
set_option linter.unusedVariables false
set_option maxRecDepth 100000
namespace Go.Proofs.Ytgdjnnelonnoaaa
open Go.RowKit

/-- Into its place, behind those that are as great. -/
def insW (t : Int × Int) : List (Int × Int) → List (Int × Int)
  | [] => [t]
  | x :: xs => if ltT t x then t :: x :: xs else x :: insW t xs
theorem insW_at (t : Int × Int) : ∀ (L : List (Int × Int)) (k : Nat), k ≤ L.length → (∀ j, j < k → ltT t (L.getD j (0, 0)) = false) → (k < L.length → ltT t (L.getD k (0, 0)) = true) → insW t L = L.take k ++ [t] ++ L.drop k
  | [], k, hk, _, _ => by
    have : k = 0 := by simpa using hk
    subst this
    simp [insW]
  | x :: xs, 0, _, _, h2 => by
    have h := h2 (by simp)
    simp only [List.getD_cons_zero] at h
    simp [insW, h]
  | x :: xs, k + 1, hk, h1, h2 => by
    have h := h1 0 (by omega)
    simp only [List.getD_cons_zero] at h
    have ih := insW_at t xs k (by simpa using hk) (fun j hj => by simpa using h1 (j + 1) (by omega)) (fun hj => by simpa using h2 (by simpa using hj))
    simp [insW, h, ih]
theorem insW_perm (t : Int × Int) : ∀ (L : List (Int × Int)), (insW t L).Perm (t :: L)
  | [] => List.Perm.refl _
  | x :: xs => by
    unfold insW
    split
    · exact List.Perm.refl _
    · exact ((insW_perm t xs).cons x).trans (List.Perm.swap t x xs)
def Weak (L : List (Int × Int)) : Prop := L.Pairwise fun a b => ltT b a = false
theorem insW_weak (t : Int × Int) (ht : goodB t.1 t.2 = true) : ∀ (L : List (Int × Int)), AllGood L → Weak L → Weak (insW t L)
  | [], _, _ => by simp [insW, Weak]
  | x :: xs, hg, hs => by
    have hgx := hg x (List.mem_cons_self ..)
    have hgs : AllGood xs := fun y hy => hg y (List.mem_cons_of_mem _ hy)
    obtain ⟨hx, hss⟩ := List.pairwise_cons.1 hs
    unfold insW
    split
    · rename_i h
      refine List.pairwise_cons.2 ⟨fun y hy => ?_, hs⟩
      rcases List.mem_cons.1 hy with rfl | hy'
      · exact ltT_asym h
      · exact leT_trans ht hgx (hgs y hy') (ltT_asym h) (hx y hy')
    · rename_i h
      have h' : ltT t x = false := by simpa using h
      refine List.pairwise_cons.2 ⟨fun y hy => ?_, insW_weak t ht xs hgs hss⟩
      rcases List.mem_cons.1 ((insW_perm t xs).mem_iff.1 hy) with rfl | hy'
      · exact h'
      · exact hx y hy'
def insWAll (P : List (Int × Int)) : List (Int × Int) := P.foldl (fun a t => insW t a) []
theorem insWAll_snoc (P : List (Int × Int)) (t : Int × Int) : insWAll (P ++ [t]) = insW t (insWAll P) := by simp [insWAll]
theorem insWFold_spec : ∀ (P A : List (Int × Int)), AllGood P → AllGood A → Weak A → Weak (P.foldl (fun a t => insW t a) A) ∧ (P.foldl (fun a t => insW t a) A).Perm (P ++ A)
  | [], A, _, _, hs => ⟨hs, List.Perm.refl _⟩
  | t :: P, A, hp, ha, hs => by
    have ht := hp t (List.mem_cons_self ..)
    have hg : AllGood (insW t A) := fun y hy => by
      rcases List.mem_cons.1 ((insW_perm t A).mem_iff.1 hy) with rfl | h
      · exact ht
      · exact ha y h
    obtain ⟨j1, j2⟩ := insWFold_spec P (insW t A) (fun y hy => hp y (List.mem_cons_of_mem _ hy)) hg (insW_weak t ht A ha hs)
    refine ⟨j1, j2.trans ?_⟩
    exact ((insW_perm t A).append_left P).trans List.perm_middle
theorem insWAll_perm {P : List (Int × Int)} (hp : AllGood P) : Weak (insWAll P) ∧ (insWAll P).Perm P := by
  obtain ⟨h1, h2⟩ := insWFold_spec P [] hp (fun _ h => by simp at h) List.Pairwise.nil
  exact ⟨h1, by unfold insWAll; simpa using h2⟩
theorem insWAll_good {P : List (Int × Int)} (hp : AllGood P) : AllGood (insWAll P) := fun t ht => hp t ((insWAll_perm hp).2.mem_iff.1 ht)
theorem insWAll_sort {P : List (Int × Int)} (hp : AllGood P) : insWAll P = sortT P := by
  obtain ⟨h1, h2⟩ := insWAll_perm hp
  obtain ⟨s1, s2, s3⟩ := sortT_spec hp
  have hw : Weak (sortT P) := by
    unfold Weak
    rw [List.pairwise_iff_getElem]
    intro i j hi hj hij
    have h := s2 i j hij hj
    rwa [List.getD_eq_getElem?_getD, List.getD_eq_getElem?_getD, List.getElem?_eq_getElem hj, List.getElem?_eq_getElem hi] at h
  refine List.Perm.eq_of_pairwise (le := fun x y => ltT y x = false) ?_ h1 hw (h2.trans (List.mergeSort_perm P _).symm)
  intro a b ha hb e1 e2
  rw [ltT_not] at e1 e2
  exact low_eq (insWAll_good hp a ha) (s1 b hb) (Int.le_antisymm e1 e2)
theorem sg_pos' {n : Int} (h : 0 < n) : ¬ sg n ≤ 0 := by unfold sg; rw [if_pos h]; decide
theorem sg_npos' {n : Int} (h : ¬ 0 < n) : sg n ≤ 0 := by unfold sg; rw [if_neg h]; split <;> omega
theorem ltT_pos {x y p q : Int} : ltT (x, y) (p, q) = true ↔ 0 < p * y - x * q := by rw [ltT_iff]; simp only; omega
theorem ltT_npos {x y p q : Int} : ltT (x, y) (p, q) = false ↔ ¬ 0 < p * y - x * q := by rw [← Bool.not_eq_true, ltT_pos]
theorem meAt_r (n d s tn td : Int) {r : Int × Int × Bool} (hh : handB n d s = true) (ht : goodB tn td = true) (hr : plR tn td (n, d, s) = r) (w : World) :
    Calls Try.prog 67 #[hv n d s, tv tn td] w fun e w' => e = .returned (rv r) ∧ Below w.heap.size w w' := meAt_val n d s tn td hh ht hr w
theorem map_snocH (f : Int × Int × Int → Int × Int) {L : List (Int × Int × Int)} {k : Nat} (hk : k < L.length) : (L.take (k + 1)).map f = (L.take k).map f ++ [f (L.getD k (0, 0, 0))] := by
  rw [List.take_add_one, List.getElem?_eq_getElem hk, List.map_append, List.getD_eq_getElem?_getD, List.getElem?_eq_getElem hk]; rfl

set_option maxHeartbeats 4000000 in
theorem meGaps_any (a : Option Addr) (c : Nat) (M : List (Int × Int × Int)) (tn td : Int) (w : World) (hin : HIn w a M) (hi : AllI M) (ktd : (-9223372036854775808 ≤ td ∧ td ≤ 9223372036854775807)) (hl : M.length ≤ 1048576) :
    Calls Try.prog 86 #[.slice a M.length c, tv tn td] w (TurnsOut w (gapsR M tn td).1 (gapsR M tn td).2) := by
  have X1 := Lib.hid hin
  have HI := Lib.hid hi
  clear hin hi
  cases hlen : inB M.length 1 12
  · rw [show gapsR M tn td = ([], false) from by simp [gapsR, spOk, hlen]]
    (go_enter Try.func86, Try.ntmps86)
    go_wp2_with fail
    refine (l1In_is _ _ _ hlen _).mono ?_
    (rintro e1 w1 ⟨rfl, rfl⟩)
    go_wp2
    go_ret2
    exact TurnsOut.none (by (repeat' (first | (with_reducible exact Below.refl _ _) | (with_reducible assumption) | (with_reducible refine Below.alloc ?_ ?_ _) | (with_reducible refine Below.drew ?_) | (with_reducible refine below_drewN ?_ _) | (with_reducible refine Below.setCell ?_ ?_ _) | (with_reducible refine below_call ?_ ?_ (by assumption)) | go_size)))
  have hn := inB_bd hlen
  have hnn : M.length ≤ 12 := by omega
  cases gt : goodB tn td
  · have hsp : spOk M tn td = false := by
      rw [← Bool.not_eq_true]
      intro hs
      simp only [spOk, Bool.and_eq_true] at hs
      have := all_get.1 hs.2 0 (by omega)
      simp [plR, handAtT, gt, fail3] at this
    rw [show gapsR M tn td = ([], false) from by simp [gapsR, hsp]]
    (go_enter Try.func86, Try.ntmps86)
    go_wp2_with fail
    refine (l1In_is _ _ _ hlen _).mono ?_
    (rintro e1 w1 ⟨rfl, rfl⟩)
    go_wp2_with fail
    refine (diGood_is _ _ gt ktd _).mono ?_
    (rintro e1 w1 ⟨rfl, hb1⟩; obtain ⟨hc1, hf1⟩ := bcell hb1; have hz1 := hb1.size; (try simp only [World.size_alloc, World.size_setCell, World.size_drew] at hz1); have q1 : w.heap.size ≤ w1.heap.size := (by omega); (try have q1_0 : w.heap.size < w1.heap.size := (by omega)); (try have q1_1 : w.heap.size + 1 < w1.heap.size := (by omega)); (try have q1_2 : w.heap.size + 2 < w1.heap.size := (by omega)); (try have q1_3 : w.heap.size + 3 < w1.heap.size := (by omega)))
    go_wp2
    go_ret2
    exact TurnsOut.none (by (repeat' (first | (with_reducible exact Below.refl _ _) | (with_reducible assumption) | (with_reducible refine Below.alloc ?_ ?_ _) | (with_reducible refine Below.drew ?_) | (with_reducible refine below_drewN ?_ _) | (with_reducible refine Below.setCell ?_ ?_ _) | (with_reducible refine below_call ?_ ?_ (by assumption)) | go_size)))
  obtain ⟨i0, hi0, hz0, hz1, hz2⟩ := info_parts Try.infoTurn
  have I0 := Lib.hid hi0
  have Z0 := Lib.hid hz0
  have Z1 := Lib.hid hz1
  have Z2 := Lib.hid hz2
  have GTT := Lib.hid gt
  clear hi0 hz0 hz1 hz2
  (go_enter Try.func86, Try.ntmps86)
  go_wp2_with fail
  refine (l1In_is _ _ _ hlen _).mono ?_
  (rintro e1 w1 ⟨rfl, rfl⟩)
  go_wp2_with fail
  refine (diGood_is _ _ gt ktd _).mono ?_
  (rintro e1 w1 ⟨rfl, hb1⟩; obtain ⟨hc1, hf1⟩ := bcell hb1; have hz1 := hb1.size; (try simp only [World.size_alloc, World.size_setCell, World.size_drew] at hz1); have q1 : w.heap.size ≤ w1.heap.size := (by omega); (try have q1_0 : w.heap.size < w1.heap.size := (by omega)); (try have q1_1 : w.heap.size + 1 < w1.heap.size := (by omega)); (try have q1_2 : w.heap.size + 2 < w1.heap.size := (by omega)); (try have q1_3 : w.heap.size + 3 < w1.heap.size := (by omega)))
  have q0 : w1.cell? ⟨w.heap.size, 0, none⟩ = some (.int .i64 tn) := (hc1 _ _ (by go_size)).trans (by go_simp)
  have q1 : w1.cell? ⟨w.heap.size, 1, none⟩ = some (.int .i64 td) := (hc1 _ _ (by go_size)).trans (by go_simp)
  have Q0 := Lib.hid q0
  have Q1 := Lib.hid q1
  have hbw1 : Below w.heap.size w w1 := by (repeat' (first | (with_reducible exact Below.refl _ _) | (with_reducible assumption) | (with_reducible refine Below.alloc ?_ ?_ _) | (with_reducible refine Below.drew ?_) | (with_reducible refine below_drewN ?_ _) | (with_reducible refine Below.setCell ?_ ?_ _) | (with_reducible refine below_call ?_ ?_ (by assumption)) | go_size))
  have X2 := Lib.hid (X1.out.below hbw1)
  clear q0 q1 gt
  go_wp2
  go_loopw [6, 28] (fun u i wr => ∃ kk : Nat, kk ≤ M.length ∧ i = .int .i64 kk ∧ TRow wr w1.heap.size u (insWAll ((M.take kk).map (plH tn td))) ∧ (∀ j, j < kk → (plR tn td (M.getD j (0, 0, 0))).2.2 = true) ∧ Below w1.heap.size w1 wr) (fun _ i _ => M.length - (intOf i).toNat)
  case atStart => exact ⟨0, Nat.zero_le _, rfl, World.ownsRow_nil _ _ _ _, fun j hj => absurd hj (Nat.not_lt_zero _), Below.refl _ _⟩
  case round =>
    obtain ⟨kk, hk, rfl, hown, hall, hbr⟩ := hrel
    generalize wr = wo at *
    have HO := Lib.hid hown
    have HA := Lib.hid hall
    clear hown hall
    have hzr := hbr.size
    have i0' : (0 : Int) ≤ (kk : Int) := Int.natCast_nonneg _
    by_cases hlt : kk < M.length
    · have i1 : (kk : Int) < (M.length : Int) := by omega
      obtain ⟨b, off, rfl, u0, e2, e3, e4⟩ := X2.out kk hlt
      obtain ⟨hcr, hfr⟩ := bcell hbr
      have f2 := (hcr b (off + kk * 3) u0).trans e2
      have f3 := (hcr b (off + kk * 3 + 1) u0).trans e3
      have f4 := (hcr b (off + kk * 3 + 2) u0).trans e4
      have q0 := (hcr w.heap.size 0 (by omega)).trans Q0.out
      have q1 := (hcr w.heap.size 1 (by omega)).trans Q1.out
      have u1 : b < wo.heap.size := by omega
      have s0 : w.heap.size < wo.heap.size := by omega
      have HF0 : Hid ((plR tn td (M.getD kk (0, 0, 0))).2.2 = false → gapsR M tn td = ([], false)) := fun ho => by
        have hsp : spOk M tn td = false := by
          rw [← Bool.not_eq_true]
          intro hs
          simp only [spOk, Bool.and_eq_true] at hs
          have := all_get.1 hs.2 kk hlt
          rw [ho] at this; cases this
        simp [gapsR, hsp]
      have HALL0 : Hid ((plR tn td (M.getD kk (0, 0, 0))).2.2 = true → ∀ j, j < kk + 1 → (plR tn td (M.getD j (0, 0, 0))).2.2 = true) := fun h j hj => by
        by_cases hjk : j = kk
        · subst hjk; exact h
        · exact HA.out j (by omega)
      have hAG : AllGood ((M.take kk).map (plH tn td)) := fun z hz => by
        obtain ⟨z', hz', rfl⟩ := List.mem_map.1 hz
        obtain ⟨j, hj, e⟩ := List.getElem_of_mem hz'
        simp only [List.length_take] at hj
        have := HA.out j (by omega)
        rw [List.getElem_take] at e
        rw [List.getD_eq_getElem?_getD, List.getElem?_eq_getElem (by omega), e] at this
        exact plR_good this
      have HSI0 := Lib.hid (show insWAll ((M.take (kk + 1)).map (plH tn td)) = insW (plH tn td (M.getD kk (0, 0, 0))) (insWAll ((M.take kk).map (plH tn td))) from by rw [map_snocH _ hlt, insWAll_snoc])
      have HPG := Lib.hid (show (plR tn td (M.getD kk (0, 0, 0))).2.2 = true → goodB (plH tn td (M.getD kk (0, 0, 0))).1 (plH tn td (M.getD kk (0, 0, 0))).2 = true from plR_good)
      have hI := HI.out kk hlt
      have hIL : (insWAll ((M.take kk).map (plH tn td))).length = kk := by rw [(insWAll_perm hAG).2.length_eq]; simp; omega
      have HIG : Hid (GoodL (insWAll ((M.take kk).map (plH tn td)))) := fun j hj => by
        have := (goodB_iff _ _).1 (insWAll_good hAG _ (getD_mem hj))
        omega
      have HPL : Hid (plH tn td (M.getD kk (0, 0, 0)) = ((plR tn td (M.getD kk (0, 0, 0))).1, (plR tn td (M.getD kk (0, 0, 0))).2.1)) := rfl
      clear e2 e3 e4 hcr hfr hAG
      generalize insWAll ((M.take kk).map (plH tn td)) = L at *
      have hL12 : L.length ≤ 12 := by omega
      clear hIL
      have hz : Hid (plR tn td (M.getD kk (0, 0, 0)) = plR tn td (M.getD kk (0, 0, 0))) := rfl
      generalize plH tn td (M.getD kk (0, 0, 0)) = pxy at *
      generalize hzz : M.getD kk (0, 0, 0) = z at *
      obtain ⟨hn', hd', hs'⟩ := z
      simp only at f2 f3 f4 hI
      clear hz
      cases gh : handB hn' hd' hs'
      · have HF := Lib.hid (HF0.out (by simp [plR, handAtT, gh, fail3]))
        go_wp2_with fail
        refine (meGood_is _ _ _ gh hI.2.1 _).mono ?_
        rintro e2' w2 ⟨rfl, hb2⟩
        have hb2' : Below wo.heap.size wo w2 := Below.trans (b := _) (by (repeat' (first | (with_reducible exact Below.refl _ _) | (with_reducible assumption) | (with_reducible refine Below.alloc ?_ ?_ _) | (with_reducible refine Below.drew ?_) | (with_reducible refine below_drewN ?_ _) | (with_reducible refine Below.setCell ?_ ?_ _) | (with_reducible refine below_call ?_ ?_ (by assumption)) | go_size))) (hb2.mono (by simp only [World.size_alloc, World.size_setCell]; omega))
        clear hzz
        go_wp2
        go_ret2
        rw [HF.out]
        exact TurnsOut.none (hbw1.trans ((hbr.trans (hb2'.mono hbr.size)).mono hbw1.size))
      · have GH := Lib.hid gh
        clear hzz
        go_wp2_with fail
        refine (meGood_is _ _ _ gh hI.2.1 _).mono ?_
        rintro e2' w2 ⟨rfl, hb2⟩
        have hb2' : Below wo.heap.size wo w2 := Below.trans (b := _) (by (repeat' (first | (with_reducible exact Below.refl _ _) | (with_reducible assumption) | (with_reducible refine Below.alloc ?_ ?_ _) | (with_reducible refine Below.drew ?_) | (with_reducible refine below_drewN ?_ _) | (with_reducible refine Below.setCell ?_ ?_ _) | (with_reducible refine below_call ?_ ?_ (by assumption)) | go_size))) (hb2.mono (by simp only [World.size_alloc, World.size_setCell]; omega))
        have hz2 := hb2'.size
        obtain ⟨hc2, hf2⟩ := bcell hb2
        have g0 : w2.cell? ⟨wo.heap.size, 0, none⟩ = some (.int .i64 hn') := (hc2 _ _ (by simp)).trans (by go_simp)
        have g1 : w2.cell? ⟨wo.heap.size, 1, none⟩ = some (.int .i64 hd') := (hc2 _ _ (by simp)).trans (by go_simp)
        have g2 : w2.cell? ⟨wo.heap.size, 2, none⟩ = some (.int .i64 hs') := (hc2 _ _ (by simp)).trans (by go_simp)
        obtain ⟨hc2', hf2'⟩ := bcell hb2'
        have q0' := (hc2' _ 0 s0).trans q0
        have q1' := (hc2' _ 1 s0).trans q1
        have hzw2 := hb2.size
        simp only [World.size_alloc, World.size_setCell] at hzw2
        clear hc2 hf2 hc2' hf2' q0 q1 f2 f3 f4 hb2
        generalize hr : plR tn td (hn', hd', hs') = r at *
        have HR' := Lib.hid hr
        clear hr gh
        obtain ⟨x, y, okk⟩ := r
        simp only at HF0 HALL0 HPG HPL
        cases okk with
        | false =>
          have HF := Lib.hid (HF0.out rfl)
          go_wp2_with fail
          refine (meAt_r hn' hd' hs' tn td GH.out GTT.out HR'.out _).mono ?_
          rintro e3' w3 ⟨rfl, hb3⟩
          go_wp2
          go_ret2
          rw [HF.out]
          have hbz : Below wo.heap.size wo w3 := hb2'.trans (hb3.mono hb2'.size)
          have hbzz : Below w.heap.size w w3 := hbw1.trans ((hbr.trans (hbz.mono hbr.size)).mono hbw1.size)
          have hz9 := hbzz.size
          exact TurnsOut.none (by (repeat' (first | (with_reducible exact Below.refl _ _) | (with_reducible assumption) | (with_reducible refine Below.alloc ?_ ?_ _) | (with_reducible refine Below.drew ?_) | (with_reducible refine below_drewN ?_ _) | (with_reducible refine Below.setCell ?_ ?_ _) | (with_reducible refine below_call ?_ ?_ (by assumption)) | go_size)))
        | true =>
          have HALL := Lib.hid (HALL0.out rfl)
          have HPXY := HPL.out
          subst HPXY
          have HSI := HSI0
          have hpg := (goodB_iff _ _).1 (HPG.out rfl)
          have gtx : 1 ≤ y ∧ y ≤ 1000000 ∧ 0 ≤ x ∧ x ≤ 999999 := by simp only at hpg; omega
          clear hpg HSI0 HPL HPG HALL0 HF0
          go_wp2_with fail
          refine (meAt_r hn' hd' hs' tn td GH.out GTT.out HR'.out _).mono ?_
          rintro e3' w2' ⟨rfl, hb3'⟩
          have hzz3 := hb3'.size
          have hb3 : Below wo.heap.size wo (w2'.alloc (Obj.cells #[Value.int .i64 x, Value.int .i64 y] 27)) := (hb2'.trans (hb3'.mono hb2'.size)).alloc (by omega) _
          have k0 : (w2'.alloc (Obj.cells #[Value.int .i64 x, Value.int .i64 y] 27)).cell? ⟨w2'.heap.size, 0, none⟩ = some (.int .i64 x) := by go_simp
          have k1 : (w2'.alloc (Obj.cells #[Value.int .i64 x, Value.int .i64 y] 27)).cell? ⟨w2'.heap.size, 1, none⟩ = some (.int .i64 y) := by go_simp
          have hgq : w2'.heap.size < (w2'.alloc (Obj.cells #[Value.int .i64 x, Value.int .i64 y] 27)).heap.size := by simp
          clear g0 g1 g2 q0' q1' hb2' hb3'
          rcases (show TRow wo w1.heap.size u6 L from HO.out).2 with ⟨hu6, hl0⟩ | ⟨gg, cap, cur, hu6, hgb, hgl, hcap1, hcap2, -, -⟩
          · have hL0 : L = [] := List.eq_nil_of_length_eq_zero hl0
            have HL := Lib.hid hL0
            have HN := Lib.hid (show insW (x, y) L = L.take 0 ++ [(x, y)] ++ L.drop 0 from by rw [hL0]; rfl)
            subst hu6
            clear hL0 hl0
            go_wp2
            generalize w2'.alloc (Obj.cells #[Value.int .i64 x, Value.int .i64 y] 27) = w3 at *
            generalize w2'.heap.size = gq at *
            have hz3 := hb3.size
            refine wp_loop_rounds 1 ?_
            rw [rounds_succ]
            go_wp2_with fail
            refine wp_region_below (by kernel_rfl) (by kernel_rfl) ?_
            repeat (first | (apply wpB_take (hw := rfl); (intro wq hq; obtain ⟨hcq, hfq⟩ := bcell hq; unfold atB; go_simp; exact ⟨rfl, rfl⟩); simp only [Act.put, List.setIfInBounds_toArray, List.set_cons_zero, List.set_cons_succ]) | (apply wpB_skip (hw := rfl); simp only [Act.put, List.setIfInBounds_toArray, List.set_cons_zero, List.set_cons_succ]))
            refine fun w5 hb35 => ?_
            go_wp2_with fail
            have kz0 : w5.cell? ⟨gq, 0, none⟩ = some (.int .i64 x) := ((bcell hb35).1 gq 0 (by omega)).trans k0
            have kz1 : w5.cell? ⟨gq, 1, none⟩ = some (.int .i64 y) := ((bcell hb35).1 gq 1 (by omega)).trans k1
            have hz5 := hb35.size
            have wlt : gq < w5.heap.size := by omega
            have hbz : Below wo.heap.size wo w5 := hb3.trans (hb35.mono hb3.size)
            have hz55 := hbz.size
            clear k0 k1
            refine wp_region_held (by kernel_rfl) (S := fun W => Below w5.heap.size w5 W) ?_
            refine take_first (i := 1) (v := .slice none 0 0) 59 rfl rfl (by kernel_rfl) (by kernel_rfl) (by kernel_rfl) (fun _ _ _ h => h) (by rfl) ?_ (by first | assumption | exact (Below.refl _ _).drew) ?_
            · intro W hS
              obtain ⟨hcW, hfW⟩ := bcell hS
              go_simp
            simp only [Act.put, List.setIfInBounds_toArray, List.set_cons_zero, List.set_cons_succ]
            refine take_first (i := 2) (v := .int .i64 (0 : Nat)) 60 rfl rfl (by kernel_rfl) (by kernel_rfl) (by kernel_rfl) (fun _ _ _ h => h) (by rfl) ?_ (by first | assumption | exact (Below.refl _ _).drew) ?_
            · intro W hS
              obtain ⟨hcW, hfW⟩ := bcell hS
              go_simp
            simp only [Act.put, List.setIfInBounds_toArray, List.set_cons_zero, List.set_cons_succ]
            refine take_first (i := 3) (v := .slice none 0 0) 61 rfl rfl (by kernel_rfl) (by kernel_rfl) (by kernel_rfl) (fun _ _ _ h => h) (by rfl) ?_ (by first | assumption | exact (Below.refl _ _).drew) ?_
            · intro W hS
              obtain ⟨hcW, hfW⟩ := bcell hS
              go_simp
            simp only [Act.put, List.setIfInBounds_toArray, List.set_cons_zero, List.set_cons_succ]
            refine take_first (i := 5) (v := .agg #[.int .i64 x, .int .i64 y]) 63 rfl rfl (by kernel_rfl) (by kernel_rfl) (by kernel_rfl) (fun _ _ _ h => h) (by rfl) ?_ (by first | assumption | exact (Below.refl _ _).drew) ?_
            · intro W hS
              obtain ⟨hcW, hfW⟩ := bcell hS
              go_simp
            simp only [Act.put, List.setIfInBounds_toArray, List.set_cons_zero, List.set_cons_succ]
            refine wpAnyH_all (rs := [0, 6]) (by kernel_rfl) (by decide) (List.forall_mem_cons.2 ⟨?_, List.forall_mem_cons.2 ⟨?_, fun _ h => absurd h List.not_mem_nil⟩⟩)
            · refine wpOp_value (v := .slice (some ⟨(w5.drew).heap.size, 0, none⟩) 0 0) (w' := (w5.drew).alloc (.cells #[] 27)) 58 rfl rfl rfl (by go_simp) ⟨by (repeat' (first | (with_reducible exact Below.refl _ _) | (with_reducible assumption) | (with_reducible refine Below.alloc ?_ ?_ _) | (with_reducible refine Below.drew ?_) | (with_reducible refine below_drewN ?_ _) | (with_reducible refine Below.setCell ?_ ?_ _) | (with_reducible refine below_call ?_ ?_ (by assumption)) | go_size)), ?_⟩
              have O35 := Lib.hid (World.ownsRow_made (base := w5.heap.size) (e := 27) (size := 2) (w5.drew) #[] 0 (by go_size) (by unfold maxLen; omega) rfl)
              simp only [Act.put, List.setIfInBounds_toArray, List.set_cons_zero, List.set_cons_succ]
              refine wpAnyH_all (rs := [4, 6]) (by kernel_rfl) (by decide) (List.forall_mem_cons.2 ⟨?_, List.forall_mem_cons.2 ⟨?_, fun _ h => absurd h List.not_mem_nil⟩⟩)
              · have hT : Below w5.heap.size w5 ((World.alloc (w5.drew) (.cells #[] 27))) := by (repeat' (first | (with_reducible exact Below.refl _ _) | (with_reducible assumption) | (with_reducible refine Below.alloc ?_ ?_ _) | (with_reducible refine Below.drew ?_) | (with_reducible refine below_drewN ?_ _) | (with_reducible refine Below.setCell ?_ ?_ _) | (with_reducible refine below_call ?_ ?_ (by assumption)) | go_size))
                refine wpOp_wp rfl rfl (wp_append_any 62 rfl (.tmp 58) (.tmp 61) 45 rfl w5.heap.size 27 i0 _ 16 Try.underlying45 I0.out Z0.out Z1.out Z2.out rfl (.slice (some ⟨(w5.drew).heap.size, 0, none⟩) 0 0) 0 [] rfl O35.out (.slice none 0 0) rfl 0 (flat (L.take 0)) (.inl ⟨rfl, rfl, by simp [flat]⟩) (by unfold maxLen; omega) (by omega) (by go_size) ?_)
                intro v39 w4 own39 grow39
                have hb4 : Below w5.heap.size w5 w4 := Below.grown (w := (World.alloc (w5.drew) (.cells #[] 27))) (by (repeat' (first | (with_reducible exact Below.refl _ _) | (with_reducible assumption) | (with_reducible refine Below.alloc ?_ ?_ _) | (with_reducible refine Below.drew ?_) | (with_reducible refine below_drewN ?_ _) | (with_reducible refine Below.setCell ?_ ?_ _) | (with_reducible refine below_call ?_ ?_ (by assumption)) | go_size))) grow39 (by go_size) (fun j hj => (World.ownsRow.lt O35.out j hj).1)
                have hz4 := grow39.size
                try simp only [World.size_alloc, World.size_drew] at hz4
                have OWN := Lib.hid own39
                have GR := Lib.hid grow39
                clear own39 grow39
                refine ⟨hb4, ?_⟩
                simp only [Act.put, List.setIfInBounds_toArray, List.set_cons_zero, List.set_cons_succ]
                refine wpAnyH_all (rs := [6]) (by kernel_rfl) (by decide) (List.forall_mem_cons.2 ⟨?_, fun _ h => absurd h List.not_mem_nil⟩)
                refine wpOp_value (v := .slice (some ⟨w4.heap.size, 0, none⟩) 1 1) (w' := w4.alloc (.cells #[.int .i64 x, .int .i64 y] 27)) 64 rfl rfl rfl (by go_simp) ⟨by (repeat' (first | (with_reducible exact Below.refl _ _) | (with_reducible assumption) | (with_reducible refine Below.alloc ?_ ?_ _) | (with_reducible refine Below.drew ?_) | (with_reducible refine below_drewN ?_ _) | (with_reducible refine Below.setCell ?_ ?_ _) | (with_reducible refine below_call ?_ ?_ (by assumption)) | go_size)), ?_⟩
                simp only [Act.put, List.setIfInBounds_toArray, List.set_cons_zero, List.set_cons_succ]
                refine wpAnyH_all (rs := [7]) (by kernel_rfl) (by decide) (List.forall_mem_cons.2 ⟨?_, fun _ h => absurd h List.not_mem_nil⟩)
                have hB := Lib.hid (show ((World.alloc w4 (.cells #[.int .i64 x, .int .i64 y] 27))).heap[w4.heap.size]? = some (.cells #[.int .i64 x, .int .i64 y] 27 (0, 0)) from heap_alloc_new w4 _)
                refine wpOp_wp rfl rfl (wp_append_any 65 rfl (.tmp 62) (.tmp 64) 45 rfl w5.heap.size 27 i0 _ 16 Try.underlying45 I0.out Z0.out Z1.out Z2.out rfl v39 (0 + 0) _ rfl (OWN.out.alloc _) (.slice (some ⟨w4.heap.size, 0, none⟩) 1 1) rfl 1 [.int .i64 x, .int .i64 y] (.inr ⟨⟨w4.heap.size, 0, none⟩, 1, rfl, rfl, World.news_of_block (cs := #[.int .i64 x, .int .i64 y]) (t := 27) (fr := (0, 0)) hB.out, by simp [Value.oneCell']⟩) (by unfold maxLen; omega) (by omega) (by go_size) ?_)
                intro v42 w7 own42 grow42
                have hb7 : Below w5.heap.size w5 w7 := Below.grown (w := (World.alloc w4 (.cells #[.int .i64 x, .int .i64 y] 27))) (by (repeat' (first | (with_reducible exact Below.refl _ _) | (with_reducible assumption) | (with_reducible refine Below.alloc ?_ ?_ _) | (with_reducible refine Below.drew ?_) | (with_reducible refine below_drewN ?_ _) | (with_reducible refine Below.setCell ?_ ?_ _) | (with_reducible refine below_call ?_ ?_ (by assumption)) | go_size))) grow42 (by go_size) (fun j hj => (World.ownsRow.lt OWN.out j hj).1)
                have hz7 := grow42.size
                try simp only [World.size_alloc, World.size_drew] at hz7
                have OWN7 := Lib.hid own42
                clear own42 grow42 hB OWN GR hb4
                refine ⟨hb7, ?_⟩
                simp only [Act.put, List.setIfInBounds_toArray, List.set_cons_zero, List.set_cons_succ]
                refine wpAnyH_all (rs := [8]) (by kernel_rfl) (by decide) (List.forall_mem_cons.2 ⟨?_, fun _ h => absurd h List.not_mem_nil⟩)
                refine wpOp_value (v := v42) (w' := w7) 12 rfl rfl rfl (by go_simp) ⟨hb7, ?_⟩
                simp only [Act.put, List.setIfInBounds_toArray, List.set_cons_zero, List.set_cons_succ]
                refine wpAnyH_done (by kernel_rfl) ?_ _
                have HSR := fun W (hT : Below w5.heap.size w5 W) => (show Srcs W (.slice none 0 0) (0) ([]) from by exact .inl ⟨rfl, rfl, rfl⟩)
                have HSR7 := Lib.hid (HSR w7 hb7)
                clear HSR
                go_wp2_with (at_builtin; refine wpList_append_any 70 rfl rfl (.tmp 66) (.tmp 69) 45 rfl w5.heap.size 27 i0 _ 16 Try.underlying45 I0.out Z0.out Z1.out Z2.out rfl v42 (0 + 0 + 1) _ rfl OWN7.out (.slice none 0 0) rfl (0) ([]) HSR7.out (by unfold maxLen; omega) (by omega) (by go_size) ?_; intro v47 w8 own8 grow8)
                have hb8 : Below w5.heap.size w5 w8 := Below.grown (w := w7) hb7 grow8 (by go_size) (fun j hj => (World.ownsRow.lt OWN7.out j hj).1)
                have OWN8 := Lib.hid own8
                clear own8 grow8
                go_roundw
                case rel =>
                  refine ⟨kk + 1, by omega, by go_num, ?_, HALL.out, hbr.trans (Below.mono (B := wo.heap.size) (hbz.trans (hb8.mono hbz.size)) hbr.size)⟩
                  rw [HSI.out, HN.out]
                  refine TRow.mono (b := w5.heap.size) ?_ (by omega)
                  unfold TRow
                  have e1 : (L.take (0) ++ [(x, y)] ++ L.drop (0)).length = 0 + 0 + 1 + (0) := by rw [HL.out]; rfl
                  have e2 : flat (L.take (0) ++ [(x, y)] ++ L.drop (0)) = [] ++ flat (L.take (0)) ++ [.int .i64 x, .int .i64 y] ++ ([]) := by rw [HL.out]; rfl
                  rw [e1, e2]
                  exact OWN8.out
                case measure => simp [intOf]; omega

              · refine wpOp_value (v := .slice (some ⟨(World.alloc (w5.drew) (.cells #[] 27)).heap.size, 0, none⟩) 1 1) (w' := (World.alloc (w5.drew) (.cells #[] 27)).alloc (.cells #[.int .i64 x, .int .i64 y] 27)) 64 rfl rfl rfl (by go_simp) ⟨by (repeat' (first | (with_reducible exact Below.refl _ _) | (with_reducible assumption) | (with_reducible refine Below.alloc ?_ ?_ _) | (with_reducible refine Below.drew ?_) | (with_reducible refine below_drewN ?_ _) | (with_reducible refine Below.setCell ?_ ?_ _) | (with_reducible refine below_call ?_ ?_ (by assumption)) | go_size)), ?_⟩
                simp only [Act.put, List.setIfInBounds_toArray, List.set_cons_zero, List.set_cons_succ]
                refine wpAnyH_all (rs := [4]) (by kernel_rfl) (by decide) (List.forall_mem_cons.2 ⟨?_, fun _ h => absurd h List.not_mem_nil⟩)
                have hT : Below w5.heap.size w5 ((World.alloc (World.alloc (w5.drew) (.cells #[] 27)) (.cells #[.int .i64 x, .int .i64 y] 27))) := by (repeat' (first | (with_reducible exact Below.refl _ _) | (with_reducible assumption) | (with_reducible refine Below.alloc ?_ ?_ _) | (with_reducible refine Below.drew ?_) | (with_reducible refine below_drewN ?_ _) | (with_reducible refine Below.setCell ?_ ?_ _) | (with_reducible refine below_call ?_ ?_ (by assumption)) | go_size))
                refine wpOp_wp rfl rfl (wp_append_any 62 rfl (.tmp 58) (.tmp 61) 45 rfl w5.heap.size 27 i0 _ 16 Try.underlying45 I0.out Z0.out Z1.out Z2.out rfl (.slice (some ⟨(w5.drew).heap.size, 0, none⟩) 0 0) 0 [] rfl (O35.out.alloc _) (.slice none 0 0) rfl 0 (flat (L.take 0)) (.inl ⟨rfl, rfl, by simp [flat]⟩) (by unfold maxLen; omega) (by omega) (by go_size) ?_)
                intro v39 w4 own39 grow39
                have hb4 : Below w5.heap.size w5 w4 := Below.grown (w := (World.alloc (World.alloc (w5.drew) (.cells #[] 27)) (.cells #[.int .i64 x, .int .i64 y] 27))) (by (repeat' (first | (with_reducible exact Below.refl _ _) | (with_reducible assumption) | (with_reducible refine Below.alloc ?_ ?_ _) | (with_reducible refine Below.drew ?_) | (with_reducible refine below_drewN ?_ _) | (with_reducible refine Below.setCell ?_ ?_ _) | (with_reducible refine below_call ?_ ?_ (by assumption)) | go_size))) grow39 (by go_size) (fun j hj => (World.ownsRow.lt O35.out j hj).1)
                have hz4 := grow39.size
                try simp only [World.size_alloc, World.size_drew] at hz4
                have OWN := Lib.hid own39
                have GR := Lib.hid grow39
                clear own39 grow39
                refine ⟨hb4, ?_⟩
                simp only [Act.put, List.setIfInBounds_toArray, List.set_cons_zero, List.set_cons_succ]
                refine wpAnyH_all (rs := [7]) (by kernel_rfl) (by decide) (List.forall_mem_cons.2 ⟨?_, fun _ h => absurd h List.not_mem_nil⟩)
                have hB := Lib.hid (show (w4).heap[(World.alloc (w5.drew) (.cells #[] 27)).heap.size]? = some (.cells #[.int .i64 x, .int .i64 y] 27 (0, 0)) from (GR.out.block _ (by go_size) (by simp [Value.ownBlock])).trans (heap_alloc_new (World.alloc (w5.drew) (.cells #[] 27)) _))
                refine wpOp_wp rfl rfl (wp_append_any 65 rfl (.tmp 62) (.tmp 64) 45 rfl w5.heap.size 27 i0 _ 16 Try.underlying45 I0.out Z0.out Z1.out Z2.out rfl v39 (0 + 0) _ rfl OWN.out (.slice (some ⟨(World.alloc (w5.drew) (.cells #[] 27)).heap.size, 0, none⟩) 1 1) rfl 1 [.int .i64 x, .int .i64 y] (.inr ⟨⟨(World.alloc (w5.drew) (.cells #[] 27)).heap.size, 0, none⟩, 1, rfl, rfl, World.news_of_block (cs := #[.int .i64 x, .int .i64 y]) (t := 27) (fr := (0, 0)) hB.out, by simp [Value.oneCell']⟩) (by unfold maxLen; omega) (by omega) (by go_size) ?_)
                intro v42 w7 own42 grow42
                have hb7 : Below w5.heap.size w5 w7 := Below.grown (w := w4) (by (repeat' (first | (with_reducible exact Below.refl _ _) | (with_reducible assumption) | (with_reducible refine Below.alloc ?_ ?_ _) | (with_reducible refine Below.drew ?_) | (with_reducible refine below_drewN ?_ _) | (with_reducible refine Below.setCell ?_ ?_ _) | (with_reducible refine below_call ?_ ?_ (by assumption)) | go_size))) grow42 (by go_size) (fun j hj => (World.ownsRow.lt OWN.out j hj).1)
                have hz7 := grow42.size
                try simp only [World.size_alloc, World.size_drew] at hz7
                have OWN7 := Lib.hid own42
                clear own42 grow42 hB OWN GR hb4
                refine ⟨hb7, ?_⟩
                simp only [Act.put, List.setIfInBounds_toArray, List.set_cons_zero, List.set_cons_succ]
                refine wpAnyH_all (rs := [8]) (by kernel_rfl) (by decide) (List.forall_mem_cons.2 ⟨?_, fun _ h => absurd h List.not_mem_nil⟩)
                refine wpOp_value (v := v42) (w' := w7) 12 rfl rfl rfl (by go_simp) ⟨hb7, ?_⟩
                simp only [Act.put, List.setIfInBounds_toArray, List.set_cons_zero, List.set_cons_succ]
                refine wpAnyH_done (by kernel_rfl) ?_ _
                have HSR := fun W (hT : Below w5.heap.size w5 W) => (show Srcs W (.slice none 0 0) (0) ([]) from by exact .inl ⟨rfl, rfl, rfl⟩)
                have HSR7 := Lib.hid (HSR w7 hb7)
                clear HSR
                go_wp2_with (at_builtin; refine wpList_append_any 70 rfl rfl (.tmp 66) (.tmp 69) 45 rfl w5.heap.size 27 i0 _ 16 Try.underlying45 I0.out Z0.out Z1.out Z2.out rfl v42 (0 + 0 + 1) _ rfl OWN7.out (.slice none 0 0) rfl (0) ([]) HSR7.out (by unfold maxLen; omega) (by omega) (by go_size) ?_; intro v47 w8 own8 grow8)
                have hb8 : Below w5.heap.size w5 w8 := Below.grown (w := w7) hb7 grow8 (by go_size) (fun j hj => (World.ownsRow.lt OWN7.out j hj).1)
                have OWN8 := Lib.hid own8
                clear own8 grow8
                go_roundw
                case rel =>
                  refine ⟨kk + 1, by omega, by go_num, ?_, HALL.out, hbr.trans (Below.mono (B := wo.heap.size) (hbz.trans (hb8.mono hbz.size)) hbr.size)⟩
                  rw [HSI.out, HN.out]
                  refine TRow.mono (b := w5.heap.size) ?_ (by omega)
                  unfold TRow
                  have e1 : (L.take (0) ++ [(x, y)] ++ L.drop (0)).length = 0 + 0 + 1 + (0) := by rw [HL.out]; rfl
                  have e2 : flat (L.take (0) ++ [(x, y)] ++ L.drop (0)) = [] ++ flat (L.take (0)) ++ [.int .i64 x, .int .i64 y] ++ ([]) := by rw [HL.out]; rfl
                  rw [e1, e2]
                  exact OWN8.out
                case measure => simp [intOf]; omega


            · refine wpOp_value (v := .slice (some ⟨(w5.drew).heap.size, 0, none⟩) 1 1) (w' := (w5.drew).alloc (.cells #[.int .i64 x, .int .i64 y] 27)) 64 rfl rfl rfl (by go_simp) ⟨by (repeat' (first | (with_reducible exact Below.refl _ _) | (with_reducible assumption) | (with_reducible refine Below.alloc ?_ ?_ _) | (with_reducible refine Below.drew ?_) | (with_reducible refine below_drewN ?_ _) | (with_reducible refine Below.setCell ?_ ?_ _) | (with_reducible refine below_call ?_ ?_ (by assumption)) | go_size)), ?_⟩
              simp only [Act.put, List.setIfInBounds_toArray, List.set_cons_zero, List.set_cons_succ]
              refine wpAnyH_all (rs := [0]) (by kernel_rfl) (by decide) (List.forall_mem_cons.2 ⟨?_, fun _ h => absurd h List.not_mem_nil⟩)
              refine wpOp_value (v := .slice (some ⟨(World.alloc (w5.drew) (.cells #[.int .i64 x, .int .i64 y] 27)).heap.size, 0, none⟩) 0 0) (w' := (World.alloc (w5.drew) (.cells #[.int .i64 x, .int .i64 y] 27)).alloc (.cells #[] 27)) 58 rfl rfl rfl (by go_simp) ⟨by (repeat' (first | (with_reducible exact Below.refl _ _) | (with_reducible assumption) | (with_reducible refine Below.alloc ?_ ?_ _) | (with_reducible refine Below.drew ?_) | (with_reducible refine below_drewN ?_ _) | (with_reducible refine Below.setCell ?_ ?_ _) | (with_reducible refine below_call ?_ ?_ (by assumption)) | go_size)), ?_⟩
              have O35 := Lib.hid (World.ownsRow_made (base := w5.heap.size) (e := 27) (size := 2) (World.alloc (w5.drew) (.cells #[.int .i64 x, .int .i64 y] 27)) #[] 0 (by go_size) (by unfold maxLen; omega) rfl)
              simp only [Act.put, List.setIfInBounds_toArray, List.set_cons_zero, List.set_cons_succ]
              refine wpAnyH_all (rs := [4]) (by kernel_rfl) (by decide) (List.forall_mem_cons.2 ⟨?_, fun _ h => absurd h List.not_mem_nil⟩)
              have hT : Below w5.heap.size w5 ((World.alloc (World.alloc (w5.drew) (.cells #[.int .i64 x, .int .i64 y] 27)) (.cells #[] 27))) := by (repeat' (first | (with_reducible exact Below.refl _ _) | (with_reducible assumption) | (with_reducible refine Below.alloc ?_ ?_ _) | (with_reducible refine Below.drew ?_) | (with_reducible refine below_drewN ?_ _) | (with_reducible refine Below.setCell ?_ ?_ _) | (with_reducible refine below_call ?_ ?_ (by assumption)) | go_size))
              refine wpOp_wp rfl rfl (wp_append_any 62 rfl (.tmp 58) (.tmp 61) 45 rfl w5.heap.size 27 i0 _ 16 Try.underlying45 I0.out Z0.out Z1.out Z2.out rfl (.slice (some ⟨(World.alloc (w5.drew) (.cells #[.int .i64 x, .int .i64 y] 27)).heap.size, 0, none⟩) 0 0) 0 [] rfl O35.out (.slice none 0 0) rfl 0 (flat (L.take 0)) (.inl ⟨rfl, rfl, by simp [flat]⟩) (by unfold maxLen; omega) (by omega) (by go_size) ?_)
              intro v39 w4 own39 grow39
              have hb4 : Below w5.heap.size w5 w4 := Below.grown (w := (World.alloc (World.alloc (w5.drew) (.cells #[.int .i64 x, .int .i64 y] 27)) (.cells #[] 27))) (by (repeat' (first | (with_reducible exact Below.refl _ _) | (with_reducible assumption) | (with_reducible refine Below.alloc ?_ ?_ _) | (with_reducible refine Below.drew ?_) | (with_reducible refine below_drewN ?_ _) | (with_reducible refine Below.setCell ?_ ?_ _) | (with_reducible refine below_call ?_ ?_ (by assumption)) | go_size))) grow39 (by go_size) (fun j hj => (World.ownsRow.lt O35.out j hj).1)
              have hz4 := grow39.size
              try simp only [World.size_alloc, World.size_drew] at hz4
              have OWN := Lib.hid own39
              have GR := Lib.hid grow39
              clear own39 grow39
              refine ⟨hb4, ?_⟩
              simp only [Act.put, List.setIfInBounds_toArray, List.set_cons_zero, List.set_cons_succ]
              refine wpAnyH_all (rs := [7]) (by kernel_rfl) (by decide) (List.forall_mem_cons.2 ⟨?_, fun _ h => absurd h List.not_mem_nil⟩)
              have hB := Lib.hid (show (w4).heap[(w5.drew).heap.size]? = some (.cells #[.int .i64 x, .int .i64 y] 27 (0, 0)) from (GR.out.block _ (by go_size) (by simp [Value.ownBlock])).trans ((heap_alloc_old (World.alloc (w5.drew) (.cells #[.int .i64 x, .int .i64 y] 27)) _ (by go_size)).trans (heap_alloc_new (w5.drew) _)))
              refine wpOp_wp rfl rfl (wp_append_any 65 rfl (.tmp 62) (.tmp 64) 45 rfl w5.heap.size 27 i0 _ 16 Try.underlying45 I0.out Z0.out Z1.out Z2.out rfl v39 (0 + 0) _ rfl OWN.out (.slice (some ⟨(w5.drew).heap.size, 0, none⟩) 1 1) rfl 1 [.int .i64 x, .int .i64 y] (.inr ⟨⟨(w5.drew).heap.size, 0, none⟩, 1, rfl, rfl, World.news_of_block (cs := #[.int .i64 x, .int .i64 y]) (t := 27) (fr := (0, 0)) hB.out, by simp [Value.oneCell']⟩) (by unfold maxLen; omega) (by omega) (by go_size) ?_)
              intro v42 w7 own42 grow42
              have hb7 : Below w5.heap.size w5 w7 := Below.grown (w := w4) (by (repeat' (first | (with_reducible exact Below.refl _ _) | (with_reducible assumption) | (with_reducible refine Below.alloc ?_ ?_ _) | (with_reducible refine Below.drew ?_) | (with_reducible refine below_drewN ?_ _) | (with_reducible refine Below.setCell ?_ ?_ _) | (with_reducible refine below_call ?_ ?_ (by assumption)) | go_size))) grow42 (by go_size) (fun j hj => (World.ownsRow.lt OWN.out j hj).1)
              have hz7 := grow42.size
              try simp only [World.size_alloc, World.size_drew] at hz7
              have OWN7 := Lib.hid own42
              clear own42 grow42 hB OWN GR hb4
              refine ⟨hb7, ?_⟩
              simp only [Act.put, List.setIfInBounds_toArray, List.set_cons_zero, List.set_cons_succ]
              refine wpAnyH_all (rs := [8]) (by kernel_rfl) (by decide) (List.forall_mem_cons.2 ⟨?_, fun _ h => absurd h List.not_mem_nil⟩)
              refine wpOp_value (v := v42) (w' := w7) 12 rfl rfl rfl (by go_simp) ⟨hb7, ?_⟩
              simp only [Act.put, List.setIfInBounds_toArray, List.set_cons_zero, List.set_cons_succ]
              refine wpAnyH_done (by kernel_rfl) ?_ _
              have HSR := fun W (hT : Below w5.heap.size w5 W) => (show Srcs W (.slice none 0 0) (0) ([]) from by exact .inl ⟨rfl, rfl, rfl⟩)
              have HSR7 := Lib.hid (HSR w7 hb7)
              clear HSR
              go_wp2_with (at_builtin; refine wpList_append_any 70 rfl rfl (.tmp 66) (.tmp 69) 45 rfl w5.heap.size 27 i0 _ 16 Try.underlying45 I0.out Z0.out Z1.out Z2.out rfl v42 (0 + 0 + 1) _ rfl OWN7.out (.slice none 0 0) rfl (0) ([]) HSR7.out (by unfold maxLen; omega) (by omega) (by go_size) ?_; intro v47 w8 own8 grow8)
              have hb8 : Below w5.heap.size w5 w8 := Below.grown (w := w7) hb7 grow8 (by go_size) (fun j hj => (World.ownsRow.lt OWN7.out j hj).1)
              have OWN8 := Lib.hid own8
              clear own8 grow8
              go_roundw
              case rel =>
                refine ⟨kk + 1, by omega, by go_num, ?_, HALL.out, hbr.trans (Below.mono (B := wo.heap.size) (hbz.trans (hb8.mono hbz.size)) hbr.size)⟩
                rw [HSI.out, HN.out]
                refine TRow.mono (b := w5.heap.size) ?_ (by omega)
                unfold TRow
                have e1 : (L.take (0) ++ [(x, y)] ++ L.drop (0)).length = 0 + 0 + 1 + (0) := by rw [HL.out]; rfl
                have e2 : flat (L.take (0) ++ [(x, y)] ++ L.drop (0)) = [] ++ flat (L.take (0)) ++ [.int .i64 x, .int .i64 y] ++ ([]) := by rw [HL.out]; rfl
                rw [e1, e2]
                exact OWN8.out
              case measure => simp [intOf]; omega
          · subst hu6
            have R6 := Lib.hid (show TRow wo w1.heap.size (.slice (some ⟨gg, 0, none⟩) L.length cap) L from HO.out)
            have g1lt : gg < wo.heap.size := (Array.getElem?_eq_some_iff.1 hgl).1
            have l1 : L.length ≤ cap := hcap1
            have x1 : ∀ j, j < L.length → wo.cell? ⟨gg, j * 2, none⟩ = some (.int .i64 (L.getD j (0, 0)).1) ∧ wo.cell? ⟨gg, j * 2 + 1, none⟩ = some (.int .i64 (L.getD j (0, 0)).2) := fun j hj => by
              obtain ⟨a2, c2, e0, -, -, hx⟩ := R6.out.cells
              obtain ⟨g3, hg3, -, -, h3, h4⟩ := hx j hj
              obtain rfl : some ⟨gg, 0, none⟩ = a2 := by simpa using (by simpa using e0 : some (⟨gg, 0, none⟩ : Addr) = a2 ∧ cap = c2).1
              obtain rfl : gg = g3 := by simpa using hg3
              exact ⟨h3, h4⟩
            have X6 := Lib.hid x1
            clear x1 hgl
            generalize gg = g1 at *
            generalize cap = c1 at *
            go_wp2
            generalize w2'.alloc (Obj.cells #[Value.int .i64 x, Value.int .i64 y] 27) = w3 at *
            generalize w2'.heap.size = gq at *
            have hz3 := hb3.size
            go_loopw [11] (fun i wv => ∃ k : Nat, k ≤ L.length ∧ i = .int .i64 k ∧ (∀ j, j < k → ltT (x, y) (L.getD j (0, 0)) = false) ∧ Below w3.heap.size w3 wv) (fun i _ => L.length - (intOf i).toNat)
            case atStart => exact ⟨0, Nat.zero_le _, rfl, fun j hj => absurd hj (Nat.not_lt_zero _), Below.refl _ _⟩
            case round =>
              obtain ⟨k, hkk, rfl, hal, hbv⟩ := hrel
              have HAL := Lib.hid hal
              clear hal
              have hzv := hbv.size
              have j0 : (0 : Int) ≤ (k : Int) := Int.natCast_nonneg _
              have hbrv : Below wo.heap.size wo wr := hb3.trans (hbv.mono hb3.size)
              have hzrv := hbrv.size
              by_cases hlt2 : k < L.length
              · have e3 := (X6.out k hlt2).1
                have e4 := (X6.out k hlt2).2
                have gb := HIG.out k hlt2
                have i2 : (k : Int) < (L.length : Int) := by omega
                have u2 : g1 < wr.heap.size := by omega
                have e5 := ((bcell hbrv).1 g1 (k * 2) g1lt).trans e3
                have e6 := ((bcell hbrv).1 g1 (k * 2 + 1) g1lt).trans e4
                have m0 := ((bcell hbv).1 gq 0 hgq).trans k0
                have m1 := ((bcell hbv).1 gq 1 hgq).trans k1
                have u3 : gq < wr.heap.size := by omega
                have HS1 : Hid (ltT (x, y) (L.getD k (0, 0)) = false → ∀ j, j < k + 1 → ltT (x, y) (L.getD j (0, 0)) = false) := fun h j hj => by
                  by_cases hjk : j = k
                  · subst hjk; exact h
                  · exact HAL.out j (by omega)
                have HIA : Hid (ltT (x, y) (L.getD k (0, 0)) = true → insW (x, y) L = L.take k ++ [(x, y)] ++ L.drop k) := fun h => insW_at (x, y) L k (by omega) HAL.out (fun _ => h)
                clear e3 e4
                generalize L.getD k (0, 0) = t at *
                obtain ⟨p, q⟩ := t
                simp only at gb e5 e6
                by_cases hs : 0 < p * y - x * q
                · have hsg := sg_pos' hs
                  have HN := Lib.hid (HIA.out (ltT_pos.2 hs))
                  clear hs
                  go_wp2_with fail
                  refine wp_region_below (by kernel_rfl) (by kernel_rfl) ?_
                  repeat (first | (apply wpB_take (hw := rfl); (intro wq hq; obtain ⟨hcq, hfq⟩ := bcell hq; unfold atB; go_simp; exact ⟨rfl, rfl⟩); simp only [Act.put, List.setIfInBounds_toArray, List.set_cons_zero, List.set_cons_succ]) | (apply wpB_take (hw := rfl); (intro wq hq; unfold atB; go_simp; exact ⟨rfl, diCompare_any p q x y gb gtx _⟩); simp only [Act.put, List.setIfInBounds_toArray, List.set_cons_zero, List.set_cons_succ]))
                  refine fun w5 hb5 => ?_
                  have hb35 : Below w3.heap.size w3 w5 := hbv.trans (hb5.mono hbv.size)
                  have kc : ¬ c1 < k := by omega
                  clear e5 e6 m0 m1
                  go_wp2_with fail
                  have kz0 : w5.cell? ⟨gq, 0, none⟩ = some (.int .i64 x) := ((bcell hb35).1 gq 0 (by omega)).trans k0
                  have kz1 : w5.cell? ⟨gq, 1, none⟩ = some (.int .i64 y) := ((bcell hb35).1 gq 1 (by omega)).trans k1
                  have hz5 := hb35.size
                  have wlt : gq < w5.heap.size := by omega
                  have hbz : Below wo.heap.size wo w5 := hb3.trans (hb35.mono hb3.size)
                  have hz55 := hbz.size
                  clear k0 k1
                  refine wp_region_held (by kernel_rfl) (S := fun W => Below w5.heap.size w5 W) ?_
                  refine take_first (i := 1) (v := .slice (some ⟨g1, 0, none⟩) L.length c1) 59 rfl rfl (by kernel_rfl) (by kernel_rfl) (by kernel_rfl) (fun _ _ _ h => h) (by rfl) ?_ (by first | assumption | exact (Below.refl _ _).drew) ?_
                  · intro W hS
                    obtain ⟨hcW, hfW⟩ := bcell hS
                    go_simp
                  simp only [Act.put, List.setIfInBounds_toArray, List.set_cons_zero, List.set_cons_succ]
                  refine take_first (i := 2) (v := .int .i64 (k : Nat)) 60 rfl rfl (by kernel_rfl) (by kernel_rfl) (by kernel_rfl) (fun _ _ _ h => h) (by rfl) ?_ (by first | assumption | exact (Below.refl _ _).drew) ?_
                  · intro W hS
                    obtain ⟨hcW, hfW⟩ := bcell hS
                    go_simp
                  simp only [Act.put, List.setIfInBounds_toArray, List.set_cons_zero, List.set_cons_succ]
                  refine take_first (i := 3) (v := .slice (some ⟨g1, 0, none⟩) (k) c1) 61 rfl rfl (by kernel_rfl) (by kernel_rfl) (by kernel_rfl) (fun _ _ _ h => h) (by rfl) ?_ (by first | assumption | exact (Below.refl _ _).drew) ?_
                  · intro W hS
                    obtain ⟨hcW, hfW⟩ := bcell hS
                    go_simp
                  simp only [Act.put, List.setIfInBounds_toArray, List.set_cons_zero, List.set_cons_succ]
                  refine take_first (i := 5) (v := .agg #[.int .i64 x, .int .i64 y]) 63 rfl rfl (by kernel_rfl) (by kernel_rfl) (by kernel_rfl) (fun _ _ _ h => h) (by rfl) ?_ (by first | assumption | exact (Below.refl _ _).drew) ?_
                  · intro W hS
                    obtain ⟨hcW, hfW⟩ := bcell hS
                    go_simp
                  simp only [Act.put, List.setIfInBounds_toArray, List.set_cons_zero, List.set_cons_succ]
                  refine wpAnyH_all (rs := [0, 6]) (by kernel_rfl) (by decide) (List.forall_mem_cons.2 ⟨?_, List.forall_mem_cons.2 ⟨?_, fun _ h => absurd h List.not_mem_nil⟩⟩)
                  · refine wpOp_value (v := .slice (some ⟨(w5.drew).heap.size, 0, none⟩) 0 0) (w' := (w5.drew).alloc (.cells #[] 27)) 58 rfl rfl rfl (by go_simp) ⟨by (repeat' (first | (with_reducible exact Below.refl _ _) | (with_reducible assumption) | (with_reducible refine Below.alloc ?_ ?_ _) | (with_reducible refine Below.drew ?_) | (with_reducible refine below_drewN ?_ _) | (with_reducible refine Below.setCell ?_ ?_ _) | (with_reducible refine below_call ?_ ?_ (by assumption)) | go_size)), ?_⟩
                    have O35 := Lib.hid (World.ownsRow_made (base := w5.heap.size) (e := 27) (size := 2) (w5.drew) #[] 0 (by go_size) (by unfold maxLen; omega) rfl)
                    simp only [Act.put, List.setIfInBounds_toArray, List.set_cons_zero, List.set_cons_succ]
                    refine wpAnyH_all (rs := [4, 6]) (by kernel_rfl) (by decide) (List.forall_mem_cons.2 ⟨?_, List.forall_mem_cons.2 ⟨?_, fun _ h => absurd h List.not_mem_nil⟩⟩)
                    · have hT : Below w5.heap.size w5 ((World.alloc (w5.drew) (.cells #[] 27))) := by (repeat' (first | (with_reducible exact Below.refl _ _) | (with_reducible assumption) | (with_reducible refine Below.alloc ?_ ?_ _) | (with_reducible refine Below.drew ?_) | (with_reducible refine below_drewN ?_ _) | (with_reducible refine Below.setCell ?_ ?_ _) | (with_reducible refine below_call ?_ ?_ (by assumption)) | go_size))
                      refine wpOp_wp rfl rfl (wp_append_any 62 rfl (.tmp 58) (.tmp 61) 45 rfl w5.heap.size 27 i0 _ 16 Try.underlying45 I0.out Z0.out Z1.out Z2.out rfl (.slice (some ⟨(w5.drew).heap.size, 0, none⟩) 0 0) 0 [] rfl O35.out (.slice (some ⟨g1, 0, none⟩) (k) c1) rfl k (flat (L.take k)) (by have h := srcs_part (W := _) (k := 0) (n := k) R6.out (fun o => ((bcell hT).1 _ _ (by omega)).trans ((bcell hbz).1 _ _ (by omega))) c1 (by omega); simpa using h) (by unfold maxLen; omega) (by omega) (by go_size) ?_)
                      intro v39 w4 own39 grow39
                      have hb4 : Below w5.heap.size w5 w4 := Below.grown (w := (World.alloc (w5.drew) (.cells #[] 27))) (by (repeat' (first | (with_reducible exact Below.refl _ _) | (with_reducible assumption) | (with_reducible refine Below.alloc ?_ ?_ _) | (with_reducible refine Below.drew ?_) | (with_reducible refine below_drewN ?_ _) | (with_reducible refine Below.setCell ?_ ?_ _) | (with_reducible refine below_call ?_ ?_ (by assumption)) | go_size))) grow39 (by go_size) (fun j hj => (World.ownsRow.lt O35.out j hj).1)
                      have hz4 := grow39.size
                      try simp only [World.size_alloc, World.size_drew] at hz4
                      have OWN := Lib.hid own39
                      have GR := Lib.hid grow39
                      clear own39 grow39
                      refine ⟨hb4, ?_⟩
                      simp only [Act.put, List.setIfInBounds_toArray, List.set_cons_zero, List.set_cons_succ]
                      refine wpAnyH_all (rs := [6]) (by kernel_rfl) (by decide) (List.forall_mem_cons.2 ⟨?_, fun _ h => absurd h List.not_mem_nil⟩)
                      refine wpOp_value (v := .slice (some ⟨w4.heap.size, 0, none⟩) 1 1) (w' := w4.alloc (.cells #[.int .i64 x, .int .i64 y] 27)) 64 rfl rfl rfl (by go_simp) ⟨by (repeat' (first | (with_reducible exact Below.refl _ _) | (with_reducible assumption) | (with_reducible refine Below.alloc ?_ ?_ _) | (with_reducible refine Below.drew ?_) | (with_reducible refine below_drewN ?_ _) | (with_reducible refine Below.setCell ?_ ?_ _) | (with_reducible refine below_call ?_ ?_ (by assumption)) | go_size)), ?_⟩
                      simp only [Act.put, List.setIfInBounds_toArray, List.set_cons_zero, List.set_cons_succ]
                      refine wpAnyH_all (rs := [7]) (by kernel_rfl) (by decide) (List.forall_mem_cons.2 ⟨?_, fun _ h => absurd h List.not_mem_nil⟩)
                      have hB := Lib.hid (show ((World.alloc w4 (.cells #[.int .i64 x, .int .i64 y] 27))).heap[w4.heap.size]? = some (.cells #[.int .i64 x, .int .i64 y] 27 (0, 0)) from heap_alloc_new w4 _)
                      refine wpOp_wp rfl rfl (wp_append_any 65 rfl (.tmp 62) (.tmp 64) 45 rfl w5.heap.size 27 i0 _ 16 Try.underlying45 I0.out Z0.out Z1.out Z2.out rfl v39 (0 + k) _ rfl (OWN.out.alloc _) (.slice (some ⟨w4.heap.size, 0, none⟩) 1 1) rfl 1 [.int .i64 x, .int .i64 y] (.inr ⟨⟨w4.heap.size, 0, none⟩, 1, rfl, rfl, World.news_of_block (cs := #[.int .i64 x, .int .i64 y]) (t := 27) (fr := (0, 0)) hB.out, by simp [Value.oneCell']⟩) (by unfold maxLen; omega) (by omega) (by go_size) ?_)
                      intro v42 w7 own42 grow42
                      have hb7 : Below w5.heap.size w5 w7 := Below.grown (w := (World.alloc w4 (.cells #[.int .i64 x, .int .i64 y] 27))) (by (repeat' (first | (with_reducible exact Below.refl _ _) | (with_reducible assumption) | (with_reducible refine Below.alloc ?_ ?_ _) | (with_reducible refine Below.drew ?_) | (with_reducible refine below_drewN ?_ _) | (with_reducible refine Below.setCell ?_ ?_ _) | (with_reducible refine below_call ?_ ?_ (by assumption)) | go_size))) grow42 (by go_size) (fun j hj => (World.ownsRow.lt OWN.out j hj).1)
                      have hz7 := grow42.size
                      try simp only [World.size_alloc, World.size_drew] at hz7
                      have OWN7 := Lib.hid own42
                      clear own42 grow42 hB OWN GR hb4
                      refine ⟨hb7, ?_⟩
                      simp only [Act.put, List.setIfInBounds_toArray, List.set_cons_zero, List.set_cons_succ]
                      refine wpAnyH_all (rs := [8]) (by kernel_rfl) (by decide) (List.forall_mem_cons.2 ⟨?_, fun _ h => absurd h List.not_mem_nil⟩)
                      refine wpOp_value (v := v42) (w' := w7) 12 rfl rfl rfl (by go_simp) ⟨hb7, ?_⟩
                      simp only [Act.put, List.setIfInBounds_toArray, List.set_cons_zero, List.set_cons_succ]
                      refine wpAnyH_done (by kernel_rfl) ?_ _
                      have hcap : ¬ c1 = k := by omega
                      have HSR := fun W (hT : Below w5.heap.size w5 W) => (show Srcs W (.slice (some ⟨g1, k * 2, none⟩) (L.length - k) (c1 - k)) (L.length - k) (flat (L.drop k)) from by have h := srcs_part (W := W) (k := k) (n := L.length - k) R6.out (fun o => ((bcell hT).1 _ _ (by omega)).trans ((bcell hbz).1 _ _ (by omega))) (c1 - k) (by omega); rw [List.take_of_length_le (by simp)] at h; exact h)
                      have HSR7 := Lib.hid (HSR w7 hb7)
                      clear HSR
                      go_wp2_with (at_builtin; refine wpList_append_any 70 rfl rfl (.tmp 66) (.tmp 69) 45 rfl w5.heap.size 27 i0 _ 16 Try.underlying45 I0.out Z0.out Z1.out Z2.out rfl v42 (0 + k + 1) _ rfl OWN7.out (.slice (some ⟨g1, k * 2, none⟩) (L.length - k) (c1 - k)) rfl (L.length - k) (flat (L.drop k)) HSR7.out (by unfold maxLen; omega) (by omega) (by go_size) ?_; intro v47 w8 own8 grow8)
                      have hb8 : Below w5.heap.size w5 w8 := Below.grown (w := w7) hb7 grow8 (by go_size) (fun j hj => (World.ownsRow.lt OWN7.out j hj).1)
                      have OWN8 := Lib.hid own8
                      clear own8 grow8
                      go_roundw
                      case rel =>
                        refine ⟨kk + 1, by omega, by go_num, ?_, HALL.out, hbr.trans (Below.mono (B := wo.heap.size) (hbz.trans (hb8.mono hbz.size)) hbr.size)⟩
                        rw [HSI.out, HN.out]
                        refine TRow.mono (b := w5.heap.size) ?_ (by omega)
                        unfold TRow
                        have e1 : (L.take (k) ++ [(x, y)] ++ L.drop (k)).length = 0 + k + 1 + (L.length - k) := by simp <;> omega
                        have e2 : flat (L.take (k) ++ [(x, y)] ++ L.drop (k)) = [] ++ flat (L.take (k)) ++ [.int .i64 x, .int .i64 y] ++ (flat (L.drop k)) := by simp [flat_append, flat]
                        rw [e1, e2]
                        exact OWN8.out
                      case measure => simp [intOf]; omega

                    · refine wpOp_value (v := .slice (some ⟨(World.alloc (w5.drew) (.cells #[] 27)).heap.size, 0, none⟩) 1 1) (w' := (World.alloc (w5.drew) (.cells #[] 27)).alloc (.cells #[.int .i64 x, .int .i64 y] 27)) 64 rfl rfl rfl (by go_simp) ⟨by (repeat' (first | (with_reducible exact Below.refl _ _) | (with_reducible assumption) | (with_reducible refine Below.alloc ?_ ?_ _) | (with_reducible refine Below.drew ?_) | (with_reducible refine below_drewN ?_ _) | (with_reducible refine Below.setCell ?_ ?_ _) | (with_reducible refine below_call ?_ ?_ (by assumption)) | go_size)), ?_⟩
                      simp only [Act.put, List.setIfInBounds_toArray, List.set_cons_zero, List.set_cons_succ]
                      refine wpAnyH_all (rs := [4]) (by kernel_rfl) (by decide) (List.forall_mem_cons.2 ⟨?_, fun _ h => absurd h List.not_mem_nil⟩)
                      have hT : Below w5.heap.size w5 ((World.alloc (World.alloc (w5.drew) (.cells #[] 27)) (.cells #[.int .i64 x, .int .i64 y] 27))) := by (repeat' (first | (with_reducible exact Below.refl _ _) | (with_reducible assumption) | (with_reducible refine Below.alloc ?_ ?_ _) | (with_reducible refine Below.drew ?_) | (with_reducible refine below_drewN ?_ _) | (with_reducible refine Below.setCell ?_ ?_ _) | (with_reducible refine below_call ?_ ?_ (by assumption)) | go_size))
                      refine wpOp_wp rfl rfl (wp_append_any 62 rfl (.tmp 58) (.tmp 61) 45 rfl w5.heap.size 27 i0 _ 16 Try.underlying45 I0.out Z0.out Z1.out Z2.out rfl (.slice (some ⟨(w5.drew).heap.size, 0, none⟩) 0 0) 0 [] rfl (O35.out.alloc _) (.slice (some ⟨g1, 0, none⟩) (k) c1) rfl k (flat (L.take k)) (by have h := srcs_part (W := _) (k := 0) (n := k) R6.out (fun o => ((bcell hT).1 _ _ (by omega)).trans ((bcell hbz).1 _ _ (by omega))) c1 (by omega); simpa using h) (by unfold maxLen; omega) (by omega) (by go_size) ?_)
                      intro v39 w4 own39 grow39
                      have hb4 : Below w5.heap.size w5 w4 := Below.grown (w := (World.alloc (World.alloc (w5.drew) (.cells #[] 27)) (.cells #[.int .i64 x, .int .i64 y] 27))) (by (repeat' (first | (with_reducible exact Below.refl _ _) | (with_reducible assumption) | (with_reducible refine Below.alloc ?_ ?_ _) | (with_reducible refine Below.drew ?_) | (with_reducible refine below_drewN ?_ _) | (with_reducible refine Below.setCell ?_ ?_ _) | (with_reducible refine below_call ?_ ?_ (by assumption)) | go_size))) grow39 (by go_size) (fun j hj => (World.ownsRow.lt O35.out j hj).1)
                      have hz4 := grow39.size
                      try simp only [World.size_alloc, World.size_drew] at hz4
                      have OWN := Lib.hid own39
                      have GR := Lib.hid grow39
                      clear own39 grow39
                      refine ⟨hb4, ?_⟩
                      simp only [Act.put, List.setIfInBounds_toArray, List.set_cons_zero, List.set_cons_succ]
                      refine wpAnyH_all (rs := [7]) (by kernel_rfl) (by decide) (List.forall_mem_cons.2 ⟨?_, fun _ h => absurd h List.not_mem_nil⟩)
                      have hB := Lib.hid (show (w4).heap[(World.alloc (w5.drew) (.cells #[] 27)).heap.size]? = some (.cells #[.int .i64 x, .int .i64 y] 27 (0, 0)) from (GR.out.block _ (by go_size) (by simp [Value.ownBlock])).trans (heap_alloc_new (World.alloc (w5.drew) (.cells #[] 27)) _))
                      refine wpOp_wp rfl rfl (wp_append_any 65 rfl (.tmp 62) (.tmp 64) 45 rfl w5.heap.size 27 i0 _ 16 Try.underlying45 I0.out Z0.out Z1.out Z2.out rfl v39 (0 + k) _ rfl OWN.out (.slice (some ⟨(World.alloc (w5.drew) (.cells #[] 27)).heap.size, 0, none⟩) 1 1) rfl 1 [.int .i64 x, .int .i64 y] (.inr ⟨⟨(World.alloc (w5.drew) (.cells #[] 27)).heap.size, 0, none⟩, 1, rfl, rfl, World.news_of_block (cs := #[.int .i64 x, .int .i64 y]) (t := 27) (fr := (0, 0)) hB.out, by simp [Value.oneCell']⟩) (by unfold maxLen; omega) (by omega) (by go_size) ?_)
                      intro v42 w7 own42 grow42
                      have hb7 : Below w5.heap.size w5 w7 := Below.grown (w := w4) (by (repeat' (first | (with_reducible exact Below.refl _ _) | (with_reducible assumption) | (with_reducible refine Below.alloc ?_ ?_ _) | (with_reducible refine Below.drew ?_) | (with_reducible refine below_drewN ?_ _) | (with_reducible refine Below.setCell ?_ ?_ _) | (with_reducible refine below_call ?_ ?_ (by assumption)) | go_size))) grow42 (by go_size) (fun j hj => (World.ownsRow.lt OWN.out j hj).1)
                      have hz7 := grow42.size
                      try simp only [World.size_alloc, World.size_drew] at hz7
                      have OWN7 := Lib.hid own42
                      clear own42 grow42 hB OWN GR hb4
                      refine ⟨hb7, ?_⟩
                      simp only [Act.put, List.setIfInBounds_toArray, List.set_cons_zero, List.set_cons_succ]
                      refine wpAnyH_all (rs := [8]) (by kernel_rfl) (by decide) (List.forall_mem_cons.2 ⟨?_, fun _ h => absurd h List.not_mem_nil⟩)
                      refine wpOp_value (v := v42) (w' := w7) 12 rfl rfl rfl (by go_simp) ⟨hb7, ?_⟩
                      simp only [Act.put, List.setIfInBounds_toArray, List.set_cons_zero, List.set_cons_succ]
                      refine wpAnyH_done (by kernel_rfl) ?_ _
                      have hcap : ¬ c1 = k := by omega
                      have HSR := fun W (hT : Below w5.heap.size w5 W) => (show Srcs W (.slice (some ⟨g1, k * 2, none⟩) (L.length - k) (c1 - k)) (L.length - k) (flat (L.drop k)) from by have h := srcs_part (W := W) (k := k) (n := L.length - k) R6.out (fun o => ((bcell hT).1 _ _ (by omega)).trans ((bcell hbz).1 _ _ (by omega))) (c1 - k) (by omega); rw [List.take_of_length_le (by simp)] at h; exact h)
                      have HSR7 := Lib.hid (HSR w7 hb7)
                      clear HSR
                      go_wp2_with (at_builtin; refine wpList_append_any 70 rfl rfl (.tmp 66) (.tmp 69) 45 rfl w5.heap.size 27 i0 _ 16 Try.underlying45 I0.out Z0.out Z1.out Z2.out rfl v42 (0 + k + 1) _ rfl OWN7.out (.slice (some ⟨g1, k * 2, none⟩) (L.length - k) (c1 - k)) rfl (L.length - k) (flat (L.drop k)) HSR7.out (by unfold maxLen; omega) (by omega) (by go_size) ?_; intro v47 w8 own8 grow8)
                      have hb8 : Below w5.heap.size w5 w8 := Below.grown (w := w7) hb7 grow8 (by go_size) (fun j hj => (World.ownsRow.lt OWN7.out j hj).1)
                      have OWN8 := Lib.hid own8
                      clear own8 grow8
                      go_roundw
                      case rel =>
                        refine ⟨kk + 1, by omega, by go_num, ?_, HALL.out, hbr.trans (Below.mono (B := wo.heap.size) (hbz.trans (hb8.mono hbz.size)) hbr.size)⟩
                        rw [HSI.out, HN.out]
                        refine TRow.mono (b := w5.heap.size) ?_ (by omega)
                        unfold TRow
                        have e1 : (L.take (k) ++ [(x, y)] ++ L.drop (k)).length = 0 + k + 1 + (L.length - k) := by simp <;> omega
                        have e2 : flat (L.take (k) ++ [(x, y)] ++ L.drop (k)) = [] ++ flat (L.take (k)) ++ [.int .i64 x, .int .i64 y] ++ (flat (L.drop k)) := by simp [flat_append, flat]
                        rw [e1, e2]
                        exact OWN8.out
                      case measure => simp [intOf]; omega


                  · refine wpOp_value (v := .slice (some ⟨(w5.drew).heap.size, 0, none⟩) 1 1) (w' := (w5.drew).alloc (.cells #[.int .i64 x, .int .i64 y] 27)) 64 rfl rfl rfl (by go_simp) ⟨by (repeat' (first | (with_reducible exact Below.refl _ _) | (with_reducible assumption) | (with_reducible refine Below.alloc ?_ ?_ _) | (with_reducible refine Below.drew ?_) | (with_reducible refine below_drewN ?_ _) | (with_reducible refine Below.setCell ?_ ?_ _) | (with_reducible refine below_call ?_ ?_ (by assumption)) | go_size)), ?_⟩
                    simp only [Act.put, List.setIfInBounds_toArray, List.set_cons_zero, List.set_cons_succ]
                    refine wpAnyH_all (rs := [0]) (by kernel_rfl) (by decide) (List.forall_mem_cons.2 ⟨?_, fun _ h => absurd h List.not_mem_nil⟩)
                    refine wpOp_value (v := .slice (some ⟨(World.alloc (w5.drew) (.cells #[.int .i64 x, .int .i64 y] 27)).heap.size, 0, none⟩) 0 0) (w' := (World.alloc (w5.drew) (.cells #[.int .i64 x, .int .i64 y] 27)).alloc (.cells #[] 27)) 58 rfl rfl rfl (by go_simp) ⟨by (repeat' (first | (with_reducible exact Below.refl _ _) | (with_reducible assumption) | (with_reducible refine Below.alloc ?_ ?_ _) | (with_reducible refine Below.drew ?_) | (with_reducible refine below_drewN ?_ _) | (with_reducible refine Below.setCell ?_ ?_ _) | (with_reducible refine below_call ?_ ?_ (by assumption)) | go_size)), ?_⟩
                    have O35 := Lib.hid (World.ownsRow_made (base := w5.heap.size) (e := 27) (size := 2) (World.alloc (w5.drew) (.cells #[.int .i64 x, .int .i64 y] 27)) #[] 0 (by go_size) (by unfold maxLen; omega) rfl)
                    simp only [Act.put, List.setIfInBounds_toArray, List.set_cons_zero, List.set_cons_succ]
                    refine wpAnyH_all (rs := [4]) (by kernel_rfl) (by decide) (List.forall_mem_cons.2 ⟨?_, fun _ h => absurd h List.not_mem_nil⟩)
                    have hT : Below w5.heap.size w5 ((World.alloc (World.alloc (w5.drew) (.cells #[.int .i64 x, .int .i64 y] 27)) (.cells #[] 27))) := by (repeat' (first | (with_reducible exact Below.refl _ _) | (with_reducible assumption) | (with_reducible refine Below.alloc ?_ ?_ _) | (with_reducible refine Below.drew ?_) | (with_reducible refine below_drewN ?_ _) | (with_reducible refine Below.setCell ?_ ?_ _) | (with_reducible refine below_call ?_ ?_ (by assumption)) | go_size))
                    refine wpOp_wp rfl rfl (wp_append_any 62 rfl (.tmp 58) (.tmp 61) 45 rfl w5.heap.size 27 i0 _ 16 Try.underlying45 I0.out Z0.out Z1.out Z2.out rfl (.slice (some ⟨(World.alloc (w5.drew) (.cells #[.int .i64 x, .int .i64 y] 27)).heap.size, 0, none⟩) 0 0) 0 [] rfl O35.out (.slice (some ⟨g1, 0, none⟩) (k) c1) rfl k (flat (L.take k)) (by have h := srcs_part (W := _) (k := 0) (n := k) R6.out (fun o => ((bcell hT).1 _ _ (by omega)).trans ((bcell hbz).1 _ _ (by omega))) c1 (by omega); simpa using h) (by unfold maxLen; omega) (by omega) (by go_size) ?_)
                    intro v39 w4 own39 grow39
                    have hb4 : Below w5.heap.size w5 w4 := Below.grown (w := (World.alloc (World.alloc (w5.drew) (.cells #[.int .i64 x, .int .i64 y] 27)) (.cells #[] 27))) (by (repeat' (first | (with_reducible exact Below.refl _ _) | (with_reducible assumption) | (with_reducible refine Below.alloc ?_ ?_ _) | (with_reducible refine Below.drew ?_) | (with_reducible refine below_drewN ?_ _) | (with_reducible refine Below.setCell ?_ ?_ _) | (with_reducible refine below_call ?_ ?_ (by assumption)) | go_size))) grow39 (by go_size) (fun j hj => (World.ownsRow.lt O35.out j hj).1)
                    have hz4 := grow39.size
                    try simp only [World.size_alloc, World.size_drew] at hz4
                    have OWN := Lib.hid own39
                    have GR := Lib.hid grow39
                    clear own39 grow39
                    refine ⟨hb4, ?_⟩
                    simp only [Act.put, List.setIfInBounds_toArray, List.set_cons_zero, List.set_cons_succ]
                    refine wpAnyH_all (rs := [7]) (by kernel_rfl) (by decide) (List.forall_mem_cons.2 ⟨?_, fun _ h => absurd h List.not_mem_nil⟩)
                    have hB := Lib.hid (show (w4).heap[(w5.drew).heap.size]? = some (.cells #[.int .i64 x, .int .i64 y] 27 (0, 0)) from (GR.out.block _ (by go_size) (by simp [Value.ownBlock])).trans ((heap_alloc_old (World.alloc (w5.drew) (.cells #[.int .i64 x, .int .i64 y] 27)) _ (by go_size)).trans (heap_alloc_new (w5.drew) _)))
                    refine wpOp_wp rfl rfl (wp_append_any 65 rfl (.tmp 62) (.tmp 64) 45 rfl w5.heap.size 27 i0 _ 16 Try.underlying45 I0.out Z0.out Z1.out Z2.out rfl v39 (0 + k) _ rfl OWN.out (.slice (some ⟨(w5.drew).heap.size, 0, none⟩) 1 1) rfl 1 [.int .i64 x, .int .i64 y] (.inr ⟨⟨(w5.drew).heap.size, 0, none⟩, 1, rfl, rfl, World.news_of_block (cs := #[.int .i64 x, .int .i64 y]) (t := 27) (fr := (0, 0)) hB.out, by simp [Value.oneCell']⟩) (by unfold maxLen; omega) (by omega) (by go_size) ?_)
                    intro v42 w7 own42 grow42
                    have hb7 : Below w5.heap.size w5 w7 := Below.grown (w := w4) (by (repeat' (first | (with_reducible exact Below.refl _ _) | (with_reducible assumption) | (with_reducible refine Below.alloc ?_ ?_ _) | (with_reducible refine Below.drew ?_) | (with_reducible refine below_drewN ?_ _) | (with_reducible refine Below.setCell ?_ ?_ _) | (with_reducible refine below_call ?_ ?_ (by assumption)) | go_size))) grow42 (by go_size) (fun j hj => (World.ownsRow.lt OWN.out j hj).1)
                    have hz7 := grow42.size
                    try simp only [World.size_alloc, World.size_drew] at hz7
                    have OWN7 := Lib.hid own42
                    clear own42 grow42 hB OWN GR hb4
                    refine ⟨hb7, ?_⟩
                    simp only [Act.put, List.setIfInBounds_toArray, List.set_cons_zero, List.set_cons_succ]
                    refine wpAnyH_all (rs := [8]) (by kernel_rfl) (by decide) (List.forall_mem_cons.2 ⟨?_, fun _ h => absurd h List.not_mem_nil⟩)
                    refine wpOp_value (v := v42) (w' := w7) 12 rfl rfl rfl (by go_simp) ⟨hb7, ?_⟩
                    simp only [Act.put, List.setIfInBounds_toArray, List.set_cons_zero, List.set_cons_succ]
                    refine wpAnyH_done (by kernel_rfl) ?_ _
                    have hcap : ¬ c1 = k := by omega
                    have HSR := fun W (hT : Below w5.heap.size w5 W) => (show Srcs W (.slice (some ⟨g1, k * 2, none⟩) (L.length - k) (c1 - k)) (L.length - k) (flat (L.drop k)) from by have h := srcs_part (W := W) (k := k) (n := L.length - k) R6.out (fun o => ((bcell hT).1 _ _ (by omega)).trans ((bcell hbz).1 _ _ (by omega))) (c1 - k) (by omega); rw [List.take_of_length_le (by simp)] at h; exact h)
                    have HSR7 := Lib.hid (HSR w7 hb7)
                    clear HSR
                    go_wp2_with (at_builtin; refine wpList_append_any 70 rfl rfl (.tmp 66) (.tmp 69) 45 rfl w5.heap.size 27 i0 _ 16 Try.underlying45 I0.out Z0.out Z1.out Z2.out rfl v42 (0 + k + 1) _ rfl OWN7.out (.slice (some ⟨g1, k * 2, none⟩) (L.length - k) (c1 - k)) rfl (L.length - k) (flat (L.drop k)) HSR7.out (by unfold maxLen; omega) (by omega) (by go_size) ?_; intro v47 w8 own8 grow8)
                    have hb8 : Below w5.heap.size w5 w8 := Below.grown (w := w7) hb7 grow8 (by go_size) (fun j hj => (World.ownsRow.lt OWN7.out j hj).1)
                    have OWN8 := Lib.hid own8
                    clear own8 grow8
                    go_roundw
                    case rel =>
                      refine ⟨kk + 1, by omega, by go_num, ?_, HALL.out, hbr.trans (Below.mono (B := wo.heap.size) (hbz.trans (hb8.mono hbz.size)) hbr.size)⟩
                      rw [HSI.out, HN.out]
                      refine TRow.mono (b := w5.heap.size) ?_ (by omega)
                      unfold TRow
                      have e1 : (L.take (k) ++ [(x, y)] ++ L.drop (k)).length = 0 + k + 1 + (L.length - k) := by simp <;> omega
                      have e2 : flat (L.take (k) ++ [(x, y)] ++ L.drop (k)) = [] ++ flat (L.take (k)) ++ [.int .i64 x, .int .i64 y] ++ (flat (L.drop k)) := by simp [flat_append, flat]
                      rw [e1, e2]
                      exact OWN8.out
                    case measure => simp [intOf]; omega
                · have hsg := sg_npos' hs
                  have HN := Lib.hid (HS1.out (ltT_npos.2 hs))
                  clear hs
                  go_wp2_with fail
                  refine wp_region_below (by kernel_rfl) (by kernel_rfl) ?_
                  repeat (first | (apply wpB_take (hw := rfl); (intro wq hq; obtain ⟨hcq, hfq⟩ := bcell hq; unfold atB; go_simp; exact ⟨rfl, rfl⟩); simp only [Act.put, List.setIfInBounds_toArray, List.set_cons_zero, List.set_cons_succ]) | (apply wpB_take (hw := rfl); (intro wq hq; unfold atB; go_simp; exact ⟨rfl, diCompare_any p q x y gb gtx _⟩); simp only [Act.put, List.setIfInBounds_toArray, List.set_cons_zero, List.set_cons_succ]))
                  refine fun w5 hb5 => ?_
                  have hb35 : Below w3.heap.size w3 w5 := hbv.trans (hb5.mono hbv.size)
                  go_wp2
                  go_roundw
                  case rel => exact ⟨k + 1, by omega, by go_num, HN.out, hb35⟩
                  case measure => simp [intOf]; omega
              · obtain rfl : k = L.length := by omega
                have HN := Lib.hid (insW_at (x, y) L L.length (Nat.le_refl _) HAL.out (fun h => absurd h (Nat.lt_irrefl _)))
                go_wp2_with fail
                refine wp_region_below (by kernel_rfl) (by kernel_rfl) ?_
                repeat (first | (apply wpB_take (hw := rfl); (intro wq hq; obtain ⟨hcq, hfq⟩ := bcell hq; unfold atB; go_simp; exact ⟨rfl, rfl⟩); simp only [Act.put, List.setIfInBounds_toArray, List.set_cons_zero, List.set_cons_succ]) | (apply wpB_skip (hw := rfl); simp only [Act.put, List.setIfInBounds_toArray, List.set_cons_zero, List.set_cons_succ]))
                refine fun w5 hb5 => ?_
                have hb35 : Below w3.heap.size w3 w5 := hbv.trans (hb5.mono hbv.size)
                go_wp2_with fail
                have kz0 : w5.cell? ⟨gq, 0, none⟩ = some (.int .i64 x) := ((bcell hb35).1 gq 0 (by omega)).trans k0
                have kz1 : w5.cell? ⟨gq, 1, none⟩ = some (.int .i64 y) := ((bcell hb35).1 gq 1 (by omega)).trans k1
                have hz5 := hb35.size
                have wlt : gq < w5.heap.size := by omega
                have hbz : Below wo.heap.size wo w5 := hb3.trans (hb35.mono hb3.size)
                have hz55 := hbz.size
                clear k0 k1
                refine wp_region_held (by kernel_rfl) (S := fun W => Below w5.heap.size w5 W) ?_
                refine take_first (i := 1) (v := .slice (some ⟨g1, 0, none⟩) L.length c1) 59 rfl rfl (by kernel_rfl) (by kernel_rfl) (by kernel_rfl) (fun _ _ _ h => h) (by rfl) ?_ (by first | assumption | exact (Below.refl _ _).drew) ?_
                · intro W hS
                  obtain ⟨hcW, hfW⟩ := bcell hS
                  go_simp
                simp only [Act.put, List.setIfInBounds_toArray, List.set_cons_zero, List.set_cons_succ]
                refine take_first (i := 2) (v := .int .i64 (L.length : Nat)) 60 rfl rfl (by kernel_rfl) (by kernel_rfl) (by kernel_rfl) (fun _ _ _ h => h) (by rfl) ?_ (by first | assumption | exact (Below.refl _ _).drew) ?_
                · intro W hS
                  obtain ⟨hcW, hfW⟩ := bcell hS
                  go_simp
                simp only [Act.put, List.setIfInBounds_toArray, List.set_cons_zero, List.set_cons_succ]
                refine take_first (i := 3) (v := .slice (some ⟨g1, 0, none⟩) (L.length) c1) 61 rfl rfl (by kernel_rfl) (by kernel_rfl) (by kernel_rfl) (fun _ _ _ h => h) (by rfl) ?_ (by first | assumption | exact (Below.refl _ _).drew) ?_
                · intro W hS
                  obtain ⟨hcW, hfW⟩ := bcell hS
                  go_simp
                simp only [Act.put, List.setIfInBounds_toArray, List.set_cons_zero, List.set_cons_succ]
                refine take_first (i := 5) (v := .agg #[.int .i64 x, .int .i64 y]) 63 rfl rfl (by kernel_rfl) (by kernel_rfl) (by kernel_rfl) (fun _ _ _ h => h) (by rfl) ?_ (by first | assumption | exact (Below.refl _ _).drew) ?_
                · intro W hS
                  obtain ⟨hcW, hfW⟩ := bcell hS
                  go_simp
                simp only [Act.put, List.setIfInBounds_toArray, List.set_cons_zero, List.set_cons_succ]
                refine wpAnyH_all (rs := [0, 6]) (by kernel_rfl) (by decide) (List.forall_mem_cons.2 ⟨?_, List.forall_mem_cons.2 ⟨?_, fun _ h => absurd h List.not_mem_nil⟩⟩)
                · refine wpOp_value (v := .slice (some ⟨(w5.drew).heap.size, 0, none⟩) 0 0) (w' := (w5.drew).alloc (.cells #[] 27)) 58 rfl rfl rfl (by go_simp) ⟨by (repeat' (first | (with_reducible exact Below.refl _ _) | (with_reducible assumption) | (with_reducible refine Below.alloc ?_ ?_ _) | (with_reducible refine Below.drew ?_) | (with_reducible refine below_drewN ?_ _) | (with_reducible refine Below.setCell ?_ ?_ _) | (with_reducible refine below_call ?_ ?_ (by assumption)) | go_size)), ?_⟩
                  have O35 := Lib.hid (World.ownsRow_made (base := w5.heap.size) (e := 27) (size := 2) (w5.drew) #[] 0 (by go_size) (by unfold maxLen; omega) rfl)
                  simp only [Act.put, List.setIfInBounds_toArray, List.set_cons_zero, List.set_cons_succ]
                  refine wpAnyH_all (rs := [4, 6]) (by kernel_rfl) (by decide) (List.forall_mem_cons.2 ⟨?_, List.forall_mem_cons.2 ⟨?_, fun _ h => absurd h List.not_mem_nil⟩⟩)
                  · have hT : Below w5.heap.size w5 ((World.alloc (w5.drew) (.cells #[] 27))) := by (repeat' (first | (with_reducible exact Below.refl _ _) | (with_reducible assumption) | (with_reducible refine Below.alloc ?_ ?_ _) | (with_reducible refine Below.drew ?_) | (with_reducible refine below_drewN ?_ _) | (with_reducible refine Below.setCell ?_ ?_ _) | (with_reducible refine below_call ?_ ?_ (by assumption)) | go_size))
                    refine wpOp_wp rfl rfl (wp_append_any 62 rfl (.tmp 58) (.tmp 61) 45 rfl w5.heap.size 27 i0 _ 16 Try.underlying45 I0.out Z0.out Z1.out Z2.out rfl (.slice (some ⟨(w5.drew).heap.size, 0, none⟩) 0 0) 0 [] rfl O35.out (.slice (some ⟨g1, 0, none⟩) (L.length) c1) rfl L.length (flat (L.take L.length)) (by have h := srcs_part (W := _) (k := 0) (n := L.length) R6.out (fun o => ((bcell hT).1 _ _ (by omega)).trans ((bcell hbz).1 _ _ (by omega))) c1 (by omega); simpa using h) (by unfold maxLen; omega) (by omega) (by go_size) ?_)
                    intro v39 w4 own39 grow39
                    have hb4 : Below w5.heap.size w5 w4 := Below.grown (w := (World.alloc (w5.drew) (.cells #[] 27))) (by (repeat' (first | (with_reducible exact Below.refl _ _) | (with_reducible assumption) | (with_reducible refine Below.alloc ?_ ?_ _) | (with_reducible refine Below.drew ?_) | (with_reducible refine below_drewN ?_ _) | (with_reducible refine Below.setCell ?_ ?_ _) | (with_reducible refine below_call ?_ ?_ (by assumption)) | go_size))) grow39 (by go_size) (fun j hj => (World.ownsRow.lt O35.out j hj).1)
                    have hz4 := grow39.size
                    try simp only [World.size_alloc, World.size_drew] at hz4
                    have OWN := Lib.hid own39
                    have GR := Lib.hid grow39
                    clear own39 grow39
                    refine ⟨hb4, ?_⟩
                    simp only [Act.put, List.setIfInBounds_toArray, List.set_cons_zero, List.set_cons_succ]
                    refine wpAnyH_all (rs := [6]) (by kernel_rfl) (by decide) (List.forall_mem_cons.2 ⟨?_, fun _ h => absurd h List.not_mem_nil⟩)
                    refine wpOp_value (v := .slice (some ⟨w4.heap.size, 0, none⟩) 1 1) (w' := w4.alloc (.cells #[.int .i64 x, .int .i64 y] 27)) 64 rfl rfl rfl (by go_simp) ⟨by (repeat' (first | (with_reducible exact Below.refl _ _) | (with_reducible assumption) | (with_reducible refine Below.alloc ?_ ?_ _) | (with_reducible refine Below.drew ?_) | (with_reducible refine below_drewN ?_ _) | (with_reducible refine Below.setCell ?_ ?_ _) | (with_reducible refine below_call ?_ ?_ (by assumption)) | go_size)), ?_⟩
                    simp only [Act.put, List.setIfInBounds_toArray, List.set_cons_zero, List.set_cons_succ]
                    refine wpAnyH_all (rs := [7]) (by kernel_rfl) (by decide) (List.forall_mem_cons.2 ⟨?_, fun _ h => absurd h List.not_mem_nil⟩)
                    have hB := Lib.hid (show ((World.alloc w4 (.cells #[.int .i64 x, .int .i64 y] 27))).heap[w4.heap.size]? = some (.cells #[.int .i64 x, .int .i64 y] 27 (0, 0)) from heap_alloc_new w4 _)
                    refine wpOp_wp rfl rfl (wp_append_any 65 rfl (.tmp 62) (.tmp 64) 45 rfl w5.heap.size 27 i0 _ 16 Try.underlying45 I0.out Z0.out Z1.out Z2.out rfl v39 (0 + L.length) _ rfl (OWN.out.alloc _) (.slice (some ⟨w4.heap.size, 0, none⟩) 1 1) rfl 1 [.int .i64 x, .int .i64 y] (.inr ⟨⟨w4.heap.size, 0, none⟩, 1, rfl, rfl, World.news_of_block (cs := #[.int .i64 x, .int .i64 y]) (t := 27) (fr := (0, 0)) hB.out, by simp [Value.oneCell']⟩) (by unfold maxLen; omega) (by omega) (by go_size) ?_)
                    intro v42 w7 own42 grow42
                    have hb7 : Below w5.heap.size w5 w7 := Below.grown (w := (World.alloc w4 (.cells #[.int .i64 x, .int .i64 y] 27))) (by (repeat' (first | (with_reducible exact Below.refl _ _) | (with_reducible assumption) | (with_reducible refine Below.alloc ?_ ?_ _) | (with_reducible refine Below.drew ?_) | (with_reducible refine below_drewN ?_ _) | (with_reducible refine Below.setCell ?_ ?_ _) | (with_reducible refine below_call ?_ ?_ (by assumption)) | go_size))) grow42 (by go_size) (fun j hj => (World.ownsRow.lt OWN.out j hj).1)
                    have hz7 := grow42.size
                    try simp only [World.size_alloc, World.size_drew] at hz7
                    have OWN7 := Lib.hid own42
                    clear own42 grow42 hB OWN GR hb4
                    refine ⟨hb7, ?_⟩
                    simp only [Act.put, List.setIfInBounds_toArray, List.set_cons_zero, List.set_cons_succ]
                    refine wpAnyH_all (rs := [8]) (by kernel_rfl) (by decide) (List.forall_mem_cons.2 ⟨?_, fun _ h => absurd h List.not_mem_nil⟩)
                    refine wpOp_value (v := v42) (w' := w7) 12 rfl rfl rfl (by go_simp) ⟨hb7, ?_⟩
                    simp only [Act.put, List.setIfInBounds_toArray, List.set_cons_zero, List.set_cons_succ]
                    refine wpAnyH_done (by kernel_rfl) ?_ _
                    by_cases hcap : c1 = L.length
                    · have HSR := fun W (hT : Below w5.heap.size w5 W) => (show Srcs W (.slice (some ⟨g1, 0, none⟩) 0 0) (0) ([]) from by have h := srcs_part (W := W) (k := L.length) (n := 0) R6.out (fun o => ((bcell hT).1 _ _ (by omega)).trans ((bcell hbz).1 _ _ (by omega))) (c1 - L.length) (by omega); exact .inr ⟨⟨g1, 0, none⟩, 0, rfl, rfl, fun j u hu => by simp at hu, fun u hu => by simp at hu⟩)
                      have HSR7 := Lib.hid (HSR w7 hb7)
                      clear HSR
                      go_wp2_with (at_builtin; refine wpList_append_any 70 rfl rfl (.tmp 66) (.tmp 69) 45 rfl w5.heap.size 27 i0 _ 16 Try.underlying45 I0.out Z0.out Z1.out Z2.out rfl v42 (0 + L.length + 1) _ rfl OWN7.out (.slice (some ⟨g1, 0, none⟩) 0 0) rfl (0) ([]) HSR7.out (by unfold maxLen; omega) (by omega) (by go_size) ?_; intro v47 w8 own8 grow8)
                      have hb8 : Below w5.heap.size w5 w8 := Below.grown (w := w7) hb7 grow8 (by go_size) (fun j hj => (World.ownsRow.lt OWN7.out j hj).1)
                      have OWN8 := Lib.hid own8
                      clear own8 grow8
                      go_roundw
                      case rel =>
                        refine ⟨kk + 1, by omega, by go_num, ?_, HALL.out, hbr.trans (Below.mono (B := wo.heap.size) (hbz.trans (hb8.mono hbz.size)) hbr.size)⟩
                        rw [HSI.out, HN.out]
                        refine TRow.mono (b := w5.heap.size) ?_ (by omega)
                        unfold TRow
                        have e1 : (L.take (L.length) ++ [(x, y)] ++ L.drop (L.length)).length = 0 + L.length + 1 + (0) := by simp <;> omega
                        have e2 : flat (L.take (L.length) ++ [(x, y)] ++ L.drop (L.length)) = [] ++ flat (L.take (L.length)) ++ [.int .i64 x, .int .i64 y] ++ ([]) := by simp [flat_append, flat]
                        rw [e1, e2]
                        exact OWN8.out
                      case measure => simp [intOf]; omega

                    · have HSR := fun W (hT : Below w5.heap.size w5 W) => (show Srcs W (.slice (some ⟨g1, L.length * 2, none⟩) 0 (c1 - L.length)) (0) ([]) from by have h := srcs_part (W := W) (k := L.length) (n := 0) R6.out (fun o => ((bcell hT).1 _ _ (by omega)).trans ((bcell hbz).1 _ _ (by omega))) (c1 - L.length) (by omega); simpa [flat] using h)
                      have HSR7 := Lib.hid (HSR w7 hb7)
                      clear HSR
                      go_wp2_with (at_builtin; refine wpList_append_any 70 rfl rfl (.tmp 66) (.tmp 69) 45 rfl w5.heap.size 27 i0 _ 16 Try.underlying45 I0.out Z0.out Z1.out Z2.out rfl v42 (0 + L.length + 1) _ rfl OWN7.out (.slice (some ⟨g1, L.length * 2, none⟩) 0 (c1 - L.length)) rfl (0) ([]) HSR7.out (by unfold maxLen; omega) (by omega) (by go_size) ?_; intro v47 w8 own8 grow8)
                      have hb8 : Below w5.heap.size w5 w8 := Below.grown (w := w7) hb7 grow8 (by go_size) (fun j hj => (World.ownsRow.lt OWN7.out j hj).1)
                      have OWN8 := Lib.hid own8
                      clear own8 grow8
                      go_roundw
                      case rel =>
                        refine ⟨kk + 1, by omega, by go_num, ?_, HALL.out, hbr.trans (Below.mono (B := wo.heap.size) (hbz.trans (hb8.mono hbz.size)) hbr.size)⟩
                        rw [HSI.out, HN.out]
                        refine TRow.mono (b := w5.heap.size) ?_ (by omega)
                        unfold TRow
                        have e1 : (L.take (L.length) ++ [(x, y)] ++ L.drop (L.length)).length = 0 + L.length + 1 + (0) := by simp <;> omega
                        have e2 : flat (L.take (L.length) ++ [(x, y)] ++ L.drop (L.length)) = [] ++ flat (L.take (L.length)) ++ [.int .i64 x, .int .i64 y] ++ ([]) := by simp [flat_append, flat]
                        rw [e1, e2]
                        exact OWN8.out
                      case measure => simp [intOf]; omega

                  · refine wpOp_value (v := .slice (some ⟨(World.alloc (w5.drew) (.cells #[] 27)).heap.size, 0, none⟩) 1 1) (w' := (World.alloc (w5.drew) (.cells #[] 27)).alloc (.cells #[.int .i64 x, .int .i64 y] 27)) 64 rfl rfl rfl (by go_simp) ⟨by (repeat' (first | (with_reducible exact Below.refl _ _) | (with_reducible assumption) | (with_reducible refine Below.alloc ?_ ?_ _) | (with_reducible refine Below.drew ?_) | (with_reducible refine below_drewN ?_ _) | (with_reducible refine Below.setCell ?_ ?_ _) | (with_reducible refine below_call ?_ ?_ (by assumption)) | go_size)), ?_⟩
                    simp only [Act.put, List.setIfInBounds_toArray, List.set_cons_zero, List.set_cons_succ]
                    refine wpAnyH_all (rs := [4]) (by kernel_rfl) (by decide) (List.forall_mem_cons.2 ⟨?_, fun _ h => absurd h List.not_mem_nil⟩)
                    have hT : Below w5.heap.size w5 ((World.alloc (World.alloc (w5.drew) (.cells #[] 27)) (.cells #[.int .i64 x, .int .i64 y] 27))) := by (repeat' (first | (with_reducible exact Below.refl _ _) | (with_reducible assumption) | (with_reducible refine Below.alloc ?_ ?_ _) | (with_reducible refine Below.drew ?_) | (with_reducible refine below_drewN ?_ _) | (with_reducible refine Below.setCell ?_ ?_ _) | (with_reducible refine below_call ?_ ?_ (by assumption)) | go_size))
                    refine wpOp_wp rfl rfl (wp_append_any 62 rfl (.tmp 58) (.tmp 61) 45 rfl w5.heap.size 27 i0 _ 16 Try.underlying45 I0.out Z0.out Z1.out Z2.out rfl (.slice (some ⟨(w5.drew).heap.size, 0, none⟩) 0 0) 0 [] rfl (O35.out.alloc _) (.slice (some ⟨g1, 0, none⟩) (L.length) c1) rfl L.length (flat (L.take L.length)) (by have h := srcs_part (W := _) (k := 0) (n := L.length) R6.out (fun o => ((bcell hT).1 _ _ (by omega)).trans ((bcell hbz).1 _ _ (by omega))) c1 (by omega); simpa using h) (by unfold maxLen; omega) (by omega) (by go_size) ?_)
                    intro v39 w4 own39 grow39
                    have hb4 : Below w5.heap.size w5 w4 := Below.grown (w := (World.alloc (World.alloc (w5.drew) (.cells #[] 27)) (.cells #[.int .i64 x, .int .i64 y] 27))) (by (repeat' (first | (with_reducible exact Below.refl _ _) | (with_reducible assumption) | (with_reducible refine Below.alloc ?_ ?_ _) | (with_reducible refine Below.drew ?_) | (with_reducible refine below_drewN ?_ _) | (with_reducible refine Below.setCell ?_ ?_ _) | (with_reducible refine below_call ?_ ?_ (by assumption)) | go_size))) grow39 (by go_size) (fun j hj => (World.ownsRow.lt O35.out j hj).1)
                    have hz4 := grow39.size
                    try simp only [World.size_alloc, World.size_drew] at hz4
                    have OWN := Lib.hid own39
                    have GR := Lib.hid grow39
                    clear own39 grow39
                    refine ⟨hb4, ?_⟩
                    simp only [Act.put, List.setIfInBounds_toArray, List.set_cons_zero, List.set_cons_succ]
                    refine wpAnyH_all (rs := [7]) (by kernel_rfl) (by decide) (List.forall_mem_cons.2 ⟨?_, fun _ h => absurd h List.not_mem_nil⟩)
                    have hB := Lib.hid (show (w4).heap[(World.alloc (w5.drew) (.cells #[] 27)).heap.size]? = some (.cells #[.int .i64 x, .int .i64 y] 27 (0, 0)) from (GR.out.block _ (by go_size) (by simp [Value.ownBlock])).trans (heap_alloc_new (World.alloc (w5.drew) (.cells #[] 27)) _))
                    refine wpOp_wp rfl rfl (wp_append_any 65 rfl (.tmp 62) (.tmp 64) 45 rfl w5.heap.size 27 i0 _ 16 Try.underlying45 I0.out Z0.out Z1.out Z2.out rfl v39 (0 + L.length) _ rfl OWN.out (.slice (some ⟨(World.alloc (w5.drew) (.cells #[] 27)).heap.size, 0, none⟩) 1 1) rfl 1 [.int .i64 x, .int .i64 y] (.inr ⟨⟨(World.alloc (w5.drew) (.cells #[] 27)).heap.size, 0, none⟩, 1, rfl, rfl, World.news_of_block (cs := #[.int .i64 x, .int .i64 y]) (t := 27) (fr := (0, 0)) hB.out, by simp [Value.oneCell']⟩) (by unfold maxLen; omega) (by omega) (by go_size) ?_)
                    intro v42 w7 own42 grow42
                    have hb7 : Below w5.heap.size w5 w7 := Below.grown (w := w4) (by (repeat' (first | (with_reducible exact Below.refl _ _) | (with_reducible assumption) | (with_reducible refine Below.alloc ?_ ?_ _) | (with_reducible refine Below.drew ?_) | (with_reducible refine below_drewN ?_ _) | (with_reducible refine Below.setCell ?_ ?_ _) | (with_reducible refine below_call ?_ ?_ (by assumption)) | go_size))) grow42 (by go_size) (fun j hj => (World.ownsRow.lt OWN.out j hj).1)
                    have hz7 := grow42.size
                    try simp only [World.size_alloc, World.size_drew] at hz7
                    have OWN7 := Lib.hid own42
                    clear own42 grow42 hB OWN GR hb4
                    refine ⟨hb7, ?_⟩
                    simp only [Act.put, List.setIfInBounds_toArray, List.set_cons_zero, List.set_cons_succ]
                    refine wpAnyH_all (rs := [8]) (by kernel_rfl) (by decide) (List.forall_mem_cons.2 ⟨?_, fun _ h => absurd h List.not_mem_nil⟩)
                    refine wpOp_value (v := v42) (w' := w7) 12 rfl rfl rfl (by go_simp) ⟨hb7, ?_⟩
                    simp only [Act.put, List.setIfInBounds_toArray, List.set_cons_zero, List.set_cons_succ]
                    refine wpAnyH_done (by kernel_rfl) ?_ _
                    by_cases hcap : c1 = L.length
                    · have HSR := fun W (hT : Below w5.heap.size w5 W) => (show Srcs W (.slice (some ⟨g1, 0, none⟩) 0 0) (0) ([]) from by have h := srcs_part (W := W) (k := L.length) (n := 0) R6.out (fun o => ((bcell hT).1 _ _ (by omega)).trans ((bcell hbz).1 _ _ (by omega))) (c1 - L.length) (by omega); exact .inr ⟨⟨g1, 0, none⟩, 0, rfl, rfl, fun j u hu => by simp at hu, fun u hu => by simp at hu⟩)
                      have HSR7 := Lib.hid (HSR w7 hb7)
                      clear HSR
                      go_wp2_with (at_builtin; refine wpList_append_any 70 rfl rfl (.tmp 66) (.tmp 69) 45 rfl w5.heap.size 27 i0 _ 16 Try.underlying45 I0.out Z0.out Z1.out Z2.out rfl v42 (0 + L.length + 1) _ rfl OWN7.out (.slice (some ⟨g1, 0, none⟩) 0 0) rfl (0) ([]) HSR7.out (by unfold maxLen; omega) (by omega) (by go_size) ?_; intro v47 w8 own8 grow8)
                      have hb8 : Below w5.heap.size w5 w8 := Below.grown (w := w7) hb7 grow8 (by go_size) (fun j hj => (World.ownsRow.lt OWN7.out j hj).1)
                      have OWN8 := Lib.hid own8
                      clear own8 grow8
                      go_roundw
                      case rel =>
                        refine ⟨kk + 1, by omega, by go_num, ?_, HALL.out, hbr.trans (Below.mono (B := wo.heap.size) (hbz.trans (hb8.mono hbz.size)) hbr.size)⟩
                        rw [HSI.out, HN.out]
                        refine TRow.mono (b := w5.heap.size) ?_ (by omega)
                        unfold TRow
                        have e1 : (L.take (L.length) ++ [(x, y)] ++ L.drop (L.length)).length = 0 + L.length + 1 + (0) := by simp <;> omega
                        have e2 : flat (L.take (L.length) ++ [(x, y)] ++ L.drop (L.length)) = [] ++ flat (L.take (L.length)) ++ [.int .i64 x, .int .i64 y] ++ ([]) := by simp [flat_append, flat]
                        rw [e1, e2]
                        exact OWN8.out
                      case measure => simp [intOf]; omega

                    · have HSR := fun W (hT : Below w5.heap.size w5 W) => (show Srcs W (.slice (some ⟨g1, L.length * 2, none⟩) 0 (c1 - L.length)) (0) ([]) from by have h := srcs_part (W := W) (k := L.length) (n := 0) R6.out (fun o => ((bcell hT).1 _ _ (by omega)).trans ((bcell hbz).1 _ _ (by omega))) (c1 - L.length) (by omega); simpa [flat] using h)
                      have HSR7 := Lib.hid (HSR w7 hb7)
                      clear HSR
                      go_wp2_with (at_builtin; refine wpList_append_any 70 rfl rfl (.tmp 66) (.tmp 69) 45 rfl w5.heap.size 27 i0 _ 16 Try.underlying45 I0.out Z0.out Z1.out Z2.out rfl v42 (0 + L.length + 1) _ rfl OWN7.out (.slice (some ⟨g1, L.length * 2, none⟩) 0 (c1 - L.length)) rfl (0) ([]) HSR7.out (by unfold maxLen; omega) (by omega) (by go_size) ?_; intro v47 w8 own8 grow8)
                      have hb8 : Below w5.heap.size w5 w8 := Below.grown (w := w7) hb7 grow8 (by go_size) (fun j hj => (World.ownsRow.lt OWN7.out j hj).1)
                      have OWN8 := Lib.hid own8
                      clear own8 grow8
                      go_roundw
                      case rel =>
                        refine ⟨kk + 1, by omega, by go_num, ?_, HALL.out, hbr.trans (Below.mono (B := wo.heap.size) (hbz.trans (hb8.mono hbz.size)) hbr.size)⟩
                        rw [HSI.out, HN.out]
                        refine TRow.mono (b := w5.heap.size) ?_ (by omega)
                        unfold TRow
                        have e1 : (L.take (L.length) ++ [(x, y)] ++ L.drop (L.length)).length = 0 + L.length + 1 + (0) := by simp <;> omega
                        have e2 : flat (L.take (L.length) ++ [(x, y)] ++ L.drop (L.length)) = [] ++ flat (L.take (L.length)) ++ [.int .i64 x, .int .i64 y] ++ ([]) := by simp [flat_append, flat]
                        rw [e1, e2]
                        exact OWN8.out
                      case measure => simp [intOf]; omega


                · refine wpOp_value (v := .slice (some ⟨(w5.drew).heap.size, 0, none⟩) 1 1) (w' := (w5.drew).alloc (.cells #[.int .i64 x, .int .i64 y] 27)) 64 rfl rfl rfl (by go_simp) ⟨by (repeat' (first | (with_reducible exact Below.refl _ _) | (with_reducible assumption) | (with_reducible refine Below.alloc ?_ ?_ _) | (with_reducible refine Below.drew ?_) | (with_reducible refine below_drewN ?_ _) | (with_reducible refine Below.setCell ?_ ?_ _) | (with_reducible refine below_call ?_ ?_ (by assumption)) | go_size)), ?_⟩
                  simp only [Act.put, List.setIfInBounds_toArray, List.set_cons_zero, List.set_cons_succ]
                  refine wpAnyH_all (rs := [0]) (by kernel_rfl) (by decide) (List.forall_mem_cons.2 ⟨?_, fun _ h => absurd h List.not_mem_nil⟩)
                  refine wpOp_value (v := .slice (some ⟨(World.alloc (w5.drew) (.cells #[.int .i64 x, .int .i64 y] 27)).heap.size, 0, none⟩) 0 0) (w' := (World.alloc (w5.drew) (.cells #[.int .i64 x, .int .i64 y] 27)).alloc (.cells #[] 27)) 58 rfl rfl rfl (by go_simp) ⟨by (repeat' (first | (with_reducible exact Below.refl _ _) | (with_reducible assumption) | (with_reducible refine Below.alloc ?_ ?_ _) | (with_reducible refine Below.drew ?_) | (with_reducible refine below_drewN ?_ _) | (with_reducible refine Below.setCell ?_ ?_ _) | (with_reducible refine below_call ?_ ?_ (by assumption)) | go_size)), ?_⟩
                  have O35 := Lib.hid (World.ownsRow_made (base := w5.heap.size) (e := 27) (size := 2) (World.alloc (w5.drew) (.cells #[.int .i64 x, .int .i64 y] 27)) #[] 0 (by go_size) (by unfold maxLen; omega) rfl)
                  simp only [Act.put, List.setIfInBounds_toArray, List.set_cons_zero, List.set_cons_succ]
                  refine wpAnyH_all (rs := [4]) (by kernel_rfl) (by decide) (List.forall_mem_cons.2 ⟨?_, fun _ h => absurd h List.not_mem_nil⟩)
                  have hT : Below w5.heap.size w5 ((World.alloc (World.alloc (w5.drew) (.cells #[.int .i64 x, .int .i64 y] 27)) (.cells #[] 27))) := by (repeat' (first | (with_reducible exact Below.refl _ _) | (with_reducible assumption) | (with_reducible refine Below.alloc ?_ ?_ _) | (with_reducible refine Below.drew ?_) | (with_reducible refine below_drewN ?_ _) | (with_reducible refine Below.setCell ?_ ?_ _) | (with_reducible refine below_call ?_ ?_ (by assumption)) | go_size))
                  refine wpOp_wp rfl rfl (wp_append_any 62 rfl (.tmp 58) (.tmp 61) 45 rfl w5.heap.size 27 i0 _ 16 Try.underlying45 I0.out Z0.out Z1.out Z2.out rfl (.slice (some ⟨(World.alloc (w5.drew) (.cells #[.int .i64 x, .int .i64 y] 27)).heap.size, 0, none⟩) 0 0) 0 [] rfl O35.out (.slice (some ⟨g1, 0, none⟩) (L.length) c1) rfl L.length (flat (L.take L.length)) (by have h := srcs_part (W := _) (k := 0) (n := L.length) R6.out (fun o => ((bcell hT).1 _ _ (by omega)).trans ((bcell hbz).1 _ _ (by omega))) c1 (by omega); simpa using h) (by unfold maxLen; omega) (by omega) (by go_size) ?_)
                  intro v39 w4 own39 grow39
                  have hb4 : Below w5.heap.size w5 w4 := Below.grown (w := (World.alloc (World.alloc (w5.drew) (.cells #[.int .i64 x, .int .i64 y] 27)) (.cells #[] 27))) (by (repeat' (first | (with_reducible exact Below.refl _ _) | (with_reducible assumption) | (with_reducible refine Below.alloc ?_ ?_ _) | (with_reducible refine Below.drew ?_) | (with_reducible refine below_drewN ?_ _) | (with_reducible refine Below.setCell ?_ ?_ _) | (with_reducible refine below_call ?_ ?_ (by assumption)) | go_size))) grow39 (by go_size) (fun j hj => (World.ownsRow.lt O35.out j hj).1)
                  have hz4 := grow39.size
                  try simp only [World.size_alloc, World.size_drew] at hz4
                  have OWN := Lib.hid own39
                  have GR := Lib.hid grow39
                  clear own39 grow39
                  refine ⟨hb4, ?_⟩
                  simp only [Act.put, List.setIfInBounds_toArray, List.set_cons_zero, List.set_cons_succ]
                  refine wpAnyH_all (rs := [7]) (by kernel_rfl) (by decide) (List.forall_mem_cons.2 ⟨?_, fun _ h => absurd h List.not_mem_nil⟩)
                  have hB := Lib.hid (show (w4).heap[(w5.drew).heap.size]? = some (.cells #[.int .i64 x, .int .i64 y] 27 (0, 0)) from (GR.out.block _ (by go_size) (by simp [Value.ownBlock])).trans ((heap_alloc_old (World.alloc (w5.drew) (.cells #[.int .i64 x, .int .i64 y] 27)) _ (by go_size)).trans (heap_alloc_new (w5.drew) _)))
                  refine wpOp_wp rfl rfl (wp_append_any 65 rfl (.tmp 62) (.tmp 64) 45 rfl w5.heap.size 27 i0 _ 16 Try.underlying45 I0.out Z0.out Z1.out Z2.out rfl v39 (0 + L.length) _ rfl OWN.out (.slice (some ⟨(w5.drew).heap.size, 0, none⟩) 1 1) rfl 1 [.int .i64 x, .int .i64 y] (.inr ⟨⟨(w5.drew).heap.size, 0, none⟩, 1, rfl, rfl, World.news_of_block (cs := #[.int .i64 x, .int .i64 y]) (t := 27) (fr := (0, 0)) hB.out, by simp [Value.oneCell']⟩) (by unfold maxLen; omega) (by omega) (by go_size) ?_)
                  intro v42 w7 own42 grow42
                  have hb7 : Below w5.heap.size w5 w7 := Below.grown (w := w4) (by (repeat' (first | (with_reducible exact Below.refl _ _) | (with_reducible assumption) | (with_reducible refine Below.alloc ?_ ?_ _) | (with_reducible refine Below.drew ?_) | (with_reducible refine below_drewN ?_ _) | (with_reducible refine Below.setCell ?_ ?_ _) | (with_reducible refine below_call ?_ ?_ (by assumption)) | go_size))) grow42 (by go_size) (fun j hj => (World.ownsRow.lt OWN.out j hj).1)
                  have hz7 := grow42.size
                  try simp only [World.size_alloc, World.size_drew] at hz7
                  have OWN7 := Lib.hid own42
                  clear own42 grow42 hB OWN GR hb4
                  refine ⟨hb7, ?_⟩
                  simp only [Act.put, List.setIfInBounds_toArray, List.set_cons_zero, List.set_cons_succ]
                  refine wpAnyH_all (rs := [8]) (by kernel_rfl) (by decide) (List.forall_mem_cons.2 ⟨?_, fun _ h => absurd h List.not_mem_nil⟩)
                  refine wpOp_value (v := v42) (w' := w7) 12 rfl rfl rfl (by go_simp) ⟨hb7, ?_⟩
                  simp only [Act.put, List.setIfInBounds_toArray, List.set_cons_zero, List.set_cons_succ]
                  refine wpAnyH_done (by kernel_rfl) ?_ _
                  by_cases hcap : c1 = L.length
                  · have HSR := fun W (hT : Below w5.heap.size w5 W) => (show Srcs W (.slice (some ⟨g1, 0, none⟩) 0 0) (0) ([]) from by have h := srcs_part (W := W) (k := L.length) (n := 0) R6.out (fun o => ((bcell hT).1 _ _ (by omega)).trans ((bcell hbz).1 _ _ (by omega))) (c1 - L.length) (by omega); exact .inr ⟨⟨g1, 0, none⟩, 0, rfl, rfl, fun j u hu => by simp at hu, fun u hu => by simp at hu⟩)
                    have HSR7 := Lib.hid (HSR w7 hb7)
                    clear HSR
                    go_wp2_with (at_builtin; refine wpList_append_any 70 rfl rfl (.tmp 66) (.tmp 69) 45 rfl w5.heap.size 27 i0 _ 16 Try.underlying45 I0.out Z0.out Z1.out Z2.out rfl v42 (0 + L.length + 1) _ rfl OWN7.out (.slice (some ⟨g1, 0, none⟩) 0 0) rfl (0) ([]) HSR7.out (by unfold maxLen; omega) (by omega) (by go_size) ?_; intro v47 w8 own8 grow8)
                    have hb8 : Below w5.heap.size w5 w8 := Below.grown (w := w7) hb7 grow8 (by go_size) (fun j hj => (World.ownsRow.lt OWN7.out j hj).1)
                    have OWN8 := Lib.hid own8
                    clear own8 grow8
                    go_roundw
                    case rel =>
                      refine ⟨kk + 1, by omega, by go_num, ?_, HALL.out, hbr.trans (Below.mono (B := wo.heap.size) (hbz.trans (hb8.mono hbz.size)) hbr.size)⟩
                      rw [HSI.out, HN.out]
                      refine TRow.mono (b := w5.heap.size) ?_ (by omega)
                      unfold TRow
                      have e1 : (L.take (L.length) ++ [(x, y)] ++ L.drop (L.length)).length = 0 + L.length + 1 + (0) := by simp <;> omega
                      have e2 : flat (L.take (L.length) ++ [(x, y)] ++ L.drop (L.length)) = [] ++ flat (L.take (L.length)) ++ [.int .i64 x, .int .i64 y] ++ ([]) := by simp [flat_append, flat]
                      rw [e1, e2]
                      exact OWN8.out
                    case measure => simp [intOf]; omega

                  · have HSR := fun W (hT : Below w5.heap.size w5 W) => (show Srcs W (.slice (some ⟨g1, L.length * 2, none⟩) 0 (c1 - L.length)) (0) ([]) from by have h := srcs_part (W := W) (k := L.length) (n := 0) R6.out (fun o => ((bcell hT).1 _ _ (by omega)).trans ((bcell hbz).1 _ _ (by omega))) (c1 - L.length) (by omega); simpa [flat] using h)
                    have HSR7 := Lib.hid (HSR w7 hb7)
                    clear HSR
                    go_wp2_with (at_builtin; refine wpList_append_any 70 rfl rfl (.tmp 66) (.tmp 69) 45 rfl w5.heap.size 27 i0 _ 16 Try.underlying45 I0.out Z0.out Z1.out Z2.out rfl v42 (0 + L.length + 1) _ rfl OWN7.out (.slice (some ⟨g1, L.length * 2, none⟩) 0 (c1 - L.length)) rfl (0) ([]) HSR7.out (by unfold maxLen; omega) (by omega) (by go_size) ?_; intro v47 w8 own8 grow8)
                    have hb8 : Below w5.heap.size w5 w8 := Below.grown (w := w7) hb7 grow8 (by go_size) (fun j hj => (World.ownsRow.lt OWN7.out j hj).1)
                    have OWN8 := Lib.hid own8
                    clear own8 grow8
                    go_roundw
                    case rel =>
                      refine ⟨kk + 1, by omega, by go_num, ?_, HALL.out, hbr.trans (Below.mono (B := wo.heap.size) (hbz.trans (hb8.mono hbz.size)) hbr.size)⟩
                      rw [HSI.out, HN.out]
                      refine TRow.mono (b := w5.heap.size) ?_ (by omega)
                      unfold TRow
                      have e1 : (L.take (L.length) ++ [(x, y)] ++ L.drop (L.length)).length = 0 + L.length + 1 + (0) := by simp <;> omega
                      have e2 : flat (L.take (L.length) ++ [(x, y)] ++ L.drop (L.length)) = [] ++ flat (L.take (L.length)) ++ [.int .i64 x, .int .i64 y] ++ ([]) := by simp [flat_append, flat]
                      rw [e1, e2]
                      exact OWN8.out
                    case measure => simp [intOf]; omega
    · obtain rfl : kk = M.length := by omega
      have hAG : AllGood (M.map (plH tn td)) := pl_all HA.out
      have hsp : spOk M tn td = true := by
        simp only [spOk, hlen, Bool.true_and]
        exact all_get.2 HA.out
      have HOO := HO.out
      rw [List.take_of_length_le (Nat.le_refl _), insWAll_sort hAG] at HOO
      have HSP := Lib.hid hsp
      have HGD := Lib.hid (spL_good hsp)
      have HRD := Lib.hid (show gapsR M tn td = if gapOk (spL M tn td) then (gapL (spL M tn td), true) else ([], false) from by simp [gapsR, hsp])
      have hSL : (spL M tn td).length = M.length := spL_len M tn td
      have HOO2 : TRow wo w1.heap.size u6 (spL M tn td) := HOO
      clear hAG hsp HOO HO
      generalize spL M tn td = S at *
      obtain ⟨a6, c6, rfl, l6, m6, x6⟩ := HOO2.cells
      have X6 := Lib.hid x6
      have hS12 : S.length ≤ 12 := by omega
      have hS0 : 1 ≤ S.length := by omega
      clear x6 HOO2 hSL
      go_wp2
      go_loopw [13, 74] (fun u i wr => ∃ k : Nat, k ≤ S.length ∧ i = .int .i64 k ∧ wr.ownsRow wo.heap.size 27 2 u k (flat ((List.range k).map fun i => ((gapT S i).1, (gapT S i).2.1))) ∧ (∀ j, j < k → (gapT S j).2.2 = true) ∧ Below wo.heap.size wo wr) (fun _ i _ => S.length - (intOf i).toNat)
      case atStart => exact ⟨0, Nat.zero_le _, rfl, World.ownsRow_nil _ _ _ _, fun j hj => absurd hj (Nat.not_lt_zero _), Below.refl _ _⟩
      case round =>
        obtain ⟨k, hkk, rfl, hown, hall, hbv⟩ := hrel
        have HO := Lib.hid hown
        have HA2 := Lib.hid hall
        clear hown hall
        have hzv := hbv.size
        have j0 : (0 : Int) ≤ (k : Int) := Int.natCast_nonneg _
        by_cases hlt : k < S.length
        · have i1 : (k : Int) < (S.length : Int) := by omega
          obtain ⟨m, hm⟩ : ∃ m : Nat, m = (k + 1) % S.length := ⟨_, rfl⟩
          have hml : m < S.length := by rw [hm]; exact Nat.mod_lt _ (by omega)
          have hrem : ((k : Int) + 1).tmod (S.length : Int) = (m : Int) := by rw [hm]; exact rem_next k S.length (by omega)
          have m0 : (0 : Int) ≤ (m : Int) := Int.natCast_nonneg _
          have m1' : (m : Int) < (S.length : Int) := by omega
          have hwm : IntKind.i64.wrap (m : Int) = m := by rw [IntKind.wrap_i64]; omega
          have hwk : IntKind.i64.wrap ((k : Int) + 1) = (k : Int) + 1 := by rw [IntKind.wrap_i64]; omega
          have hn1 : ¬ S = [] := fun e => by rw [e] at hlt; exact absurd hlt (Nat.not_lt_zero _)
          obtain ⟨g6, rfl, -, g6l, e3, e4⟩ := X6.out k hlt
          obtain ⟨g7, hg7, -, -, h3, h4⟩ := X6.out m hml
          obtain rfl : g6 = g7 := by simpa using hg7
          have u2 : g6 < wr.heap.size := by omega
          have e5 := ((bcell hbv).1 g6 (k * 2) g6l).trans e3
          have e6 := ((bcell hbv).1 g6 (k * 2 + 1) g6l).trans e4
          have h5 := ((bcell hbv).1 g6 (m * 2) g6l).trans h3
          have h6 := ((bcell hbv).1 g6 (m * 2 + 1) g6l).trans h4
          have gk := goodB_bd (getD_good HGD.out hlt)
          have gm := goodB_bd (getD_good HGD.out hml)
          have HG0 : Hid (gapT S k = mk ((S.getD m (0, 0)).1 * (S.getD k (0, 0)).2 - (S.getD k (0, 0)).1 * (S.getD m (0, 0)).2) ((S.getD m (0, 0)).2 * (S.getD k (0, 0)).2)) := by
            show _ = _
            unfold gapT
            rw [← hm]
            simp only [lessT, getD_good HGD.out hlt, getD_good HGD.out hml, Bool.and_self, if_true]
          have HALL0 : Hid ((gapT S k).2.2 = true → ∀ j, j < k + 1 → (gapT S j).2.2 = true) := fun h j hj => by
            by_cases hjk : j = k
            · subst hjk; exact h
            · exact HA2.out j (by omega)
          have HF0 : Hid ((gapT S k).2.2 = false → gapOk S = false) := fun ho => gapOk_no hlt ho
          have HSN := Lib.hid (map_snoc (fun i => ((gapT S i).1, (gapT S i).2.1)) k)
          simp only at HSN
          clear e3 e4 h3 h4 hg7 hm
          generalize S.getD k (0, 0) = sk at *
          generalize S.getD m (0, 0) = sm at *
          obtain ⟨kn, kd⟩ := sk
          obtain ⟨mn, md⟩ := sm
          simp only at e5 e6 h5 h6 HG0 gk gm
          have hda := fun W => diAdd_less mn md kn kd ⟨by omega, by omega, by omega, by omega⟩ ⟨by omega, by omega, by omega, by omega⟩ W
          rw [← HG0.out] at hda
          have HDA := Lib.hid hda
          clear hda HG0
          generalize gapT S k = r at *
          obtain ⟨x, y, okk⟩ := r
          simp only at HALL0 HF0 HSN
          go_wp2_with fail
          refine wp_region_late 16 (t := 15) #[.int .i64 0, .int .i64 0] #[.int .i64 x, .int .i64 y] 27 (by kernel_rfl) (by kernel_rfl) rfl rfl rfl rfl rfl rfl (fun a w => ?run) ?_
          case run => go_simp
          simp only [List.take_succ_cons, List.take_zero, List.drop_succ_cons, List.drop_zero]
          repeat (first | (apply wpB_take (hw := rfl); (intro wq hq; obtain ⟨hcq, hfq⟩ := bcell hq; unfold atB; go_simp; exact ⟨rfl, rfl⟩); simp only [Act.put, List.setIfInBounds_toArray, List.set_cons_zero, List.set_cons_succ]) | (apply wpB_take (hw := rfl); (intro wq hq; unfold atB; go_simp; exact ⟨rfl, HDA.out _⟩); simp only [Act.put, List.setIfInBounds_toArray, List.set_cons_zero, List.set_cons_succ]))
          refine ⟨fun p => fillOK2 fun b w hp hcq hfq => ?_, fun b3 w3 hb3 hq3 hp3 hv3 hn3 => ?_⟩
          · subst hp
            go_simp
          have hbw3 : Below wr.heap.size wr w3 := hb3
          have hz3 := hbw3.size
          have d0 := hv3 0
          have d1 := hv3 1
          simp only [List.getElem?_toArray, List.getElem?_cons_zero, List.getElem?_cons_succ] at d0 d1
          have HO3 := Lib.hid (World.ownsRow.kept HO.out (row := none) ⟨hbw3.os, hbw3.tape, hbw3.output, hbw3.size, fun k hk _ => hbw3.block k hk⟩ (by generalize (u13 : Value).ownBlock = z; cases z <;> simp))
          have HLT : Hid (∀ k, u13.ownBlock = some k → wo.heap.size ≤ k) := fun k hk => (World.ownsRow.lt HO.out k hk).1
          clear e5 e6 h5 h6
          cases okk with
          | false =>
            have HF := Lib.hid (HF0.out rfl)
            go_wp2
            go_ret2
            rw [show gapsR M tn td = ([], false) from by rw [HRD.out, HF.out]; rfl]
            have hbzz : Below w.heap.size w w3 := hbw1.trans ((hbr.trans ((hbv.trans (hbw3.mono hbv.size)).mono hbr.size)).mono hbw1.size)
            exact TurnsOut.none (by (repeat' (first | (with_reducible exact Below.refl _ _) | (with_reducible assumption) | (with_reducible refine Below.alloc ?_ ?_ _) | (with_reducible refine Below.drew ?_) | (with_reducible refine below_drewN ?_ _) | (with_reducible refine Below.setCell ?_ ?_ _) | (with_reducible refine below_call ?_ ?_ (by assumption)) | go_size)))
          | true =>
            have HALL := Lib.hid (HALL0.out rfl)
            go_wp2_with (at_builtin; refine wpList_append_lies _ rfl _ _ _ rfl wo.heap.size 27 i0 _ 2 16 Try.underlying45 I0.out Z0.out Z1.out Z2.out rfl (by omega) u13 k _ rfl (HO3.out.alloc _) ⟨w3.heap.size, 0, none⟩ 1 1 [.int .i64 x, .int .i64 y] rfl rfl (World.news_of_block (cs := #[.int .i64 x, .int .i64 y]) (t := 27) (fr := (0, 0)) (by simpa using heap_alloc_new w3 _)) (by simp [Value.oneCell']) (by omega) (by unfold maxLen; omega) (by omega) (by simp; omega) (w3.heap.size + 1) (by simp) ?_; intro g cap w4 hown4 hgrow hat hlt4)
            have hbel4 : Below wo.heap.size wo w4 := Below.grown (w := w3.alloc _) (hbv.trans (Below.mono (B := wr.heap.size) (hbw3.trans (Below.mono (B := w3.heap.size) (by (repeat' (first | (with_reducible exact Below.refl _ _) | (with_reducible assumption) | (with_reducible refine Below.alloc ?_ ?_ _) | (with_reducible refine Below.drew ?_) | (with_reducible refine below_drewN ?_ _) | (with_reducible refine Below.setCell ?_ ?_ _) | (with_reducible refine below_call ?_ ?_ (by assumption)) | go_size))) (by omega))) (by omega))) hgrow (by simp only [World.size_alloc]; omega) HLT.out
            go_roundw
            case rel =>
              refine ⟨k + 1, by omega, by go_num, ?_, HALL.out, hbel4⟩
              rw [← HSN.out]
              exact hown4
            case measure => simp [intOf]; omega
        · obtain rfl : k = S.length := by omega
          have hok := gapOk_yes (S := S) HA2.out
          have HRR := Lib.hid (show gapsR M tn td = (gapL S, true) from by rw [HRD.out, hok]; rfl)
          clear hok
          go_wp2
          go_ret2
          rw [HRR.out]
          refine ⟨_, rfl, TRow.mono (b := wo.heap.size) ?_ (by omega), hbw1.trans ((hbr.trans (hbv.mono hbr.size)).mono hbw1.size)⟩
          unfold TRow
          rw [show (gapL S).length = S.length from by simp [gapL]]
          exact HO.out
end Go.Proofs.Ytgdjnnelonnoaaa
