/- Times that it may be of two that are seen: by the program and by the model. -/
import Derived.Test.YticdmochedadbaaGreatSeen7
set_option linter.unusedSimpArgs false
set_option linter.unusedVariables false
set_option maxRecDepth 100000
namespace Go.Proofs.YticdmochedadbaaGreat
open Go.RowKit
attribute [local go_sem ↓] Go.wp_at_zero Go.wp_at_succ

/-- Four numbers. -/
abbrev Q4 : Type := Int × Int × Int × Int
/-- The time of what is seen, if it is true. -/
def pickT (h : Int) (s : Q4) : List (Int × Int) := if trueB h s.1 s.2.1 s.2.2.1 s.2.2.2 then [(s.1, s.2.1)] else []
def accT (h : Int) (p q : Q4) : Nat → List (Int × Int)
  | 0 => []
  | 1 => pickT h p
  | _ => pickT h p ++ pickT h q
def nth2 (p q : Q4) (k : Nat) : Q4 := if k = 0 then p else q
theorem accT_succ (h : Int) (p q : Q4) (k : Nat) (hk : k < 2) : accT h p q (k + 1) = accT h p q k ++ pickT h (nth2 p q k) := by
  rcases (show k = 0 ∨ k = 1 by omega) with rfl | rfl
  · show pickT h p = [] ++ pickT h p
    rfl
  · rfl
theorem pickT_len (h : Int) (s : Q4) : (pickT h s).length ≤ 1 := by unfold pickT; split <;> simp
theorem accT_len (h : Int) (p q : Q4) (k : Nat) : (accT h p q k).length ≤ 2 := by
  have h1 := pickT_len h p
  have h2 := pickT_len h q
  rcases k with _ | _ | k
  · simp [accT]
  · show (pickT h p).length ≤ 2
    omega
  · show (pickT h p ++ pickT h q).length ≤ 2
    rw [List.length_append]
    omega
/-- Four numbers that are two turns. -/
def G4 (s : Q4) : Prop := seenB s.1 s.2.1 s.2.2.1 s.2.2.2 = true
theorem pickT_good {h : Int} {s : Q4} (hs : G4 s) : AllGood (pickT h s) := by
  unfold pickT
  intro t ht
  split at ht
  · obtain rfl : t = (s.1, s.2.1) := by simpa using ht
    unfold G4 seenB at hs
    simp only [Bool.and_eq_true] at hs
    exact hs.1
  · simp at ht
theorem accT_good {h : Int} {p q : Q4} (hp : G4 p) (hq : G4 q) : ∀ k, AllGood (accT h p q k)
  | 0 => fun _ ht => by simp [accT] at ht
  | 1 => pickT_good hp
  | _ + 2 => fun t ht => by
    rcases List.mem_append.1 (show t ∈ pickT h p ++ pickT h q from ht) with h1 | h1
    · exact pickT_good hp t h1
    · exact pickT_good hq t h1
theorem nth2_good {p q : Q4} (hp : G4 p) (hq : G4 q) (k : Nat) : G4 (nth2 p q k) := by unfold nth2; split <;> assumption
theorem goodL_of {L : List (Int × Int)} (h : AllGood L) : GoodL L := fun j hj => by
  have := goodB_bd (getD_good h hj)
  omega
/-- Two of four numbers that lie one behind the other. -/
def Two (w : World) (g : Nat) (p q : Q4) : Prop := ∀ k, k < 2 → w.cell? ⟨g, k * 4, none⟩ = some (.int .i64 (nth2 p q k).1) ∧ w.cell? ⟨g, k * 4 + 1, none⟩ = some (.int .i64 (nth2 p q k).2.1) ∧ w.cell? ⟨g, k * 4 + 2, none⟩ = some (.int .i64 (nth2 p q k).2.2.1) ∧ w.cell? ⟨g, k * 4 + 3, none⟩ = some (.int .i64 (nth2 p q k).2.2.2)
theorem Two.below {w w' : World} {g : Nat} {p q : Q4} (h : Two w g p q) (hg : g < w.heap.size) (hb : Below w.heap.size w w') : Two w' g p q := fun k hk => by
  obtain ⟨h1, h2, h3, h4⟩ := h k hk
  have hc := (bcell hb).1
  exact ⟨(hc _ _ hg).trans h1, (hc _ _ hg).trans h2, (hc _ _ hg).trans h3, (hc _ _ hg).trans h4⟩
theorem two_new (w : World) (ty : TypeId) (a b c d a' b' c' d' : Int) : Two (w.alloc (Obj.cells #[Value.int .i64 a, .int .i64 b, .int .i64 c, .int .i64 d, .int .i64 a', .int .i64 b', .int .i64 c', .int .i64 d'] ty)) w.heap.size (a, b, c, d) (a', b', c', d') := fun k hk => by
  have hc := (cells_of_block (heap_alloc_new w (Obj.cells #[Value.int .i64 a, .int .i64 b, .int .i64 c, .int .i64 d, .int .i64 a', .int .i64 b', .int .i64 c', .int .i64 d'] ty))).1
  rcases (show k = 0 ∨ k = 1 by omega) with rfl | rfl
  · exact ⟨hc 0, hc 1, hc 2, hc 3⟩
  · exact ⟨hc 4, hc 5, hc 6, hc 7⟩
theorem sort_row (L : List (Int × Int)) (v : Value) (B : Nat) (w : World) (r : TRow w B v L) (gl : AllGood L) (hl : L.length ≤ 1000000) :
    Calls Tryz.prog 68 #[v, .func (.func 69) #[] #[]] w fun e w' => e = .returned (.tuple #[]) ∧ TRow w' B v (sortT L) ∧ w.grownBy w' v.ownBlock := by
  cases L with
  | nil =>
    obtain ⟨a, c, rfl⟩ := own_shape r
    refine (AnyF.slices_SortFunc_none Tryz.sortTurn a c _ w).mono ?_
    rintro e w' ⟨rfl, rfl⟩
    exact ⟨rfl, by simpa [sortT] using r, grownBy_refl _ _⟩
  | cons t ts =>
    rcases r.2 with ⟨rfl, h2⟩ | ⟨g, cap, cur, rfl, h2, h3, h4⟩
    · exact absurd h2 (by simp)
    · exact sortFunc_row (t :: ts) g cap B w r (Array.getElem?_eq_some_iff.1 h3).1 gl hl
set_option maxHeartbeats 400000 in
theorem compact_none0 (a : Option Addr) (c B : Nat) (w : World) (r : TRow w B (.slice a 0 c) []) :
    Calls Tryz.prog 70 #[.slice a 0 c] w fun e w' => ∃ v', e = .returned v' ∧ TRow w' B v' (compT []) ∧ w.grownBy w' (Value.slice a 0 c).ownBlock := by
  have R := Lib.hid r
  clear r
  (go_enter Tryz.func70, Tryz.ntmps70)
  go_wp2
  go_ret
  exact ⟨_, rfl, by simpa [compT, keptI] using R.out, grownBy_refl _ _⟩
theorem compact_row (L : List (Int × Int)) (v : Value) (B : Nat) (w : World) (r : TRow w B v L) (hl : L.length ≤ 1000000) :
    Calls Tryz.prog 70 #[v] w fun e w' => ∃ v', e = .returned v' ∧ TRow w' B v' (compT L) ∧ w.grownBy w' v.ownBlock := by
  cases L with
  | nil =>
    obtain ⟨a, c, rfl⟩ := own_shape r
    exact compact_none0 a c B w r
  | cons t ts =>
    rcases r.2 with ⟨rfl, h2⟩ | ⟨g, cap, cur, rfl, h2, h3, h4⟩
    · exact absurd h2 (by simp)
    · exact compact_any (t :: ts) g cap B w r hl

set_option maxHeartbeats 1600000 in
theorem timesOf_any (h : Int) (p q : Q4) (g0 : Nat) (hh : 2 ≤ h ∧ h ≤ 24) (hp : G4 p) (hq : G4 q) (w : World) (hg : g0 < w.heap.size) (ht : Two w g0 p q) :
    Calls Tryz.prog 47 #[.int .i64 h, .slice (some ⟨g0, 0, none⟩) 2 2] w (RowOut w (insAll (accT h p q 2))) := by
  have HT := Lib.hid ht
  have HGP := Lib.hid (fun k => nth2_good hp hq k)
  have HAC := Lib.hid (accT_good (h := h) hp hq)
  clear ht hp hq
  obtain ⟨i0, hi0, hz0, hz1, hz2⟩ := info_parts Tryz.infoTurn
  have I0 := Lib.hid hi0
  have Z0 := Lib.hid hz0
  have Z1 := Lib.hid hz1
  have Z2 := Lib.hid hz2
  clear hi0 hz0 hz1 hz2
  (go_enter Tryz.func47, Tryz.ntmps47)
  go_wp2
  go_loopw [5, 10] (fun u i wr => ∃ k : Nat, k ≤ 2 ∧ i = .int .i64 k ∧ TRow wr w.heap.size u (accT h p q k) ∧ Below w.heap.size w wr) (fun _ i _ => 2 - (intOf i).toNat)
  case atStart => exact ⟨0, by omega, rfl, World.ownsRow_nil _ _ _ _, Below.refl _ _⟩
  case round =>
    obtain ⟨k, hk, rfl, hrow, hbr⟩ := hrel
    have hzr := hbr.size
    have i0' : (0 : Int) ≤ (k : Int) := Int.natCast_nonneg _
    by_cases hlt : k < 2
    · have i1 : (k : Int) < 2 := by omega
      have hgr : g0 < wr.heap.size := by omega
      obtain ⟨e1, e2, e3, e4⟩ := (HT.out.below hg hbr) k hlt
      have hbd := seenB_bd (HGP.out k)
      have HS := Lib.hid (accT_succ h p q k hlt)
      have hlen := accT_len h p q k
      have HO := Lib.hid hrow
      clear hrow
      generalize accT h p q k = acc at *
      generalize nth2 p q k = s at *
      obtain ⟨x, y, z, u⟩ := s
      simp only at e1 e2 e3 e4 hbd
      obtain ⟨⟨b1, b2, b3, b4⟩, -⟩ := hbd
      cases ht : trueB h x y z u
      · have HN : Hid (accT h p q (k + 1) = acc) := by
          have hx := HS.out
          simp only [pickT, ht] at hx
          show accT h p q (k + 1) = acc
          simpa using hx
        go_wp2_with fail
        refine (areTrue_is h x y z u ht hh ⟨b1, b2, b3, b4⟩ _).mono ?_
        rintro e9 w2 ⟨rfl, hb2⟩
        have hz2 := hb2.size
        simp only [World.size_alloc, World.size_setCell] at hz2
        have hbw : Below wr.heap.size wr w2 := Below.trans (b := _) (by (repeat' (first | (with_reducible exact Below.refl _ _) | (with_reducible assumption) | (with_reducible refine Below.alloc ?_ ?_ _) | (with_reducible refine Below.drew ?_) | (with_reducible refine below_drewN ?_ _) | (with_reducible refine Below.setCell ?_ ?_ _) | (with_reducible refine below_call ?_ ?_ (by assumption)) | go_size))) (hb2.mono (by simp only [World.size_alloc, World.size_setCell]; omega))
        go_wp2
        go_roundw
        case rel =>
          refine ⟨k + 1, by omega, by go_num, ?_, hbr.trans (hbw.mono hbr.size)⟩
          rw [HN.out]
          exact TRow.below HO.out hbw
        case measure => simp [intOf]; omega
      · have HN : Hid (accT h p q (k + 1) = acc ++ [(x, y)]) := by
          have hx := HS.out
          simp only [pickT, ht] at hx
          show accT h p q (k + 1) = acc ++ [(x, y)]
          simpa using hx
        go_wp2_with fail
        refine (areTrue_is h x y z u ht hh ⟨b1, b2, b3, b4⟩ _).mono ?_
        rintro e9 w2 ⟨rfl, hb2⟩
        obtain ⟨hc2, hf2⟩ := bcell hb2
        have hz2 := hb2.size
        simp only [World.size_alloc, World.size_setCell] at hz2
        have hbw : Below wr.heap.size wr w2 := Below.trans (b := _) (by (repeat' (first | (with_reducible exact Below.refl _ _) | (with_reducible assumption) | (with_reducible refine Below.alloc ?_ ?_ _) | (with_reducible refine Below.drew ?_) | (with_reducible refine below_drewN ?_ _) | (with_reducible refine Below.setCell ?_ ?_ _) | (with_reducible refine below_call ?_ ?_ (by assumption)) | go_size))) (hb2.mono (by simp only [World.size_alloc, World.size_setCell]; omega))
        have HO2 := Lib.hid (TRow.below HO.out hbw)
        have HLT := TRow.low HO.out
        have c0 : w2.cell? ⟨wr.heap.size, 0, none⟩ = some (.int .i64 x) := (hc2 _ _ (by simp only [World.size_alloc, World.size_setCell]; omega)).trans (by go_simp)
        have c1 : w2.cell? ⟨wr.heap.size, 1, none⟩ = some (.int .i64 y) := (hc2 _ _ (by simp only [World.size_alloc, World.size_setCell]; omega)).trans (by go_simp)
        have s2 : wr.heap.size < w2.heap.size := by omega
        have HB2 : Hid (Below w.heap.size w w2) := hbr.trans (hbw.mono hbr.size)
        clear hc2 hf2 e1 e2 e3 e4
        go_wp2_with (at_builtin; refine wpList_append_lies _ rfl _ _ _ rfl w.heap.size 25 i0 _ 2 16 Tryz.underlying30 I0.out Z0.out Z1.out Z2.out rfl (by omega) (u5) acc.length _ rfl (World.ownsRow.alloc HO2.out _) ⟨w2.heap.size, 0, none⟩ 1 1 [.int .i64 x, .int .i64 y] rfl rfl (World.news_of_block (cs := #[.int .i64 x, .int .i64 y]) (t := 25) (fr := (0, 0)) (by simpa using heap_alloc_new w2 _)) (by simp [Value.oneCell']) (by omega) (by unfold maxLen; omega) (by omega) (by simp; omega) (w2.heap.size + 1) (by simp) ?_; intro g cap w3 hown3 hgrow hat hlt3)
        go_roundw
        case rel =>
          refine ⟨k + 1, by omega, by go_num, ?_, ?_⟩
          · rw [HN.out]
            unfold TRow
            rw [flat_append, List.length_append]
            exact hown3
          · exact Below.grown (HB2.out.trans (Below.mono (B := w2.heap.size) (by (repeat' (first | (with_reducible exact Below.refl _ _) | (with_reducible assumption) | (with_reducible refine Below.alloc ?_ ?_ _) | (with_reducible refine Below.drew ?_) | (with_reducible refine below_drewN ?_ _) | (with_reducible refine Below.setCell ?_ ?_ _) | (with_reducible refine below_call ?_ ?_ (by assumption)) | go_size))) (by omega))) hgrow (by simp; omega) HLT
        case measure => simp [intOf]; omega
    · obtain rfl : k = 2 := by omega
      have HA := Lib.hid (HAC.out 2)
      have hlen := accT_len h p q 2
      have HR := Lib.hid hrow
      clear hrow
      generalize accT h p q 2 = L at *
      have HLT := TRow.low HR.out
      go_wp2_with fail
      refine (sort_row L _ w.heap.size _ HR.out HA.out (by omega)).mono ?_
      rintro e3 w3 ⟨rfl, hr3, hg3⟩
      have hb3 : Below w.heap.size w w3 := Below.grown hbr hg3 (by omega) HLT
      have HR3 := Lib.hid hr3
      clear hr3 hg3
      have hz3 := hb3.size
      go_wp2_with fail
      refine (compact_row (sortT L) _ w.heap.size _ HR3.out (by rw [sortT_len]; omega)).mono ?_
      rintro e4 w4 ⟨v4, rfl, hr4, hg4⟩
      have hb4 : Below w.heap.size w w4 := Below.grown hb3 hg4 (by omega) HLT
      rw [compT_sortT HA.out] at hr4
      have HR4 := Lib.hid hr4
      clear hr4 hg4
      go_wp2
      go_ret
      exact ⟨_, rfl, HR4.out, hb4⟩

/-- The times of two that are seen. -/
def twoR (h a b c d : Int) (q : Q4) : List (Int × Int) × Bool := if seAskB h a b c d then (insAll (accT h (a, b, c, d) q 2), true) else ([], false)
theorem twoR_len (h a b c d : Int) (q : Q4) : (twoR h a b c d q).1.length ≤ 1000000 := by
  unfold twoR
  split
  · exact Nat.le_trans (insAll_len _) (Nat.le_trans (accT_len _ _ _ _) (by omega))
  · simp
abbrev mirQ (a b c d : Int) : Q4 := (lowNum (-a) b, lowDen (-a) b, lowNum (-c) d, lowDen (-c) d)
theorem mirQ_good {a b c d : Int} (g : seenB a b c d = true) : G4 (mirQ a b c d) := by
  obtain ⟨⟨b1, b2, -⟩, d1, d2, -⟩ := seenB_bd g
  unfold G4 seenB
  simp [low_le (-a) b ⟨b1, b2⟩, low_le (-c) d ⟨d1, d2⟩]
theorem exQ_good {a b c d : Int} (g : seenB a b c d = true) : G4 (c, d, a, b) := by
  simp only [seenB, Bool.and_eq_true] at g
  unfold G4 seenB
  simp [g.1, g.2]
set_option maxHeartbeats 1600000 in
theorem implTimesInGlass_any (h a b c d : Int) (w : World) :
    Calls Tryz.prog 20 #[.int .i64 h, sn a b c d] w (TurnsOut w (twoR h a b c d (mirQ a b c d)).1 (twoR h a b c d (mirQ a b c d)).2) := by
  cases ga : inB h 2 24
  · rw [show twoR h a b c d (mirQ a b c d) = ([], false) from by simp [twoR, seAskB, ga]]
    (go_enter Tryz.func20, Tryz.ntmps20)
    go_wp2_with fail
    refine (isDial_is h ga _).mono ?_
    (rintro e1 w1 ⟨rfl, rfl⟩)
    go_wp2
    go_ret2
    exact TurnsOut.none (by (repeat' (first | (with_reducible exact Below.refl _ _) | (with_reducible assumption) | (with_reducible refine Below.alloc ?_ ?_ _) | (with_reducible refine Below.drew ?_) | (with_reducible refine below_drewN ?_ _) | (with_reducible refine Below.setCell ?_ ?_ _) | (with_reducible refine below_call ?_ ?_ (by assumption)) | go_size)))
  cases gb : seenB a b c d
  · rw [show twoR h a b c d (mirQ a b c d) = ([], false) from by simp [twoR, seAskB, gb]]
    (go_enter Tryz.func20, Tryz.ntmps20)
    go_wp2_with fail
    refine (isDial_is h ga _).mono ?_
    (rintro e1 w1 ⟨rfl, rfl⟩)
    go_wp2_with fail
    refine (isSeen_is _ _ _ _ gb _).mono ?_
    (rintro e1 w1 ⟨rfl, hb1⟩; obtain ⟨hc1, hf1⟩ := bcell hb1; have hz1 := hb1.size; (try simp only [World.size_alloc, World.size_setCell, World.size_drew] at hz1); have q1 : w.heap.size ≤ w1.heap.size := (by omega); (try have q1_0 : w.heap.size < w1.heap.size := (by omega)); (try have q1_1 : w.heap.size + 1 < w1.heap.size := (by omega)); (try have q1_2 : w.heap.size + 2 < w1.heap.size := (by omega)); (try have q1_3 : w.heap.size + 3 < w1.heap.size := (by omega)))
    go_wp2
    go_ret2
    exact TurnsOut.none (by (repeat' (first | (with_reducible exact Below.refl _ _) | (with_reducible assumption) | (with_reducible refine Below.alloc ?_ ?_ _) | (with_reducible refine Below.drew ?_) | (with_reducible refine below_drewN ?_ _) | (with_reducible refine Below.setCell ?_ ?_ _) | (with_reducible refine below_call ?_ ?_ (by assumption)) | go_size)))
  · rw [show twoR h a b c d (mirQ a b c d) = (insAll (accT h (a, b, c, d) (mirQ a b c d) 2), true) from by simp [twoR, seAskB, ga, gb]]
    have hh := inB_bd ga
    obtain ⟨⟨b1, b2, b3, b4⟩, d1, d2, d3, d4⟩ := seenB_bd gb
    have HQ := Lib.hid (mirQ_good gb)
    have HP := Lib.hid (show G4 (a, b, c, d) from gb)
    (go_enter Tryz.func20, Tryz.ntmps20)
    go_wp2_with fail
    refine (isDial_is h ga _).mono ?_
    (rintro e1 w1 ⟨rfl, rfl⟩)
    go_wp2_with fail
    refine (isSeen_is _ _ _ _ gb _).mono ?_
    (rintro e1 w1 ⟨rfl, hb1⟩; obtain ⟨hc1, hf1⟩ := bcell hb1; have hz1 := hb1.size; (try simp only [World.size_alloc, World.size_setCell, World.size_drew] at hz1); have q1 : w.heap.size ≤ w1.heap.size := (by omega); (try have q1_0 : w.heap.size < w1.heap.size := (by omega)); (try have q1_1 : w.heap.size + 1 < w1.heap.size := (by omega)); (try have q1_2 : w.heap.size + 2 < w1.heap.size := (by omega)); (try have q1_3 : w.heap.size + 3 < w1.heap.size := (by omega)))
    have hz1' := hb1.size
    simp only [World.size_alloc] at hz1'
    have k0 : w1.cell? ⟨w.heap.size, 0, none⟩ = some (.int .i64 a) := (hc1 _ _ (by go_size)).trans (by go_simp)
    have k1 : w1.cell? ⟨w.heap.size, 1, none⟩ = some (.int .i64 b) := (hc1 _ _ (by go_size)).trans (by go_simp)
    have k2 : w1.cell? ⟨w.heap.size, 2, none⟩ = some (.int .i64 c) := (hc1 _ _ (by go_size)).trans (by go_simp)
    have k3 : w1.cell? ⟨w.heap.size, 3, none⟩ = some (.int .i64 d) := (hc1 _ _ (by go_size)).trans (by go_simp)
    have u0 : w.heap.size < w1.heap.size := by omega
    have hbz : Below w.heap.size w w1 := by (repeat' (first | (with_reducible exact Below.refl _ _) | (with_reducible assumption) | (with_reducible refine Below.alloc ?_ ?_ _) | (with_reducible refine Below.drew ?_) | (with_reducible refine below_drewN ?_ _) | (with_reducible refine Below.setCell ?_ ?_ _) | (with_reducible refine below_call ?_ ?_ (by assumption)) | go_size))
    clear hc1 hf1
    go_wp2_with fail
    have hS1 : Below w1.heap.size w1 w1.drew := (Below.refl _ _).drew
    refine wp_region_held (by kernel_rfl) (S := fun W => Below w1.heap.size w1 W) ?_
    refine take_first (i := 0) (v := .int .i64 h) 14 rfl rfl (by kernel_rfl) (by kernel_rfl) (by kernel_rfl) (fun _ _ _ h => h) (by rfl) ?_ (by assumption) ?_
    · intro W hS'
      obtain ⟨hcq, hfq⟩ := bcell hS'
      go_simp
    simp only [Act.put, List.setIfInBounds_toArray, List.set_cons_zero, List.set_cons_succ]
    refine take_first (i := 1) (v := sn a b c d) 15 rfl rfl (by kernel_rfl) (by kernel_rfl) (by kernel_rfl) (fun _ _ _ h => h) (by rfl) ?_ (by assumption) ?_
    · intro W hS'
      obtain ⟨hcq, hfq⟩ := bcell hS'
      go_simp
    simp only [Act.put, List.setIfInBounds_toArray, List.set_cons_zero, List.set_cons_succ]
    refine take_first (i := 3) (v := sn a b c d) 17 rfl rfl (by kernel_rfl) (by kernel_rfl) (by kernel_rfl) (fun _ _ _ h => h) (by rfl) ?_ (by assumption) ?_
    · intro W hS'
      obtain ⟨hcq, hfq⟩ := bcell hS'
      go_simp
    simp only [Act.put, List.setIfInBounds_toArray, List.set_cons_zero, List.set_cons_succ]
    refine wpAnyH_all (rs := [2]) (by kernel_rfl) (by decide) (List.forall_mem_cons.2 ⟨?_, fun _ h => absurd h List.not_mem_nil⟩)
    refine wpOp_wp rfl rfl (wp_call_at 16 rfl (f := 43) (args := #[sn a b c d]) (by go_simp) ((handsOf_any a b c d _).mono ?_))
    rintro e2 w2 ⟨rfl, hb2⟩
    have hS2 : Below w1.heap.size w1 w2 := hS1.trans (hb2.mono hS1.size)
    refine ⟨_, rfl, hS2, ?_⟩
    simp only [Act.put, List.setIfInBounds_toArray, List.set_cons_zero, List.set_cons_succ]
    refine wpAnyH_all (rs := [4]) (by kernel_rfl) (by decide) (List.forall_mem_cons.2 ⟨?_, fun _ h => absurd h List.not_mem_nil⟩)
    refine wpOp_wp rfl rfl (wp_call_at 18 rfl (f := 43) (args := #[sn a b c d]) (by go_simp) ((handsOf_any a b c d _).mono ?_))
    rintro e3 w3 ⟨rfl, hb3⟩
    have hS3 : Below w1.heap.size w1 w3 := hS2.trans (hb3.mono hS2.size)
    refine ⟨_, rfl, hS3, ?_⟩
    simp only [Act.put, List.setIfInBounds_toArray, List.set_cons_zero, List.set_cons_succ]
    refine wpAnyH_all (rs := [5]) (by kernel_rfl) (by decide) (List.forall_mem_cons.2 ⟨?_, fun _ h => absurd h List.not_mem_nil⟩)
    refine wpOp_wp rfl rfl (wp_call_at 19 rfl (f := 48) (args := #[sn a b c d]) (by go_simp) ((mirrored_any a b c d ⟨b1, b2, b3, b4⟩ ⟨d1, d2, d3, d4⟩ _).mono ?_))
    rintro e4 w4 ⟨rfl, hb4⟩
    have hS4 : Below w1.heap.size w1 w4 := hS3.trans (hb4.mono hS3.size)
    refine ⟨_, rfl, hS4, ?_⟩
    simp only [Act.put, List.setIfInBounds_toArray, List.set_cons_zero, List.set_cons_succ]
    have hz4 := hS4.size
    refine wpAnyH_all (rs := [6]) (by kernel_rfl) (by decide) (List.forall_mem_cons.2 ⟨?_, fun _ h => absurd h List.not_mem_nil⟩)
    refine wpOp_value (v := .slice (some ⟨w4.heap.size, 0, none⟩) 2 2) (w' := (w4.alloc (.cells #[.int .i64 a, .int .i64 b, .int .i64 c, .int .i64 d, .int .i64 (lowNum (-a) b), .int .i64 (lowDen (-a) b), .int .i64 (lowNum (-c) d), .int .i64 (lowDen (-c) d)] 63))) 20 rfl rfl rfl (by go_simp) ⟨by (repeat' (first | (with_reducible exact Below.refl _ _) | (with_reducible assumption) | (with_reducible refine Below.alloc ?_ ?_ _) | (with_reducible refine Below.drew ?_) | (with_reducible refine below_drewN ?_ _) | (with_reducible refine Below.setCell ?_ ?_ _) | (with_reducible refine below_call ?_ ?_ (by assumption)) | go_size)), ?_⟩
    simp only [Act.put, List.setIfInBounds_toArray, List.set_cons_zero, List.set_cons_succ]
    refine wpAnyH_all (rs := [7]) (by kernel_rfl) (by decide) (List.forall_mem_cons.2 ⟨?_, fun _ h => absurd h List.not_mem_nil⟩)
    refine wpOp_wp rfl rfl (wp_call_at 21 rfl (f := 47) (args := #[.int .i64 h, .slice (some ⟨w4.heap.size, 0, none⟩) 2 2]) (by go_simp) ((timesOf_any h (a, b, c, d) (mirQ a b c d) w4.heap.size hh HP.out HQ.out _ (by simp) (two_new w4 _ a b c d (lowNum (-a) b) (lowDen (-a) b) (lowNum (-c) d) (lowDen (-c) d))).mono ?_))
    rintro e5 w5 ⟨v, rfl, hr, hb5⟩
    have HR := Lib.hid (hr.mono (show w.heap.size ≤ _ by simp; omega))
    have hS5 : Below w1.heap.size w1 w5 := Below.trans (b := (w4.alloc (.cells #[.int .i64 a, .int .i64 b, .int .i64 c, .int .i64 d, .int .i64 (lowNum (-a) b), .int .i64 (lowDen (-a) b), .int .i64 (lowNum (-c) d), .int .i64 (lowDen (-c) d)] 63))) (by (repeat' (first | (with_reducible exact Below.refl _ _) | (with_reducible assumption) | (with_reducible refine Below.alloc ?_ ?_ _) | (with_reducible refine Below.drew ?_) | (with_reducible refine below_drewN ?_ _) | (with_reducible refine Below.setCell ?_ ?_ _) | (with_reducible refine below_call ?_ ?_ (by assumption)) | go_size))) (hb5.mono (by simp; omega))
    clear hr
    refine ⟨_, rfl, hS5, ?_⟩
    simp only [Act.put, List.setIfInBounds_toArray, List.set_cons_zero, List.set_cons_succ]
    refine take_first (i := 8) (v := v) 4 rfl rfl (by kernel_rfl) (by kernel_rfl) (by kernel_rfl) (fun _ _ _ h => h) (by rfl) ?_ (by assumption) ?_
    · intro W hS'
      obtain ⟨hcq, hfq⟩ := bcell hS'
      go_simp
    simp only [Act.put, List.setIfInBounds_toArray, List.set_cons_zero, List.set_cons_succ]
    refine take_first (i := 9) (v := .bool true) 5 rfl rfl (by kernel_rfl) (by kernel_rfl) (by kernel_rfl) (fun _ _ _ h => h) (by rfl) ?_ (by assumption) ?_
    · intro W hS'
      obtain ⟨hcq, hfq⟩ := bcell hS'
      go_simp
    simp only [Act.put, List.setIfInBounds_toArray, List.set_cons_zero, List.set_cons_succ]
    refine wpAnyH_done (by kernel_rfl) ?_ _
    have hbw : Below w.heap.size w w5 := hbz.trans (hS5.mono hbz.size)
    go_wp2
    go_ret2
    exact ⟨_, rfl, HR.out, hbw⟩
set_option maxHeartbeats 1600000 in
theorem specTimesInGlass_any (h a b c d : Int) (kb : (-9223372036854775808 ≤ b ∧ b ≤ 9223372036854775807)) (kd : (-9223372036854775808 ≤ d ∧ d ≤ 9223372036854775807)) (w : World) :
    Calls Tryz.prog 21 #[.int .i64 h, sn a b c d] w (TurnsOut w (twoR h a b c d (mirQ a b c d)).1 (twoR h a b c d (mirQ a b c d)).2) := by
  cases ga : seAskB h a b c d
  · rw [show twoR h a b c d (mirQ a b c d) = ([], false) from by simp [twoR, ga]]
    (go_enter Tryz.func21, Tryz.ntmps21)
    go_wp2_with fail
    refine (seAsked_is _ _ _ _ _ ga kb kd _).mono ?_
    (rintro e1 w1 ⟨rfl, hb1⟩; obtain ⟨hc1, hf1⟩ := bcell hb1; have hz1 := hb1.size; (try simp only [World.size_alloc, World.size_setCell, World.size_drew] at hz1); have q1 : w.heap.size ≤ w1.heap.size := (by omega); (try have q1_0 : w.heap.size < w1.heap.size := (by omega)); (try have q1_1 : w.heap.size + 1 < w1.heap.size := (by omega)); (try have q1_2 : w.heap.size + 2 < w1.heap.size := (by omega)); (try have q1_3 : w.heap.size + 3 < w1.heap.size := (by omega)))
    go_wp2
    go_ret2
    exact TurnsOut.none (by (repeat' (first | (with_reducible exact Below.refl _ _) | (with_reducible assumption) | (with_reducible refine Below.alloc ?_ ?_ _) | (with_reducible refine Below.drew ?_) | (with_reducible refine below_drewN ?_ _) | (with_reducible refine Below.setCell ?_ ?_ _) | (with_reducible refine below_call ?_ ?_ (by assumption)) | go_size)))
  · rw [show twoR h a b c d (mirQ a b c d) = (insAll (accT h (a, b, c, d) (mirQ a b c d) 2), true) from by simp [twoR, ga]]
    have gb : seenB a b c d = true := by simp only [seAskB, Bool.and_eq_true] at ga; exact ga.2
    have hh := (seAskB_bd ga).1
    obtain ⟨⟨b1, b2, b3, b4⟩, d1, d2, d3, d4⟩ := seenB_bd gb
    have hq := mirQ_good gb
    have HGP0 := Lib.hid (fun k => nth2_good (show G4 (a, b, c, d) from gb) hq k)
    have HAC0 := Lib.hid (accT_good (h := h) (show G4 (a, b, c, d) from gb) hq)
    clear hq gb
    (go_enter Tryz.func21, Tryz.ntmps21)
    go_wp2_with fail
    refine (seAsked_is _ _ _ _ _ ga kb kd _).mono ?_
    (rintro e1 w1 ⟨rfl, hb1⟩; obtain ⟨hc1, hf1⟩ := bcell hb1; have hz1 := hb1.size; (try simp only [World.size_alloc, World.size_setCell, World.size_drew] at hz1); have q1 : w.heap.size ≤ w1.heap.size := (by omega); (try have q1_0 : w.heap.size < w1.heap.size := (by omega)); (try have q1_1 : w.heap.size + 1 < w1.heap.size := (by omega)); (try have q1_2 : w.heap.size + 2 < w1.heap.size := (by omega)); (try have q1_3 : w.heap.size + 3 < w1.heap.size := (by omega)))
    have hz1' := hb1.size
    simp only [World.size_alloc] at hz1'
    have k0 : w1.cell? ⟨w.heap.size, 0, none⟩ = some (.int .i64 a) := (hc1 _ _ (by go_size)).trans (by go_simp)
    have k1 : w1.cell? ⟨w.heap.size, 1, none⟩ = some (.int .i64 b) := (hc1 _ _ (by go_size)).trans (by go_simp)
    have k2 : w1.cell? ⟨w.heap.size, 2, none⟩ = some (.int .i64 c) := (hc1 _ _ (by go_size)).trans (by go_simp)
    have k3 : w1.cell? ⟨w.heap.size, 3, none⟩ = some (.int .i64 d) := (hc1 _ _ (by go_size)).trans (by go_simp)
    have u0 : w.heap.size < w1.heap.size := by omega
    have hbz : Below w.heap.size w w1 := by (repeat' (first | (with_reducible exact Below.refl _ _) | (with_reducible assumption) | (with_reducible refine Below.alloc ?_ ?_ _) | (with_reducible refine Below.drew ?_) | (with_reducible refine below_drewN ?_ _) | (with_reducible refine Below.setCell ?_ ?_ _) | (with_reducible refine below_call ?_ ?_ (by assumption)) | go_size))
    clear hc1 hf1
    go_wp2_with fail
    have hS1 : Below w1.heap.size w1 w1.drew := (Below.refl _ _).drew
    refine wp_region_held (by kernel_rfl) (S := fun W => Below w1.heap.size w1 W) ?_
    refine take_first (i := 0) (v := sn a b c d) 13 rfl rfl (by kernel_rfl) (by kernel_rfl) (by kernel_rfl) (fun _ _ _ h => h) (by rfl) ?_ (by assumption) ?_
    · intro W hS'
      obtain ⟨hcq, hfq⟩ := bcell hS'
      go_simp
    simp only [Act.put, List.setIfInBounds_toArray, List.set_cons_zero, List.set_cons_succ]
    refine take_first (i := 1) (v := sn a b c d) 14 rfl rfl (by kernel_rfl) (by kernel_rfl) (by kernel_rfl) (fun _ _ _ h => h) (by rfl) ?_ (by assumption) ?_
    · intro W hS'
      obtain ⟨hcq, hfq⟩ := bcell hS'
      go_simp
    simp only [Act.put, List.setIfInBounds_toArray, List.set_cons_zero, List.set_cons_succ]
    refine take_first (i := 5) (v := .int .i64 0) 18 rfl rfl (by kernel_rfl) (by kernel_rfl) (by kernel_rfl) (fun _ _ _ h => h) (by rfl) ?_ (by assumption) ?_
    · intro W hS'
      obtain ⟨hcq, hfq⟩ := bcell hS'
      go_simp
    simp only [Act.put, List.setIfInBounds_toArray, List.set_cons_zero, List.set_cons_succ]
    refine wpAnyH_all (rs := [2]) (by kernel_rfl) (by decide) (List.forall_mem_cons.2 ⟨?_, fun _ h => absurd h List.not_mem_nil⟩)
    refine wpOp_wp rfl rfl (wp_call_at 15 rfl (f := 49) (args := #[sn a b c d]) (by go_simp) ((seMirror_any a b c d ⟨b1, b2, b3, b4⟩ ⟨d1, d2, d3, d4⟩ _).mono ?_))
    rintro e2 w2 ⟨rfl, hb2⟩
    have hS2 : Below w1.heap.size w1 w2 := hS1.trans (hb2.mono hS1.size)
    refine ⟨_, rfl, hS2, ?_⟩
    simp only [Act.put, List.setIfInBounds_toArray, List.set_cons_zero, List.set_cons_succ]
    have hz2 := hS2.size
    refine wpAnyH_all (rs := [3]) (by kernel_rfl) (by decide) (List.forall_mem_cons.2 ⟨?_, fun _ h => absurd h List.not_mem_nil⟩)
    refine wpOp_value (v := .slice (some ⟨w2.heap.size, 0, none⟩) 2 2) (w' := (w2.alloc (.cells #[.int .i64 a, .int .i64 b, .int .i64 c, .int .i64 d, .int .i64 (lowNum (-a) b), .int .i64 (lowDen (-a) b), .int .i64 (lowNum (-c) d), .int .i64 (lowDen (-c) d)] 27))) 16 rfl rfl rfl (by go_simp) ⟨by (repeat' (first | (with_reducible exact Below.refl _ _) | (with_reducible assumption) | (with_reducible refine Below.alloc ?_ ?_ _) | (with_reducible refine Below.drew ?_) | (with_reducible refine below_drewN ?_ _) | (with_reducible refine Below.setCell ?_ ?_ _) | (with_reducible refine below_call ?_ ?_ (by assumption)) | go_size)), ?_⟩
    simp only [Act.put, List.setIfInBounds_toArray, List.set_cons_zero, List.set_cons_succ]
    have hS3 : Below w1.heap.size w1 (w2.alloc (.cells #[.int .i64 a, .int .i64 b, .int .i64 c, .int .i64 d, .int .i64 (lowNum (-a) b), .int .i64 (lowDen (-a) b), .int .i64 (lowNum (-c) d), .int .i64 (lowDen (-c) d)] 27)) := by (repeat' (first | (with_reducible exact Below.refl _ _) | (with_reducible assumption) | (with_reducible refine Below.alloc ?_ ?_ _) | (with_reducible refine Below.drew ?_) | (with_reducible refine below_drewN ?_ _) | (with_reducible refine Below.setCell ?_ ?_ _) | (with_reducible refine below_call ?_ ?_ (by assumption)) | go_size))
    refine take_first (i := 4) (v := .int .i64 2) 17 rfl rfl (by kernel_rfl) (by kernel_rfl) (by kernel_rfl) (fun _ _ _ h => h) (by rfl) ?_ (by assumption) ?_
    · intro W hS'
      go_simp
    simp only [Act.put, List.setIfInBounds_toArray, List.set_cons_zero, List.set_cons_succ]
    refine wpAnyH_done (by kernel_rfl) ?_ _
    have hbw : Below w.heap.size w (w2.alloc (.cells #[.int .i64 a, .int .i64 b, .int .i64 c, .int .i64 d, .int .i64 (lowNum (-a) b), .int .i64 (lowDen (-a) b), .int .i64 (lowNum (-c) d), .int .i64 (lowDen (-c) d)] 27)) := hbz.trans (hS3.mono hbz.size)
    have HT0 := Lib.hid (two_new w2 27 a b c d (lowNum (-a) b) (lowDen (-a) b) (lowNum (-c) d) (lowDen (-c) d))
    have hz3 : w2.heap.size < ((w2.alloc (.cells #[.int .i64 a, .int .i64 b, .int .i64 c, .int .i64 d, .int .i64 (lowNum (-a) b), .int .i64 (lowDen (-a) b), .int .i64 (lowNum (-c) d), .int .i64 (lowDen (-c) d)] 27))).heap.size := by simp
    have hz0 := hbw.size
    obtain ⟨p, hp⟩ : ∃ p : Q4, p = (a, b, c, d) := ⟨_, rfl⟩
    obtain ⟨q, hq⟩ : ∃ q : Q4, q = (mirQ a b c d) := ⟨_, rfl⟩
    have HT : Hid (Two (w2.alloc (.cells #[.int .i64 a, .int .i64 b, .int .i64 c, .int .i64 d, .int .i64 (lowNum (-a) b), .int .i64 (lowDen (-a) b), .int .i64 (lowNum (-c) d), .int .i64 (lowDen (-c) d)] 27)) w2.heap.size p q) := by
      show Two _ _ p q
      rw [hp, hq]; exact HT0.out
    have HGP : Hid (∀ k, G4 (nth2 p q k)) := by
      show ∀ k, G4 (nth2 p q k)
      rw [hp, hq]; exact HGP0.out
    have HAC : Hid (∀ k, AllGood (accT h p q k)) := by
      show ∀ k, AllGood (accT h p q k)
      rw [hp, hq]; exact HAC0.out
    have HE : Hid (insAll (accT h p q 2) = insAll (accT h (a, b, c, d) (mirQ a b c d) 2)) := by
      show insAll (accT h p q 2) = _
      rw [hp, hq]
    clear hp hq HT0 HGP0 HAC0
    generalize (w2.alloc (.cells #[.int .i64 a, .int .i64 b, .int .i64 c, .int .i64 d, .int .i64 (lowNum (-a) b), .int .i64 (lowDen (-a) b), .int .i64 (lowNum (-c) d), .int .i64 (lowDen (-c) d)] 27)) = w4 at *
    clear hS1 hS2 hS3 hb1 hb2 k0 k1 k2 k3
    go_wp2
    go_loopw [6, 18] (fun u i wr => ∃ k : Nat, k ≤ 2 ∧ i = .int .i64 k ∧ TRow wr w.heap.size u (insAll (accT h p q k)) ∧ Below w4.heap.size w4 wr) (fun _ i _ => 2 - (intOf i).toNat)
    case atStart => exact ⟨0, by omega, rfl, World.ownsRow_nil _ _ _ _, Below.refl _ _⟩
    case round =>
      obtain ⟨k, hk, rfl, hrow, hbr⟩ := hrel
      have hzr := hbr.size
      have i0' : (0 : Int) ≤ (k : Int) := Int.natCast_nonneg _
      by_cases hlt : k < 2
      · have i1 : (k : Int) < 2 := by omega
        have hgr : w2.heap.size < wr.heap.size := by omega
        obtain ⟨e1, e2, e3, e4⟩ := (HT.out.below hz3 hbr) k hlt
        have hbd := seenB_bd (HGP.out k)
        have HS := Lib.hid (accT_succ h p q k hlt)
        have hlen := accT_len h p q k
        have HLN := Lib.hid (insAll_len (accT h p q k))
        have HAG := Lib.hid (insAll_good (HAC.out k)).1
        have HO := Lib.hid hrow
        clear hrow
        generalize accT h p q k = acc at *
        generalize nth2 p q k = s at *
        obtain ⟨x, y, z, u⟩ := s
        simp only at e1 e2 e3 e4 hbd
        obtain ⟨⟨b1', b2', b3', b4'⟩, -⟩ := hbd
        cases ht : trueB h x y z u
        · have HN : Hid (accT h p q (k + 1) = acc) := by
            have hx := HS.out
            simp only [pickT, ht] at hx
            show accT h p q (k + 1) = acc
            simpa using hx
          go_wp2_with fail
          refine (seTrue_is h x y z u ht hh ⟨b1', b2', b3', b4'⟩ _).mono ?_
          rintro e9 w6 ⟨rfl, hb6⟩
          have hz6 := hb6.size
          simp only [World.size_alloc, World.size_setCell] at hz6
          have hbw6 : Below wr.heap.size wr w6 := Below.trans (b := _) (by (repeat' (first | (with_reducible exact Below.refl _ _) | (with_reducible assumption) | (with_reducible refine Below.alloc ?_ ?_ _) | (with_reducible refine Below.drew ?_) | (with_reducible refine below_drewN ?_ _) | (with_reducible refine Below.setCell ?_ ?_ _) | (with_reducible refine below_call ?_ ?_ (by assumption)) | go_size))) (hb6.mono (by simp only [World.size_alloc, World.size_setCell]; omega))
          go_wp2
          go_roundw
          case rel =>
            refine ⟨k + 1, by omega, by go_num, ?_, hbr.trans (hbw6.mono hbr.size)⟩
            rw [HN.out]
            exact TRow.below HO.out hbw6
          case measure => simp [intOf]; omega
        · have HN : Hid (accT h p q (k + 1) = acc ++ [(x, y)]) := by
            have hx := HS.out
            simp only [pickT, ht] at hx
            show accT h p q (k + 1) = acc ++ [(x, y)]
            simpa using hx
          go_wp2_with fail
          refine (seTrue_is h x y z u ht hh ⟨b1', b2', b3', b4'⟩ _).mono ?_
          rintro e9 w6 ⟨rfl, hb6⟩
          obtain ⟨hc6, hf6⟩ := bcell hb6
          have hz6 := hb6.size
          simp only [World.size_alloc, World.size_setCell] at hz6
          have hbw6 : Below wr.heap.size wr w6 := Below.trans (b := _) (by (repeat' (first | (with_reducible exact Below.refl _ _) | (with_reducible assumption) | (with_reducible refine Below.alloc ?_ ?_ _) | (with_reducible refine Below.drew ?_) | (with_reducible refine below_drewN ?_ _) | (with_reducible refine Below.setCell ?_ ?_ _) | (with_reducible refine below_call ?_ ?_ (by assumption)) | go_size))) (hb6.mono (by simp only [World.size_alloc, World.size_setCell]; omega))
          have c0 : w6.cell? ⟨wr.heap.size, 0, none⟩ = some (.int .i64 x) := (hc6 _ _ (by simp only [World.size_alloc, World.size_setCell]; omega)).trans (by go_simp)
          have c1 : w6.cell? ⟨wr.heap.size, 1, none⟩ = some (.int .i64 y) := (hc6 _ _ (by simp only [World.size_alloc, World.size_setCell]; omega)).trans (by go_simp)
          have s2 : wr.heap.size < w6.heap.size := by omega
          have HO2 := Lib.hid (TRow.below HO.out hbw6)
          have HB6 : Hid (Below w4.heap.size w4 w6) := hbr.trans (hbw6.mono hbr.size)
          have hlen2 : (insAll acc).length ≤ 1000000 := Nat.le_trans HLN.out (by omega)
          clear hc6 hf6 e1 e2 e3 e4
          go_wp2_with fail
          refine (sePut_any (insAll acc) u6 w.heap.size x y _ HO2.out (goodL_of HAG.out) ⟨b1', b2', b3', b4'⟩ hlen2 (by omega)).mono ?_
          rintro e7 w7 ⟨v7, rfl, hr7, hb7⟩
          have HR7 := Lib.hid hr7
          clear hr7
          go_wp2
          go_roundw
          case rel =>
            refine ⟨k + 1, by omega, by go_num, ?_, HB6.out.trans (hb7.mono (by omega))⟩
            rw [HN.out, insAll_snoc]
            exact HR7.out
          case measure => simp [intOf]; omega
      · obtain rfl : k = 2 := by omega
        have HR := Lib.hid hrow
        clear hrow
        have hbe : Below w.heap.size w wr := hbw.trans (hbr.mono hbw.size)
        go_wp2
        go_ret2
        refine ⟨_, rfl, ?_, hbe⟩
        rw [← HE.out]
        exact HR.out
end Go.Proofs.YticdmochedadbaaGreat
