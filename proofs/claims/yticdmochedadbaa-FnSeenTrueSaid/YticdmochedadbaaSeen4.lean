/- Equal parts of a turn, by the model; all exchanged times: by the program and by the model. -/
import Derived.Test.YticdmochedadbaaSeen3
import Derived.Test.YticdmochedadbaaSeen2
set_option linter.unusedSimpArgs false
set_option linter.unusedVariables false
set_option maxRecDepth 100000
namespace Go.Proofs.Yticdmochedadbaa
open Go.RowKit
attribute [local go_sem ↓] Go.wp_at_zero Go.wp_at_succ
attribute [local go_sem ↓] run_eql_hands run_eql_turn

def exL (h : Int) : List (Int × Int) := if inB h 2 24 then evL (h * h - 1) else []
theorem exL_no {h : Int} (g : inB h 2 24 = false) : exL h = [] := by simp [exL, g]
theorem exL_yes {h : Int} (g : inB h 2 24 = true) : exL h = evL (h * h - 1) := by simp [exL, g]
theorem exL_len (h : Int) : (exL h).length ≤ 1000000 := by
  unfold exL
  split
  · rename_i g
    obtain ⟨h1, h2⟩ := inB_bd g
    obtain ⟨p1, p2⟩ := mulb (show 0 ≤ h by omega) h2 (show 0 ≤ h by omega) h2
    exact evL_len _ (by omega)
  · simp

set_option maxHeartbeats 1600000 in
theorem seParts_any (n : Int) (h1 : 1 ≤ n) (h2 : n ≤ 1000) (w : World) :
    Calls Try.prog 68 #[.int .i64 0, .int .i64 n] w (RowOut w (evL n)) := by
  obtain ⟨i0, hi0, hz0, hz1, hz2⟩ := info_parts Try.infoTurn
  have I0 := Lib.hid hi0
  have Z0 := Lib.hid hz0
  have Z1 := Lib.hid hz1
  have Z2 := Lib.hid hz2
  clear hi0 hz0 hz1 hz2
  (go_enter Try.func68, Try.ntmps68)
  go_wp2
  go_loopw [5, 6] (fun o i wr => ∃ k : Nat, (k : Int) ≤ n ∧ i = .int .i64 k ∧ wr.ownsRow w.heap.size 25 2 o k (flat ((List.range k).map (evT n))) ∧ Below w.heap.size w wr) (fun _ i _ => n.toNat - (intOf i).toNat)
  case atStart => exact ⟨0, by omega, rfl, World.ownsRow_nil _ _ _ _, Below.refl _ _⟩
  case round =>
    obtain ⟨k, hk, rfl, hown, hbel⟩ := hrel
    have HO := Lib.hid hown
    clear hown
    have hzr := hbel.size
    have i0' : (0 : Int) ≤ (k : Int) := Int.natCast_nonneg _
    by_cases hlt : (k : Int) < n
    · have HK := Lib.hid (show mk k n = ((evT n k).1, (evT n k).2, true) from low_fits k n h1 (by omega))
      have HSN := Lib.hid (map_snoc (evT n) k)
      generalize evT n k = t at *
      obtain ⟨x, y⟩ := t
      go_wp2_with fail
      refine (diMake_val k n HK.out h1 (by omega) _).mono ?_
      rintro e2 w2 ⟨rfl, hb2⟩
      obtain ⟨hc2, hf2⟩ := bcell hb2
      have hz2 := hb2.size
      try simp only [World.size_alloc, World.size_setCell, World.size_drew] at hz2
      have HO2 := Lib.hid (World.ownsRow.kept HO.out (row := none) ⟨hb2.os, hb2.tape, hb2.output, hb2.size, fun k hk _ => hb2.block k hk⟩ (by generalize (u5 : Value).ownBlock = z; cases z <;> simp))
      have HLT : ∀ j, (u5 : Value).ownBlock = some j → w.heap.size ≤ j := fun j hj => (World.ownsRow.lt HO.out j hj).1
      go_wp2_with (at_builtin; refine wpList_append_lies _ rfl _ _ _ rfl w.heap.size 25 i0 _ 2 16 Try.underlying38 I0.out Z0.out Z1.out Z2.out rfl (by omega) (u5) (k) _ rfl ((HO2.out.alloc _).alloc _) ⟨w2.heap.size + 1, 0, none⟩ 1 1 [.int .i64 x, .int .i64 y] rfl rfl (World.news_of_block (cs := #[.int .i64 x, .int .i64 y]) (t := 25) (fr := (0, 0)) (by simpa using heap_alloc_new (w2.alloc _) _)) (by simp [Value.oneCell']) (by omega) (by unfold maxLen; omega) (by omega) (by simp; omega) (w2.heap.size + 2) (by simp) ?_; intro g cap w3 hown3 hgrow hat hlt3)
      go_roundw
      case rel =>
        refine ⟨k + 1, by omega, by go_num, ?_, ?_⟩
        · rw [← HSN.out]; exact hown3
        · exact Below.grown (by (repeat' (first | (with_reducible exact Below.refl _ _) | (with_reducible assumption) | (with_reducible refine Below.alloc ?_ ?_ _) | (with_reducible refine Below.drew ?_) | (with_reducible refine below_drewN ?_ _) | (with_reducible refine Below.setCell ?_ ?_ _) | (with_reducible refine below_call ?_ ?_ (by assumption)) | go_size))) hgrow (by simp; omega) HLT
      case measure => simp [intOf]; omega
    · go_wp2
      go_ret
      have hkh : k = n.toNat := by omega
      subst hkh
      refine ⟨_, rfl, ?_, ?_⟩
      · unfold TRow
        simpa [evL] using HO.out
      · (repeat' (first | (with_reducible exact Below.refl _ _) | (with_reducible assumption) | (with_reducible refine Below.alloc ?_ ?_ _) | (with_reducible refine Below.drew ?_) | (with_reducible refine below_drewN ?_ _) | (with_reducible refine Below.setCell ?_ ?_ _) | (with_reducible refine below_call ?_ ?_ (by assumption)) | go_size))

set_option maxHeartbeats 800000 in
theorem implAllExchanged_any (h : Int) (w : World) :
    Calls Try.prog 20 #[.int .i64 h] w (TurnsOut w (exL h) (inB h 2 24)) := by
  cases ga : inB h 2 24
  · rw [exL_no ga]
    (go_enter Try.func20, Try.ntmps20)
    go_wp2_with fail
    refine (isDial_is _ ga _).mono ?_
    (rintro e1 w1 ⟨rfl, rfl⟩)
    go_wp2
    go_ret2
    exact TurnsOut.none (by (repeat' (first | (with_reducible exact Below.refl _ _) | (with_reducible assumption) | (with_reducible refine Below.alloc ?_ ?_ _) | (with_reducible refine Below.drew ?_) | (with_reducible refine below_drewN ?_ _) | (with_reducible refine Below.setCell ?_ ?_ _) | (with_reducible refine below_call ?_ ?_ (by assumption)) | go_size)))
  · obtain ⟨h1, h2⟩ := inB_bd ga
    obtain ⟨p1, p2⟩ := mulb (show 0 ≤ h by omega) h2 (show 0 ≤ h by omega) h2
    obtain ⟨p3, p4⟩ := mulb (show 0 ≤ h - 2 by omega) (show h - 2 ≤ 22 by omega) (show 0 ≤ h by omega) h2
    have p5 : (h - 2) * h = h * h - 2 * h := by rw [Int.sub_mul]
    rw [exL_yes ga]
    (go_enter Try.func20, Try.ntmps20)
    go_wp2_with fail
    refine (isDial_is _ ga _).mono ?_
    (rintro e1 w1 ⟨rfl, rfl⟩)
    go_wp2_with fail
    refine (evenTimes_any (h * h - 1) (by omega) (by omega) _).mono ?_
    rintro e1 w1 ⟨v1, rfl, hr1, hb1⟩
    have HR1 := Lib.hid hr1
    clear hr1
    go_wp2
    go_ret2
    exact ⟨_, rfl, HR1.out, by (repeat' (first | (with_reducible exact Below.refl _ _) | (with_reducible assumption) | (with_reducible refine Below.alloc ?_ ?_ _) | (with_reducible refine Below.drew ?_) | (with_reducible refine below_drewN ?_ _) | (with_reducible refine Below.setCell ?_ ?_ _) | (with_reducible refine below_call ?_ ?_ (by assumption)) | go_size))⟩

set_option maxHeartbeats 800000 in
theorem specAllExchanged_any (h : Int) (w : World) :
    Calls Try.prog 21 #[.int .i64 h] w (TurnsOut w (exL h) (inB h 2 24)) := by
  cases ga : inB h 2 24
  · rw [exL_no ga]
    (go_enter Try.func21, Try.ntmps21)
    go_wp2_with fail
    refine (diHours_is _ ga _).mono ?_
    (rintro e1 w1 ⟨rfl, rfl⟩)
    go_wp2
    go_ret2
    exact TurnsOut.none (by (repeat' (first | (with_reducible exact Below.refl _ _) | (with_reducible assumption) | (with_reducible refine Below.alloc ?_ ?_ _) | (with_reducible refine Below.drew ?_) | (with_reducible refine below_drewN ?_ _) | (with_reducible refine Below.setCell ?_ ?_ _) | (with_reducible refine below_call ?_ ?_ (by assumption)) | go_size)))
  · obtain ⟨h1, h2⟩ := inB_bd ga
    obtain ⟨p1, p2⟩ := mulb (show 0 ≤ h by omega) h2 (show 0 ≤ h by omega) h2
    obtain ⟨p3, p4⟩ := mulb (show 0 ≤ h - 2 by omega) (show h - 2 ≤ 22 by omega) (show 0 ≤ h by omega) h2
    have p5 : (h - 2) * h = h * h - 2 * h := by rw [Int.sub_mul]
    rw [exL_yes ga]
    (go_enter Try.func21, Try.ntmps21)
    go_wp2_with fail
    refine (diHours_is _ ga _).mono ?_
    (rintro e1 w1 ⟨rfl, rfl⟩)
    go_wp2_with fail
    refine (seParts_any (h * h - 1) (by omega) (by omega) _).mono ?_
    rintro e1 w1 ⟨v1, rfl, hr1, hb1⟩
    have HR1 := Lib.hid hr1
    clear hr1
    go_wp2
    go_ret2
    exact ⟨_, rfl, HR1.out, by (repeat' (first | (with_reducible exact Below.refl _ _) | (with_reducible assumption) | (with_reducible refine Below.alloc ?_ ?_ _) | (with_reducible refine Below.drew ?_) | (with_reducible refine below_drewN ?_ _) | (with_reducible refine Below.setCell ?_ ?_ _) | (with_reducible refine below_call ?_ ?_ (by assumption)) | go_size))⟩

/-! ### Own mirrors -/
def ownL (h : Int) : List (Int × Int) := if inB h 2 24 then evL 2 else []
theorem ownL_len (h : Int) : (ownL h).length ≤ 1000000 := by
  unfold ownL
  split
  · exact evL_len _ (by omega)
  · simp
set_option maxHeartbeats 800000 in
theorem implOwnMirrors_any (h : Int) (w : World) :
    Calls Try.prog 24 #[.int .i64 h] w (TurnsOut w (ownL h) (inB h 2 24)) := by
  cases ga : inB h 2 24
  · rw [show ownL h = [] from by simp [ownL, ga]]
    (go_enter Try.func24, Try.ntmps24)
    go_wp2_with fail
    refine (isDial_is _ ga _).mono ?_
    (rintro e1 w1 ⟨rfl, rfl⟩)
    go_wp2
    go_ret2
    exact TurnsOut.none (by (repeat' (first | (with_reducible exact Below.refl _ _) | (with_reducible assumption) | (with_reducible refine Below.alloc ?_ ?_ _) | (with_reducible refine Below.drew ?_) | (with_reducible refine below_drewN ?_ _) | (with_reducible refine Below.setCell ?_ ?_ _) | (with_reducible refine below_call ?_ ?_ (by assumption)) | go_size)))
  · rw [show ownL h = evL 2 from by simp [ownL, ga]]
    (go_enter Try.func24, Try.ntmps24)
    go_wp2_with fail
    refine (isDial_is _ ga _).mono ?_
    (rintro e1 w1 ⟨rfl, rfl⟩)
    go_wp2_with fail
    refine (evenTimes_any 2 (by omega) (by omega) _).mono ?_
    rintro e1 w1 ⟨v1, rfl, hr1, hb1⟩
    have HR1 := Lib.hid hr1
    clear hr1
    go_wp2
    go_ret2
    exact ⟨_, rfl, HR1.out, by (repeat' (first | (with_reducible exact Below.refl _ _) | (with_reducible assumption) | (with_reducible refine Below.alloc ?_ ?_ _) | (with_reducible refine Below.drew ?_) | (with_reducible refine below_drewN ?_ _) | (with_reducible refine Below.setCell ?_ ?_ _) | (with_reducible refine below_call ?_ ?_ (by assumption)) | go_size))⟩
theorem evL2 : evL 2 = [(0, 1), (1, 2)] := by decide
/-- At the top and at the bottom the same is seen in a mirror. -/
theorem own_same {h : Int} (hh : 2 ≤ h ∧ h ≤ 24) {t : Int × Int} (ht : t = (0, 1) ∨ t = (1, 2)) :
    lowNum (-t.1) t.2 = t.1 ∧ lowDen (-t.1) t.2 = t.2 ∧ lowNum (-(lowNum (t.1 * h) t.2)) (lowDen (t.1 * h) t.2) = lowNum (t.1 * h) t.2 ∧ lowDen (-(lowNum (t.1 * h) t.2)) (lowDen (t.1 * h) t.2) = lowDen (t.1 * h) t.2 := by
  have e : h = 2 ∨ h = 3 ∨ h = 4 ∨ h = 5 ∨ h = 6 ∨ h = 7 ∨ h = 8 ∨ h = 9 ∨ h = 10 ∨ h = 11 ∨ h = 12 ∨ h = 13 ∨ h = 14 ∨ h = 15 ∨ h = 16 ∨ h = 17 ∨ h = 18 ∨ h = 19 ∨ h = 20 ∨ h = 21 ∨ h = 22 ∨ h = 23 ∨ h = 24 := by omega
  rcases ht with rfl | rfl <;> rcases e with rfl | rfl | rfl | rfl | rfl | rfl | rfl | rfl | rfl | rfl | rfl | rfl | rfl | rfl | rfl | rfl | rfl | rfl | rfl | rfl | rfl | rfl | rfl <;> decide
/-- '==' between two structs of two turns. -/
theorem run_eql_seen (a b c d a' b' c' d' : Int) (w : World) : (binOp .eql 31 (sn a b c d) (sn a' b' c' d')).run Try.prog w = .ok (.bool (eqT a b a' b' && eqT c d c' d')) w := by
  have hu' : Try.prog.underlying 31 = some (.struct (Try.prog.fieldsOf 31)) := by kernel_rfl
  have hp' : Try.prog.stoodInHeld 31 = false := by kernel_rfl
  have hp : Try.prog.stoodInHeld 25 = false := by kernel_rfl
  have hu : Try.prog.underlying 25 = some (.struct (Try.prog.fieldsOf 25)) := by kernel_rfl
  have u3 := Try.underlying3
  have a3 := Try.isAgg3
  have z3 := Try.sizeOf3
  have a2 := Try.isAgg25
  have z2 := Try.sizeOf25
  have e : ∀ (x y x' y' : Int), (Op.equalIn 9999 25 (.agg #[.int .i64 x, .int .i64 y]) (.agg #[.int .i64 x', .int .i64 y'])).run Try.prog w = .ok (eqT x y x' y') w := fun x y x' y' => by
    rw [show (9999 : Nat) = 9998 + 1 from rfl, run_equalIn_agg w 9998 25 _ _ hu hp]
    simp only [Program.fieldsOf, Try.underlying25]
    go_simp
    by_cases h1 : x = x' <;> by_cases h2 : y = y' <;> simp [h1, h2, eqT]
  rw [run_eql_struct, show (10000 : Nat) = 9999 + 1 from rfl, run_equalIn_agg w 9999 31 _ _ hu' hp']
  simp only [Program.fieldsOf, Try.underlying31]
  clear hu hp hu' hp'
  go_simp
  by_cases h1 : a = a' <;> by_cases h2 : b = b' <;> by_cases h3 : c = c' <;> by_cases h4 : d = d' <;> simp [h1, h2, h3, h4, eqT]
attribute [local go_sem ↓] run_eql_seen
set_option maxHeartbeats 1600000 in
theorem specOwnMirrors_any (h : Int) (w : World) :
    Calls Try.prog 25 #[.int .i64 h] w (TurnsOut w (ownL h) (inB h 2 24)) := by
  cases ga : inB h 2 24
  · rw [show ownL h = [] from by simp [ownL, ga]]
    (go_enter Try.func25, Try.ntmps25)
    go_wp2_with fail
    refine (diHours_is _ ga _).mono ?_
    (rintro e1 w1 ⟨rfl, rfl⟩)
    go_wp2
    go_ret2
    exact TurnsOut.none (by (repeat' (first | (with_reducible exact Below.refl _ _) | (with_reducible assumption) | (with_reducible refine Below.alloc ?_ ?_ _) | (with_reducible refine Below.drew ?_) | (with_reducible refine below_drewN ?_ _) | (with_reducible refine Below.setCell ?_ ?_ _) | (with_reducible refine below_call ?_ ?_ (by assumption)) | go_size)))
  · have hh := inB_bd ga
    rw [show ownL h = evL 2 from by simp [ownL, ga]]
    obtain ⟨i0, hi0, hz0, hz1, hz2⟩ := info_parts Try.infoTurn
    have I0 := Lib.hid hi0
    have Z0 := Lib.hid hz0
    have Z1 := Lib.hid hz1
    have Z2 := Lib.hid hz2
    clear hi0 hz0 hz1 hz2
    (go_enter Try.func25, Try.ntmps25)
    go_wp2_with fail
    refine (diHours_is _ ga _).mono ?_
    (rintro e1 w1 ⟨rfl, rfl⟩)
    go_wp2_with fail
    refine (seParts_any 2 (by omega) (by omega) _).mono ?_
    rintro e1 w1 ⟨v1, rfl, hr1, hb1⟩
    rw [evL2] at *
    obtain ⟨a1, c1, rfl, l1, m1, x1⟩ := hr1.cells
    have X1 := Lib.hid x1
    have hz1 := hb1.size
    clear hr1 x1
    simp only [List.length_cons, List.length_nil] at l1
    go_wp2
    go_loopw [4, 12] (fun o i wr => ∃ k : Nat, k ≤ 2 ∧ i = .int .i64 k ∧ wr.ownsRow w1.heap.size 25 2 o k (flat (([(0, 1), (1, 2)] : List (Int × Int)).take k)) ∧ Below w1.heap.size w1 wr) (fun _ i _ => 2 - (intOf i).toNat)
    case atStart => exact ⟨0, by omega, rfl, World.ownsRow_nil _ _ _ _, Below.refl _ _⟩
    case round =>
      obtain ⟨k, hk, rfl, hown, hbel⟩ := hrel
      have HO := Lib.hid hown
      clear hown
      have hzr := hbel.size
      obtain ⟨hcr, hfr⟩ := bcell hbel
      have i0' : (0 : Int) ≤ (k : Int) := Int.natCast_nonneg _
      by_cases hlt : k < 2
      · obtain ⟨g1, rfl, e1, e2, e3, e4⟩ := X1.out k hlt
        have i1 : (k : Int) < 2 := by omega
        have HS : Hid (flat (([(0, 1), (1, 2)] : List (Int × Int)).take (k + 1)) = flat (([(0, 1), (1, 2)] : List (Int × Int)).take k) ++ [.int .i64 (([(0, 1), (1, 2)] : List (Int × Int)).getD k (0, 0)).1, .int .i64 (([(0, 1), (1, 2)] : List (Int × Int)).getD k (0, 0)).2]) := by
          rcases (show k = 0 ∨ k = 1 by omega) with rfl | rfl <;> exact rfl
        have hg : (([(0, 1), (1, 2)] : List (Int × Int)).getD k (0, 0)) = (0, 1) ∨ (([(0, 1), (1, 2)] : List (Int × Int)).getD k (0, 0)) = (1, 2) := by
          rcases (show k = 0 ∨ k = 1 by omega) with rfl | rfl
          · exact .inl rfl
          · exact .inr rfl
        generalize ([(0, 1), (1, 2)] : List (Int × Int)).getD k (0, 0) = t at *
        have hsm := own_same hh hg
        have hbt : 1 ≤ t.2 ∧ t.2 ≤ 1000000 ∧ 0 ≤ t.1 ∧ t.1 ≤ 999999 := by rcases hg with rfl | rfl <;> decide
        obtain ⟨x, y⟩ := t
        simp only at e3 e4 hsm hbt
        clear hg
        obtain ⟨b1, b2, b3, b4⟩ := hbt
        have gl := goodB_bd (low_le (x * h) y ⟨b1, b2⟩)
        have e5 := (hcr g1 (k * 2) (by omega)).trans e3
        have e6 := (hcr g1 (k * 2 + 1) (by omega)).trans e4
        have e7 : g1 < wr.heap.size := by omega
        have HT : Hid ((eqT (lowNum (-x) y) (lowDen (-x) y) x y && eqT (lowNum (-(lowNum (x * h) y)) (lowDen (x * h) y)) (lowDen (-(lowNum (x * h) y)) (lowDen (x * h) y)) (lowNum (x * h) y) (lowDen (x * h) y)) = true) := by
          show (_ && _) = true
          simp [eqT, hsm]
        clear hsm e3 e4 hcr hfr
        have HC1 := Lib.hid (fun W : World => seOf_any h x y hh ⟨b1, b2, b3, b4⟩ W)
        have HC2 := Lib.hid (fun W : World => seMirror_any x y (lowNum (x * h) y) (lowDen (x * h) y) ⟨b1, b2, b3, b4⟩ gl W)
        clear gl
        generalize lowNum (x * h) y = p at *
        generalize lowDen (x * h) y = q at *
        go_wp2_with fail
        refine wp_region_below (by kernel_rfl) (by kernel_rfl) ?_
        (apply wpB_take (hw := rfl); (intro wq hq; obtain ⟨hcq, hfq⟩ := bcell hq; unfold atB; go_simp; exact ⟨rfl, rfl⟩); simp only [Act.put, List.setIfInBounds_toArray, List.set_cons_zero, List.set_cons_succ])
        (apply wpB_take (hw := rfl); (intro wq hq; obtain ⟨hcq, hfq⟩ := bcell hq; unfold atB; go_simp; exact ⟨rfl, rfl⟩); simp only [Act.put, List.setIfInBounds_toArray, List.set_cons_zero, List.set_cons_succ])
        (apply wpB_take (hw := rfl); (intro wq hq; unfold atB; go_simp; exact ⟨rfl, HC1.out _⟩); simp only [Act.put, List.setIfInBounds_toArray, List.set_cons_zero, List.set_cons_succ])
        (apply wpB_take (hw := rfl); (intro wq hq; unfold atB; go_simp; exact ⟨rfl, HC2.out _⟩); simp only [Act.put, List.setIfInBounds_toArray, List.set_cons_zero, List.set_cons_succ])
        (apply wpB_take (hw := rfl); (intro wq hq; obtain ⟨hcq, hfq⟩ := bcell hq; unfold atB; go_simp; exact ⟨rfl, rfl⟩); simp only [Act.put, List.setIfInBounds_toArray, List.set_cons_zero, List.set_cons_succ])
        (apply wpB_take (hw := rfl); (intro wq hq; obtain ⟨hcq, hfq⟩ := bcell hq; unfold atB; go_simp; exact ⟨rfl, rfl⟩); simp only [Act.put, List.setIfInBounds_toArray, List.set_cons_zero, List.set_cons_succ])
        (apply wpB_take (hw := rfl); (intro wq hq; unfold atB; go_simp; exact ⟨rfl, HC1.out _⟩); simp only [Act.put, List.setIfInBounds_toArray, List.set_cons_zero, List.set_cons_succ])
        (apply wpB_take (hw := rfl); (intro wq hq; obtain ⟨hcq, hfq⟩ := bcell hq; unfold atB; go_simp; exact ⟨rfl, rfl⟩); simp only [Act.put, List.setIfInBounds_toArray, List.set_cons_zero, List.set_cons_succ])
        refine fun w2 hb2 => ?_
        try simp only [Act.put, List.setIfInBounds_toArray, List.set_cons_zero, List.set_cons_succ]
        rw [HT.out]
        obtain ⟨hc2, hf2⟩ := bcell hb2
        have hz2 := hb2.size
        try simp only [World.size_alloc, World.size_setCell, World.size_drew] at hz2
        have HO2 := Lib.hid (World.ownsRow.kept (HO.out.alloc _) (row := none) ⟨hb2.os, hb2.tape, hb2.output, hb2.size, fun k hk _ => hb2.block k hk⟩ (by generalize (u4 : Value).ownBlock = z; cases z <;> simp))
        have HLT : ∀ j, (u4 : Value).ownBlock = some j → w1.heap.size ≤ j := fun j hj => (World.ownsRow.lt HO.out j hj).1
        go_wp2_with (at_builtin; refine wpList_append_lies _ rfl _ _ _ rfl w1.heap.size 25 i0 _ 2 16 Try.underlying38 I0.out Z0.out Z1.out Z2.out rfl (by omega) (u4) (k) _ rfl (HO2.out.alloc _) ⟨w2.heap.size, 0, none⟩ 1 1 [.int .i64 x, .int .i64 y] rfl rfl (World.news_of_block (cs := #[.int .i64 x, .int .i64 y]) (t := 25) (fr := (0, 0)) (by simpa using heap_alloc_new w2 _)) (by simp [Value.oneCell']) (by omega) (by unfold maxLen; omega) (by omega) (by simp; omega) (w2.heap.size + 1) (by simp) ?_; intro g cap w3 hown3 hgrow hat hlt3)
        go_roundw
        case rel =>
          refine ⟨k + 1, by omega, by go_num, ?_, ?_⟩
          · rw [HS.out]; exact hown3
          · exact Below.grown (hbel.trans (show Below w1.heap.size wr _ from Below.mono (B := wr.heap.size) (by (repeat' (first | (with_reducible exact Below.refl _ _) | (with_reducible assumption) | (with_reducible refine Below.alloc ?_ ?_ _) | (with_reducible refine Below.drew ?_) | (with_reducible refine below_drewN ?_ _) | (with_reducible refine Below.setCell ?_ ?_ _) | (with_reducible refine below_call ?_ ?_ (by assumption)) | go_size))) (by omega))) hgrow (by simp; omega) HLT
        case measure => simp [intOf]; omega
      · go_wp2
        go_ret2
        have hkh : k = 2 := by omega
        subst hkh
        refine ⟨_, rfl, TRow.mono ?_ (show w.heap.size ≤ w1.heap.size by omega), ?_⟩
        · unfold TRow
          simpa using HO.out
        · (repeat' (first | (with_reducible exact Below.refl _ _) | (with_reducible assumption) | (with_reducible refine Below.alloc ?_ ?_ _) | (with_reducible refine Below.drew ?_) | (with_reducible refine below_drewN ?_ _) | (with_reducible refine Below.setCell ?_ ?_ _) | (with_reducible refine below_call ?_ ?_ (by assumption)) | go_size))
end Go.Proofs.Yticdmochedadbaa
