/- All times with the long hand at a place, by the program and by the model. -/
import Derived.Test.YtebjlaajddpbhaaDial4
import Derived.Test.YtebjlaajddpbhaaParts
set_option linter.unusedSimpArgs false
set_option linter.unusedVariables false
set_option maxRecDepth 100000
namespace Go.Proofs.Ytebjlaajddpbhaa
open Go.RowKit

def twlOk (h n d : Int) : Bool := askB h n d && (List.range h.toNat).all fun j => decide ((twl h n d j).2 ≤ 1000000)
def twlL (h n d : Int) : List (Int × Int) := if twlOk h n d then (List.range h.toNat).map (twl h n d) else []
theorem twl_no {h n d : Int} (hb : twlOk h n d = false) : twlL h n d = [] := by simp [twlL, hb]
theorem twl_bad {h n d : Int} {k : Nat} (hk : k < h.toNat) (hb : ¬ (twl h n d k).2 ≤ 1000000) : twlOk h n d = false := by
  have : (List.range h.toNat).all (fun j => decide ((twl h n d j).2 ≤ 1000000)) = false := by
    rw [List.all_eq_false]
    exact ⟨k, List.mem_range.2 hk, by simpa using hb⟩
  simp [twlOk, this]
theorem twl_yes {h n d : Int} (ha : askB h n d = true) (hb : ∀ j, j < h.toNat → (twl h n d j).2 ≤ 1000000) : twlOk h n d = true ∧ twlL h n d = (List.range h.toNat).map (twl h n d) := by
  have : twlOk h n d = true := by
    simp only [twlOk, ha, Bool.true_and, List.all_eq_true, List.mem_range, decide_eq_true_eq]
    exact hb
  exact ⟨this, by simp [twlL, this]⟩
theorem twlL_len (h n d : Int) : (twlL h n d).length ≤ 1000000 := by
  unfold twlL
  split
  · rename_i hb
    simp only [twlOk, askB, Bool.and_eq_true] at hb
    have := inB_bd hb.1.1
    simp; omega
  · simp
set_option maxHeartbeats 1600000 in
theorem specTimesWithLong_any (h n d : Int) (kd : -9223372036854775808 ≤ d ∧ d ≤ 9223372036854775807) (w : World) :
    Calls Try.prog 51 #[.int .i64 h, tv n d] w (TurnsOut w (twlL h n d) (twlOk h n d)) := by
  cases ga : askB h n d
  · have hk : twlOk h n d = false := by simp [twlOk, ga]
    rw [twl_no hk, hk]
    clear hk
    (go_enter Try.func51, Try.ntmps51)
    go_wp2_with fail
    refine (diAsked_is h n d ga kd _).mono ?_
    (rintro e1 w1 ⟨rfl, hb1⟩; obtain ⟨hc1, hf1⟩ := bcell hb1; have hz1 := hb1.size; (try simp only [World.size_alloc, World.size_setCell, World.size_drew] at hz1); have q1 : w.heap.size ≤ w1.heap.size := (by omega); (try have q1_0 : w.heap.size < w1.heap.size := (by omega)); (try have q1_1 : w.heap.size + 1 < w1.heap.size := (by omega)); (try have q1_2 : w.heap.size + 2 < w1.heap.size := (by omega)); (try have q1_3 : w.heap.size + 3 < w1.heap.size := (by omega)))
    go_wp2
    go_ret2
    exact TurnsOut.none (by (repeat' (first | (with_reducible exact Below.refl _ _) | (with_reducible assumption) | (with_reducible refine Below.alloc ?_ ?_ _) | (with_reducible refine Below.drew ?_) | (with_reducible refine below_drewN ?_ _) | (with_reducible refine Below.setCell ?_ ?_ _) | (with_reducible refine below_call ?_ ?_ (by assumption)) | go_size)))
  · have hbd := askB_bd ga
    obtain ⟨⟨c1, c2⟩, a1, a2, a3, a4⟩ := hbd
    have GA := Lib.hid ga
    obtain ⟨i0, hi0, hz0, hz1, hz2⟩ := info_parts Try.infoTurn
    have I0 := Lib.hid hi0
    have Z0 := Lib.hid hz0
    have Z1 := Lib.hid hz1
    have Z2 := Lib.hid hz2
    clear hi0 hz0 hz1 hz2
    obtain ⟨p1, p2⟩ := mulb (show 0 ≤ d by omega) a2 (show 0 ≤ h by omega) c2
    have p3 : 1 ≤ d * h := Int.mul_pos (by omega) (by omega)
    (go_enter Try.func51, Try.ntmps51)
    go_wp2_with fail
    refine (diAsked_is h n d GA.out kd _).mono ?_
    (rintro e1 w1 ⟨rfl, hb1⟩; obtain ⟨hc1, hf1⟩ := bcell hb1; have hz1 := hb1.size; (try simp only [World.size_alloc, World.size_setCell, World.size_drew] at hz1); have q1 : w.heap.size ≤ w1.heap.size := (by omega); (try have q1_0 : w.heap.size < w1.heap.size := (by omega)); (try have q1_1 : w.heap.size + 1 < w1.heap.size := (by omega)); (try have q1_2 : w.heap.size + 2 < w1.heap.size := (by omega)); (try have q1_3 : w.heap.size + 3 < w1.heap.size := (by omega)))
    clear ga
    go_wp2
    go_loopw [6, 7] (fun o i wr => ∃ k : Nat, (k : Int) ≤ h ∧ i = .int .i64 k ∧ wr.ownsRow w1.heap.size 25 2 o k (flat ((List.range k).map (twl h n d))) ∧ (∀ j, j < k → (twl h n d j).2 ≤ 1000000) ∧ Below w1.heap.size w1 wr) (fun _ i _ => h.toNat - (intOf i).toNat)
    case atStart => exact ⟨0, by omega, rfl, World.ownsRow_nil _ _ _ _, fun j hj => absurd hj (Nat.not_lt_zero _), Below.refl _ _⟩
    case round =>
      obtain ⟨k, hk, rfl, hown, hall, hbel⟩ := hrel
      have HO := Lib.hid hown
      have HA := Lib.hid hall
      clear hown hall
      obtain ⟨hcr, hfr⟩ := bcell hbel
      have hzr := hbel.size
      have q5 : w.heap.size < wr.heap.size := by omega
      have i0' : (0 : Int) ≤ (k : Int) := Int.natCast_nonneg _
      by_cases hlt : (k : Int) < h
      · obtain ⟨p4, p5⟩ := mulb (show 0 ≤ (k : Int) by omega) (show (k : Int) ≤ 24 by omega) (show 0 ≤ d by omega) a2
        by_cases hok : (twl h n d k).2 ≤ 1000000
        · have HK := Lib.hid (show mk (n + k * d) (d * h) = ((twl h n d k).1, (twl h n d k).2, true) from mk_of hok)
          have HALL := Lib.hid (show ∀ j, j < k + 1 → (twl h n d j).2 ≤ 1000000 from fun j hj => by
            by_cases hjk : j = k
            · subst hjk; exact hok
            · exact HA.out j (by omega))
          have HSN := Lib.hid (map_snoc (twl h n d) k)
          clear hok
          generalize twl h n d k = t at *
          obtain ⟨x, y⟩ := t
          go_wp2_with fail
          refine (diMake_val (n + k * d) (d * h) HK.out p3 (by omega) _).mono ?_
          rintro e2 w2 ⟨rfl, hb2⟩
          obtain ⟨hc2, hf2⟩ := bcell hb2
          have hz2 := hb2.size
          have HO2 := Lib.hid (World.ownsRow.kept HO.out (row := none) ⟨hb2.os, hb2.tape, hb2.output, hb2.size, fun k hk _ => hb2.block k hk⟩ (by generalize (u6 : Value).ownBlock = z; cases z <;> simp))
          have HLT : ∀ k, u6.ownBlock = some k → w1.heap.size ≤ k := fun k hk => (World.ownsRow.lt HO.out k hk).1
          go_wp2_with (at_builtin; refine wpList_append_lies _ rfl _ _ _ rfl w1.heap.size 25 i0 _ 2 16 Try.underlying44 I0.out Z0.out Z1.out Z2.out rfl (by omega) u6 k _ rfl ((HO2.out.alloc _).alloc _) ⟨w2.heap.size + 1, 0, none⟩ 1 1 [.int .i64 x, .int .i64 y] rfl rfl (World.news_of_block (cs := #[.int .i64 x, .int .i64 y]) (t := 25) (fr := (0, 0)) (by simpa using heap_alloc_new (w2.alloc _) _)) (by simp [Value.oneCell']) (by omega) (by unfold maxLen; omega) (by omega) (by simp; omega) (w2.heap.size + 2) (by simp) ?_; intro g cap w3 hown3 hgrow hat hlt3)
          go_roundw
          case rel =>
            refine ⟨k + 1, by omega, by go_num, ?_, ?_, ?_⟩
            · rw [← HSN.out]; exact hown3
            · exact HALL.out
            · exact Below.grown (by (repeat' (first | (with_reducible exact Below.refl _ _) | (with_reducible assumption) | (with_reducible refine Below.alloc ?_ ?_ _) | (with_reducible refine Below.drew ?_) | (with_reducible refine below_drewN ?_ _) | (with_reducible refine Below.setCell ?_ ?_ _) | (with_reducible refine below_call ?_ ?_ (by assumption)) | go_size))) hgrow (by simp; omega) HLT
          case measure => simp [intOf]; omega
        · have HK := Lib.hid (show mk (n + k * d) (d * h) = (0, 0, false) from mk_not hok)
          have HB := Lib.hid (twl_bad (h := h) (n := n) (d := d) (k := k) (by omega) hok)
          clear hok
          go_wp2_with fail
          refine (diMake_val (n + k * d) (d * h) HK.out p3 (by omega) _).mono ?_
          rintro e2 w2 ⟨rfl, hb2⟩
          obtain ⟨hc2, hf2⟩ := bcell hb2
          have hz2 := hb2.size
          go_wp2
          go_ret2
          rw [twl_no HB.out, HB.out]
          exact TurnsOut.none (by (repeat' (first | (with_reducible exact Below.refl _ _) | (with_reducible assumption) | (with_reducible refine Below.alloc ?_ ?_ _) | (with_reducible refine Below.drew ?_) | (with_reducible refine below_drewN ?_ _) | (with_reducible refine Below.setCell ?_ ?_ _) | (with_reducible refine below_call ?_ ?_ (by assumption)) | go_size)))
      · go_wp2
        go_ret2
        have hkh : k = h.toNat := by omega
        subst hkh
        obtain ⟨y1, y2⟩ := twl_yes GA.out HA.out
        rw [y2, y1]
        refine ⟨_, rfl, TRow.mono ?_ (show w.heap.size ≤ w1.heap.size by omega), ?_⟩
        · unfold TRow
          simpa using HO.out
        · (repeat' (first | (with_reducible exact Below.refl _ _) | (with_reducible assumption) | (with_reducible refine Below.alloc ?_ ?_ _) | (with_reducible refine Below.drew ?_) | (with_reducible refine below_drewN ?_ _) | (with_reducible refine Below.setCell ?_ ?_ _) | (with_reducible refine below_call ?_ ?_ (by assumption)) | go_size))
set_option maxHeartbeats 1600000 in
theorem implTimesWithLong_any (h n d : Int) (w : World) :
    Calls Try.prog 52 #[.int .i64 h, tv n d] w (TurnsOut w (twlL h n d) (twlOk h n d)) := by
  cases ga : inB h 2 24
  · have hk : twlOk h n d = false := by simp [twlOk, askB, ga]
    rw [twl_no hk, hk]
    clear hk
    (go_enter Try.func52, Try.ntmps52)
    go_wp2_with fail
    refine (isDial_is h ga _).mono ?_
    (rintro e1 w1 ⟨rfl, rfl⟩)
    go_wp2
    go_ret2
    exact TurnsOut.none (by (repeat' (first | (with_reducible exact Below.refl _ _) | (with_reducible assumption) | (with_reducible refine Below.alloc ?_ ?_ _) | (with_reducible refine Below.drew ?_) | (with_reducible refine below_drewN ?_ _) | (with_reducible refine Below.setCell ?_ ?_ _) | (with_reducible refine below_call ?_ ?_ (by assumption)) | go_size)))
  cases gb : goodB n d
  · have hk : twlOk h n d = false := by simp [twlOk, askB, gb]
    rw [twl_no hk, hk]
    clear hk
    (go_enter Try.func52, Try.ntmps52)
    go_wp2_with fail
    refine (isDial_is h ga _).mono ?_
    (rintro e1 w1 ⟨rfl, rfl⟩)
    go_wp2_with fail
    refine (isTurn_is n d gb _).mono ?_
    (rintro e1 w1 ⟨rfl, hb1⟩; obtain ⟨hc1, hf1⟩ := bcell hb1; have hz1 := hb1.size; (try simp only [World.size_alloc, World.size_setCell, World.size_drew] at hz1); have q1 : w.heap.size ≤ w1.heap.size := (by omega); (try have q1_0 : w.heap.size < w1.heap.size := (by omega)); (try have q1_1 : w.heap.size + 1 < w1.heap.size := (by omega)); (try have q1_2 : w.heap.size + 2 < w1.heap.size := (by omega)); (try have q1_3 : w.heap.size + 3 < w1.heap.size := (by omega)))
    go_wp2
    go_ret2
    exact TurnsOut.none (by (repeat' (first | (with_reducible exact Below.refl _ _) | (with_reducible assumption) | (with_reducible refine Below.alloc ?_ ?_ _) | (with_reducible refine Below.drew ?_) | (with_reducible refine below_drewN ?_ _) | (with_reducible refine Below.setCell ?_ ?_ _) | (with_reducible refine below_call ?_ ?_ (by assumption)) | go_size)))
  · have hk : twlOk h n d = partsOk h n d := by simp [twlOk, askB, ga, gb, partsOk]
    have hl : twlL h n d = partsL h n d := by simp [twlL, partsL, hk]
    rw [hl, hk]
    clear hk hl
    have hbd := askB_bd (show askB h n d = true by simp [askB, ga, gb])
    obtain ⟨⟨c1, c2⟩, a1, a2, a3, a4⟩ := hbd
    have AP := Lib.hid (fun W : World => allParts_any h n d (by omega) (by omega) a1 (by omega) a3 (by omega) W)
    (go_enter Try.func52, Try.ntmps52)
    go_wp2_with fail
    refine (isDial_is h ga _).mono ?_
    (rintro e1 w1 ⟨rfl, rfl⟩)
    go_wp2_with fail
    refine (isTurn_is n d gb _).mono ?_
    (rintro e1 w1 ⟨rfl, hb1⟩; obtain ⟨hc1, hf1⟩ := bcell hb1; have hz1 := hb1.size; (try simp only [World.size_alloc, World.size_setCell, World.size_drew] at hz1); have q1 : w.heap.size ≤ w1.heap.size := (by omega); (try have q1_0 : w.heap.size < w1.heap.size := (by omega)); (try have q1_1 : w.heap.size + 1 < w1.heap.size := (by omega)); (try have q1_2 : w.heap.size + 2 < w1.heap.size := (by omega)); (try have q1_3 : w.heap.size + 3 < w1.heap.size := (by omega)))
    have hbz : Below w.heap.size w w1 := by (repeat' (first | (with_reducible exact Below.refl _ _) | (with_reducible assumption) | (with_reducible refine Below.alloc ?_ ?_ _) | (with_reducible refine Below.drew ?_) | (with_reducible refine below_drewN ?_ _) | (with_reducible refine Below.setCell ?_ ?_ _) | (with_reducible refine below_call ?_ ?_ (by assumption)) | go_size))
    go_wp2_with fail
    refine (AP.out _).mono ?_
    rintro e2 w2 ⟨v, rfl, hr, hb2⟩
    have HR := Lib.hid (hr.mono hbz.size)
    have hbw := hbz.trans (hb2.mono hbz.size)
    clear hr
    go_wp2
    go_ret2
    exact ⟨_, rfl, HR.out, hbw⟩
end Go.Proofs.Ytebjlaajddpbhaa
