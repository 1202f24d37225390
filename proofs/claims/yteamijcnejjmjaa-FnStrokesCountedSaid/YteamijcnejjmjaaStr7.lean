/- The halves that are left, as keys of a map: all of them, and those behind which a number is struck. -/
import Derived.Test.YteamijcnejjmjaaStr2
import Derived.Maps.RangeWalk
import Derived.LoopTactic
import Derived.Deep.AppendLies
set_option linter.unusedSimpArgs false
set_option linter.unusedVariables false
set_option maxRecDepth 100000
namespace Go.Proofs.Yteamijcnejjmjaa
open Go.RowKit Go.Maps

theorem mb_under : Try.prog.underlying 58 = some (.map 3 4) := by kernel_rfl
theorem mb_int : Try.prog.underlying 3 = some (.int .i64) := by kernel_rfl
theorem mb_bool : Try.prog.underlying 4 = some .bool := by kernel_rfl
theorem mb_law : Keyed Try.prog 3 := int_keyed mb_int
theorem plainElem_bool_inv {H : Type} {P : Program} {e : TypeId} (he : P.underlying e = some .bool) {v : Value} {z : DataW H × List MemPlace} (h : plainElem P e v = some z) : ∃ c, v = .bool c := by
  unfold plainElem at h
  rw [he] at h
  cases v <;> simp at h
  exact ⟨_, rfl⟩
theorem wf_small {x : Int} (h : -9223372036854775808 ≤ x ∧ x ≤ 9223372036854775807) : (Lit.int .i64 x).wf = true := by
  simp [Lit.wf, IntKind.min, IntKind.max, IntKind.signed, IntKind.bits]; omega
abbrev kI (x : Int) : Lit := .int .i64 x
theorem kI_ne {x y : Int} (h : x ≠ y) : kI x ≠ kI y := fun e => h (by simpa [kI] using e)
/-- Block b is a map of numbers whose keys are just those of S. -/
def MapAt (w : World) (b : Nat) (S : Int → Bool) : Prop :=
  ∃ (n : Nat) (D : DataW Unit), w.ownsMap Try.prog 3 (plainElem Try.prog 4) b n D ∧ n ≤ 1000 ∧ ∀ x, has D (kI x) = S x
theorem MapAt.lt {w : World} {b : Nat} {S : Int → Bool} (h : MapAt w b S) : b < w.heap.size := by obtain ⟨n, D, ho, -⟩ := h; exact ho.lt
theorem MapAt.kept {w w' : World} {b : Nat} {S : Int → Bool} {row : Option Nat} (h : MapAt w b S) (hg : w.grownBy w' row) (hne : some b ≠ row) : MapAt w' b S := by
  obtain ⟨n, D, ho, h1, h2⟩ := h; exact ⟨n, D, ho.kept hg hne, h1, h2⟩
theorem MapAt.below {w w' : World} {b : Nat} {S : Int → Bool} (h : MapAt w b S) (hb : Below w.heap.size w w') : MapAt w' b S :=
  h.kept (row := none) ⟨hb.os, hb.tape, hb.output, hb.size, fun k hk _ => hb.block k hk⟩ (by simp)
theorem MapAt.same {w : World} {b : Nat} {S S' : Int → Bool} (h : MapAt w b S) (e : ∀ x, S x = S' x) : MapAt w b S' := by
  obtain ⟨n, D, ho, h1, h2⟩ := h; exact ⟨n, D, ho, h1, fun x => (h2 x).trans (e x)⟩
/-- The halves of a dial. -/
def allS (h x : Int) : Bool := decide (0 ≤ x ∧ x < 2 * h)

set_option maxHeartbeats 1600000 in
theorem allHalves_any (h : Int) (hh : 2 ≤ h ∧ h ≤ 24) (w : World) :
    Calls Try.prog 61 #[.int .i64 h] w fun e w' => e = .returned (.map (some w.heap.size)) ∧ MapAt w' w.heap.size (allS h) ∧ Below w.heap.size w w' := by
  have hmm := @run_makeMap Try.prog
  have hw2 := w64 (n := 2 * h) (by omega)
  obtain ⟨R, hR⟩ : ∃ R : Nat, (R : Int) = 2 * h := ⟨(2 * h).toNat, by omega⟩
  (go_enter Try.func61, Try.ntmps61)
  go_wp2
  go_loopw [8] (fun i wr => ∃ (k : Nat) (D : DataW Unit), k ≤ R ∧ i = .int .i64 k ∧ wr.ownsMap Try.prog 3 (plainElem Try.prog 4) w.heap.size k D ∧ (∀ x, has D (kI x) = decide (0 ≤ x ∧ x < k)) ∧ Below w.heap.size w wr) (fun i _ => R - (intOf i).toNat)
  case atStart => exact ⟨0, .map [], Nat.zero_le _, rfl, World.ownsMap_made _ _ _ _, fun x => by simp [has], by (repeat' (first | (with_reducible exact Below.refl _ _) | (with_reducible assumption) | (with_reducible refine Below.alloc ?_ ?_ _) | (with_reducible refine Below.drew ?_) | (with_reducible refine below_drewN ?_ _) | (with_reducible refine Below.setCell ?_ ?_ _) | (with_reducible refine below_call ?_ ?_ (by assumption)) | go_size))⟩
  case round =>
    obtain ⟨k, D, hk, rfl, hown, hS, hbel⟩ := hrel
    have HS := Lib.hid hS
    clear hS
    have hzr := hbel.size
    have i0 : (0 : Int) ≤ (k : Int) := Int.natCast_nonneg _
    by_cases hlt : (k : Int) < 2 * h
    · have i1 : (k : Int) < (R : Int) := by omega
      go_wp2_with (first | (at_mapUpdate; refine wpList_mapUpdate_own _ rfl _ _ _ 58 rfl 3 4 mb_law mb_under _ w.heap.size k _ rfl hown (by unfold maxLen; omega) _ _ _ rfl rfl (keyOf_int_mk mb_int (wf_small (by omega))) _ [] (plainElem_bool mb_bool true) ?_; intro w1 hown1 hgrow1) | go_in)
      go_roundw
      case rel =>
        refine ⟨k + 1, _, by omega, by go_num, hown1, fun x => ?_, Below.grown hbel hgrow1 hzr (fun j hj => by cases hj; exact Nat.le_refl _)⟩
        by_cases hx : x = k
        · subst hx
          rw [has_put_same (k := kI (k : Int)) hown.isMap trivial]
          symm; rw [decide_eq_true_eq]; omega
        · rw [has_put_other (kI_ne hx), HS.out, decide_eq_decide]
          constructor
          · intro h2; exact ⟨h2.1, by omega⟩
          · intro h2; exact ⟨h2.1, by omega⟩
      case measure => simp [intOf]; omega
    · obtain rfl : k = R := by omega
      go_wp2
      go_ret
      exact ⟨rfl, ⟨k, D, hown, by omega, fun x => (HS.out x).trans (by unfold allS; rw [Bool.eq_iff_iff, decide_eq_true_eq, decide_eq_true_eq]; omega)⟩, hbel⟩

set_option maxHeartbeats 1600000 in
theorem dropOthers_any (h q t0 : Int) (b c : Nat) (S : Int → Bool) (w : World) (hm : MapAt w b S) (hS : ∀ x, S x = true → 0 ≤ x ∧ x < 2 * h) (hc : w.cell? ⟨c, 0, none⟩ = some (.int .i64 h)) (hcl : c < w.heap.size) (hne : c ≠ b) (hh : 2 ≤ h ∧ h ≤ 24) (hq : 0 ≤ q ∧ q ≤ 1000) :
    Calls Try.prog 62 #[.map (some b), .func (.func 54) #[] #[.pointer (some ⟨c, 0, none⟩)], .int .i64 q, .int .i64 t0] w fun e w' => e = .returned (.tuple #[]) ∧ MapAt w' b (fun x => S x && (stM h (x + q) == t0)) ∧ w.grownBy w' (some b) := by
  obtain ⟨n, D0, hown, hn, hD0⟩ := hm
  have HD0 := Lib.hid hD0
  have HS := Lib.hid hS
  clear hS hD0
  (go_enter Try.func62, Try.ntmps62)
  go_wp2_with (first | (at_range; refine wpList_range_own _ rfl _ 58 rfl 3 4 mb_law mb_under _ b n _ rfl hown ?_; intro w0 hrg0 hg0 hs0) | go_in)
  go_frame
  go_loopw [8] (fun _ wr => ∃ (left : Lit → Bool) (cnt : Nat) (D : DataW Unit), wr.ranges Try.prog 3 (plainElem Try.prog 4) b w.heap.size n D left cnt ∧ (∀ x, has D (kI x) = (S x && (left (kI x) || (stM h (x + q) == t0)))) ∧ w.grownBy wr (some b)) (fun _ wr => wr.rangeLeft b w.heap.size)
  case atStart => exact ⟨_, _, D0, hrg0, fun x => by rw [HD0.out x]; cases S x <;> rfl, hg0.but _⟩
  case round =>
    obtain ⟨left, cnt, D, hrg, hD, hgw⟩ := hrel
    have HD := Lib.hid hD
    clear hD
    go_wp2_with (first | (at_next; refine wpList_next_ranges _ rfl _ rfl 3 mb_law (plainElem Try.prog 4) (Value.int .i64) (fun v : Value => v) (fun key kl hk => by obtain ⟨x, rfl, _⟩ := Maps.keyOf_int_inv mb_int hk; exact ⟨x, rfl⟩) (fun v y hv => ⟨v, rfl⟩) b w.heap.size n _ _ _ rfl hrg ?_ ?_) | go_in)
    · intro _ hl0
      go_wp2
      go_end0
      exact ⟨rfl, ⟨n, D, hrg.owns, hn, fun x => by rw [HD.out x, hl0]; simp⟩, hgw⟩
    · intro x cb kl yd yp w1 cnt1 hkey hlk hv hat hrg1 hlt hg1 hs1 hen
      obtain ⟨x', ex, rfl, hwx⟩ := Maps.keyOf_int_inv mb_int hkey
      obtain rfl : x = x' := by simpa using ex
      have hgw1 := hgw.andThen hg1 (fun j hj => by cases hj; exact Or.inl (Nat.le_refl _))
      have hx : S x = true := by
        have h1 := HD.out x
        rw [has_true_of_atKey hat] at h1
        cases hs : S x
        · rw [hs] at h1; cases h1
        · rfl
      obtain ⟨x0, x1⟩ := HS.out x hx
      have hcw : w1.cell? ⟨c, 0, none⟩ = some (.int .i64 h) := (World.grownBy.cell_far hgw1 ⟨c, 0, none⟩ hcl (by simpa using hne)).trans hc
      obtain ⟨t, hte⟩ : ∃ t, stM h (x + q) = t := ⟨_, rfl⟩
      have HT := Lib.hid hte
      by_cases hs : t = t0
      · have hs' : (t == t0) = true := by simpa using hs
        have HN : Hid (∀ z, has D (kI z) = (S z && ((left (kI z) && !(kI z).sameKey (kI x)) || (stM h (z + q) == t0)))) := fun z => by
          rw [HD.out z]
          by_cases hz : z = x
          · subst hz; rw [HT.out, hs']; simp
          · rw [Maps.sameKey_ne (kI_ne hz)]; simp
        clear hte
        go_wp2_with fail
        refine (strokes_is h (x + q) c _ hcw hh (by omega) (by omega) HT.out).mono ?_
        (rintro e1 w1 ⟨rfl, rfl⟩)
        go_wp2
        go_roundw
        case rel => exact ⟨_, cnt1, D, hrg1, HN.out, hgw1⟩
        case measure => rw [hrg1.left_eq, hrg.left_eq]; exact hlt
      · have hs' : (t == t0) = false := by simpa using hs
        have HN : Hid (∀ z, has (D.del (kI x)) (kI z) = (S z && ((left (kI z) && !(kI z).sameKey (kI x)) || (stM h (z + q) == t0)))) := fun z => by
          by_cases hz : z = x
          · subst hz
            rw [has_del_same, HT.out, hs']
            simp [Lit.sameKey]
          · rw [has_del_other (kI_ne hz), HD.out z, Maps.sameKey_ne (kI_ne hz)]; simp
        clear hte
        go_wp2_with fail
        refine (strokes_is h (x + q) c _ hcw hh (by omega) (by omega) HT.out).mono ?_
        (rintro e1 w1 ⟨rfl, rfl⟩)
        go_wp2_with (first | (at_delete; refine wpList_delete_ranges _ rfl _ _ 58 3 rfl 4 mb_law mb_under _ b w.heap.size n _ _ _ rfl hrg1 _ _ rfl (keyOf_int_mk mb_int hwx) ?_; intro w2 cnt2 hrg2 hle hturn; go_frame) | go_in)
        rw [strike_twice] at hrg2
        go_roundw
        case rel => exact ⟨_, cnt2, _, hrg2, HN.out, hgw1.andThen hturn.grown (fun j hj => by cases hj; exact Or.inr rfl)⟩
        case measure => rw [hrg2.left_eq, hrg.left_eq]; omega
end Go.Proofs.Yteamijcnejjmjaa
