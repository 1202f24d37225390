/- All parts of a turn that are whole numbers of equal ones, and all times that are exchanged: by the program and by the model. -/
import Derived.Test.YticdmochedadbaaSeen1
import Derived.ScopeJumps
import Derived.WalkMore
set_option linter.unusedSimpArgs false
set_option linter.unusedVariables false
set_option maxRecDepth 100000
namespace Go.Proofs.Yticdmochedadbaa
open Go.RowKit
attribute [local go_sem ↓] Go.wp_at_zero Go.wp_at_succ

/-- What a function leaves that hands back a list of turns. -/
def RowOut (w0 : World) (L : List (Int × Int)) (e : Ending) (w' : World) : Prop :=
  ∃ v, e = .returned v ∧ TRow w' w0.heap.size v L ∧ Below w0.heap.size w0 w'
/-- The k-th of the parts of a turn that are whole numbers of 1 / n. -/
def evT (n : Int) (k : Nat) : Int × Int := (lowNum k n, lowDen k n)
def evL (n : Int) : List (Int × Int) := (List.range n.toNat).map (evT n)
theorem evL_len (n : Int) (hn : n ≤ 1000000) : (evL n).length ≤ 1000000 := by simp [evL]; omega
def lenV : Value → Nat
  | .slice _ n _ => n
  | _ => 0
theorem own_shape {w : World} {b n : Nat} {e : TypeId} {v : Value} {xs : List Value} (h : w.ownsRow b e 2 v n xs) : ∃ a c, v = .slice a n c := by
  rcases h.2 with ⟨h1, h2⟩ | ⟨g, cap, cur, h1, _⟩
  · exact ⟨none, 0, by rw [h1, h2]⟩
  · exact ⟨_, _, h1⟩
set_option maxHeartbeats 1600000 in
theorem evenTimes_any (n : Int) (h1 : 1 ≤ n) (h2 : n ≤ 1000) (w : World) :
    Calls Try.prog 67 #[.int .i64 n] w (RowOut w (evL n)) := by
  obtain ⟨i0, hi0, hz0, hz1, hz2⟩ := info_parts Try.infoTurn
  have I0 := Lib.hid hi0
  have Z0 := Lib.hid hz0
  have Z1 := Lib.hid hz1
  have Z2 := Lib.hid hz2
  clear hi0 hz0 hz1 hz2
  (go_enter Try.func67, Try.ntmps67)
  go_wp2
  refine wp_scope_jumps 0 (fun a' w' => ∃ (k : Nat) (v : Value) (u4 u5 u6 u7 u8 u9 u10 u11 u12 u13 u14 u15 u16 u17 : Value), a' = { tmps := #[.int .i64 n, undef, .slice none 0 0, v, u4, u5, u6, u7, u8, u9, u10, u11, u12, u13, u14, u15, u16, u17], defers := [] } ∧ 1 ≤ k ∧ (k : Int) < n ∧ w'.ownsRow w.heap.size 25 2 v k (flat ((List.range k).map (evT n))) ∧ Below w.heap.size w w') (fun a' _ => n.toNat - lenV (a'.tmps.getD 3 undef)) rfl ?_ ?_
  · go_wp2_with (at_make; refine wpList_make_own _ rfl _ _ 38 rfl w.heap.size 25 i0 (.agg #[.int .i64 0, .int .i64 0]) 2 Try.underlying38 I0.out Z0.out Z1.out .i64 .i64 _ n.toNat rfl rfl (by omega) (by rw [Z2.out]; omega) (by unfold maxLen; omega) (by go_size) ?_; intro w0 hown0 hgrow0)
    have hb0 : Below w.heap.size w w0 := Below.grown (Below.refl _ _) hgrow0 (by go_size) (fun k hk => by cases hk)
    have hz0 := hb0.size
    have HO0 := Lib.hid hown0
    clear hown0 hgrow0
    go_step3
    by_cases hl : (1 : Int) < n
    · have HSN := Lib.hid (map_snoc (evT n) (0))
      have hb9 := low_bd 0 n h1
      have HXY : Hid (evT n (0) = (lowNum 0 n, lowDen 0 n)) := (show evT n (0) = (lowNum 0 n, lowDen 0 n) from by simp [evT])
      go_wp2_with fail
      refine (lowest_any 0 n h1 (by omega) _).mono ?_
      rintro e2 w2 ⟨rfl, hb2⟩
      generalize lowNum 0 n = x at *
      generalize lowDen 0 n = y at *
      obtain ⟨hc2, hf2⟩ := bcell hb2
      have hz2 := hb2.size
      have HO2 := Lib.hid (World.ownsRow.kept HO0.out (row := none) ⟨hb2.os, hb2.tape, hb2.output, hb2.size, fun k hk _ => hb2.block k hk⟩ (by generalize (.slice (some ⟨w.heap.size, 0, none⟩) 0 n.toNat : Value).ownBlock = z; cases z <;> simp))
      have HLT : ∀ j, (.slice (some ⟨w.heap.size, 0, none⟩) 0 n.toNat : Value).ownBlock = some j → w.heap.size ≤ j := fun j hj => (World.ownsRow.lt HO0.out j hj).1
      go_wp2_with (at_builtin; refine wpList_append_lies _ rfl _ _ _ rfl w.heap.size 25 i0 _ 2 16 Try.underlying38 I0.out Z0.out Z1.out Z2.out rfl (by omega) (.slice (some ⟨w.heap.size, 0, none⟩) 0 n.toNat) (0) _ rfl (HO2.out.alloc _) ⟨w2.heap.size, 0, none⟩ 1 1 [.int .i64 x, .int .i64 y] rfl rfl (World.news_of_block (cs := #[.int .i64 x, .int .i64 y]) (t := 25) (fr := (0, 0)) (by simpa using heap_alloc_new w2 _)) (by simp [Value.oneCell']) (by omega) (by unfold maxLen; omega) (by omega) (by simp; omega) (w2.heap.size + 1) (by simp) ?_; intro g cap w4 hown3 hgrow hat hlt3)
      have HO4 := Lib.hid hown3
      have HB4 : Hid (Below w.heap.size w w4) := (show Below w.heap.size w w4 from Below.grown (show Below w.heap.size w _ from Below.trans (b := w0) (by first | assumption | (repeat' (first | (with_reducible exact Below.refl _ _) | (with_reducible assumption) | (with_reducible refine Below.alloc ?_ ?_ _) | (with_reducible refine Below.drew ?_) | (with_reducible refine below_drewN ?_ _) | (with_reducible refine Below.setCell ?_ ?_ _) | (with_reducible refine below_call ?_ ?_ (by assumption)) | go_size))) ((show Below w0.heap.size w0 _ from by (repeat' (first | (with_reducible exact Below.refl _ _) | (with_reducible assumption) | (with_reducible refine Below.alloc ?_ ?_ _) | (with_reducible refine Below.drew ?_) | (with_reducible refine below_drewN ?_ _) | (with_reducible refine Below.setCell ?_ ?_ _) | (with_reducible refine below_call ?_ ?_ (by assumption)) | go_size))).mono (by omega))) hgrow (by simp; omega) HLT)
      clear hown3 hgrow hat hlt3 HO2 hc2 hf2
      go_step3
      refine ⟨rfl, 1, _, _, _, _, _, _, _, _, _, _, _, _, _, _, _, rfl, by omega, by omega, ?_, HB4.out⟩
      rw [← HSN.out, HXY.out]
      exact HO4.out
    · have hE : Hid (n.toNat = 1) := (show n.toNat = 1 from by omega)
      have hd : decide ((1 : Int) < n) = false := decide_eq_false hl
      have HSN := Lib.hid (map_snoc (evT n) (0))
      have hb9 := low_bd 0 n h1
      have HXY : Hid (evT n (0) = (lowNum 0 n, lowDen 0 n)) := (show evT n (0) = (lowNum 0 n, lowDen 0 n) from by simp [evT])
      go_wp2_with fail
      refine (lowest_any 0 n h1 (by omega) _).mono ?_
      rintro e2 w2 ⟨rfl, hb2⟩
      generalize lowNum 0 n = x at *
      generalize lowDen 0 n = y at *
      obtain ⟨hc2, hf2⟩ := bcell hb2
      have hz2 := hb2.size
      have HO2 := Lib.hid (World.ownsRow.kept HO0.out (row := none) ⟨hb2.os, hb2.tape, hb2.output, hb2.size, fun k hk _ => hb2.block k hk⟩ (by generalize (.slice (some ⟨w.heap.size, 0, none⟩) 0 n.toNat : Value).ownBlock = z; cases z <;> simp))
      have HLT : ∀ j, (.slice (some ⟨w.heap.size, 0, none⟩) 0 n.toNat : Value).ownBlock = some j → w.heap.size ≤ j := fun j hj => (World.ownsRow.lt HO0.out j hj).1
      go_wp2_with (at_builtin; refine wpList_append_lies _ rfl _ _ _ rfl w.heap.size 25 i0 _ 2 16 Try.underlying38 I0.out Z0.out Z1.out Z2.out rfl (by omega) (.slice (some ⟨w.heap.size, 0, none⟩) 0 n.toNat) (0) _ rfl (HO2.out.alloc _) ⟨w2.heap.size, 0, none⟩ 1 1 [.int .i64 x, .int .i64 y] rfl rfl (World.news_of_block (cs := #[.int .i64 x, .int .i64 y]) (t := 25) (fr := (0, 0)) (by simpa using heap_alloc_new w2 _)) (by simp [Value.oneCell']) (by omega) (by unfold maxLen; omega) (by omega) (by simp; omega) (w2.heap.size + 1) (by simp) ?_; intro g cap w4 hown3 hgrow hat hlt3)
      have HO4 := Lib.hid hown3
      have HB4 : Hid (Below w.heap.size w w4) := (show Below w.heap.size w w4 from Below.grown (show Below w.heap.size w _ from Below.trans (b := w0) (by first | assumption | (repeat' (first | (with_reducible exact Below.refl _ _) | (with_reducible assumption) | (with_reducible refine Below.alloc ?_ ?_ _) | (with_reducible refine Below.drew ?_) | (with_reducible refine below_drewN ?_ _) | (with_reducible refine Below.setCell ?_ ?_ _) | (with_reducible refine below_call ?_ ?_ (by assumption)) | go_size))) ((show Below w0.heap.size w0 _ from by (repeat' (first | (with_reducible exact Below.refl _ _) | (with_reducible assumption) | (with_reducible refine Below.alloc ?_ ?_ _) | (with_reducible refine Below.drew ?_) | (with_reducible refine below_drewN ?_ _) | (with_reducible refine Below.setCell ?_ ?_ _) | (with_reducible refine below_call ?_ ?_ (by assumption)) | go_size))).mono (by omega))) hgrow (by simp; omega) HLT)
      clear hown3 hgrow hat hlt3 HO2 hc2 hf2
      simp only [Exit.jump]
      go_ret
      refine ⟨_, rfl, ?_, HB4.out⟩
      have h := HO4.out
      unfold TRow
      rw [show evL n = (List.range 1).map (evT n) from by rw [evL, hE.out]]
      rw [List.length_map, List.length_range, ← HSN.out, HXY.out]
      exact h
  · rintro a' w' ⟨k, v, u4, u5, u6, u7, u8, u9, u10, u11, u12, u13, u14, u15, u16, u17, rfl, k1, k2, hown, hbw⟩
    obtain ⟨a, c, rfl⟩ := own_shape hown
    have HO := Lib.hid hown
    have hzr := hbw.size
    clear hown
    by_cases hl : (k : Int) + 1 < n
    · have HSN := Lib.hid (map_snoc (evT n) (k))
      have hb9 := low_bd ((k : Nat) : Int) n h1
      have HXY : Hid (evT n (k) = (lowNum ((k : Nat) : Int) n, lowDen ((k : Nat) : Int) n)) := (show evT n (k) = (lowNum ((k : Nat) : Int) n, lowDen ((k : Nat) : Int) n) from by simp [evT])
      go_wp2_with fail
      refine (lowest_any ((k : Nat) : Int) n h1 (by omega) _).mono ?_
      rintro e2 w2 ⟨rfl, hb2⟩
      generalize lowNum ((k : Nat) : Int) n = x at *
      generalize lowDen ((k : Nat) : Int) n = y at *
      obtain ⟨hc2, hf2⟩ := bcell hb2
      have hz2 := hb2.size
      have HO2 := Lib.hid (World.ownsRow.kept HO.out (row := none) ⟨hb2.os, hb2.tape, hb2.output, hb2.size, fun k hk _ => hb2.block k hk⟩ (by generalize (.slice a k c : Value).ownBlock = z; cases z <;> simp))
      have HLT : ∀ j, (.slice a k c : Value).ownBlock = some j → w.heap.size ≤ j := fun j hj => (World.ownsRow.lt HO.out j hj).1
      go_wp2_with (at_builtin; refine wpList_append_lies _ rfl _ _ _ rfl w.heap.size 25 i0 _ 2 16 Try.underlying38 I0.out Z0.out Z1.out Z2.out rfl (by omega) (.slice a k c) (k) _ rfl (HO2.out.alloc _) ⟨w2.heap.size, 0, none⟩ 1 1 [.int .i64 x, .int .i64 y] rfl rfl (World.news_of_block (cs := #[.int .i64 x, .int .i64 y]) (t := 25) (fr := (0, 0)) (by simpa using heap_alloc_new w2 _)) (by simp [Value.oneCell']) (by omega) (by unfold maxLen; omega) (by omega) (by simp; omega) (w2.heap.size + 1) (by simp) ?_; intro g cap w4 hown3 hgrow hat hlt3)
      have HO4 := Lib.hid hown3
      have HB4 : Hid (Below w.heap.size w w4) := (show Below w.heap.size w w4 from Below.grown (show Below w.heap.size w _ from Below.trans (b := w') (by first | assumption | (repeat' (first | (with_reducible exact Below.refl _ _) | (with_reducible assumption) | (with_reducible refine Below.alloc ?_ ?_ _) | (with_reducible refine Below.drew ?_) | (with_reducible refine below_drewN ?_ _) | (with_reducible refine Below.setCell ?_ ?_ _) | (with_reducible refine below_call ?_ ?_ (by assumption)) | go_size))) ((show Below w'.heap.size w' _ from by (repeat' (first | (with_reducible exact Below.refl _ _) | (with_reducible assumption) | (with_reducible refine Below.alloc ?_ ?_ _) | (with_reducible refine Below.drew ?_) | (with_reducible refine below_drewN ?_ _) | (with_reducible refine Below.setCell ?_ ?_ _) | (with_reducible refine below_call ?_ ?_ (by assumption)) | go_size))).mono (by omega))) hgrow (by simp; omega) HLT)
      clear hown3 hgrow hat hlt3 HO2 hc2 hf2
      go_step3
      refine ⟨rfl, ⟨k + 1, _, _, _, _, _, _, _, _, _, _, _, _, _, _, _, rfl, by omega, by omega, ?_, HB4.out⟩, ?_⟩
      · rw [← HSN.out, HXY.out]
        exact HO4.out
      · simp [lenV]; omega
    · have hE : Hid (n.toNat = (k + 1)) := (show n.toNat = (k + 1) from by omega)
      have hd : decide ((k : Int) + 1 < n) = false := decide_eq_false hl
      have HSN := Lib.hid (map_snoc (evT n) (k))
      have hb9 := low_bd ((k : Nat) : Int) n h1
      have HXY : Hid (evT n (k) = (lowNum ((k : Nat) : Int) n, lowDen ((k : Nat) : Int) n)) := (show evT n (k) = (lowNum ((k : Nat) : Int) n, lowDen ((k : Nat) : Int) n) from by simp [evT])
      go_wp2_with fail
      refine (lowest_any ((k : Nat) : Int) n h1 (by omega) _).mono ?_
      rintro e2 w2 ⟨rfl, hb2⟩
      generalize lowNum ((k : Nat) : Int) n = x at *
      generalize lowDen ((k : Nat) : Int) n = y at *
      obtain ⟨hc2, hf2⟩ := bcell hb2
      have hz2 := hb2.size
      have HO2 := Lib.hid (World.ownsRow.kept HO.out (row := none) ⟨hb2.os, hb2.tape, hb2.output, hb2.size, fun k hk _ => hb2.block k hk⟩ (by generalize (.slice a k c : Value).ownBlock = z; cases z <;> simp))
      have HLT : ∀ j, (.slice a k c : Value).ownBlock = some j → w.heap.size ≤ j := fun j hj => (World.ownsRow.lt HO.out j hj).1
      go_wp2_with (at_builtin; refine wpList_append_lies _ rfl _ _ _ rfl w.heap.size 25 i0 _ 2 16 Try.underlying38 I0.out Z0.out Z1.out Z2.out rfl (by omega) (.slice a k c) (k) _ rfl (HO2.out.alloc _) ⟨w2.heap.size, 0, none⟩ 1 1 [.int .i64 x, .int .i64 y] rfl rfl (World.news_of_block (cs := #[.int .i64 x, .int .i64 y]) (t := 25) (fr := (0, 0)) (by simpa using heap_alloc_new w2 _)) (by simp [Value.oneCell']) (by omega) (by unfold maxLen; omega) (by omega) (by simp; omega) (w2.heap.size + 1) (by simp) ?_; intro g cap w4 hown3 hgrow hat hlt3)
      have HO4 := Lib.hid hown3
      have HB4 : Hid (Below w.heap.size w w4) := (show Below w.heap.size w w4 from Below.grown (show Below w.heap.size w _ from Below.trans (b := w') (by first | assumption | (repeat' (first | (with_reducible exact Below.refl _ _) | (with_reducible assumption) | (with_reducible refine Below.alloc ?_ ?_ _) | (with_reducible refine Below.drew ?_) | (with_reducible refine below_drewN ?_ _) | (with_reducible refine Below.setCell ?_ ?_ _) | (with_reducible refine below_call ?_ ?_ (by assumption)) | go_size))) ((show Below w'.heap.size w' _ from by (repeat' (first | (with_reducible exact Below.refl _ _) | (with_reducible assumption) | (with_reducible refine Below.alloc ?_ ?_ _) | (with_reducible refine Below.drew ?_) | (with_reducible refine below_drewN ?_ _) | (with_reducible refine Below.setCell ?_ ?_ _) | (with_reducible refine below_call ?_ ?_ (by assumption)) | go_size))).mono (by omega))) hgrow (by simp; omega) HLT)
      clear hown3 hgrow hat hlt3 HO2 hc2 hf2
      simp only [Exit.jump]
      go_ret
      refine ⟨_, rfl, ?_, HB4.out⟩
      have h := HO4.out
      unfold TRow
      rw [show evL n = (List.range (k + 1)).map (evT n) from by rw [evL, hE.out]]
      rw [List.length_map, List.length_range, ← HSN.out, HXY.out]
      exact h
end Go.Proofs.Yticdmochedadbaa
