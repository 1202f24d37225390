/- The gaps between hands, by the model: the whole function. -/
import Derived.Test.YtgdjnnelonnoaaaGSpec
set_option linter.unusedSimpArgs false
set_option linter.unusedVariables false
set_option maxRecDepth 100000
namespace Go.Proofs.Ytgdjnnelonnoaaa
open Go.RowKit

theorem apart_rows {w w' : World} {b b' s s' n n' : Nat} {e e' : TypeId} {v v' : Value} {xs xs' : List Value} (h : w.ownsRow b e s v n xs) (h' : w'.ownsRow b' e' s' v' n' xs') (hb : w.heap.size ≤ b') : v.ownBlock = none ∨ v.ownBlock ≠ v'.ownBlock := by
  cases hv : v.ownBlock with
  | none => exact .inl rfl
  | some k =>
    refine .inr fun e => ?_
    have h1 := (World.ownsRow.lt h k hv).2
    have h2 := (World.ownsRow.lt h' k e.symm).1
    omega
theorem apart_symm {x y : Option Nat} (h : x = none ∨ x ≠ y) : y = none ∨ y ≠ x := by
  rcases h with rfl | h
  · exact Classical.em _
  · exact .inr fun e => h e.symm
set_option maxHeartbeats 800000 in
theorem specGapsAt_any (a : Option Addr) (c : Nat) (M : List (Int × Int × Int)) (tn td : Int) (w : World) (hin : HIn w a M) (hi : AllI M) (ktd : (-9223372036854775808 ≤ td ∧ td ≤ 9223372036854775807)) (hl : M.length ≤ 1048576) :
    Calls Try.prog 57 #[.slice a M.length c, tv tn td] w (TurnsOut w (gapsR M tn td).1 (gapsR M tn td).2) := by
  have HM := Lib.hid (meGaps_any a c M tn td (w.alloc (Obj.cells #[Value.int .i64 tn, Value.int .i64 td] 27)) (hin.below (by (repeat' (first | (with_reducible exact Below.refl _ _) | (with_reducible assumption) | (with_reducible refine Below.alloc ?_ ?_ _) | (with_reducible refine Below.drew ?_) | (with_reducible refine below_drewN ?_ _) | (with_reducible refine Below.setCell ?_ ?_ _) | (with_reducible refine below_call ?_ ?_ (by assumption)) | go_size)))) hi ktd hl)
  clear hin hi
  generalize gapsR M tn td = R at *
  obtain ⟨L, ok⟩ := R
  (go_enter Try.func57, Try.ntmps57)
  go_wp2_with fail
  refine HM.out.mono ?_
  rintro e1 w1 ⟨v1, rfl, hr1, hb1⟩
  have HR1 := Lib.hid hr1
  have hz1 := hb1.size
  simp only [World.size_alloc] at hz1
  clear hr1
  go_wp2
  go_ret2
  exact ⟨_, rfl, TRow.mono HR1.out (by simp), Below.trans (b := _) (by (repeat' (first | (with_reducible exact Below.refl _ _) | (with_reducible assumption) | (with_reducible refine Below.alloc ?_ ?_ _) | (with_reducible refine Below.drew ?_) | (with_reducible refine below_drewN ?_ _) | (with_reducible refine Below.setCell ?_ ?_ _) | (with_reducible refine below_call ?_ ?_ (by assumption)) | go_size))) (hb1.mono (by simp))⟩
end Go.Proofs.Ytgdjnnelonnoaaa
