/- FnExactGapsAt: called with any arguments, the law returns true, and its arguments read behind the call as before. Conditions: none but the row's own. -/
import Derived.Test.YtgdjnnelonnoaaaFacts
import Derived.Test.YtgdjnnelonnoaaaRow
import Derived.Test.YtgdjnnelonnoaaaHRow
import Derived.Test.YtgdjnnelonnoaaaHArg
import Derived.Test.YtgdjnnelonnoaaaGFin
set_option linter.unusedSimpArgs false
set_option linter.unusedVariables false
set_option maxRecDepth 100000
namespace Go.Proofs.Ytgdjnnelonnoaaa.fnExactGapsAt
open Go.ChangeShapes Go.WideShapes Go.ChangeAt Go.RowKit

set_option maxHeartbeats 4000000 in
theorem walk (w : World) (a : Option Addr) (c : Nat) (L : List (Int × Int × Int)) (tn td : Int) (hin : HIn w a L) (hi : AllI L) (hm : L.length ≤ maxLen) (ktd : (-9223372036854775808 ≤ td ∧ td ≤ 9223372036854775807)) :
    Calls Try.prog 17 #[.slice a L.length c, tv tn td] w fun e w' => e = .returned (.bool true) ∧ Below w.heap.size w w' := by
  have hw0 : Below w.heap.size w (w.alloc (Obj.cells #[Value.int .i64 tn, Value.int .i64 td] 23)) := by (repeat' (first | (with_reducible exact Below.refl _ _) | (with_reducible assumption) | (with_reducible refine Below.alloc ?_ ?_ _) | (with_reducible refine Below.drew ?_) | (with_reducible refine below_drewN ?_ _) | (with_reducible refine Below.setCell ?_ ?_ _) | (with_reducible refine below_call ?_ ?_ (by assumption)) | go_size))
  by_cases hl : L.length ≤ 1048576
  · have hsz := fun W => szHandS_any a L.length c 1048576 W (by omega) hm
    rw [if_neg (by omega)] at hsz
    have HSZ := Lib.hid hsz
    have hsz' : ¬ (1048576 : Int) - (L.length : Int) < 0 := by omega
    have hin1 := Lib.hid (hin.below hw0)
    have q10 : (w.alloc (Obj.cells #[Value.int .i64 tn, Value.int .i64 td] 23)).cell? ⟨w.heap.size, 0, none⟩ = some (.int .i64 tn) := by go_simp
    have q11 : (w.alloc (Obj.cells #[Value.int .i64 tn, Value.int .i64 td] 23)).cell? ⟨w.heap.size, 1, none⟩ = some (.int .i64 td) := by go_simp
    clear hsz hin
    have HLEN := Lib.hid (gapsR_len L tn td)
    (go_enter Try.func17, Try.ntmps17)
    go_wp2_with fail
    refine (HSZ.out _).mono ?_
    (rintro e1 w1 ⟨rfl, rfl⟩)
    generalize w.alloc (Obj.cells #[Value.int .i64 tn, Value.int .i64 td] 23) = w1 at *
    have hz0 := hw0.size
    have hw1lt : w.heap.size < w1.heap.size := by
      have h := q10
      rcases Nat.lt_or_ge w.heap.size w1.heap.size with h' | h'
      · exact h'
      · simp [World.cell?, Array.getElem?_eq_none h'] at h
    go_wp2_with fail
    have hS0 : w1.drew.cell? ⟨w.heap.size, 0, none⟩ = some (.int .i64 tn) ∧ w1.drew.cell? ⟨w.heap.size, 1, none⟩ = some (.int .i64 td) := ⟨q10, q11⟩
    refine wp_region_held (by kernel_rfl) (S := fun W => W.cell? ⟨w.heap.size, 0, none⟩ = some (.int .i64 tn) ∧ W.cell? ⟨w.heap.size, 1, none⟩ = some (.int .i64 td)) ?_
    refine take_first (i := 0) (v := .slice a L.length c) 22 rfl rfl (by kernel_rfl) (by kernel_rfl) (by kernel_rfl) (fun _ _ _ h => h) (by rfl) ?_ (by assumption) ?_
    · intro W hS'
      obtain ⟨hSa, hSb⟩ := hS'
      go_simp
    simp only [Act.put, List.setIfInBounds_toArray, List.set_cons_zero, List.set_cons_succ]
    refine take_first (i := 2) (v := .agg #[.int .i64 tn, .int .i64 td]) 24 rfl rfl (by kernel_rfl) (by kernel_rfl) (by kernel_rfl) (fun _ _ _ h => h) (by rfl) ?_ (by assumption) ?_
    · intro W hS'
      obtain ⟨hSa, hSb⟩ := hS'
      go_simp
    simp only [Act.put, List.setIfInBounds_toArray, List.set_cons_zero, List.set_cons_succ]
    refine wpAnyH_all (rs := [1]) (by kernel_rfl) (by decide) (List.forall_mem_cons.2 ⟨?_, fun _ h => absurd h List.not_mem_nil⟩)
    refine wpOp_wp rfl rfl (wp_call_at 23 rfl (f := 54) (args := #[.slice a L.length c]) (by go_simp) ((toHandS_any a c L _ (HIn.below hin1.out (show Below w1.heap.size w1 w1.drew from (Below.refl _ _).drew)) hl).mono ?_))
    rintro ea1 wa1 ⟨va1, rfl, hra1, hba1'⟩
    have hba1 : Below w1.heap.size w1 wa1 := (show Below w1.heap.size w1 w1.drew from (Below.refl _ _).drew).trans hba1'
    obtain ⟨a1, c1, rfl, hia1, hca1, hma1⟩ := hra1.inn
    have hza1 := hba1.size
    clear hba1' hra1
    have hS1 : wa1.cell? ⟨w.heap.size, 0, none⟩ = some (.int .i64 tn) ∧ wa1.cell? ⟨w.heap.size, 1, none⟩ = some (.int .i64 td) := ⟨((bcell hba1).1 _ _ (by omega)).trans q10, ((bcell hba1).1 _ _ (by omega)).trans q11⟩
    refine ⟨_, rfl, hS1, ?_⟩
    simp only [Act.put, List.setIfInBounds_toArray, List.set_cons_zero, List.set_cons_succ]
    refine wpAnyH_all (rs := [3]) (by kernel_rfl) (by decide) (List.forall_mem_cons.2 ⟨?_, fun _ h => absurd h List.not_mem_nil⟩)
    refine wpOp_wp rfl rfl (wp_call_at 25 rfl (f := 23) (args := #[tv tn td]) (by go_simp) ((toTurn_any tn td _).mono ?_))
    rintro eb1 wb1 ⟨rfl, hbb1⟩
    have hzb1 := hbb1.size
    have hS2 : wb1.cell? ⟨w.heap.size, 0, none⟩ = some (.int .i64 tn) ∧ wb1.cell? ⟨w.heap.size, 1, none⟩ = some (.int .i64 td) := ⟨((bcell hbb1).1 _ _ (by omega)).trans hS1.1, ((bcell hbb1).1 _ _ (by omega)).trans hS1.2⟩
    refine ⟨_, rfl, hS2, ?_⟩
    simp only [Act.put, List.setIfInBounds_toArray, List.set_cons_zero, List.set_cons_succ]
    refine wpAnyH_all (rs := [4]) (by kernel_rfl) (by decide) (List.forall_mem_cons.2 ⟨?_, fun _ h => absurd h List.not_mem_nil⟩)
    refine wpOp_wp rfl rfl (wp_call_at 26 rfl (f := 57) (args := #[.slice a1 L.length c1, tv tn td]) (by go_simp) ((specGapsAt_any a1 c1 L tn td _ (HIn.below hia1 hbb1) hi ktd hl).mono ?_))
    rintro ec1 w2 ⟨v1, rfl, hr1, hbc1⟩
    have hzc1 := hbc1.size
    have hS3 : w2.cell? ⟨w.heap.size, 0, none⟩ = some (.int .i64 tn) ∧ w2.cell? ⟨w.heap.size, 1, none⟩ = some (.int .i64 td) := ⟨((bcell hbc1).1 _ _ (by omega)).trans hS2.1, ((bcell hbc1).1 _ _ (by omega)).trans hS2.2⟩
    refine ⟨_, rfl, hS3, ?_⟩
    simp only [Act.put, List.setIfInBounds_toArray, List.set_cons_zero, List.set_cons_succ]
    refine take_first (i := 5) (v := .tuple #[v1, .bool (gapsR L tn td).2]) 21 rfl rfl (by kernel_rfl) (by kernel_rfl) (by kernel_rfl) (fun _ _ _ h => h) (by rfl) ?_ (by assumption) ?_
    · intro W hS'
      obtain ⟨hSa, hSb⟩ := hS'
      go_simp
    simp only [Act.put, List.setIfInBounds_toArray, List.set_cons_zero, List.set_cons_succ]
    refine take_first (i := 6) (v := v1) 27 rfl rfl (by kernel_rfl) (by kernel_rfl) (by kernel_rfl) (fun _ _ _ h => h) (by rfl) ?_ (by assumption) ?_
    · intro W hS'
      obtain ⟨hSa, hSb⟩ := hS'
      go_simp
    simp only [Act.put, List.setIfInBounds_toArray, List.set_cons_zero, List.set_cons_succ]
    refine take_first (i := 7) (v := .bool (gapsR L tn td).2) 28 rfl rfl (by kernel_rfl) (by kernel_rfl) (by kernel_rfl) (fun _ _ _ h => h) (by rfl) ?_ (by assumption) ?_
    · intro W hS'
      obtain ⟨hSa, hSb⟩ := hS'
      go_simp
    simp only [Act.put, List.setIfInBounds_toArray, List.set_cons_zero, List.set_cons_succ]
    refine take_first (i := 8) (v := v1) 6 rfl rfl (by kernel_rfl) (by kernel_rfl) (by kernel_rfl) (fun _ _ _ h => h) (by rfl) ?_ (by assumption) ?_
    · intro W hS'
      obtain ⟨hSa, hSb⟩ := hS'
      go_simp
    simp only [Act.put, List.setIfInBounds_toArray, List.set_cons_zero, List.set_cons_succ]
    refine take_first (i := 9) (v := .bool (gapsR L tn td).2) 7 rfl rfl (by kernel_rfl) (by kernel_rfl) (by kernel_rfl) (fun _ _ _ h => h) (by rfl) ?_ (by assumption) ?_
    · intro W hS'
      obtain ⟨hSa, hSb⟩ := hS'
      go_simp
    simp only [Act.put, List.setIfInBounds_toArray, List.set_cons_zero, List.set_cons_succ]
    refine wpAnyH_done (by kernel_rfl) ?_ _
    have HR1 := Lib.hid (TRow.mono hr1 (show w1.heap.size ≤ _ by omega))
    have hb1 : Below w1.heap.size w1 w2 := hba1.trans ((hbb1.trans (hbc1.mono hbb1.size)).mono hba1.size)
    clear hr1 hS0 hS1 hS2 hS3 hia1 hba1 hbb1 hbc1
    have hz1 := hb1.size
    have B2 := hb1
    have y2 := B2.size
    go_wp2_with fail
    refine (toHandS_any a c L _ (hin1.out.below B2) hl).mono ?_
    rintro e3 w3 ⟨v8, rfl, hr8, hb3⟩
    obtain ⟨a8, c8, rfl, hia8, -, -⟩ := hr8.inn
    have HR8 := Lib.hid hr8
    clear hr8
    have B3 : Below w1.heap.size w1 w3 := B2.trans (hb3.mono B2.size)
    have y3 := B3.size
    have zz3 := hb3.size
    have q30 := ((bcell B3).1 w.heap.size 0 hw1lt).trans q10
    have q31 := ((bcell B3).1 w.heap.size 1 hw1lt).trans q11
    go_wp2_with fail
    refine (toTurn_any tn td _).mono ?_
    rintro e4 w4 ⟨rfl, hb4⟩
    have B4 : Below w1.heap.size w1 w4 := B3.trans (hb4.mono B3.size)
    have y4 := B4.size
    have zz4 := hb4.size
    go_wp2_with fail
    refine (implGapsAt_any a8 c8 L tn td _ (hia8.below hb4) hl).mono ?_
    rintro e5 w5 ⟨v9, rfl, hr9, hb5⟩
    have HR9 := Lib.hid hr9
    clear hr9 hia8 q30 q31
    have B5 : Below w1.heap.size w1 w5 := B4.trans (hb5.mono B4.size)
    have y5 := B5.size
    have zz5 := hb5.size
    have V5 := Lib.hid (TRow.below (TRow.below (TRow.below HR1.out hb3) hb4) hb5)
    go_wp2_with fail
    refine (eqTurnS_same (gapsR L tn td).1 v9 v1 _ _ _ HR9.out V5.out HLEN.out).mono ?_
    rintro e6 w6 ⟨rfl, hb6⟩
    have B6 : Below w1.heap.size w1 w6 := B5.trans (hb6.mono B5.size)
    have y6 := B6.size
    have zz6 := hb6.size
    go_wp2_with fail
    refine (toHandS_any a c L _ (hin1.out.below B6) hl).mono ?_
    rintro e7 w7 ⟨v10, rfl, hr10, hb7⟩
    have HR10 := Lib.hid hr10
    clear hr10
    have B7 : Below w1.heap.size w1 w7 := B6.trans (hb7.mono B6.size)
    have y7 := B7.size
    have zz7 := hb7.size
    have G7 := Lib.hid (RowHand.below (RowHand.below (RowHand.below (RowHand.below HR8.out hb4) hb5) hb6) hb7)
    go_wp2_with fail
    refine (eqHandS_same L (.slice a8 L.length c8) v10 _ _ _ G7.out HR10.out (by omega)).mono ?_
    rintro e8 w8 ⟨rfl, hb8⟩
    have B8 : Below w1.heap.size w1 w8 := B7.trans (hb8.mono B7.size)
    have y8 := B8.size
    have zz8 := hb8.size
    have G8 := Lib.hid (RowHand.below G7.out hb8)
    have V8 := Lib.hid (TRow.below (TRow.below (TRow.below V5.out hb6) hb7) hb8)
    have N8 := Lib.hid (TRow.below (TRow.below (TRow.below HR9.out hb6) hb7) hb8)
    go_wp2_with fail
    refine (markHandS_any L (.slice a8 L.length c8) _ 1 _ G8.out (by omega) (by omega) (by omega)).mono ?_
    rintro e9 w9 ⟨rfl, hr11, hg9⟩
    clear hr11
    have B9 : Below w1.heap.size w1 w9 := Below.grown (w := w8) B8 hg9 (by omega) (fun j hj => by have := (World.ownsRow.lt HR8.out j hj).1; omega)
    have y9 := B9.size
    have V9 := Lib.hid (TRow.kept V8.out hg9 (apart_rows HR1.out HR8.out (by omega)))
    have N9 := Lib.hid (TRow.kept N8.out hg9 (apart_symm (apart_rows HR8.out HR9.out (by omega))))
    clear hg9
    have p3 : ¬ (1 + 3 * (L.length : Int)) < 0 := by omega
    go_wp2_with fail
    refine (eqTurnS_same (gapsR L tn td).1 v9 v1 _ _ _ N9.out V9.out HLEN.out).mono ?_
    rintro e10 w10 ⟨rfl, hb10⟩
    have B10 : Below w1.heap.size w1 w10 := B9.trans (hb10.mono B9.size)
    have y10 := B10.size
    have zz10 := hb10.size
    have V10 := Lib.hid (TRow.below V9.out hb10)
    have N10 := Lib.hid (TRow.below N9.out hb10)
    go_wp2_with fail
    refine (markTurnS_any (gapsR L tn td).1 v9 _ 1 _ N10.out HLEN.out (by omega) (by omega)).mono ?_
    rintro e11 w11 ⟨rfl, hr12, hg11⟩
    have N11 := Lib.hid hr12
    clear hr12
    have B11 : Below w1.heap.size w1 w11 := Below.grown (w := w10) B10 hg11 (by omega) (fun j hj => by have := (World.ownsRow.lt HR9.out j hj).1; omega)
    have y11 := B11.size
    have V11 := Lib.hid (TRow.kept V10.out hg11 (apart_rows HR1.out HR9.out (by omega)))
    clear hg11
    have p2 : ¬ (1 + 2 * (((gapsR L tn td).1).length : Int)) < 0 := by omega
    go_wp2_with fail
    refine (heldTurnS_marked (gapsR L tn td).1 v9 _ 1 _ N11.out HLEN.out (by omega) (by omega)).mono ?_
    rintro e12 w12 ⟨rfl, hb12⟩
    have B12 : Below w1.heap.size w1 w12 := B11.trans (hb12.mono B11.size)
    have y12 := B12.size
    have zz12 := hb12.size
    have q120 := ((bcell B12).1 w.heap.size 0 hw1lt).trans q10
    have q121 := ((bcell B12).1 w.heap.size 1 hw1lt).trans q11
    have V12 := Lib.hid (TRow.below V11.out hb12)
    have N12 := Lib.hid (TRow.below N11.out hb12)
    have hin12 := Lib.hid (hin1.out.below B12)
    go_wp2_with fail
    have hS0 : w12.drew.cell? ⟨w.heap.size, 0, none⟩ = some (.int .i64 tn) ∧ w12.drew.cell? ⟨w.heap.size, 1, none⟩ = some (.int .i64 td) := ⟨q120, q121⟩
    refine wp_region_held (by kernel_rfl) (S := fun W => W.cell? ⟨w.heap.size, 0, none⟩ = some (.int .i64 tn) ∧ W.cell? ⟨w.heap.size, 1, none⟩ = some (.int .i64 td)) ?_
    refine take_first (i := 0) (v := .slice a L.length c) 80 rfl rfl (by kernel_rfl) (by kernel_rfl) (by kernel_rfl) (fun _ _ _ h => h) (by rfl) ?_ (by assumption) ?_
    · intro W hS'
      obtain ⟨hSa, hSb⟩ := hS'
      go_simp
    simp only [Act.put, List.setIfInBounds_toArray, List.set_cons_zero, List.set_cons_succ]
    refine take_first (i := 2) (v := .agg #[.int .i64 tn, .int .i64 td]) 82 rfl rfl (by kernel_rfl) (by kernel_rfl) (by kernel_rfl) (fun _ _ _ h => h) (by rfl) ?_ (by assumption) ?_
    · intro W hS'
      obtain ⟨hSa, hSb⟩ := hS'
      go_simp
    simp only [Act.put, List.setIfInBounds_toArray, List.set_cons_zero, List.set_cons_succ]
    refine wpAnyH_all (rs := [1]) (by kernel_rfl) (by decide) (List.forall_mem_cons.2 ⟨?_, fun _ h => absurd h List.not_mem_nil⟩)
    refine wpOp_wp rfl rfl (wp_call_at 81 rfl (f := 54) (args := #[.slice a L.length c]) (by go_simp) ((toHandS_any a c L _ (HIn.below hin12.out (show Below w12.heap.size w12 w12.drew from (Below.refl _ _).drew)) hl).mono ?_))
    rintro ea12 wa12 ⟨va12, rfl, hra12, hba12'⟩
    have hba12 : Below w12.heap.size w12 wa12 := (show Below w12.heap.size w12 w12.drew from (Below.refl _ _).drew).trans hba12'
    obtain ⟨a12, c12, rfl, hia12, hca12, hma12⟩ := hra12.inn
    have hza12 := hba12.size
    clear hba12' hra12
    have hS1 : wa12.cell? ⟨w.heap.size, 0, none⟩ = some (.int .i64 tn) ∧ wa12.cell? ⟨w.heap.size, 1, none⟩ = some (.int .i64 td) := ⟨((bcell hba12).1 _ _ (by omega)).trans q120, ((bcell hba12).1 _ _ (by omega)).trans q121⟩
    refine ⟨_, rfl, hS1, ?_⟩
    simp only [Act.put, List.setIfInBounds_toArray, List.set_cons_zero, List.set_cons_succ]
    refine wpAnyH_all (rs := [3]) (by kernel_rfl) (by decide) (List.forall_mem_cons.2 ⟨?_, fun _ h => absurd h List.not_mem_nil⟩)
    refine wpOp_wp rfl rfl (wp_call_at 83 rfl (f := 23) (args := #[tv tn td]) (by go_simp) ((toTurn_any tn td _).mono ?_))
    rintro eb12 wb12 ⟨rfl, hbb12⟩
    have hzb12 := hbb12.size
    have hS2 : wb12.cell? ⟨w.heap.size, 0, none⟩ = some (.int .i64 tn) ∧ wb12.cell? ⟨w.heap.size, 1, none⟩ = some (.int .i64 td) := ⟨((bcell hbb12).1 _ _ (by omega)).trans hS1.1, ((bcell hbb12).1 _ _ (by omega)).trans hS1.2⟩
    refine ⟨_, rfl, hS2, ?_⟩
    simp only [Act.put, List.setIfInBounds_toArray, List.set_cons_zero, List.set_cons_succ]
    refine wpAnyH_all (rs := [4]) (by kernel_rfl) (by decide) (List.forall_mem_cons.2 ⟨?_, fun _ h => absurd h List.not_mem_nil⟩)
    refine wpOp_wp rfl rfl (wp_call_at 84 rfl (f := 58) (args := #[.slice a12 L.length c12, tv tn td]) (by go_simp) ((implGapsAt_any a12 c12 L tn td _ (HIn.below hia12 hbb12) hl).mono ?_))
    rintro ec12 w13 ⟨v12, rfl, hr12, hbc12⟩
    have hzc12 := hbc12.size
    have hS3 : w13.cell? ⟨w.heap.size, 0, none⟩ = some (.int .i64 tn) ∧ w13.cell? ⟨w.heap.size, 1, none⟩ = some (.int .i64 td) := ⟨((bcell hbc12).1 _ _ (by omega)).trans hS2.1, ((bcell hbc12).1 _ _ (by omega)).trans hS2.2⟩
    refine ⟨_, rfl, hS3, ?_⟩
    simp only [Act.put, List.setIfInBounds_toArray, List.set_cons_zero, List.set_cons_succ]
    refine take_first (i := 5) (v := .tuple #[v12, .bool (gapsR L tn td).2]) 79 rfl rfl (by kernel_rfl) (by kernel_rfl) (by kernel_rfl) (fun _ _ _ h => h) (by rfl) ?_ (by assumption) ?_
    · intro W hS'
      obtain ⟨hSa, hSb⟩ := hS'
      go_simp
    simp only [Act.put, List.setIfInBounds_toArray, List.set_cons_zero, List.set_cons_succ]
    refine take_first (i := 6) (v := v12) 85 rfl rfl (by kernel_rfl) (by kernel_rfl) (by kernel_rfl) (fun _ _ _ h => h) (by rfl) ?_ (by assumption) ?_
    · intro W hS'
      obtain ⟨hSa, hSb⟩ := hS'
      go_simp
    simp only [Act.put, List.setIfInBounds_toArray, List.set_cons_zero, List.set_cons_succ]
    refine take_first (i := 7) (v := .bool (gapsR L tn td).2) 86 rfl rfl (by kernel_rfl) (by kernel_rfl) (by kernel_rfl) (fun _ _ _ h => h) (by rfl) ?_ (by assumption) ?_
    · intro W hS'
      obtain ⟨hSa, hSb⟩ := hS'
      go_simp
    simp only [Act.put, List.setIfInBounds_toArray, List.set_cons_zero, List.set_cons_succ]
    refine take_first (i := 8) (v := v12) 14 rfl rfl (by kernel_rfl) (by kernel_rfl) (by kernel_rfl) (fun _ _ _ h => h) (by rfl) ?_ (by assumption) ?_
    · intro W hS'
      obtain ⟨hSa, hSb⟩ := hS'
      go_simp
    simp only [Act.put, List.setIfInBounds_toArray, List.set_cons_zero, List.set_cons_succ]
    refine take_first (i := 9) (v := .bool (gapsR L tn td).2) 15 rfl rfl (by kernel_rfl) (by kernel_rfl) (by kernel_rfl) (fun _ _ _ h => h) (by rfl) ?_ (by assumption) ?_
    · intro W hS'
      obtain ⟨hSa, hSb⟩ := hS'
      go_simp
    simp only [Act.put, List.setIfInBounds_toArray, List.set_cons_zero, List.set_cons_succ]
    refine wpAnyH_done (by kernel_rfl) ?_ _
    have HR12 := Lib.hid (TRow.mono hr12 (show w12.heap.size ≤ _ by omega))
    have hb12 : Below w12.heap.size w12 w13 := hba12.trans ((hbb12.trans (hbc12.mono hbb12.size)).mono hba12.size)
    clear hr12 hS0 hS1 hS2 hS3 hia12 hba12 hbb12 hbc12
    have hz12 := hb12.size
    have B13 : Below w1.heap.size w1 w13 := B12.trans (hb12.mono B12.size)
    have y13 := B13.size
    have V13 := Lib.hid (TRow.below V12.out hb12)
    have N13 := Lib.hid (TRow.below N12.out hb12)
    go_wp2_with fail
    refine (eqTurnS_same (gapsR L tn td).1 v12 v1 _ _ _ HR12.out V13.out HLEN.out).mono ?_
    rintro e14 w14 ⟨rfl, hb14⟩
    have B14 : Below w1.heap.size w1 w14 := B13.trans (hb14.mono B13.size)
    have y14 := B14.size
    have zz14 := hb14.size
    have N14 := Lib.hid (TRow.below N13.out hb14)
    go_wp2_with fail
    refine (heldTurnS_marked (gapsR L tn td).1 v9 _ 1 _ N14.out HLEN.out (by omega) (by omega)).mono ?_
    rintro e15 w15 ⟨rfl, hb15⟩
    have B15 : Below w1.heap.size w1 w15 := B14.trans (hb15.mono B14.size)
    have y15 := B15.size
    have zz15 := hb15.size
    go_wp2
    go_ret
    exact ⟨rfl, hw0.trans (B15.mono hw0.size)⟩

  · have hsz := fun W => szHandS_any a L.length c 1048576 W (by omega) hm
    rw [if_pos (by omega)] at hsz
    have HSZ := Lib.hid hsz
    clear hsz
    (go_enter Try.func17, Try.ntmps17)
    go_wp2_with fail
    refine (HSZ.out _).mono ?_
    (rintro e1 w1 ⟨rfl, rfl⟩)
    go_wp2
    go_ret
    exact ⟨rfl, by (repeat' (first | (with_reducible exact Below.refl _ _) | (with_reducible assumption) | (with_reducible refine Below.alloc ?_ ?_ _) | (with_reducible refine Below.drew ?_) | (with_reducible refine below_drewN ?_ _) | (with_reducible refine Below.setCell ?_ ?_ _) | (with_reducible refine below_call ?_ ?_ (by assumption)) | go_size))⟩

set_option maxRecDepth 100000 in
theorem lifted (os : Os) (started : os.Started) (H : Type) (enc : TypeId × Value → H) :
    ReturnsInHanded {} Try.checked os 17 .any (Rows.fnExactGapsAtSpec.pre6 enc Try.prog Try.f17 Rows.fnExactGapsAtRow.domain false) (Rows.fnExactGapsAtSpec.post enc Try.prog Try.f17 false true false false) := by
  refine returnsInHanded_of_change (C := Try.checked) Try.own started (by kernel_rfl) Try.func17
    (ChangeSpec.witness6 (enc := enc) (C := Try.checked) false ⟨#[], #[.slice none 0 0, .agg #[.int .i64 0, .int .i64 0]], []⟩ 8 (by kernel_rfl) (by kernel_rfl) (by kernel_rfl) (by kernel_rfl)) ?_
  intro W base args ds gs before hval0 hW hcnd _
  have hval : ∀ (j : Nat) t v, Try.f17.params[j]? = some t → args[j]? = some v → Value.okWide Try.prog W .any base t v := hval0
  have hW' := hW
  obtain ⟨p, q, hA0, hV, rfl, hfz, hnd⟩ := hW
  have hA : DataW.TrodAll enc Try.prog W 0 (fun _ => true) true Try.f17.params.toList args.toList ds p := hA0
  rw [Try.params17] at hA hval
  obtain ⟨v0, vs0, d_0, ds0, p0, q0, hargs, rfl, rfl, h0, r0⟩ := trodAll_cons hA
  obtain ⟨v1, vs1, d_1, ds1, p1, q1, rfl, rfl, rfl, h1, r1⟩ := trodAll_cons r0
  obtain ⟨rfl, rfl, rfl⟩ := trodAll_nil r1
  obtain rfl : args = #[v0, v1] := by cases args; simp_all
  obtain ⟨rfl, rfl⟩ := trodVars_none hV
  have h0k := h0
  obtain ⟨a, c, L, rfl, hin, hi, hm⟩ := open_hands (hval 0 55 v0 rfl rfl) h0
  obtain ⟨n1, d1, rfl, rfl, rfl, wn1, wd1⟩ := open_turn (hval 1 23 v1 rfl rfl) h1
  clear hA0 hval0
  simp only [List.append_nil, List.nil_append] at hW'
  have hlt : ∀ y ∈ p0, y.block < W.heap.size := fun y hy => by simpa using hW'.lt y (by simp [hy])
  refine (walk W a c L n1 d1 hin hi hm (i64_of_wf wd1)).mono fun e W' ⟨he, bel⟩ => ?_
  subst he
  have harg0 : DataW.Trod enc Try.prog W' 0 (fun b => decide (b < W.heap.size)) true 55 (.slice a L.length c) d_0 p0 :=
    Below.trod Try.laidOut (by kernel_rfl) (of_decide_eq_true (by kernel_rfl)) h0k bel hlt
  exact ⟨_, rfl, _, _, _, [], _, [], hW', trodAll_mk1 (shut_bool Try.underlying4 _), (trodAll_cons_mk harg0 (trodAll_cons_mk (shut_turn wn1 wd1) trodAll_mk0)), rfl, bel.frame _, fun h => by cases h⟩

theorem closed : joinedFacts Try.prog 17 Try.f17 Rows.fnExactGapsAtSpec Rows.fnExactGapsAtRow = true := by
  unfold joinedFacts
  rw [Try.fMake, Try.fEnter, Try.fLifts, Try.fMaps, Try.fLaid, Try.fHeard, Try.fKeys]
  kernel_rfl
theorem over : Rows.fnExactGapsAtRow.holds Try.pinned (OpenSpec.ofChange Rows.fnExactGapsAtSpec) :=
  OpenClaim.holds_of_wide 17 Try.f17 rfl rfl rfl rfl rfl rfl rfl ⟨rfl, rfl, rfl, rfl, rfl⟩ rfl rfl rfl rfl rfl (by kernel_rfl) Try.func17
    closed (of_decide_eq_true (by kernel_rfl)) (by unfold Func.isWrapper; first | (rw [if_pos (by decide +kernel)]; kernel_rfl) | (rw [if_neg (by decide +kernel)]; exact ⟨rfl, rfl⟩))
    (fun os started H enc _ => lifted os started H enc)

end Go.Proofs.Ytgdjnnelonnoaaa.fnExactGapsAt
namespace Go.Proofs.Ytgdjnnelonnoaaa
/-- The statement. -/
theorem fnExactGapsAt_proved : Rows.FnExactGapsAtSaid := fnExactGapsAt.over
#print axioms fnExactGapsAt_proved
end Go.Proofs.Ytgdjnnelonnoaaa