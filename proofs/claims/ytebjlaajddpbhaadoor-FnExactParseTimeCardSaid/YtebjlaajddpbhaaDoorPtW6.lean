/- Eight bytes read by the model. -/
import Derived.Test.YtebjlaajddpbhaaDoorPtW5
import Derived.Test.YtebjlaajddpbhaaDoorOrder
import Derived.Test.YtebjlaajddpbhaaDoorPivot
set_option linter.unusedSimpArgs false
set_option linter.unusedVariables false
set_option maxRecDepth 100000
namespace Go.Proofs.YtebjlaajddpbhaaDoor
open Go.RowKit

theorem Tryd.infoInt : (Tryd.prog.info? 3).map (fun i => (i.zero, i.size, i.bytes)) = some (some (.int .i64 0), 1, 8) := by kernel_rfl
/-- A slice of numbers in memory of the call's own. -/
def NRow (w : World) (base : Nat) (v : Value) (L : List Int) : Prop := w.ownsRow base 3 1 v L.length (L.map fun n => Value.int .i64 n)
theorem NRow.cells {w : World} {base : Nat} {v : Value} {L : List Int} (h : NRow w base v L) (h1 : 1 ≤ L.length) :
    ∃ (g c : Nat), v = .slice (some ⟨g, 0, none⟩) L.length c ∧ L.length ≤ c ∧ c ≤ maxLen ∧ base ≤ g ∧ g < w.heap.size ∧ (∀ k, k < L.length → w.cell? ⟨g, k, none⟩ = some (.int .i64 (L.getD k 0)) ∧ w.frozen? ⟨g, k, none⟩ = false) := by
  have h0 := h
  rcases h.2 with ⟨h2, h3⟩ | ⟨g, cap, cur, h2, h3, h4, h5, h6, h7⟩
  · omega
  · refine ⟨g, cap, h2, h5, h6, h3, ?_, fun k hk => ?_⟩
    · rcases Nat.lt_or_ge g w.heap.size with hlt | hge
      · exact hlt
      · rw [Array.getElem?_eq_none hge] at h4; cases h4
    · unfold NRow at h0
      rw [h2] at h0
      refine ⟨?_, World.ownsRow.frozenAt h0 _⟩
      rw [World.ownsRow.cellAt h0 k (by simpa using hk)]
      simp [List.getD_eq_getElem?_getD, hk]
def xAt (s : List UInt8) (j : Nat) : Int := ((s.getD j 0).toNat : Int) - 48
def byteOk (s : List UInt8) (j : Nat) : Bool := if j % 3 = 2 then decide (s.getD j 0 = 58) else isDig (s.getD j 0)
def preL (s : List UInt8) : Nat → List Int
  | 0 => []
  | 1 => [10 * xAt s 0]
  | 2 => [10 * xAt s 0 + xAt s 1]
  | 3 => [10 * xAt s 0 + xAt s 1]
  | 4 => [10 * xAt s 0 + xAt s 1, 10 * xAt s 3]
  | 5 => [10 * xAt s 0 + xAt s 1, 10 * xAt s 3 + xAt s 4]
  | 6 => [10 * xAt s 0 + xAt s 1, 10 * xAt s 3 + xAt s 4]
  | 7 => [10 * xAt s 0 + xAt s 1, 10 * xAt s 3 + xAt s 4, 10 * xAt s 6]
  | _ => [10 * xAt s 0 + xAt s 1, 10 * xAt s 3 + xAt s 4, 10 * xAt s 6 + xAt s 7]
theorem lt8 {k : Nat} (h : k < 8) : k = 0 ∨ k = 1 ∨ k = 2 ∨ k = 3 ∨ k = 4 ∨ k = 5 ∨ k = 6 ∨ k = 7 := by omega
theorem pre_colon (s : List UInt8) {k : Nat} (h : k < 8) (h3 : k % 3 = 2) : preL s (k + 1) = preL s k := by
  rcases lt8 h with rfl | rfl | rfl | rfl | rfl | rfl | rfl | rfl <;> first | rfl | (exfalso; revert h3; decide)
theorem pre_new (s : List UInt8) {k : Nat} (h : k < 8) (h3 : k % 3 = 0) : preL s (k + 1) = preL s k ++ [10 * xAt s k] := by
  rcases lt8 h with rfl | rfl | rfl | rfl | rfl | rfl | rfl | rfl <;> first | rfl | (exfalso; revert h3; decide)
theorem pre_more (s : List UInt8) {k : Nat} (h : k < 8) (h3 : k % 3 = 1) : ∃ e, (preL s k).length = e + 1 ∧ (preL s k).getD e 0 = 10 * xAt s (k - 1) ∧ preL s (k + 1) = (preL s k).set e (10 * xAt s (k - 1) + xAt s k) ∧ (k - 1) % 3 = 0 := by
  rcases lt8 h with rfl | rfl | rfl | rfl | rfl | rfl | rfl | rfl <;> first | exact ⟨0, rfl, rfl, rfl, rfl⟩ | exact ⟨1, rfl, rfl, rfl, rfl⟩ | exact ⟨2, rfl, rfl, rfl, rfl⟩ | (exfalso; revert h3; decide)
theorem pre_len (s : List UInt8) (k : Nat) (h : k ≤ 8) : (preL s k).length ≤ 3 := by
  rcases (show k = 8 ∨ k < 8 by omega) with rfl | h
  · simp [preL]
  · rcases lt8 h with rfl | rfl | rfl | rfl | rfl | rfl | rfl | rfl <;> simp [preL]
theorem head_of {s : List UInt8} (h : ∀ j, j < 8 → byteOk s j = true) : headOk s = true := by
  have h0 := h 0 (by omega); have h1 := h 1 (by omega); have h2 := h 2 (by omega); have h3 := h 3 (by omega)
  have h4 := h 4 (by omega); have h5 := h 5 (by omega); have h6 := h 6 (by omega); have h7 := h 7 (by omega)
  unfold byteOk at *
  simp only [Nat.reduceMod, if_true, if_false, Nat.reduceEqDiff] at *
  unfold headOk
  rw [h0, h1, h2, h3, h4, h5, h6, h7]
  rfl
theorem of_head {s : List UInt8} (h : headOk s = true) : ∀ j, j < 8 → byteOk s j = true := by
  unfold headOk at h
  simp only [Bool.and_eq_true] at h
  obtain ⟨⟨⟨⟨⟨⟨⟨h0, h1⟩, h2⟩, h3⟩, h4⟩, h5⟩, h6⟩, h7⟩ := h
  intro j hj
  rcases lt8 hj with rfl | rfl | rfl | rfl | rfl | rfl | rfl | rfl <;> assumption
theorem bad_byte {h : Int} {s : List UInt8} {k : Nat} (hk : k < 8) (hb : byteOk s k = false) : fail3 = modelT h s := by
  unfold modelT
  rw [if_neg]
  rintro ⟨-, -, hh, -⟩
  rw [of_head hh k hk] at hb
  cases hb
theorem okx {s : List UInt8} {k : Nat} (h3 : ¬ k % 3 = 2) (h : byteOk s k = true) : 0 ≤ xAt s k ∧ xAt s k ≤ 9 := by
  unfold byteOk at h
  rw [if_neg h3] at h
  have := (isDig_iff _).1 h
  unfold xAt
  omega

theorem read_bd (l : List UInt8) : -1 ≤ readN l ∧ readN l ≤ 999999 := by
  cases hc : canonB l
  · rw [← read_bad hc]; omega
  · have := (dec_read hc).2
    omega

set_option maxHeartbeats 8000000 in
theorem diParse_any (h : Int) (s : List UInt8) (hh : inB h 2 24 = true) (hl : s.length ≤ 1048576) (w : World) :
    Calls Tryd.prog 16 #[.int .i64 h, str s] w fun e w' => e = .returned (rv (modelT h s)) ∧ Below w.heap.size w w' := by
  by_cases hlen : 8 ≤ s.length ∧ s.length ≤ 22
  · obtain ⟨n8, n22⟩ := hlen
    have i8 : (8 : Int) ≤ (s.length : Int) := by omega
    have i22 : (s.length : Int) ≤ 22 := by omega
    obtain ⟨i0, hi0, hz0, hz1, hz2⟩ := info_parts Tryd.infoInt
    have I0 := Lib.hid hi0
    have Z0 := Lib.hid hz0
    have Z1 := Lib.hid hz1
    have Z2 := Lib.hid hz2
    clear hi0 hz0 hz1 hz2
    obtain ⟨h0, h1⟩ := inB_bd hh
    have HB := Lib.hid (fun k => bad_byte (h := h) (s := s) (k := k))
    (go_enter Tryd.func16, Tryd.ntmps16)
    go_wp2
    go_loopw [6, 7] (fun o i wr => ∃ k : Nat, k ≤ 8 ∧ i = .int .i64 k ∧ NRow wr (w.heap.size + 1) o (preL s k) ∧ (∀ j, j < k → byteOk s j = true) ∧ Below (w.heap.size + 1) (w.alloc (Obj.cells #[Value.int .i64 0, Value.int .i64 0] 26)) wr) (fun _ i _ => 8 - (intOf i).toNat)
    case atStart => exact ⟨0, by omega, rfl, World.ownsRow_nil _ _ _ _, fun j hj => absurd hj (Nat.not_lt_zero _), Below.refl _ _⟩
    case round =>
      obtain ⟨k, hk, rfl, hrow, hall, hbr⟩ := hrel
      have HR := Lib.hid hrow
      have HA := Lib.hid hall
      clear hrow hall
      have hzr := hbr.size
      simp only [World.size_alloc] at hzr
      have hbr' : Below (w.alloc (Obj.cells #[Value.int .i64 0, Value.int .i64 0] 26)).heap.size (w.alloc (Obj.cells #[Value.int .i64 0, Value.int .i64 0] 26)) wr := by simpa using hbr
      have c0 : wr.cell? ⟨w.heap.size, 0, none⟩ = some (.int .i64 0) := ((bcell hbr').1 w.heap.size 0 (by simp)).trans (by go_simp)
      have c1 : wr.cell? ⟨w.heap.size, 1, none⟩ = some (.int .i64 0) := ((bcell hbr').1 w.heap.size 1 (by simp)).trans (by go_simp)
      have f0 : wr.frozen? ⟨w.heap.size, 0, none⟩ = false := ((bcell hbr').2 w.heap.size 0 (by simp)).trans (by go_simp)
      have f1 : wr.frozen? ⟨w.heap.size, 1, none⟩ = false := ((bcell hbr').2 w.heap.size 1 (by simp)).trans (by go_simp)
      clear hbr'
      have hq : w.heap.size < wr.heap.size := by omega
      have BR : Below w.heap.size w wr := Below.trans (b := _) (show Below w.heap.size w (w.alloc (Obj.cells #[Value.int .i64 0, Value.int .i64 0] 26)) by (repeat' (first | (with_reducible exact Below.refl _ _) | (with_reducible assumption) | (with_reducible refine Below.alloc ?_ ?_ _) | (with_reducible refine Below.drew ?_) | (with_reducible refine below_drewN ?_ _) | (with_reducible refine Below.setCell ?_ ?_ _) | (with_reducible refine below_call ?_ ?_ (by assumption)) | go_size))) (hbr.mono (by omega))
      have j0 : (0 : Int) ≤ (k : Int) := Int.natCast_nonneg _
      by_cases hlt : k < 8
      · have j1 : (k : Int) < 8 := by omega
        obtain ⟨x, hx⟩ : ∃ x : Int, x = ((s.getD k 0).toNat : Int) := ⟨_, rfl⟩
        have hzk := fun W => run_byte s k x (by omega) hx W
        have hbd := byte_bd (s.getD k 0)
        rw [← hx] at hbd
        have HX := Lib.hid hx
        clear hx
        have j2 : (k : Int) < (s.length : Int) := by omega
        have HALL : Hid (byteOk s k = true → ∀ j, j < k + 1 → byteOk s j = true) := fun hb j hj => by
          by_cases hjk : j = k
          · subst hjk; exact hb
          · exact HA.out j (by omega)
        by_cases h3 : k % 3 = 2
        · have m3 : (k : Int).tmod 3 = 2 := by rw [Int.tmod_eq_emod_of_nonneg j0]; omega
          by_cases he : x = 58
          · have HK := Lib.hid (HALL.out (by unfold byteOk; rw [if_pos h3]; exact decide_eq_true (UInt8.toNat_inj.1 (by have := HX.out; show (s.getD k 0).toNat = 58; omega))))
            have HP := Lib.hid (pre_colon s hlt h3)
            subst he
            go_wp2
            go_roundw
            case rel => exact ⟨k + 1, by omega, by go_num, by rw [HP.out]; exact HR.out, HK.out, hbr⟩
            case measure => simp [intOf]; omega
          · have HM := Lib.hid (HB.out k hlt (by unfold byteOk; rw [if_pos h3]; exact decide_eq_false (fun h' => he (by rw [HX.out, h']; rfl))))
            go_wp2
            (refine bodyPost_ret (by simp [results, Tryd.results16, go_sem, *]; try rfl) rfl ?_)
            exact ⟨ret_rv HM.out, by (repeat' (first | (with_reducible exact Below.refl _ _) | (with_reducible assumption) | (with_reducible refine Below.alloc ?_ ?_ _) | (with_reducible refine Below.drew ?_) | (with_reducible refine below_drewN ?_ _) | (with_reducible refine Below.setCell ?_ ?_ _) | (with_reducible refine below_call ?_ ?_ (by assumption)) | go_size))⟩
        · have hdx : isDig (s.getD k 0) = decide (48 ≤ x ∧ x ≤ 57) := by
            rw [HX.out]
            cases h : isDig (s.getD k 0)
            · have : ¬ (48 ≤ (s.getD k 0).toNat ∧ (s.getD k 0).toNat ≤ 57) := fun h' => by rw [(isDig_iff _).2 h'] at h; cases h
              exact (decide_eq_false (by omega)).symm
            · have := (isDig_iff _).1 h
              exact (decide_eq_true (by omega)).symm
          have HDX := Lib.hid hdx
          clear hdx
          have HXA : Hid (xAt s k = x - 48) := by unfold xAt; rw [HX.out]; exact Lib.hid rfl
          by_cases hd : 48 ≤ x ∧ x ≤ 57
          · have HK := Lib.hid (HALL.out (by unfold byteOk; rw [if_neg h3, HDX.out]; exact decide_eq_true hd))
            obtain ⟨d0, d1⟩ := hd
            have u1 : IntKind.u8.wrap (x - 48) = x - 48 := IntWalk.u8_in _ (by omega)
            by_cases h30 : k % 3 = 0
            · have m3 : (k : Int).tmod 3 = 0 := by rw [Int.tmod_eq_emod_of_nonneg j0]; omega
              have HP := Lib.hid (pre_new s hlt h30)
              have hpl := pre_len s k hk
              have HPL := Lib.hid hpl
              clear hpl
              have HLT : ∀ k, u6.ownBlock = some k → w.heap.size + 1 ≤ k := fun k hk => (World.ownsRow.lt HR.out k hk).1
              go_wp2_with (at_builtin; refine wpList_append_lies _ rfl _ _ _ rfl (w.heap.size + 1) 3 i0 _ 1 8 Tryd.underlying54 I0.out Z0.out Z1.out Z2.out rfl (by omega) u6 (preL s k).length _ rfl (World.ownsRow.alloc HR.out _) ⟨wr.heap.size, 0, none⟩ 1 1 [.int .i64 (10 * (x - 48))] rfl rfl (World.news_of_block (cs := #[.int .i64 (10 * (x - 48))]) (t := 3) (fr := (0, 0)) (by simpa using heap_alloc_new wr _)) (by simp [Value.oneCell']) (by omega) (by unfold maxLen; have := HPL.out; omega) (by have := HPL.out; omega) (by simp; omega) (wr.heap.size + 1) (by simp) ?_; intro g cap w3 hown3 hgrow hat hlt3)
              go_roundw
              case rel =>
                refine ⟨k + 1, by omega, by go_num, ?_, HK.out, ?_⟩
                · rw [HP.out, HXA.out]
                  unfold NRow
                  rw [List.map_append, List.length_append]
                  exact hown3
                · exact Below.grown (by (repeat' (first | (with_reducible exact Below.refl _ _) | (with_reducible assumption) | (with_reducible refine Below.alloc ?_ ?_ _) | (with_reducible refine Below.drew ?_) | (with_reducible refine below_drewN ?_ _) | (with_reducible refine Below.setCell ?_ ?_ _) | (with_reducible refine below_call ?_ ?_ (by assumption)) | go_size))) hgrow (by simp; omega) HLT
              case measure => simp [intOf]; omega
            · have m3 : (k : Int).tmod 3 = 1 := by rw [Int.tmod_eq_emod_of_nonneg j0]; omega
              have h31 : k % 3 = 1 := by omega
              obtain ⟨e, he1, he2, he3, he4⟩ := pre_more s hlt h31
              obtain ⟨y0, y1⟩ := okx (s := s) (k := k - 1) (by omega) (HA.out (k - 1) (by omega))
              have hpl := pre_len s k hk
              have HE3 := Lib.hid he3
              obtain ⟨g, c, rfl, gl, gm, gb, gs, gx⟩ := HR.out.cells (by omega)
              obtain ⟨ce, fe⟩ := gx e (by omega)
              rw [he2] at ce
              have e2 : e ≤ 2 := by omega
              have HR2 := Lib.hid HR.out
              clear he2 he3 he4 gx
              generalize xAt s (k - 1) = z at *
              generalize preL s k = D at *
              have HE1 := Lib.hid he1
              rw [he1]
              clear he1 HR
              go_wp2_with fail
              have v1 : IntKind.i64.wrap (e : Int) = e := IntWalk.i64_in _ (by omega)
              have v2 : IntKind.i64.wrap (x - 48) = x - 48 := IntWalk.i64_in _ (by omega)
              have v3 : IntKind.i64.wrap (10 * z + (x - 48)) = 10 * z + (x - 48) := IntWalk.i64_in _ (by omega)
              have v4 : ¬ (e : Int) + 1 ≤ (e : Int) := by omega
              have v5 : (e : Int) < (e : Int) + 1 := by omega
              refine wp_region_pivot 13 (by kernel_rfl) (by kernel_rfl) rfl rfl ?_
              simp only [List.take_succ_cons, List.take_zero]
              (apply wpB_take (hw := rfl); (intro wq hq; obtain ⟨hcq, hfq⟩ := bcell hq; unfold atB; go_simp; exact ⟨rfl, rfl⟩); simp only [Act.put, List.setIfInBounds_toArray, List.set_cons_zero, List.set_cons_succ])
              (apply wpB_take (hw := rfl); (intro wq hq; obtain ⟨hcq, hfq⟩ := bcell hq; unfold atB; go_simp; exact ⟨rfl, rfl⟩); simp only [Act.put, List.setIfInBounds_toArray, List.set_cons_zero, List.set_cons_succ])
              (apply wpB_take (hw := rfl); (intro wq hq; obtain ⟨hcq, hfq⟩ := bcell hq; unfold atB; go_simp; exact ⟨rfl, rfl⟩); simp only [Act.put, List.setIfInBounds_toArray, List.set_cons_zero, List.set_cons_succ])
              (apply wpB_take (hw := rfl); (intro wq hq; obtain ⟨hcq, hfq⟩ := bcell hq; unfold atB; go_simp; exact ⟨rfl, rfl⟩); simp only [Act.put, List.setIfInBounds_toArray, List.set_cons_zero, List.set_cons_succ])
              (apply wpB_take (hw := rfl); (intro wq hq; obtain ⟨hcq, hfq⟩ := bcell hq; unfold atB; go_simp; exact ⟨rfl, rfl⟩); simp only [Act.put, List.setIfInBounds_toArray, List.set_cons_zero, List.set_cons_succ])
              (apply wpB_take (hw := rfl); (intro wq hq; obtain ⟨hcq, hfq⟩ := bcell hq; unfold atB; go_simp; exact ⟨rfl, rfl⟩); simp only [Act.put, List.setIfInBounds_toArray, List.set_cons_zero, List.set_cons_succ])
              (apply wpB_take (hw := rfl); (intro wq hq; obtain ⟨hcq, hfq⟩ := bcell hq; unfold atB; go_simp; exact ⟨rfl, rfl⟩); simp only [Act.put, List.setIfInBounds_toArray, List.set_cons_zero, List.set_cons_succ])
              (apply wpB_take (hw := rfl); (intro wq hq; obtain ⟨hcq, hfq⟩ := bcell hq; unfold atB; go_simp; exact ⟨rfl, rfl⟩); simp only [Act.put, List.setIfInBounds_toArray, List.set_cons_zero, List.set_cons_succ])
              (apply wpB_take (hw := rfl); (intro wq hq; obtain ⟨hcq, hfq⟩ := bcell hq; unfold atB; go_simp; exact ⟨rfl, rfl⟩); simp only [Act.put, List.setIfInBounds_toArray, List.set_cons_zero, List.set_cons_succ])
              (apply wpB_take (hw := rfl); (intro wq hq; obtain ⟨hcq, hfq⟩ := bcell hq; unfold atB; go_simp; exact ⟨rfl, rfl⟩); simp only [Act.put, List.setIfInBounds_toArray, List.set_cons_zero, List.set_cons_succ])
              (apply wpB_take (hw := rfl); (intro wq hq; obtain ⟨hcq, hfq⟩ := bcell hq; unfold atB; go_simp; exact ⟨rfl, rfl⟩); simp only [Act.put, List.setIfInBounds_toArray, List.set_cons_zero, List.set_cons_succ])
              (apply wpB_take (hw := rfl); (intro wq hq; obtain ⟨hcq, hfq⟩ := bcell hq; unfold atB; go_simp; exact ⟨rfl, rfl⟩); simp only [Act.put, List.setIfInBounds_toArray, List.set_cons_zero, List.set_cons_succ])
              (apply wpB_take (hw := rfl); (intro wq hq; obtain ⟨hcq, hfq⟩ := bcell hq; unfold atB; go_simp; exact ⟨rfl, rfl⟩); simp only [Act.put, List.setIfInBounds_toArray, List.set_cons_zero, List.set_cons_succ])
              refine fun wb hbb => ?_
              have cb : wb.cell? ⟨g, e, none⟩ = some (.int .i64 (10 * z)) := ((bcell hbb).1 g e gs).trans ce
              have fb : wb.frozen? ⟨g, e, none⟩ = false := ((bcell hbb).2 g e gs).trans fe
              have HN : Hid (NRow wb (w.heap.size + 1) (.slice (some ⟨g, 0, none⟩) D.length c) D) := World.ownsRow.kept HR2.out (row := none) ⟨hbb.os, hbb.tape, hbb.output, hbb.size, fun k hk _ => hbb.block k hk⟩ (by simp [Value.ownBlock])
              have BB : Below (w.heap.size + 1) (w.alloc (Obj.cells #[Value.int .i64 0, Value.int .i64 0] 26)) wb := hbr.trans (hbb.mono (by omega))
              have hzb : wr.heap.size ≤ wb.heap.size := hbb.size
              clear hbb
              unfold Oper.wp
              go_simp
              simp only [List.drop_succ_cons, List.drop_zero, List.drop_nil, wpB]
              refine fun w3 hb3 => ?_
              go_wp2
              go_roundw
              case rel =>
                refine ⟨k + 1, by omega, by go_num, ?_, HK.out, ?_⟩
                · have q1 := (World.ownsRow.stored HN.out e (.int .i64 (10 * z + (x - 48)))).1
                  have q2 := World.ownsRow.kept q1 (row := none) ⟨hb3.os, hb3.tape, hb3.output, (by simpa using hb3.size), fun k hk _ => hb3.block k (by simpa using hk)⟩ (by simp [Value.ownBlock])
                  rw [HE3.out, HXA.out]
                  unfold NRow
                  rw [List.length_set, List.map_set]
                  rw [HE1.out] at q2 ⊢
                  exact q2
                · exact Below.trans (b := wb.setCell ⟨g, e, none⟩ (.int .i64 (10 * z + (x - 48)))) (by (repeat' (first | (with_reducible exact Below.refl _ _) | (with_reducible assumption) | (with_reducible refine Below.alloc ?_ ?_ _) | (with_reducible refine Below.drew ?_) | (with_reducible refine below_drewN ?_ _) | (with_reducible refine Below.setCell ?_ ?_ _) | (with_reducible refine below_call ?_ ?_ (by assumption)) | go_size))) (hb3.mono (by omega))
              case measure => simp [intOf]; omega
          · have HM := Lib.hid (HB.out k hlt (by unfold byteOk; rw [if_neg h3, HDX.out]; exact decide_eq_false hd))
            have m3 : ¬ (k : Int).tmod 3 = 2 := by rw [Int.tmod_eq_emod_of_nonneg j0]; omega
            have m4 : ((k : Int).tmod 3 == 2) = false := by simpa using m3
            by_cases hd0 : x < 48
            · go_wp2
              (refine bodyPost_ret (by simp [results, Tryd.results16, go_sem, *]; try rfl) rfl ?_)
              exact ⟨ret_rv HM.out, by (repeat' (first | (with_reducible exact Below.refl _ _) | (with_reducible assumption) | (with_reducible refine Below.alloc ?_ ?_ _) | (with_reducible refine Below.drew ?_) | (with_reducible refine below_drewN ?_ _) | (with_reducible refine Below.setCell ?_ ?_ _) | (with_reducible refine below_call ?_ ?_ (by assumption)) | go_size))⟩
            · have hd1 : 57 < x := by omega
              go_wp2
              (refine bodyPost_ret (by simp [results, Tryd.results16, go_sem, *]; try rfl) rfl ?_)
              exact ⟨ret_rv HM.out, by (repeat' (first | (with_reducible exact Below.refl _ _) | (with_reducible assumption) | (with_reducible refine Below.alloc ?_ ?_ _) | (with_reducible refine Below.drew ?_) | (with_reducible refine below_drewN ?_ _) | (with_reducible refine Below.setCell ?_ ?_ _) | (with_reducible refine below_call ?_ ?_ (by assumption)) | go_size))⟩
      · obtain rfl : k = 8 := by omega
        obtain ⟨x0, x0'⟩ := okx (s := s) (k := 0) (by omega) (HA.out 0 (by omega))
        obtain ⟨x1, x1'⟩ := okx (s := s) (k := 1) (by omega) (HA.out 1 (by omega))
        obtain ⟨x3, x3'⟩ := okx (s := s) (k := 3) (by omega) (HA.out 3 (by omega))
        obtain ⟨x4, x4'⟩ := okx (s := s) (k := 4) (by omega) (HA.out 4 (by omega))
        obtain ⟨x6, x6'⟩ := okx (s := s) (k := 6) (by omega) (HA.out 6 (by omega))
        obtain ⟨x7, x7'⟩ := okx (s := s) (k := 7) (by omega) (HA.out 7 (by omega))
        have HH := Lib.hid (head_of HA.out)
        obtain ⟨g, c, rfl, gl, gm, gb, gs, gx⟩ := HR.out.cells (by simp [preL])
        have z0 : wr.cell? ⟨g, 0, none⟩ = some (.int .i64 (numAt s 0)) := (gx 0 (by simp [preL])).1
        have z1 : wr.cell? ⟨g, 1, none⟩ = some (.int .i64 (numAt s 3)) := (gx 1 (by simp [preL])).1
        have z2 : wr.cell? ⟨g, 2, none⟩ = some (.int .i64 (numAt s 6)) := (gx 2 (by simp [preL])).1
        have n0 : 0 ≤ numAt s 0 ∧ numAt s 0 ≤ 99 := by
          have : numAt s 0 = 10 * xAt s 0 + xAt s 1 := rfl
          omega
        have n3 : 0 ≤ numAt s 3 ∧ numAt s 3 ≤ 99 := by
          have : numAt s 3 = 10 * xAt s 3 + xAt s 4 := rfl
          omega
        have n6 : 0 ≤ numAt s 6 ∧ numAt s 6 ≤ 99 := by
          have : numAt s 6 = 10 * xAt s 6 + xAt s 7 := rfl
          omega
        clear gx x0 x0' x1 x1' x3 x3' x4 x4' x6 x6' x7 x7' HR HA
        have hl3 : (preL s 8).length = 3 := rfl
        rw [hl3] at gl ⊢
        clear hl3
        have HF : Hid (fitB h s = (decide (numAt s 0 < h) && decide (numAt s 3 ≤ 59) && decide (numAt s 6 ≤ 59))) := Lib.hid rfl
        have HSEC : Hid (secAt s = (numAt s 0 * 60 + numAt s 3) * 60 + numAt s 6) := Lib.hid rfl
        generalize numAt s 0 = H at *
        generalize numAt s 3 = M at *
        generalize numAt s 6 = S at *
        by_cases hfit : H < h ∧ M ≤ 59 ∧ S ≤ 59
        · have e1 : IntKind.i64.wrap (H * 60) = H * 60 := IntWalk.i64_in _ (by omega)
          have e2 : IntKind.i64.wrap (H * 60 + M) = H * 60 + M := IntWalk.i64_in _ (by omega)
          have e3 : IntKind.i64.wrap ((H * 60 + M) * 60) = (H * 60 + M) * 60 := IntWalk.i64_in _ (by omega)
          have e4 : IntKind.i64.wrap ((H * 60 + M) * 60 + S) = (H * 60 + M) * 60 + S := IntWalk.i64_in _ (by omega)
          have e5 : IntKind.i64.wrap (h * 3600) = h * 3600 := IntWalk.i64_in _ (by omega)
          have hfb : fitB h s = true := by rw [HF.out]; simp [hfit]
          obtain ⟨hf0, hf1, hf2⟩ := hfit
          have gne : ¬ g = w.heap.size := by omega
          have gne2 : ¬ w.heap.size = g := by omega
          by_cases hs8 : s.length = 8
          · have HM : Hid (mk ((H * 60 + M) * 60 + S) (h * 3600) = modelT h s) := Lib.hid (by
              unfold modelT
              rw [if_pos ⟨n8, n22, HH.out, hfb⟩, if_neg (by omega), HSEC.out, Int.mul_one, Int.add_zero, Int.mul_one])
            have k8 : (s.length : Int) = 8 := by omega
            have HD := Lib.hid (fun W : World => diMake_any ((H * 60 + M) * 60 + S) (h * 3600) (by omega) (by omega) W)
            clear hfb HF HH HSEC
            generalize mk ((H * 60 + M) * 60 + S) (h * 3600) = r at *
            go_wp2_with fail
            have hS0 : wr.drew.cell? ⟨g, 0, none⟩ = some (.int .i64 H) ∧ wr.drew.cell? ⟨g, 1, none⟩ = some (.int .i64 M) ∧ wr.drew.cell? ⟨g, 2, none⟩ = some (.int .i64 S) := ⟨z0, z1, z2⟩
            refine wp_region_held (by kernel_rfl) (S := fun W => W.cell? ⟨g, 0, none⟩ = some (.int .i64 H) ∧ W.cell? ⟨g, 1, none⟩ = some (.int .i64 M) ∧ W.cell? ⟨g, 2, none⟩ = some (.int .i64 S)) ?_
            refine take_first (i := 0) (v := .slice (some ⟨g, 0, none⟩) 3 c) 128 rfl rfl (by kernel_rfl) (by kernel_rfl) (by kernel_rfl) (fun _ _ _ h => h) (by rfl) ?_ (by assumption) ?_
            · intro W hS'
              obtain ⟨hSa, hSb, hSc⟩ := hS'
              go_simp
            simp only [Act.put, List.setIfInBounds_toArray, List.set_cons_zero, List.set_cons_succ]
            refine take_first (i := 1) (v := .pointer (some ⟨g, 0, none⟩)) 129 rfl rfl (by kernel_rfl) (by kernel_rfl) (by kernel_rfl) (fun _ _ _ h => h) (by rfl) ?_ (by assumption) ?_
            · intro W hS'
              obtain ⟨hSa, hSb, hSc⟩ := hS'
              go_simp
            simp only [Act.put, List.setIfInBounds_toArray, List.set_cons_zero, List.set_cons_succ]
            refine take_first (i := 2) (v := .int .i64 H) 130 rfl rfl (by kernel_rfl) (by kernel_rfl) (by kernel_rfl) (fun _ _ _ h => h) (by rfl) ?_ (by assumption) ?_
            · intro W hS'
              obtain ⟨hSa, hSb, hSc⟩ := hS'
              go_simp
            simp only [Act.put, List.setIfInBounds_toArray, List.set_cons_zero, List.set_cons_succ]
            refine take_first (i := 3) (v := .int .i64 (H * 60)) 131 rfl rfl (by kernel_rfl) (by kernel_rfl) (by kernel_rfl) (fun _ _ _ h => h) (by rfl) ?_ (by assumption) ?_
            · intro W hS'
              obtain ⟨hSa, hSb, hSc⟩ := hS'
              go_simp
            simp only [Act.put, List.setIfInBounds_toArray, List.set_cons_zero, List.set_cons_succ]
            refine take_first (i := 4) (v := .slice (some ⟨g, 0, none⟩) 3 c) 132 rfl rfl (by kernel_rfl) (by kernel_rfl) (by kernel_rfl) (fun _ _ _ h => h) (by rfl) ?_ (by assumption) ?_
            · intro W hS'
              obtain ⟨hSa, hSb, hSc⟩ := hS'
              go_simp
            simp only [Act.put, List.setIfInBounds_toArray, List.set_cons_zero, List.set_cons_succ]
            refine take_first (i := 5) (v := .pointer (some ⟨g, 1, none⟩)) 133 rfl rfl (by kernel_rfl) (by kernel_rfl) (by kernel_rfl) (fun _ _ _ h => h) (by rfl) ?_ (by assumption) ?_
            · intro W hS'
              obtain ⟨hSa, hSb, hSc⟩ := hS'
              go_simp
            simp only [Act.put, List.setIfInBounds_toArray, List.set_cons_zero, List.set_cons_succ]
            refine take_first (i := 6) (v := .int .i64 M) 134 rfl rfl (by kernel_rfl) (by kernel_rfl) (by kernel_rfl) (fun _ _ _ h => h) (by rfl) ?_ (by assumption) ?_
            · intro W hS'
              obtain ⟨hSa, hSb, hSc⟩ := hS'
              go_simp
            simp only [Act.put, List.setIfInBounds_toArray, List.set_cons_zero, List.set_cons_succ]
            refine take_first (i := 7) (v := .int .i64 (H * 60 + M)) 135 rfl rfl (by kernel_rfl) (by kernel_rfl) (by kernel_rfl) (fun _ _ _ h => h) (by rfl) ?_ (by assumption) ?_
            · intro W hS'
              obtain ⟨hSa, hSb, hSc⟩ := hS'
              go_simp
            simp only [Act.put, List.setIfInBounds_toArray, List.set_cons_zero, List.set_cons_succ]
            refine take_first (i := 8) (v := .int .i64 ((H * 60 + M) * 60)) 136 rfl rfl (by kernel_rfl) (by kernel_rfl) (by kernel_rfl) (fun _ _ _ h => h) (by rfl) ?_ (by assumption) ?_
            · intro W hS'
              obtain ⟨hSa, hSb, hSc⟩ := hS'
              go_simp
            simp only [Act.put, List.setIfInBounds_toArray, List.set_cons_zero, List.set_cons_succ]
            refine take_first (i := 9) (v := .slice (some ⟨g, 0, none⟩) 3 c) 137 rfl rfl (by kernel_rfl) (by kernel_rfl) (by kernel_rfl) (fun _ _ _ h => h) (by rfl) ?_ (by assumption) ?_
            · intro W hS'
              obtain ⟨hSa, hSb, hSc⟩ := hS'
              go_simp
            simp only [Act.put, List.setIfInBounds_toArray, List.set_cons_zero, List.set_cons_succ]
            refine take_first (i := 10) (v := .pointer (some ⟨g, 2, none⟩)) 138 rfl rfl (by kernel_rfl) (by kernel_rfl) (by kernel_rfl) (fun _ _ _ h => h) (by rfl) ?_ (by assumption) ?_
            · intro W hS'
              obtain ⟨hSa, hSb, hSc⟩ := hS'
              go_simp
            simp only [Act.put, List.setIfInBounds_toArray, List.set_cons_zero, List.set_cons_succ]
            refine take_first (i := 11) (v := .int .i64 S) 139 rfl rfl (by kernel_rfl) (by kernel_rfl) (by kernel_rfl) (fun _ _ _ h => h) (by rfl) ?_ (by assumption) ?_
            · intro W hS'
              obtain ⟨hSa, hSb, hSc⟩ := hS'
              go_simp
            simp only [Act.put, List.setIfInBounds_toArray, List.set_cons_zero, List.set_cons_succ]
            refine take_first (i := 12) (v := .int .i64 ((H * 60 + M) * 60 + S)) 140 rfl rfl (by kernel_rfl) (by kernel_rfl) (by kernel_rfl) (fun _ _ _ h => h) (by rfl) ?_ (by assumption) ?_
            · intro W hS'
              obtain ⟨hSa, hSb, hSc⟩ := hS'
              go_simp
            simp only [Act.put, List.setIfInBounds_toArray, List.set_cons_zero, List.set_cons_succ]
            refine take_first (i := 13) (v := .int .i64 1) 141 rfl rfl (by kernel_rfl) (by kernel_rfl) (by kernel_rfl) (fun _ _ _ h => h) (by rfl) ?_ (by assumption) ?_
            · intro W hS'
              obtain ⟨hSa, hSb, hSc⟩ := hS'
              go_simp
            simp only [Act.put, List.setIfInBounds_toArray, List.set_cons_zero, List.set_cons_succ]
            refine take_first (i := 14) (v := .int .i64 ((H * 60 + M) * 60 + S)) 142 rfl rfl (by kernel_rfl) (by kernel_rfl) (by kernel_rfl) (fun _ _ _ h => h) (by rfl) ?_ (by assumption) ?_
            · intro W hS'
              obtain ⟨hSa, hSb, hSc⟩ := hS'
              go_simp
            simp only [Act.put, List.setIfInBounds_toArray, List.set_cons_zero, List.set_cons_succ]
            refine take_first (i := 15) (v := .int .i64 0) 143 rfl rfl (by kernel_rfl) (by kernel_rfl) (by kernel_rfl) (fun _ _ _ h => h) (by rfl) ?_ (by assumption) ?_
            · intro W hS'
              obtain ⟨hSa, hSb, hSc⟩ := hS'
              go_simp
            simp only [Act.put, List.setIfInBounds_toArray, List.set_cons_zero, List.set_cons_succ]
            refine take_first (i := 16) (v := .int .i64 ((H * 60 + M) * 60 + S)) 144 rfl rfl (by kernel_rfl) (by kernel_rfl) (by kernel_rfl) (fun _ _ _ h => h) (by rfl) ?_ (by assumption) ?_
            · intro W hS'
              obtain ⟨hSa, hSb, hSc⟩ := hS'
              go_simp
            simp only [Act.put, List.setIfInBounds_toArray, List.set_cons_zero, List.set_cons_succ]
            refine take_first (i := 17) (v := .int .i64 h) 145 rfl rfl (by kernel_rfl) (by kernel_rfl) (by kernel_rfl) (fun _ _ _ h => h) (by rfl) ?_ (by assumption) ?_
            · intro W hS'
              obtain ⟨hSa, hSb, hSc⟩ := hS'
              go_simp
            simp only [Act.put, List.setIfInBounds_toArray, List.set_cons_zero, List.set_cons_succ]
            refine take_first (i := 18) (v := .int .i64 (h * 3600)) 146 rfl rfl (by kernel_rfl) (by kernel_rfl) (by kernel_rfl) (fun _ _ _ h => h) (by rfl) ?_ (by assumption) ?_
            · intro W hS'
              obtain ⟨hSa, hSb, hSc⟩ := hS'
              go_simp
            simp only [Act.put, List.setIfInBounds_toArray, List.set_cons_zero, List.set_cons_succ]
            refine take_first (i := 19) (v := .int .i64 1) 147 rfl rfl (by kernel_rfl) (by kernel_rfl) (by kernel_rfl) (fun _ _ _ h => h) (by rfl) ?_ (by assumption) ?_
            · intro W hS'
              obtain ⟨hSa, hSb, hSc⟩ := hS'
              go_simp
            simp only [Act.put, List.setIfInBounds_toArray, List.set_cons_zero, List.set_cons_succ]
            refine take_first (i := 20) (v := .int .i64 (h * 3600)) 148 rfl rfl (by kernel_rfl) (by kernel_rfl) (by kernel_rfl) (fun _ _ _ h => h) (by rfl) ?_ (by assumption) ?_
            · intro W hS'
              obtain ⟨hSa, hSb, hSc⟩ := hS'
              go_simp
            simp only [Act.put, List.setIfInBounds_toArray, List.set_cons_zero, List.set_cons_succ]
            refine wpAnyH_all (rs := [21]) (by kernel_rfl) (by decide) (List.forall_mem_cons.2 ⟨?_, fun _ h => absurd h List.not_mem_nil⟩)
            refine wpOp_wp rfl rfl (wp_call_at 149 rfl (f := 38) (args := #[.int .i64 ((H * 60 + M) * 60 + S), .int .i64 (h * 3600)]) (by go_simp) ((HD.out _).mono ?_))
            rintro em wm ⟨rfl, hbm'⟩
            have hbm : Below wr.heap.size wr wm := (show Below wr.heap.size wr wr.drew from (Below.refl _ _).drew).trans hbm'
            clear hbm'
            have hS1 : wm.cell? ⟨g, 0, none⟩ = some (.int .i64 H) ∧ wm.cell? ⟨g, 1, none⟩ = some (.int .i64 M) ∧ wm.cell? ⟨g, 2, none⟩ = some (.int .i64 S) := ⟨((bcell hbm).1 _ _ gs).trans z0, ((bcell hbm).1 _ _ gs).trans z1, ((bcell hbm).1 _ _ gs).trans z2⟩
            have c0m := ((bcell hbm).1 w.heap.size 0 hq).trans c0
            have c1m := ((bcell hbm).1 w.heap.size 1 hq).trans c1
            have f0m := ((bcell hbm).2 w.heap.size 0 hq).trans f0
            have f1m := ((bcell hbm).2 w.heap.size 1 hq).trans f1
            have hzm := hbm.size
            have BM : Below w.heap.size w wm := BR.trans (hbm.mono BR.size)
            clear hbm
            refine ⟨_, rfl, hS1, ?_⟩
            simp only [Act.put, List.setIfInBounds_toArray, List.set_cons_zero, List.set_cons_succ]
            refine take_first (i := 22) (v := .agg #[.int .i64 r.1, .int .i64 r.2.1]) 150 rfl rfl (by kernel_rfl) (by kernel_rfl) (by kernel_rfl) (fun _ _ _ h => h) (by rfl) ?_ (by assumption) ?_
            · intro W hS'
              obtain ⟨hSa, hSb, hSc⟩ := hS'
              go_simp
            simp only [Act.put, List.setIfInBounds_toArray, List.set_cons_zero, List.set_cons_succ]
            refine take_first (i := 23) (v := .bool r.2.2) 151 rfl rfl (by kernel_rfl) (by kernel_rfl) (by kernel_rfl) (fun _ _ _ h => h) (by rfl) ?_ (by assumption) ?_
            · intro W hS'
              obtain ⟨hSa, hSb, hSc⟩ := hS'
              go_simp
            simp only [Act.put, List.setIfInBounds_toArray, List.set_cons_zero, List.set_cons_succ]
            refine wpAnyH_all (rs := [24]) (by kernel_rfl) (by decide) (List.forall_mem_cons.2 ⟨?_, fun _ h => absurd h List.not_mem_nil⟩)
            refine wpOp_wp rfl rfl ?_
            obtain ⟨hSa, hSb, hSc⟩ := hS1
            unfold Oper.wp
            have hS3 : ((wm.setCell ⟨w.heap.size, 0, none⟩ (.int .i64 r.1)).setCell ⟨w.heap.size, 1, none⟩ (.int .i64 r.2.1)).cell? ⟨g, 0, none⟩ = some (.int .i64 H) ∧ ((wm.setCell ⟨w.heap.size, 0, none⟩ (.int .i64 r.1)).setCell ⟨w.heap.size, 1, none⟩ (.int .i64 r.2.1)).cell? ⟨g, 1, none⟩ = some (.int .i64 M) ∧ ((wm.setCell ⟨w.heap.size, 0, none⟩ (.int .i64 r.1)).setCell ⟨w.heap.size, 1, none⟩ (.int .i64 r.2.1)).cell? ⟨g, 2, none⟩ = some (.int .i64 S) := ⟨by go_simp, by go_simp, by go_simp⟩
            go_simp
            refine take_first (i := 25) (v := .bool r.2.2) 5 rfl rfl (by kernel_rfl) (by kernel_rfl) (by kernel_rfl) (fun _ _ _ h => h) (by rfl) ?_ (by assumption) ?_
            · intro W hS'
              obtain ⟨hSa, hSb, hSc⟩ := hS'
              go_simp
            simp only [Act.put, List.setIfInBounds_toArray, List.set_cons_zero, List.set_cons_succ]
            refine wpAnyH_done (by kernel_rfl) ?_ _
            go_wp2
            (refine bodyPost_ret (by simp [results, Tryd.results16, go_sem, *]; try rfl) rfl ?_)
            exact ⟨ret_rv HM.out, by (repeat' (first | (with_reducible exact Below.refl _ _) | (with_reducible assumption) | (with_reducible refine Below.alloc ?_ ?_ _) | (with_reducible refine Below.drew ?_) | (with_reducible refine below_drewN ?_ _) | (with_reducible refine Below.setCell ?_ ?_ _) | (with_reducible refine below_call ?_ ?_ (by assumption)) | go_size))⟩
          · have k9 : (8 : Int) < (s.length : Int) := by omega
            obtain ⟨p, hp⟩ : ∃ p, p = s.drop 9 := ⟨_, rfl⟩
            have zt := fun W => run_tail s 9 (by omega) p hp W
            obtain ⟨b8, hb8⟩ : ∃ x : Int, x = ((s.getD 8 0).toNat : Int) := ⟨_, rfl⟩
            have zb := fun W => run_byte s 8 b8 (by omega) hb8 W
            have hb8' := byte_bd (s.getD 8 0)
            rw [← hb8] at hb8'
            simp only [Int.cast_ofNat_Int] at zt zb
            have plen : p.length ≤ 1000 := by rw [hp]; simp; omega
            have HSP : Hid (∀ W : World, Calls Tryd.prog 35 #[str p, .int .u8 47] W fun e w' => ∃ v, e = .returned v ∧ SRow w' W.heap.size v (splitL 47 p) ∧ Below W.heap.size W w') := fun W => l1Split_any p 47 (by omega) W
            have HMD : Hid (modelT h s = if s.getD 8 0 = 43 ∧ (splitL 47 p).length = 2 ∧ partB (readN ((splitL 47 p).getD 0 [])) (readN ((splitL 47 p).getD 1 [])) = true then
                  mk (((H * 60 + M) * 60 + S) * readN ((splitL 47 p).getD 1 []) + readN ((splitL 47 p).getD 0 [])) (h * 3600 * readN ((splitL 47 p).getD 1 []))
                else fail3) := Lib.hid (by
              unfold modelT
              rw [if_pos ⟨n8, n22, HH.out, hfb⟩, if_pos (by omega), HSEC.out, ← hp])
            have HB8 := Lib.hid hb8
            have hLp := splitL_ne 47 p
            have HLEN : Hid (∀ y, y ∈ splitL 47 p → y.length ≤ 1048576) := fun y hy => by have := splitL_short 47 p y hy; omega
            clear hb8 hfb HF HH HSEC hp
            generalize splitL 47 p = L at *
            go_wp2_with fail
            refine (HSP.out _).mono ?_
            rintro e4 w4 ⟨v, rfl, hrow, hb4⟩
            obtain ⟨g4, c4, rfl, gl4, gm4, gb4, gs4, gx4⟩ := hrow.cells hLp
            clear hrow
            have hz4 := hb4.size
            have Z0' := ((bcell hb4).1 g 0 gs).trans z0
            have Z1' := ((bcell hb4).1 g 1 gs).trans z1
            have Z2' := ((bcell hb4).1 g 2 gs).trans z2
            have C0' := ((bcell hb4).1 w.heap.size 0 hq).trans c0
            have C1' := ((bcell hb4).1 w.heap.size 1 hq).trans c1
            have F0' := ((bcell hb4).2 w.heap.size 0 hq).trans f0
            have F1' := ((bcell hb4).2 w.heap.size 1 hq).trans f1
            have B4 : Below w.heap.size w w4 := BR.trans (hb4.mono BR.size)
            have q4 : w.heap.size < w4.heap.size := by omega
            have gs' : g < w4.heap.size := by omega
            clear hb4
            have i4 : (1 : Int) ≤ (L.length : Int) := by omega
            by_cases hc : b8 = 43
            · by_cases h2 : L.length = 2
              · obtain ⟨a, b, rfl⟩ : ∃ a b, L = [a, b] := by
                  match L, h2 with
                  | [a, b], _ => exact ⟨a, b, rfl⟩
                have hB : s.getD 8 0 = 43 := UInt8.toNat_inj.1 (by have := HB8.out; show (s.getD 8 0).toNat = 43; omega)
                subst hc
                have c40 : w4.cell? ⟨g4, 0, none⟩ = some (str a) := gx4 0 (by simp)
                have c41 : w4.cell? ⟨g4, 1, none⟩ = some (str b) := gx4 1 (by simp)
                have RA := Lib.hid (fun W : World => l1Read_any a (HLEN.out a (by simp)) W)
                have RB := Lib.hid (fun W : World => l1Read_any b (HLEN.out b (by simp)) W)
                obtain ⟨ua, ub⟩ := read_bd a
                obtain ⟨va, vb⟩ := read_bd b
                have HMM : Hid (modelT h s = if partB (readN a) (readN b) = true then mk (((H * 60 + M) * 60 + S) * readN b + readN a) (h * 3600 * readN b) else fail3) := Lib.hid (by
                  rw [HMD.out]
                  simp only [List.getD_cons_zero, List.getD_cons_succ, List.length_cons, List.length_nil]
                  rw [hB]
                  simp)
                clear gx4 HMD HLEN hB h2 HB8 hLp
                generalize readN a = u at *
                generalize readN b = v at *
                go_wp2_with fail
                refine (RA.out _).mono ?_
                rintro e5 w5 ⟨rfl, hb5⟩
                have c51 := ((bcell hb5).1 g4 1 gs4).trans c41
                have Z05 := ((bcell hb5).1 g 0 gs').trans Z0'
                have Z15 := ((bcell hb5).1 g 1 gs').trans Z1'
                have Z25 := ((bcell hb5).1 g 2 gs').trans Z2'
                have C05 := ((bcell hb5).1 w.heap.size 0 q4).trans C0'
                have C15 := ((bcell hb5).1 w.heap.size 1 q4).trans C1'
                have F05 := ((bcell hb5).2 w.heap.size 0 q4).trans F0'
                have F15 := ((bcell hb5).2 w.heap.size 1 q4).trans F1'
                have hz5 := hb5.size
                have q5 : w.heap.size < w5.heap.size := by omega
                have gs5 : g < w5.heap.size := by omega
                have B5 : Below w.heap.size w w5 := B4.trans (hb5.mono B4.size)
                clear hb5 c40 c41 Z0' Z1' Z2' C0' C1' F0' F1' RA
                go_wp2_with fail
                refine (RB.out _).mono ?_
                rintro e6 w6 ⟨rfl, hb6⟩
                have Z06 := ((bcell hb6).1 g 0 gs5).trans Z05
                have Z16 := ((bcell hb6).1 g 1 gs5).trans Z15
                have Z26 := ((bcell hb6).1 g 2 gs5).trans Z25
                have C06 := ((bcell hb6).1 w.heap.size 0 q5).trans C05
                have C16 := ((bcell hb6).1 w.heap.size 1 q5).trans C15
                have F06 := ((bcell hb6).2 w.heap.size 0 q5).trans F05
                have F16 := ((bcell hb6).2 w.heap.size 1 q5).trans F15
                have hz6 := hb6.size
                have q6 : w.heap.size < w6.heap.size := by omega
                have gs6 : g < w6.heap.size := by omega
                have B6 : Below w.heap.size w w6 := B5.trans (hb6.mono B5.size)
                clear hb6 c51 Z05 Z15 Z25 C05 C15 F05 F15 RB
                by_cases hv : v < 2
                · have HM : Hid (fail3 = modelT h s) := Lib.hid (by rw [HMM.out, if_neg (fun hp => by simp only [partB, Bool.and_eq_true, decide_eq_true_eq] at hp; omega)])
                  go_wp2
                  (refine bodyPost_ret (by simp [results, Tryd.results16, go_sem, *]; try rfl) rfl ?_)
                  exact ⟨ret_rv HM.out, by (repeat' (first | (with_reducible exact Below.refl _ _) | (with_reducible assumption) | (with_reducible refine Below.alloc ?_ ?_ _) | (with_reducible refine Below.drew ?_) | (with_reducible refine below_drewN ?_ _) | (with_reducible refine Below.setCell ?_ ?_ _) | (with_reducible refine below_call ?_ ?_ (by assumption)) | go_size))⟩
                · have wv : IntKind.i64.wrap (v - 1) = v - 1 := IntWalk.i64_in _ (by omega)
                  cases hu : inB u 1 (v - 1)
                  · have HM : Hid (fail3 = modelT h s) := Lib.hid (by rw [HMM.out, if_neg (fun hp => by simp [partB, hu] at hp)])
                    go_wp2_with fail
                    refine (l1In_is _ _ _ hu _).mono ?_
                    (rintro e1 w1 ⟨rfl, rfl⟩)
                    go_wp2
                    (refine bodyPost_ret (by simp [results, Tryd.results16, go_sem, *]; try rfl) rfl ?_)
                    exact ⟨ret_rv HM.out, by (repeat' (first | (with_reducible exact Below.refl _ _) | (with_reducible assumption) | (with_reducible refine Below.alloc ?_ ?_ _) | (with_reducible refine Below.drew ?_) | (with_reducible refine below_drewN ?_ _) | (with_reducible refine Below.setCell ?_ ?_ _) | (with_reducible refine below_call ?_ ?_ (by assumption)) | go_size))⟩
                  · obtain ⟨u1, u2⟩ := inB_bd hu
                    by_cases hgc : gc u v = 1
                    · have HM0 : Hid (mk (((H * 60 + M) * 60 + S) * v + u) (h * 3600 * v) = modelT h s) := Lib.hid (by rw [HMM.out, if_pos (by simp [partB, hu, hgc]; omega)])
                      have hgc' : (gc u v == 1) = true := by simpa using hgc
                      have hgc'' : (gc u v != 1) = false := by simp [hgc]
                      obtain ⟨t1, t2⟩ := mulb (show 0 ≤ (H * 60 + M) * 60 + S by omega) (show (H * 60 + M) * 60 + S ≤ 1000000 by omega) (show 0 ≤ v by omega) vb
                      obtain ⟨t3, t4⟩ := mulb (show 0 ≤ h * 3600 by omega) (show h * 3600 ≤ 86400 by omega) (show 0 ≤ v by omega) vb
                      have t5 : 1 ≤ h * 3600 * v := Int.mul_pos (by omega) (by omega)
                      have e6 : IntKind.i64.wrap (((H * 60 + M) * 60 + S) * v) = ((H * 60 + M) * 60 + S) * v := IntWalk.i64_in _ (by omega)
                      have e7 : IntKind.i64.wrap (((H * 60 + M) * 60 + S) * v + u) = ((H * 60 + M) * 60 + S) * v + u := IntWalk.i64_in _ (by omega)
                      have e8 : IntKind.i64.wrap (h * 3600 * v) = h * 3600 * v := IntWalk.i64_in _ (by omega)
                      have HD := Lib.hid (fun W : World => diMake_any (((H * 60 + M) * 60 + S) * v + u) (h * 3600 * v) (by omega) (by omega) W)
                      have HM := HM0
                      clear HMM HM0
                      generalize mk (((H * 60 + M) * 60 + S) * v + u) (h * 3600 * v) = r at *
                      go_wp2_with fail
                      refine (l1In_is _ _ _ hu _).mono ?_
                      (rintro e1 w1 ⟨rfl, rfl⟩)
                      go_wp2_with fail
                      refine (diCommon_any u v (by omega) (by omega) _).mono ?_
                      rintro e7' w7 ⟨rfl, hb7⟩
                      rw [hgc]
                      have z0 := ((bcell hb7).1 g 0 gs6).trans Z06
                      have z1 := ((bcell hb7).1 g 1 gs6).trans Z16
                      have z2 := ((bcell hb7).1 g 2 gs6).trans Z26
                      have c0 := ((bcell hb7).1 w.heap.size 0 q6).trans C06
                      have c1 := ((bcell hb7).1 w.heap.size 1 q6).trans C16
                      have f0 := ((bcell hb7).2 w.heap.size 0 q6).trans F06
                      have f1 := ((bcell hb7).2 w.heap.size 1 q6).trans F16
                      have hz7 := hb7.size
                      have hq : w.heap.size < w7.heap.size := by omega
                      have gs : g < w7.heap.size := by omega
                      have BR : Below w.heap.size w w7 := B6.trans (hb7.mono B6.size)
                      clear hb7 Z06 Z16 Z26 C06 C16 F06 F16
                      go_wp2_with fail
                      have hS0 : w7.drew.cell? ⟨g, 0, none⟩ = some (.int .i64 H) ∧ w7.drew.cell? ⟨g, 1, none⟩ = some (.int .i64 M) ∧ w7.drew.cell? ⟨g, 2, none⟩ = some (.int .i64 S) := ⟨z0, z1, z2⟩
                      refine wp_region_held (by kernel_rfl) (S := fun W => W.cell? ⟨g, 0, none⟩ = some (.int .i64 H) ∧ W.cell? ⟨g, 1, none⟩ = some (.int .i64 M) ∧ W.cell? ⟨g, 2, none⟩ = some (.int .i64 S)) ?_
                      refine take_first (i := 0) (v := .slice (some ⟨g, 0, none⟩) 3 c) 128 rfl rfl (by kernel_rfl) (by kernel_rfl) (by kernel_rfl) (fun _ _ _ h => h) (by rfl) ?_ (by assumption) ?_
                      · intro W hS'
                        obtain ⟨hSa, hSb, hSc⟩ := hS'
                        go_simp
                      simp only [Act.put, List.setIfInBounds_toArray, List.set_cons_zero, List.set_cons_succ]
                      refine take_first (i := 1) (v := .pointer (some ⟨g, 0, none⟩)) 129 rfl rfl (by kernel_rfl) (by kernel_rfl) (by kernel_rfl) (fun _ _ _ h => h) (by rfl) ?_ (by assumption) ?_
                      · intro W hS'
                        obtain ⟨hSa, hSb, hSc⟩ := hS'
                        go_simp
                      simp only [Act.put, List.setIfInBounds_toArray, List.set_cons_zero, List.set_cons_succ]
                      refine take_first (i := 2) (v := .int .i64 H) 130 rfl rfl (by kernel_rfl) (by kernel_rfl) (by kernel_rfl) (fun _ _ _ h => h) (by rfl) ?_ (by assumption) ?_
                      · intro W hS'
                        obtain ⟨hSa, hSb, hSc⟩ := hS'
                        go_simp
                      simp only [Act.put, List.setIfInBounds_toArray, List.set_cons_zero, List.set_cons_succ]
                      refine take_first (i := 3) (v := .int .i64 (H * 60)) 131 rfl rfl (by kernel_rfl) (by kernel_rfl) (by kernel_rfl) (fun _ _ _ h => h) (by rfl) ?_ (by assumption) ?_
                      · intro W hS'
                        obtain ⟨hSa, hSb, hSc⟩ := hS'
                        go_simp
                      simp only [Act.put, List.setIfInBounds_toArray, List.set_cons_zero, List.set_cons_succ]
                      refine take_first (i := 4) (v := .slice (some ⟨g, 0, none⟩) 3 c) 132 rfl rfl (by kernel_rfl) (by kernel_rfl) (by kernel_rfl) (fun _ _ _ h => h) (by rfl) ?_ (by assumption) ?_
                      · intro W hS'
                        obtain ⟨hSa, hSb, hSc⟩ := hS'
                        go_simp
                      simp only [Act.put, List.setIfInBounds_toArray, List.set_cons_zero, List.set_cons_succ]
                      refine take_first (i := 5) (v := .pointer (some ⟨g, 1, none⟩)) 133 rfl rfl (by kernel_rfl) (by kernel_rfl) (by kernel_rfl) (fun _ _ _ h => h) (by rfl) ?_ (by assumption) ?_
                      · intro W hS'
                        obtain ⟨hSa, hSb, hSc⟩ := hS'
                        go_simp
                      simp only [Act.put, List.setIfInBounds_toArray, List.set_cons_zero, List.set_cons_succ]
                      refine take_first (i := 6) (v := .int .i64 M) 134 rfl rfl (by kernel_rfl) (by kernel_rfl) (by kernel_rfl) (fun _ _ _ h => h) (by rfl) ?_ (by assumption) ?_
                      · intro W hS'
                        obtain ⟨hSa, hSb, hSc⟩ := hS'
                        go_simp
                      simp only [Act.put, List.setIfInBounds_toArray, List.set_cons_zero, List.set_cons_succ]
                      refine take_first (i := 7) (v := .int .i64 (H * 60 + M)) 135 rfl rfl (by kernel_rfl) (by kernel_rfl) (by kernel_rfl) (fun _ _ _ h => h) (by rfl) ?_ (by assumption) ?_
                      · intro W hS'
                        obtain ⟨hSa, hSb, hSc⟩ := hS'
                        go_simp
                      simp only [Act.put, List.setIfInBounds_toArray, List.set_cons_zero, List.set_cons_succ]
                      refine take_first (i := 8) (v := .int .i64 ((H * 60 + M) * 60)) 136 rfl rfl (by kernel_rfl) (by kernel_rfl) (by kernel_rfl) (fun _ _ _ h => h) (by rfl) ?_ (by assumption) ?_
                      · intro W hS'
                        obtain ⟨hSa, hSb, hSc⟩ := hS'
                        go_simp
                      simp only [Act.put, List.setIfInBounds_toArray, List.set_cons_zero, List.set_cons_succ]
                      refine take_first (i := 9) (v := .slice (some ⟨g, 0, none⟩) 3 c) 137 rfl rfl (by kernel_rfl) (by kernel_rfl) (by kernel_rfl) (fun _ _ _ h => h) (by rfl) ?_ (by assumption) ?_
                      · intro W hS'
                        obtain ⟨hSa, hSb, hSc⟩ := hS'
                        go_simp
                      simp only [Act.put, List.setIfInBounds_toArray, List.set_cons_zero, List.set_cons_succ]
                      refine take_first (i := 10) (v := .pointer (some ⟨g, 2, none⟩)) 138 rfl rfl (by kernel_rfl) (by kernel_rfl) (by kernel_rfl) (fun _ _ _ h => h) (by rfl) ?_ (by assumption) ?_
                      · intro W hS'
                        obtain ⟨hSa, hSb, hSc⟩ := hS'
                        go_simp
                      simp only [Act.put, List.setIfInBounds_toArray, List.set_cons_zero, List.set_cons_succ]
                      refine take_first (i := 11) (v := .int .i64 S) 139 rfl rfl (by kernel_rfl) (by kernel_rfl) (by kernel_rfl) (fun _ _ _ h => h) (by rfl) ?_ (by assumption) ?_
                      · intro W hS'
                        obtain ⟨hSa, hSb, hSc⟩ := hS'
                        go_simp
                      simp only [Act.put, List.setIfInBounds_toArray, List.set_cons_zero, List.set_cons_succ]
                      refine take_first (i := 12) (v := .int .i64 ((H * 60 + M) * 60 + S)) 140 rfl rfl (by kernel_rfl) (by kernel_rfl) (by kernel_rfl) (fun _ _ _ h => h) (by rfl) ?_ (by assumption) ?_
                      · intro W hS'
                        obtain ⟨hSa, hSb, hSc⟩ := hS'
                        go_simp
                      simp only [Act.put, List.setIfInBounds_toArray, List.set_cons_zero, List.set_cons_succ]
                      refine take_first (i := 13) (v := .int .i64 v) 141 rfl rfl (by kernel_rfl) (by kernel_rfl) (by kernel_rfl) (fun _ _ _ h => h) (by rfl) ?_ (by assumption) ?_
                      · intro W hS'
                        obtain ⟨hSa, hSb, hSc⟩ := hS'
                        go_simp
                      simp only [Act.put, List.setIfInBounds_toArray, List.set_cons_zero, List.set_cons_succ]
                      refine take_first (i := 14) (v := .int .i64 (((H * 60 + M) * 60 + S) * v)) 142 rfl rfl (by kernel_rfl) (by kernel_rfl) (by kernel_rfl) (fun _ _ _ h => h) (by rfl) ?_ (by assumption) ?_
                      · intro W hS'
                        obtain ⟨hSa, hSb, hSc⟩ := hS'
                        go_simp
                      simp only [Act.put, List.setIfInBounds_toArray, List.set_cons_zero, List.set_cons_succ]
                      refine take_first (i := 15) (v := .int .i64 u) 143 rfl rfl (by kernel_rfl) (by kernel_rfl) (by kernel_rfl) (fun _ _ _ h => h) (by rfl) ?_ (by assumption) ?_
                      · intro W hS'
                        obtain ⟨hSa, hSb, hSc⟩ := hS'
                        go_simp
                      simp only [Act.put, List.setIfInBounds_toArray, List.set_cons_zero, List.set_cons_succ]
                      refine take_first (i := 16) (v := .int .i64 (((H * 60 + M) * 60 + S) * v + u)) 144 rfl rfl (by kernel_rfl) (by kernel_rfl) (by kernel_rfl) (fun _ _ _ h => h) (by rfl) ?_ (by assumption) ?_
                      · intro W hS'
                        obtain ⟨hSa, hSb, hSc⟩ := hS'
                        go_simp
                      simp only [Act.put, List.setIfInBounds_toArray, List.set_cons_zero, List.set_cons_succ]
                      refine take_first (i := 17) (v := .int .i64 h) 145 rfl rfl (by kernel_rfl) (by kernel_rfl) (by kernel_rfl) (fun _ _ _ h => h) (by rfl) ?_ (by assumption) ?_
                      · intro W hS'
                        obtain ⟨hSa, hSb, hSc⟩ := hS'
                        go_simp
                      simp only [Act.put, List.setIfInBounds_toArray, List.set_cons_zero, List.set_cons_succ]
                      refine take_first (i := 18) (v := .int .i64 (h * 3600)) 146 rfl rfl (by kernel_rfl) (by kernel_rfl) (by kernel_rfl) (fun _ _ _ h => h) (by rfl) ?_ (by assumption) ?_
                      · intro W hS'
                        obtain ⟨hSa, hSb, hSc⟩ := hS'
                        go_simp
                      simp only [Act.put, List.setIfInBounds_toArray, List.set_cons_zero, List.set_cons_succ]
                      refine take_first (i := 19) (v := .int .i64 v) 147 rfl rfl (by kernel_rfl) (by kernel_rfl) (by kernel_rfl) (fun _ _ _ h => h) (by rfl) ?_ (by assumption) ?_
                      · intro W hS'
                        obtain ⟨hSa, hSb, hSc⟩ := hS'
                        go_simp
                      simp only [Act.put, List.setIfInBounds_toArray, List.set_cons_zero, List.set_cons_succ]
                      refine take_first (i := 20) (v := .int .i64 (h * 3600 * v)) 148 rfl rfl (by kernel_rfl) (by kernel_rfl) (by kernel_rfl) (fun _ _ _ h => h) (by rfl) ?_ (by assumption) ?_
                      · intro W hS'
                        obtain ⟨hSa, hSb, hSc⟩ := hS'
                        go_simp
                      simp only [Act.put, List.setIfInBounds_toArray, List.set_cons_zero, List.set_cons_succ]
                      refine wpAnyH_all (rs := [21]) (by kernel_rfl) (by decide) (List.forall_mem_cons.2 ⟨?_, fun _ h => absurd h List.not_mem_nil⟩)
                      refine wpOp_wp rfl rfl (wp_call_at 149 rfl (f := 38) (args := #[.int .i64 (((H * 60 + M) * 60 + S) * v + u), .int .i64 (h * 3600 * v)]) (by go_simp) ((HD.out _).mono ?_))
                      rintro em wm ⟨rfl, hbm'⟩
                      have hbm : Below w7.heap.size w7 wm := (show Below w7.heap.size w7 w7.drew from (Below.refl _ _).drew).trans hbm'
                      clear hbm'
                      have hS1 : wm.cell? ⟨g, 0, none⟩ = some (.int .i64 H) ∧ wm.cell? ⟨g, 1, none⟩ = some (.int .i64 M) ∧ wm.cell? ⟨g, 2, none⟩ = some (.int .i64 S) := ⟨((bcell hbm).1 _ _ gs).trans z0, ((bcell hbm).1 _ _ gs).trans z1, ((bcell hbm).1 _ _ gs).trans z2⟩
                      have c0m := ((bcell hbm).1 w.heap.size 0 hq).trans c0
                      have c1m := ((bcell hbm).1 w.heap.size 1 hq).trans c1
                      have f0m := ((bcell hbm).2 w.heap.size 0 hq).trans f0
                      have f1m := ((bcell hbm).2 w.heap.size 1 hq).trans f1
                      have hzm := hbm.size
                      have BM : Below w.heap.size w wm := BR.trans (hbm.mono BR.size)
                      clear hbm
                      refine ⟨_, rfl, hS1, ?_⟩
                      simp only [Act.put, List.setIfInBounds_toArray, List.set_cons_zero, List.set_cons_succ]
                      refine take_first (i := 22) (v := .agg #[.int .i64 r.1, .int .i64 r.2.1]) 150 rfl rfl (by kernel_rfl) (by kernel_rfl) (by kernel_rfl) (fun _ _ _ h => h) (by rfl) ?_ (by assumption) ?_
                      · intro W hS'
                        obtain ⟨hSa, hSb, hSc⟩ := hS'
                        go_simp
                      simp only [Act.put, List.setIfInBounds_toArray, List.set_cons_zero, List.set_cons_succ]
                      refine take_first (i := 23) (v := .bool r.2.2) 151 rfl rfl (by kernel_rfl) (by kernel_rfl) (by kernel_rfl) (fun _ _ _ h => h) (by rfl) ?_ (by assumption) ?_
                      · intro W hS'
                        obtain ⟨hSa, hSb, hSc⟩ := hS'
                        go_simp
                      simp only [Act.put, List.setIfInBounds_toArray, List.set_cons_zero, List.set_cons_succ]
                      refine wpAnyH_all (rs := [24]) (by kernel_rfl) (by decide) (List.forall_mem_cons.2 ⟨?_, fun _ h => absurd h List.not_mem_nil⟩)
                      refine wpOp_wp rfl rfl ?_
                      obtain ⟨hSa, hSb, hSc⟩ := hS1
                      unfold Oper.wp
                      have hS3 : ((wm.setCell ⟨w.heap.size, 0, none⟩ (.int .i64 r.1)).setCell ⟨w.heap.size, 1, none⟩ (.int .i64 r.2.1)).cell? ⟨g, 0, none⟩ = some (.int .i64 H) ∧ ((wm.setCell ⟨w.heap.size, 0, none⟩ (.int .i64 r.1)).setCell ⟨w.heap.size, 1, none⟩ (.int .i64 r.2.1)).cell? ⟨g, 1, none⟩ = some (.int .i64 M) ∧ ((wm.setCell ⟨w.heap.size, 0, none⟩ (.int .i64 r.1)).setCell ⟨w.heap.size, 1, none⟩ (.int .i64 r.2.1)).cell? ⟨g, 2, none⟩ = some (.int .i64 S) := ⟨by go_simp, by go_simp, by go_simp⟩
                      go_simp
                      refine take_first (i := 25) (v := .bool r.2.2) 5 rfl rfl (by kernel_rfl) (by kernel_rfl) (by kernel_rfl) (fun _ _ _ h => h) (by rfl) ?_ (by assumption) ?_
                      · intro W hS'
                        obtain ⟨hSa, hSb, hSc⟩ := hS'
                        go_simp
                      simp only [Act.put, List.setIfInBounds_toArray, List.set_cons_zero, List.set_cons_succ]
                      refine wpAnyH_done (by kernel_rfl) ?_ _
                      go_wp2
                      (refine bodyPost_ret (by simp [results, Tryd.results16, go_sem, *]; try rfl) rfl ?_)
                      exact ⟨ret_rv HM.out, by (repeat' (first | (with_reducible exact Below.refl _ _) | (with_reducible assumption) | (with_reducible refine Below.alloc ?_ ?_ _) | (with_reducible refine Below.drew ?_) | (with_reducible refine below_drewN ?_ _) | (with_reducible refine Below.setCell ?_ ?_ _) | (with_reducible refine below_call ?_ ?_ (by assumption)) | go_size))⟩
                    · have HM : Hid (fail3 = modelT h s) := Lib.hid (by rw [HMM.out, if_neg (fun hp => by simp [partB, hgc] at hp)])
                      have hgc' : (gc u v == 1) = false := by simpa using hgc
                      have hgc'' : (gc u v != 1) = true := by simp [hgc]
                      go_wp2_with fail
                      refine (l1In_is _ _ _ hu _).mono ?_
                      (rintro e1 w1 ⟨rfl, rfl⟩)
                      go_wp2_with fail
                      refine (diCommon_any u v (by omega) (by omega) _).mono ?_
                      rintro e7' w7 ⟨rfl, hb7⟩
                      have c0 := ((bcell hb7).1 w.heap.size 0 q6).trans C06
                      have c1 := ((bcell hb7).1 w.heap.size 1 q6).trans C16
                      have f0 := ((bcell hb7).2 w.heap.size 0 q6).trans F06
                      have f1 := ((bcell hb7).2 w.heap.size 1 q6).trans F16
                      have BR : Below w.heap.size w w7 := B6.trans (hb7.mono B6.size)
                      have hz7 := hb7.size
                      have hq : w.heap.size < w7.heap.size := by omega
                      go_wp2
                      (refine bodyPost_ret (by simp [results, Tryd.results16, go_sem, *]; try rfl) rfl ?_)
                      exact ⟨ret_rv HM.out, by (repeat' (first | (with_reducible exact Below.refl _ _) | (with_reducible assumption) | (with_reducible refine Below.alloc ?_ ?_ _) | (with_reducible refine Below.drew ?_) | (with_reducible refine below_drewN ?_ _) | (with_reducible refine Below.setCell ?_ ?_ _) | (with_reducible refine below_call ?_ ?_ (by assumption)) | go_size))⟩
              · have h2' : ¬ (L.length : Int) = 2 := by omega
                have HM : Hid (fail3 = modelT h s) := Lib.hid (by rw [HMD.out, if_neg (fun hh => h2 hh.2.1)])
                go_wp2
                (refine bodyPost_ret (by simp [results, Tryd.results16, go_sem, *]; try rfl) rfl ?_)
                exact ⟨ret_rv HM.out, by (repeat' (first | (with_reducible exact Below.refl _ _) | (with_reducible assumption) | (with_reducible refine Below.alloc ?_ ?_ _) | (with_reducible refine Below.drew ?_) | (with_reducible refine below_drewN ?_ _) | (with_reducible refine Below.setCell ?_ ?_ _) | (with_reducible refine below_call ?_ ?_ (by assumption)) | go_size))⟩
            · have HM : Hid (fail3 = modelT h s) := Lib.hid (by rw [HMD.out, if_neg (fun hh => hc (by rw [HB8.out, hh.1]; rfl))])
              go_wp2
              (refine bodyPost_ret (by simp [results, Tryd.results16, go_sem, *]; try rfl) rfl ?_)
              exact ⟨ret_rv HM.out, by (repeat' (first | (with_reducible exact Below.refl _ _) | (with_reducible assumption) | (with_reducible refine Below.alloc ?_ ?_ _) | (with_reducible refine Below.drew ?_) | (with_reducible refine below_drewN ?_ _) | (with_reducible refine Below.setCell ?_ ?_ _) | (with_reducible refine below_call ?_ ?_ (by assumption)) | go_size))⟩
        · have HM : Hid (fail3 = modelT h s) := Lib.hid (by
            unfold modelT
            rw [if_neg]
            rintro ⟨-, -, -, hf⟩
            rw [HF.out] at hf
            simp only [Bool.and_eq_true, decide_eq_true_eq] at hf
            exact hfit ⟨hf.1.1, hf.1.2, hf.2⟩)
          by_cases hf0 : H < h
          · by_cases hf1 : M ≤ 59
            · have hf2 : 59 < S := by omega
              go_wp2
              (refine bodyPost_ret (by simp [results, Tryd.results16, go_sem, *]; try rfl) rfl ?_)
              exact ⟨ret_rv HM.out, by (repeat' (first | (with_reducible exact Below.refl _ _) | (with_reducible assumption) | (with_reducible refine Below.alloc ?_ ?_ _) | (with_reducible refine Below.drew ?_) | (with_reducible refine below_drewN ?_ _) | (with_reducible refine Below.setCell ?_ ?_ _) | (with_reducible refine below_call ?_ ?_ (by assumption)) | go_size))⟩
            · have hf1' : 59 < M := by omega
              go_wp2
              (refine bodyPost_ret (by simp [results, Tryd.results16, go_sem, *]; try rfl) rfl ?_)
              exact ⟨ret_rv HM.out, by (repeat' (first | (with_reducible exact Below.refl _ _) | (with_reducible assumption) | (with_reducible refine Below.alloc ?_ ?_ _) | (with_reducible refine Below.drew ?_) | (with_reducible refine below_drewN ?_ _) | (with_reducible refine Below.setCell ?_ ?_ _) | (with_reducible refine below_call ?_ ?_ (by assumption)) | go_size))⟩
          · have hf0' : h ≤ H := by omega
            go_wp2
            (refine bodyPost_ret (by simp [results, Tryd.results16, go_sem, *]; try rfl) rfl ?_)
            exact ⟨ret_rv HM.out, by (repeat' (first | (with_reducible exact Below.refl _ _) | (with_reducible assumption) | (with_reducible refine Below.alloc ?_ ?_ _) | (with_reducible refine Below.drew ?_) | (with_reducible refine below_drewN ?_ _) | (with_reducible refine Below.setCell ?_ ?_ _) | (with_reducible refine below_call ?_ ?_ (by assumption)) | go_size))⟩
  · have HM : Hid (fail3 = modelT h s) := Lib.hid (by unfold modelT; rw [if_neg (fun h => hlen ⟨h.1, h.2.1⟩)])
    by_cases h8 : (s.length : Int) < 8
    · (go_enter Tryd.func16, Tryd.ntmps16)
      go_wp2
      (refine bodyPost_ret (by simp [results, Tryd.results16, go_sem, *]; try rfl) rfl ?_)
      exact ⟨ret_rv HM.out, by (repeat' (first | (with_reducible exact Below.refl _ _) | (with_reducible assumption) | (with_reducible refine Below.alloc ?_ ?_ _) | (with_reducible refine Below.drew ?_) | (with_reducible refine below_drewN ?_ _) | (with_reducible refine Below.setCell ?_ ?_ _) | (with_reducible refine below_call ?_ ?_ (by assumption)) | go_size))⟩
    · have h22 : (22 : Int) < (s.length : Int) := by omega
      (go_enter Tryd.func16, Tryd.ntmps16)
      go_wp2
      (refine bodyPost_ret (by simp [results, Tryd.results16, go_sem, *]; try rfl) rfl ?_)
      exact ⟨ret_rv HM.out, by (repeat' (first | (with_reducible exact Below.refl _ _) | (with_reducible assumption) | (with_reducible refine Below.alloc ?_ ?_ _) | (with_reducible refine Below.drew ?_) | (with_reducible refine below_drewN ?_ _) | (with_reducible refine Below.setCell ?_ ?_ _) | (with_reducible refine below_call ?_ ?_ (by assumption)) | go_size))⟩
end Go.Proofs.YtebjlaajddpbhaaDoor
