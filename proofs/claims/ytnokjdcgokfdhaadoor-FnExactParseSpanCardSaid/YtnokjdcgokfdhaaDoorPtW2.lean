/- A text split by the model. -/
import Derived.Test.YtnokjdcgokfdhaaDoorPtM2
import Derived.Test.YtnokjdcgokfdhaaDoorPtW1
import Derived.Test.YtnokjdcgokfdhaaDoorLate
import Derived.Deep.AppendLies
import Derived.LoopTactic
set_option linter.unusedSimpArgs false
set_option linter.unusedVariables false
set_option maxRecDepth 100000
namespace Go.Proofs.YtnokjdcgokfdhaaDoor
open Go.RowKit

theorem Tryd.infoString : (Tryd.prog.info? 9).map (fun i => (i.zero, i.size, i.bytes)) = some (some (.string ⟨#[]⟩), 1, 16) := by kernel_rfl
/-- A slice of texts in memory of the call's own. -/
def SRow (w : World) (base : Nat) (v : Value) (L : List (List UInt8)) : Prop := w.ownsRow base 9 1 v L.length (L.map fun l => str l)
theorem SRow.cells {w : World} {base : Nat} {v : Value} {L : List (List UInt8)} (h : SRow w base v L) (h1 : 1 ≤ L.length) :
    ∃ (g c : Nat), v = .slice (some ⟨g, 0, none⟩) L.length c ∧ L.length ≤ c ∧ c ≤ maxLen ∧ base ≤ g ∧ g < w.heap.size ∧ ∀ k, k < L.length → w.cell? ⟨g, k, none⟩ = some (str (L.getD k [])) := by
  have h0 := h
  rcases h.2 with ⟨h2, h3⟩ | ⟨g, cap, cur, h2, h3, h4, h5, h6, h7⟩
  · omega
  · refine ⟨g, cap, h2, h5, h6, h3, ?_, fun k hk => ?_⟩
    · rcases Nat.lt_or_ge g w.heap.size with hlt | hge
      · exact hlt
      · rw [Array.getElem?_eq_none hge] at h4; cases h4
    · unfold SRow at h0
      rw [h2] at h0
      rw [World.ownsRow.cellAt h0 k (by simpa using hk)]
      simp [List.getD_eq_getElem?_getD, hk]
def SplitAt (x : UInt8) (l : List UInt8) (k f : Nat) (P : List (List UInt8)) : Prop := f ≤ k ∧ P.length ≤ f ∧ splitL x l = P ++ splitL x (l.drop f) ∧ ¬ x ∈ (l.drop f).take (k - f)
theorem piece_next {l : List UInt8} {k f : Nat} (hf : f ≤ k) (hk : k < l.length) : (l.drop f).take (k + 1 - f) = (l.drop f).take (k - f) ++ [l.getD k 0] := by
  rw [show k + 1 - f = (k - f) + 1 by omega, take_next (by simp; omega)]
  simp [List.getD_eq_getElem?_getD, List.getElem?_drop, show f + (k - f) = k by omega]
theorem split_zero (x : UInt8) (l : List UInt8) : SplitAt x l 0 0 [] := ⟨Nat.le_refl _, Nat.le_refl _, rfl, by simp⟩
theorem split_next {x : UInt8} {l : List UInt8} {k f : Nat} {P : List (List UInt8)} (h : SplitAt x l k f P) (hk : k < l.length) (hx : ¬ l.getD k 0 = x) : SplitAt x l (k + 1) f P := by
  obtain ⟨h1, h2, h3, h4⟩ := h
  refine ⟨by omega, h2, h3, ?_⟩
  rw [piece_next h1 hk, List.mem_append]
  rintro (h | h)
  · exact h4 h
  · exact hx (List.mem_singleton.1 h).symm
theorem split_cut {x : UInt8} {l : List UInt8} {k f : Nat} {P : List (List UInt8)} (h : SplitAt x l k f P) (hk : k < l.length) (hx : l.getD k 0 = x) : SplitAt x l (k + 1) (k + 1) (P ++ [(l.drop f).take (k - f)]) := by
  obtain ⟨h1, h2, h3, h4⟩ := h
  refine ⟨Nat.le_refl _, by simp; omega, ?_, by simp⟩
  have e : l.drop f = (l.drop f).take (k - f) ++ x :: l.drop (k + 1) := by
    have e2 : (l.drop f).drop (k - f) = x :: l.drop (k + 1) := by
      rw [List.drop_drop, show f + (k - f) = k by omega, List.drop_eq_getElem_cons hk]
      rw [List.getD_eq_getElem?_getD, List.getElem?_eq_getElem hk] at hx
      rw [← hx]
      rfl
    rw [← e2, List.take_append_drop]
  rw [h3, List.append_assoc]
  congr 1
  conv => lhs; rw [e]
  rw [splitL_at h4]
  rfl
theorem split_end {x : UInt8} {l : List UInt8} {f : Nat} {P : List (List UInt8)} (h : SplitAt x l l.length f P) : splitL x l = P ++ [l.drop f] := by
  obtain ⟨h1, h2, h3, h4⟩ := h
  rw [h3]
  have : (l.drop f).take (l.length - f) = l.drop f := List.take_of_length_le (by simp)
  rw [this] at h4
  rw [splitL_no h4]
theorem run_piece (l : List UInt8) (f k : Nat) (h1 : f ≤ k) (h2 : k ≤ l.length) (p : List UInt8) (hp : p = (l.drop f).take (k - f)) (W : World) :
    (Instr.slice 9 (.string ⟨l.toArray⟩) (some (.int .i64 (f : Int))) (some (.int .i64 (k : Int))) none).run Tryd.prog W = .ok (str p) W := by
  rw [run_slice_string (w := W) (t := 9) (s := ⟨l.toArray⟩) (k := .i64) (k' := .i64) (i := (f : Int)) (j := (k : Int)) (by kernel_rfl) (by omega) (by omega) (by show (k : Int) ≤ (l.toArray.size : Int); simp; omega)]
  have : (⟨l.toArray⟩ : ByteArray).extract (f : Int).toNat (k : Int).toNat = ⟨p.toArray⟩ := by
    apply ByteArray.ext
    rw [ByteArray.data_extract, hp]
    simp
  rw [this]
theorem run_tail (l : List UInt8) (f : Nat) (h1 : f ≤ l.length) (p : List UInt8) (hp : p = l.drop f) (W : World) :
    (Instr.slice 9 (.string ⟨l.toArray⟩) (some (.int .i64 (f : Int))) none none).run Tryd.prog W = .ok (str p) W := by
  rw [run_slice_string_l (w := W) (t := 9) (s := ⟨l.toArray⟩) (by kernel_rfl) .i64 f (by omega) (by show (f : Int) ≤ (l.toArray.size : Int); simp; omega)]
  have : (⟨l.toArray⟩ : ByteArray).extract (f : Int).toNat (⟨l.toArray⟩ : ByteArray).size = ⟨p.toArray⟩ := by
    apply ByteArray.ext
    rw [ByteArray.data_extract, hp]
    simp [ByteArray.size]
    exact List.take_of_length_le (by simp)
  rw [this]

set_option maxHeartbeats 1600000 in
theorem l1Split_any (l : List UInt8) (x : UInt8) (hl : l.length ≤ 1048576) (w : World) :
    Calls Tryd.prog 15 #[str l, .int .u8 (x.toNat : Int)] w fun e w' => ∃ v, e = .returned v ∧ SRow w' w.heap.size v (splitL x l) ∧ Below w.heap.size w w' := by
  obtain ⟨i0, hi0, hz0, hz1, hz2⟩ := info_parts Tryd.infoString
  have I0 := Lib.hid hi0
  have Z0 := Lib.hid hz0
  have Z1 := Lib.hid hz1
  have Z2 := Lib.hid hz2
  clear hi0 hz0 hz1 hz2
  obtain ⟨y, hy⟩ : ∃ y : Int, y = (x.toNat : Int) := ⟨_, rfl⟩
  have HY := Lib.hid hy
  rw [← hy]
  clear hy
  (go_enter Tryd.func15, Tryd.ntmps15)
  go_wp2
  go_loopw [5, 6, 7] (fun o fr i wr => ∃ (k f : Nat) (P : List (List UInt8)), k ≤ l.length ∧ i = .int .i64 k ∧ fr = .int .i64 f ∧ SplitAt x l k f P ∧ SRow wr w.heap.size o P ∧ Below w.heap.size w wr) (fun _ _ i _ => l.length - (intOf i).toNat)
  case atStart => exact ⟨0, 0, [], Nat.zero_le _, rfl, rfl, split_zero x l, World.ownsRow_nil _ _ _ _, Below.refl _ _⟩
  case round =>
    obtain ⟨k, f, P, hk, rfl, rfl, hsp, hrow, hbr⟩ := hrel
    obtain ⟨hfk, hPf, -, -⟩ := id hsp
    have hzr := hbr.size
    have HS := Lib.hid hsp
    have HR := Lib.hid hrow
    clear hsp hrow
    have j0 : (0 : Int) ≤ (k : Int) := Int.natCast_nonneg _
    have j2 : (0 : Int) ≤ (f : Int) := Int.natCast_nonneg _
    have j3 : (f : Int) ≤ (k : Int) := by omega
    by_cases hlt : k < l.length
    · have j1 : (k : Int) < (l.length : Int) := by omega
      obtain ⟨c, hc⟩ : ∃ c : Int, c = ((l.getD k 0).toNat : Int) := ⟨_, rfl⟩
      have hzk := fun W => run_byte l k c hlt hc W
      have HC := Lib.hid hc
      clear hc
      by_cases he : c = y
      · obtain ⟨p, hp⟩ : ∃ p, p = (l.drop f).take (k - f) := ⟨_, rfl⟩
        have hpz := fun W => run_piece l f k hfk (by omega) p hp W
        have HN := Lib.hid (split_cut HS.out hlt (by
          have h1 := HC.out; have h2 := HY.out
          exact UInt8.toNat_inj.1 (by omega)))
        rw [← hp] at HN
        clear hp
        subst he
        have HLT : ∀ k, u5.ownBlock = some k → w.heap.size ≤ k := fun k hk => (World.ownsRow.lt HR.out k hk).1
        go_wp2_with (at_builtin; refine wpList_append_lies _ rfl _ _ _ rfl w.heap.size 9 i0 _ 1 16 Tryd.underlying35 I0.out Z0.out Z1.out Z2.out rfl (by omega) u5 P.length _ rfl (World.ownsRow.alloc HR.out _) ⟨wr.heap.size, 0, none⟩ 1 1 [str p] rfl rfl (World.news_of_block (cs := #[str p]) (t := 9) (fr := (0, 0)) (by simpa using heap_alloc_new wr _)) (by simp [Value.oneCell']) (by omega) (by unfold maxLen; omega) (by omega) (by simp; omega) (wr.heap.size + 1) (by simp) ?_; intro g cap w3 hown3 hgrow hat hlt3)
        go_roundw
        case rel =>
          refine ⟨k + 1, k + 1, P ++ [p], by omega, by go_num, by go_num, HN.out, ?_, ?_⟩
          · unfold SRow
            rw [List.map_append, List.length_append]
            exact hown3
          · exact Below.grown (by (repeat' (first | (with_reducible exact Below.refl _ _) | (with_reducible assumption) | (with_reducible refine Below.alloc ?_ ?_ _) | (with_reducible refine Below.drew ?_) | (with_reducible refine below_drewN ?_ _) | (with_reducible refine Below.setCell ?_ ?_ _) | (with_reducible refine below_call ?_ ?_ (by assumption)) | go_size))) hgrow (by simp; omega) HLT
        case measure => simp [intOf]; omega
      · have HN := Lib.hid (split_next HS.out hlt (fun h => he (by rw [HC.out, HY.out, h])))
        go_wp2
        go_roundw
        case rel => exact ⟨k + 1, f, P, by omega, by go_num, rfl, HN.out, HR.out, hbr⟩
        case measure => simp [intOf]; omega
    · obtain rfl : k = l.length := by omega
      have HE := Lib.hid (split_end HS.out)
      obtain ⟨p, hp⟩ : ∃ p, p = l.drop f := ⟨_, rfl⟩
      have hpz := fun W => run_tail l f (by omega) p hp W
      rw [← hp] at HE
      clear hp
      have HLT : ∀ k, u5.ownBlock = some k → w.heap.size ≤ k := fun k hk => (World.ownsRow.lt HR.out k hk).1
      go_wp2_with (at_builtin; refine wpList_append_lies _ rfl _ _ _ rfl w.heap.size 9 i0 _ 1 16 Tryd.underlying35 I0.out Z0.out Z1.out Z2.out rfl (by omega) u5 P.length _ rfl (World.ownsRow.alloc HR.out _) ⟨wr.heap.size, 0, none⟩ 1 1 [str p] rfl rfl (World.news_of_block (cs := #[str p]) (t := 9) (fr := (0, 0)) (by simpa using heap_alloc_new wr _)) (by simp [Value.oneCell']) (by omega) (by unfold maxLen; omega) (by omega) (by simp; omega) (wr.heap.size + 1) (by simp) ?_; intro g cap w3 hown3 hgrow hat hlt3)
      go_ret
      refine ⟨_, rfl, ?_, ?_⟩
      · rw [HE.out]
        unfold SRow
        rw [List.map_append, List.length_append]
        exact hown3
      · exact Below.grown (by (repeat' (first | (with_reducible exact Below.refl _ _) | (with_reducible assumption) | (with_reducible refine Below.alloc ?_ ?_ _) | (with_reducible refine Below.drew ?_) | (with_reducible refine below_drewN ?_ _) | (with_reducible refine Below.setCell ?_ ?_ _) | (with_reducible refine below_call ?_ ?_ (by assumption)) | go_size))) hgrow (by simp; omega) HLT
end Go.Proofs.YtnokjdcgokfdhaaDoor
