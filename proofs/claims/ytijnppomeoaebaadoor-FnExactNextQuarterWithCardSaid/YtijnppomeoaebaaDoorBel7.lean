/- The bells of a tune by the program. -/
import Derived.Test.YtijnppomeoaebaaDoorBel6
set_option linter.unusedSimpArgs false
set_option linter.unusedVariables false
set_option maxRecDepth 100000
namespace Go.Proofs.YtijnppomeoaebaaDoor
open Go.RowKit

theorem row_iterAt {w : World} {B : Nat} {v : Value} {L : List Int} {k : Nat} {s : ByteArray} {pos : Nat} (h : IRow w B v L) (hk : w.heap[k]? = some (.stringIter s pos)) (pos' : Nat) : IRow (Go.World.iterAt w k s pos') B v L := by
  refine ⟨h.1, ?_⟩
  rcases h.2 with h0 | ⟨g, cap, cur, hv, hb, hg, rest⟩
  · exact .inl h0
  · exact .inr ⟨g, cap, cur, hv, hb, (Lib.iterAt_other _ _ _ _ _ (fun e => by subst e; rw [hk] at hg; cases hg)).trans hg, rest⟩
theorem row_ne_iter {w : World} {B : Nat} {v : Value} {L : List Int} {k : Nat} {s : ByteArray} {pos : Nat} (h : IRow w B v L) (hk : w.heap[k]? = some (.stringIter s pos)) : some k ≠ v.ownBlock := by
  rcases h.2 with ⟨rfl, _⟩ | ⟨g, cap, cur, rfl, hb, hg, rest⟩
  · simp [Value.ownBlock]
  · intro e
    simp only [Value.ownBlock, Option.some.injEq] at e
    subst e
    rw [hk] at hg
    cases hg
/-- The bells of a text, one behind the other. -/
def rawB (l : List UInt8) : List Int := l.map fun c => (c.toNat : Int) - 48
theorem rawB_len (l : List UInt8) : (rawB l).length = l.length := by simp [rawB]
theorem rawB_next {l : List UInt8} {k : Nat} (h : k < l.length) : rawB (l.take (k + 1)) = rawB (l.take k) ++ [((l.getD k 0).toNat : Int) - 48] := by rw [take_next h]; simp [rawB]
/-- The bells of the first phrases, one behind the other. -/
def rawK (T : List (List UInt8)) : Nat → List Int
  | 0 => []
  | k + 1 => rawK T k ++ rawB (T.getD k [])
theorem rawK_mem (T : List (List UInt8)) (z : Int) : ∀ k, z ∈ rawK T k ↔ ∃ j, j < k ∧ z ∈ rawB (T.getD j [])
  | 0 => by simp [rawK]
  | k + 1 => by
    simp only [rawK, List.mem_append, rawK_mem T z k]
    constructor
    · rintro (⟨j, hj, h⟩ | h)
      · exact ⟨j, by omega, h⟩
      · exact ⟨k, by omega, h⟩
    · rintro ⟨j, hj, h⟩
      by_cases e : j = k
      · subst e; exact .inr h
      · exact .inl ⟨j, by omega, h⟩
theorem rawK_len {T : List (List UInt8)} (h : T.all okP = true) : ∀ k, k ≤ T.length → (rawK T k).length ≤ 8 * k
  | 0, _ => by simp [rawK]
  | k + 1, hk => by
    have h1 := rawK_len h k (by omega)
    have h2 := (okP_bd (all_at (d := []) h (show k < T.length by omega))).1
    simp only [rawK, List.length_append, rawB_len]
    omega
theorem rawK_pos {T : List (List UInt8)} (h : T.all okP = true) (hn : 1 ≤ T.length) : 1 ≤ (rawK T T.length).length := by
  obtain ⟨k, hk⟩ : ∃ k, T.length = k + 1 := ⟨T.length - 1, by omega⟩
  rw [hk]
  have h2 := (okP_bd (all_at (d := []) h (show k < T.length by omega))).1
  simp only [rawK, List.length_append, rawB_len]
  omega
/-- What is left when they are sorted and repeats are struck out: the bells, increasing. -/
theorem bells_same {T : List (List UInt8)} (h : T.all okP = true) : Lib.compact ((rawK T T.length).mergeSort leI) = belK T 8 := by
  obtain ⟨a1, a2⟩ := comp_sorted (rawK T T.length)
  obtain ⟨b1, b2, -⟩ := belK_all T 8
  refine lt_ext a1 b1 fun z => ?_
  rw [a2, b2, rawK_mem]
  constructor
  · rintro ⟨j, hj, hz⟩
    have hok := all_at (d := []) h hj
    obtain ⟨x, hx, rfl⟩ := List.mem_map.1 hz
    have hb := okN_bd (List.all_eq_true.1 (okP_bd hok).2 x hx)
    refine ⟨by omega, by omega, any_hit hj (decide_eq_true (cntN_pos.2 ?_))⟩
    have : ntB ((x.toNat : Int) - 48) = x := by unfold ntB; apply UInt8.toNat_inj.1; rw [UInt8.toNat_ofNat']; omega
    rw [this]; exact hx
  · rintro ⟨h1, h2, h3⟩
    obtain ⟨l, hl, hc⟩ := List.any_eq_true.1 h3
    obtain ⟨j, hj, rfl⟩ := List.mem_iff_getElem.1 hl
    have hm := cntN_pos.1 (of_decide_eq_true hc)
    refine ⟨j, hj, List.mem_map.2 ⟨ntB z, ?_, ?_⟩⟩
    · rw [List.getD_eq_getElem?_getD, List.getElem?_eq_getElem hj]; exact hm
    · rw [ntB_nat ⟨h1, by omega⟩]; omega
theorem ascii_dec {l : List UInt8} {k : Nat} (h : k < l.length) (ho : okN (l.getD k 0) = true) : Utf8.decode ⟨l.toArray⟩ k = ((l.getD k 0).toNat, 1) := by
  have hb := okN_bd ho
  have hs : k < (⟨l.toArray⟩ : ByteArray).size := by rw [bsize]; exact h
  have e := byte_at l k h
  rw [decode_ascii _ _ hs (by rw [e]; omega), e]

set_option maxHeartbeats 3200000 in
theorem bellsIn_any (a : Option Addr) (c : Nat) (T : List (List UInt8)) (ht : okT T = true) (w : World) (hin : XIn w a T) :
    Calls Tryd.prog 35 #[.slice a T.length c] w fun e w' => ∃ v, e = .returned v ∧ IRow w' w.heap.size v (belK T 8) ∧ Below w.heap.size w w' := by
  obtain ⟨i0, hi0, hz0, hz1, hz2⟩ := info_parts Tryd.infoInt
  have I0 := Lib.hid hi0
  have Z0 := Lib.hid hz0
  have Z1 := Lib.hid hz1
  have Z2 := Lib.hid hz2
  clear hi0 hz0 hz1 hz2
  obtain ⟨hn, hall⟩ := okT_bd ht
  have HALL := Lib.hid hall
  have X := Lib.hid hin
  have HSAME := Lib.hid (bells_same hall)
  have hrl := rawK_len hall T.length (Nat.le_refl _)
  have hrp := rawK_pos hall hn.1
  clear hall hin ht
  (go_enter Tryd.func35, Tryd.ntmps35)
  go_wp2
  go_loopw [3, 10] (fun o i wr => ∃ k : Nat, k ≤ T.length ∧ i = .int .i64 k ∧ IRow wr w.heap.size o (rawK T k) ∧ Below w.heap.size w wr) (fun _ i _ => T.length - (RowKit.intOf i).toNat)
  case atStart => exact ⟨0, Nat.zero_le _, rfl, IRow.nil _ _, Below.refl _ _⟩
  case round =>
    obtain ⟨k, hk, rfl, hrow, hbr⟩ := hrel
    obtain ⟨wo, rfl⟩ : ∃ wo, wo = wr := ⟨_, rfl⟩
    have HO := Lib.hid hrow
    have hzr := hbr.size
    clear hrow
    have i0' : (0 : Int) ≤ (k : Int) := Int.natCast_nonneg _
    by_cases hlt : k < T.length
    · obtain ⟨hcr, hfr⟩ := bcell hbr
      obtain ⟨b, off, rfl, e1, e2⟩ := X.out k hlt
      have u1 : b < wo.heap.size := by omega
      have i1 : (k : Int) < (T.length : Int) := by omega
      have hok := okP_bd (all_at (d := []) HALL.out hlt)
      have HP := Lib.hid hok.2
      have hl8 := hok.1
      have hkl := rawK_len HALL.out k hk
      have HNX : Hid (rawK T (k + 1) = rawK T k ++ rawB (T.getD k [])) := Lib.hid rfl
      clear hok
      generalize T.getD k [] = l at *
      generalize rawK T k = M at *
      obtain ⟨s, hs⟩ : ∃ s : ByteArray, s = ⟨l.toArray⟩ := ⟨_, rfl⟩
      have hsz : s.size = l.length := by rw [hs]; exact bsize l
      have HSZ := Lib.hid hsz
      have HDEC : Hid (∀ j, j < l.length → okN (l.getD j 0) = true → Utf8.decode s j = ((l.getD j 0).toNat, 1)) := Lib.hid (by subst hs; exact fun j hj => ascii_dec hj)
      unfold str at e2
      rw [← hs] at e2
      clear hs hsz
      go_wp2
      go_loopw [3] (fun o wr => ∃ j : Nat, j ≤ l.length ∧ IRow wr w.heap.size o (M ++ rawB (l.take j)) ∧ wr.heap[wo.heap.size]? = some (.stringIter s j) ∧ Below w.heap.size w wr) (fun _ wr => s.size - wr.iterPos wo.heap.size)
      case atStart =>
        refine ⟨0, Nat.zero_le _, ?_, ?_, ?_⟩
        · rw [List.take_zero, show rawB [] = [] from rfl, List.append_nil]
          exact IRow.below HO.out (iter_grow _ _ _)
        · exact World.iter_heap _ _ _
        · exact Below.alloc hbr hzr _
      case round =>
        obtain ⟨j, hj, hrj, hit, hbq⟩ := hrel
        have HIT := Lib.hid hit
        have HRJ := Lib.hid hrj
        have hzq := hbq.size
        clear hrj
        by_cases hlt2 : j < l.length
        · have hok2 := all_at (d := 0) HP.out hlt2
          have hbd := okN_bd hok2
          obtain ⟨x, hx⟩ : ∃ x : Nat, x = (l.getD j 0).toNat := ⟨_, rfl⟩
          have hnx : ∀ ty, (Instr.next (.pointer (some ⟨wo.heap.size, 0, none⟩)) true ty).run Tryd.prog wr = .ok (.tuple #[.bool true, .int .i64 j, .int .i32 x]) (Go.World.iterAt wr wo.heap.size s (j + 1)) := fun ty => by
            have := Lib.run_next_any_at (P := Tryd.prog) wr wo.heap.size s j ty hit (by rw [HSZ.out]; exact hlt2)
            rw [HDEC.out j hlt2 hok2] at this
            rw [hx]; exact this
          have HRW : Hid (rawB (l.take (j + 1)) = rawB (l.take j) ++ [(x : Int) - 48]) := Lib.hid (by rw [rawB_next hlt2, hx])
          rw [← hx] at hbd
          clear hx hok2
          have hlen : (M ++ rawB (l.take j)).length = M.length + j := by rw [List.length_append, rawB_len, List.length_take]; omega
          have HR2 := row_iterAt HRJ.out hit (j + 1)
          have HNE := Lib.hid (row_ne_iter HRJ.out hit)
          have hit2 := Lib.iterAt_heap wr _ s j (j + 1) hit
          have hA1 : wo.heap.size < wr.heap.size := (Array.getElem?_eq_some_iff.1 hit).1
          have hAw : w.heap.size ≤ wo.heap.size := hzr
          have hb2 := Lib.below_iterAt hbq hAw s (j + 1)
          have hsz2 := Lib.iterAt_size wr wo.heap.size s (j + 1)
          obtain ⟨W, hW⟩ : ∃ W, Go.World.iterAt wr wo.heap.size s (j + 1) = W := ⟨_, rfl⟩
          rw [hW] at hnx HR2 hit2 hb2 hsz2
          clear hW hit HRJ
          have HR2 := Lib.hid HR2
          have HIT2 := Lib.hid hit2
          have HB2 := Lib.hid hb2
          clear hit2 hb2 hbq
          have HLT : ∀ k, u3.ownBlock = some k → w.heap.size ≤ k := fun k hk => (World.ownsRow.lt HR2.out k hk).1
          obtain ⟨N, hN⟩ : ∃ N, (M ++ rawB (l.take j)).length = N := ⟨_, rfl⟩
          have hNb : N ≤ 200 := by omega
          have HR3 : Hid (World.ownsRow W w.heap.size 3 1 u3 N (ints (M ++ rawB (l.take j)))) := Lib.hid (by rw [← hN]; exact HR2.out)
          have HN := Lib.hid hN
          clear HR2 hN hlen
          have hWs : w.heap.size ≤ W.heap.size := by omega
          have hWA : wo.heap.size < W.heap.size := by omega
          clear hsz2
          go_wp2_with fail
          refine (bellOf_any x (by omega) (by omega) _).mono ?_
          (rintro e1 w1 ⟨rfl, rfl⟩)
          go_wp2_with (at_builtin; refine wpList_append_lies _ rfl _ _ _ rfl (w.heap.size) 3 i0 _ 1 8 Tryd.underlying36 I0.out Z0.out Z1.out Z2.out rfl (by omega) u3 (N) _ rfl (World.ownsRow.alloc HR3.out _) ⟨W.heap.size, 0, none⟩ 1 1 [.int .i64 ((x : Int) - 48)] rfl rfl (World.news_of_block (cs := #[.int .i64 ((x : Int) - 48)]) (t := 3) (fr := (0, 0)) (by simpa using heap_alloc_new W _)) (by simp [Value.oneCell']) (by omega) (by unfold maxLen; omega) (by omega) (by simp; omega) (W.heap.size + 1) (by simp) ?_; intro g cap w3 hown3 hgrow hat hlt3)
          go_roundw
          case rel =>
            refine ⟨j + 1, by omega, ?_, ?_, ?_⟩
            · rw [HRW.out, ← List.append_assoc]
              unfold IRow
              rw [List.length_append, HN.out, ints, List.map_append]
              exact hown3
            · exact (hgrow.block _ (by simp; omega) HNE.out).trans ((Below.heap_alloc _ _ _ (by omega)).trans HIT2.out)
            · exact Below.grown (Below.alloc HB2.out hWs _) hgrow (by simp; omega) HLT
          case measure =>
            have e1 : wr.iterPos wo.heap.size = j := by simp [World.iterPos, HIT.out]
            have e2 : w3.iterPos wo.heap.size = j + 1 := by
              have := (hgrow.block _ (by simp; omega) HNE.out).trans ((Below.heap_alloc _ _ _ (by omega)).trans HIT2.out)
              simp [World.iterPos, this]
            have := HSZ.out
            rw [e1, e2]; omega
        · have hnx : ∀ ty, (Instr.next (.pointer (some ⟨wo.heap.size, 0, none⟩)) true ty).run Tryd.prog wr = _ := fun ty => Lib.run_next_end_at (P := Tryd.prog) wr wo.heap.size s j ty hit (by rw [HSZ.out]; exact hlt2)
          have HE : Hid (M ++ rawB (l.take j) = rawK T (k + 1)) := Lib.hid (by rw [HNX.out, List.take_of_length_le (by omega)])
          go_wp2
          go_roundw
          case rel => exact ⟨k + 1, by omega, by go_num, by rw [← HE.out]; exact HRJ.out, hbq⟩
          case measure => simp [RowKit.intOf]; omega
    · obtain rfl : k = T.length := by omega
      obtain ⟨zs, hzs⟩ : ∃ zs, zs = rawK T T.length := ⟨_, rfl⟩
      rw [← hzs] at HO HSAME hrl hrp
      clear hzs
      rcases IRow.form HO.out with ⟨-, hno⟩ | ⟨g, cp, rfl⟩
      · rw [hno] at hrp; exact absurd hrp (by simp)
      · have hgl : w.heap.size ≤ g := (World.ownsRow.lt HO.out g rfl).1
        have hsm : (zs.mergeSort leI).length = zs.length := List.length_mergeSort _
        go_wp2_with fail
        refine (sort_any g cp zs w.heap.size wo HO.out (by omega)).mono ?_
        rintro e4 w4 ⟨rfl, hr4, hg4⟩
        have hb4 : Below w.heap.size w w4 := Below.grown hbr hg4 hzr (fun j hj => by cases hj; exact hgl)
        have HR4 := Lib.hid hr4
        clear hr4
        go_wp2_with fail
        refine (compact_any g cp (zs.mergeSort leI) zs.length hsm w.heap.size w4 HR4.out (by omega)).mono ?_
        rintro e5 w5 ⟨rfl, hr5, hg5⟩
        rw [HSAME.out] at hr5
        have hb5 : Below w.heap.size w w5 := Below.grown hb4 hg5 hb4.size (fun j hj => by cases hj; exact hgl)
        have HL : Hid ((Lib.compact (zs.mergeSort leI)).length = (belK T 8).length) := Lib.hid (by rw [HSAME.out])
        go_wp2
        go_ret
        exact ⟨_, rfl, by rw [HSAME.out]; exact hr5, hb5⟩

end Go.Proofs.YtijnppomeoaebaaDoor
