/- Lists of turns: what is known of their members, and parts of them in memory. -/
import Derived.Test.YticdmochedadbaaGreatParts
import Derived.Test.YticdmochedadbaaGreatDial3
import Derived.Test.YticdmochedadbaaGreatLowSame
import Derived.Test.YticdmochedadbaaGreatOrder
import Derived.Lib.SlKept
import Derived.Lib.SliceRun
import Derived.Lib.OwnBridge
import Derived.WalkMore
set_option linter.unusedSimpArgs false
set_option linter.unusedVariables false
set_option maxRecDepth 100000
namespace Go.Proofs.YticdmochedadbaaGreat
open Go.RowKit
attribute [local go_sem ↓] Go.wp_at_zero Go.wp_at_succ

/-- A list of meetings is not empty; each of them is a turn. -/
theorem parts_len {h n d : Int} (hb : partsOk h n d = true) : (partsL h n d).length = h.toNat := by simp [partsL, hb]
theorem parts_get {h n d : Int} (hb : partsOk h n d = true) (j : Nat) (hj : j < h.toNat) : (partsL h n d).getD j (0, 0) = twl h n d j := by
  simp [partsL, hb, List.getD_eq_getElem?_getD, hj]
theorem twl_bd {h n d : Int} (hh : 1 ≤ h) (hd : 1 ≤ d) (j : Nat) (hok : (twl h n d j).2 ≤ 1000000) : 1 ≤ (twl h n d j).2 ∧ (twl h n d j).2 ≤ 1000000 ∧ 0 ≤ (twl h n d j).1 ∧ (twl h n d j).1 ≤ 999999 := by
  have p := Int.mul_pos (show 0 < d by omega) (show 0 < h by omega)
  have b := low_bd (n + j * d) (d * h) (by omega)
  have l := low_lt (n + j * d) (d * h) (by omega)
  unfold twl at *
  simp only at *
  omega
/-- What is known of the members of a list of turns. -/
def GoodL (L : List (Int × Int)) : Prop := ∀ j, j < L.length → 1 ≤ (L.getD j (0, 0)).2 ∧ (L.getD j (0, 0)).2 ≤ 1000000 ∧ 0 ≤ (L.getD j (0, 0)).1 ∧ (L.getD j (0, 0)).1 ≤ 999999
theorem parts_good {h n d : Int} (hh : 1 ≤ h) (hd : 1 ≤ d) (hb : partsOk h n d = true) : GoodL (partsL h n d) := by
  intro j hj
  rw [parts_len hb] at hj
  rw [parts_get hb j hj]
  refine twl_bd hh hd j ?_
  simp only [partsOk, List.all_eq_true, List.mem_range, decide_eq_true_eq] at hb
  exact hb j hj
theorem run_neq_turn (a b c d : Int) (w : World) : (binOp .neq 25 (.agg #[.int .i64 a, .int .i64 b]) (.agg #[.int .i64 c, .int .i64 d])).run Tryz.prog w = .ok (.bool (!eqT a b c d)) w := by
  have hu : Tryz.prog.underlying 25 = some (.struct (Tryz.prog.fieldsOf 25)) := by kernel_rfl
  have hp : Tryz.prog.stoodInHeld 25 = false := by kernel_rfl
  have u3 := Tryz.underlying3
  have a3 := Tryz.isAgg3
  have z3 := Tryz.sizeOf3
  rw [run_neq_struct, show (10000 : Nat) = 9999 + 1 from rfl, run_equalIn_agg w 9999 25 _ _ hu hp]
  simp only [Program.fieldsOf, Tryz.underlying25]
  go_simp
  by_cases h1 : a = c <;> by_cases h2 : b = d <;> simp [h1, h2, eqT]

theorem getD_mem {L : List (Int × Int)} {k : Nat} (hk : k < L.length) : L.getD k (0, 0) ∈ L := by
  rw [List.getD_eq_getElem?_getD, List.getElem?_eq_getElem hk]
  exact List.getElem_mem hk

theorem take_snoc {L : List (Int × Int)} {j : Nat} (hj : j < L.length) : L.take (j + 1) = L.take j ++ [L.getD j (0, 0)] := by
  rw [List.take_add_one, List.getElem?_eq_getElem hj, List.getD_eq_getElem?_getD, List.getElem?_eq_getElem hj]; rfl
theorem flat_take (ts : List (Int × Int)) (k : Nat) : (flat ts).take (k * 2) = flat (ts.take k) := by
  induction ts generalizing k with
  | nil => simp [flat]
  | cons t ts ih =>
    cases k with
    | zero => simp [flat]
    | succ k =>
      rw [show (k + 1) * 2 = k * 2 + 1 + 1 by omega]
      simp [flat, ih]
theorem grown_of {w w' : World} {row : Option Nat} (hb : Below w.heap.size w w') : w.grownBy w' row := ⟨hb.os, hb.tape, hb.output, hb.size, fun k hk _ => hb.block k hk⟩
/-- 'clear(s[i:])': what is ahead of it is the list's; nothing else turns. -/
theorem clear_tail {w : World} {base g n cap : Nat} {xs : List Value} (ty : TypeId) (h : w.ownsRow base 25 2 (.slice (some ⟨g, 0, none⟩) n cap) n xs) (i c' : Nat) (hi : i < n) :
    ∃ w', (Builtin.clear_ #[30] ty #[.slice (some ⟨g, i * 2, none⟩) (n - i) c']).run Tryz.prog w = .ok (.tuple #[]) w' ∧ w'.ownsRow base 25 2 (.slice (some ⟨g, 0, none⟩) i cap) i (xs.take (i * 2)) ∧ w.grownBy w' (some g) := by
  have hlen := h.1
  rcases h.2 with ⟨h', _⟩ | ⟨g', cap', cur, h', hb, hg, hnc, hcm, hcs, htake⟩
  · simp at h'
  · simp only [Value.slice.injEq, Option.some.injEq, Addr.mk.injEq, and_true, true_and] at h'
    obtain ⟨rfl, rfl⟩ := h'
    have hzl : (Builtin.zeroCells #[Value.int .i64 0, .int .i64 0] (n - i)).toList.length = (n - i) * 2 := by simp [Builtin.zeroCells]
    have hz1 : ∀ v ∈ (Builtin.zeroCells #[Value.int .i64 0, .int .i64 0] (n - i)).toList, v.oneCell' = true := by
      intro v hv
      simp only [Builtin.zeroCells, Array.toList_map, List.mem_map] at hv
      obtain ⟨t, -, rfl⟩ := hv
      have : t % 2 = 0 ∨ t % 2 = 1 := by omega
      rcases this with e | e <;> simp [e] <;> rfl
    have hst := run_storeCells_at (P := Tryz.prog) g (i * 2) 25 (Builtin.zeroCells #[Value.int .i64 0, .int .i64 0] (n - i)).toList 0 cur w hg (by rw [hzl]; omega) hz1
    have hv := Tryz.zeroValue25
    obtain ⟨m, hm⟩ : ∃ m, n - i = m + 1 := ⟨n - i - 1, by omega⟩
    obtain ⟨cur', hcur⟩ : ∃ c : Array Value, c = (List.take (i * 2 + 0) cur.toList ++ (Builtin.zeroCells #[Value.int .i64 0, .int .i64 0] (n - i)).toList ++ List.drop (i * 2 + 0 + (Builtin.zeroCells #[Value.int .i64 0, .int .i64 0] (n - i)).toList.length) cur.toList).toArray := ⟨_, rfl⟩
    rw [← hcur] at hst
    refine ⟨w.setRow g cur', ?_, ⟨?_, .inr ⟨g, cap, cur', rfl, hb, setRow_heap w g cur _ 25 _ hg, by omega, hcm, ?_, ?_⟩⟩, ⟨rfl, rfl, rfl, by simp, fun k _ hk => setRow_other w g k _ (fun e => hk (by simp [e]))⟩⟩
    · rw [hm] at hst ⊢
      simp [Builtin.clear_, run_underlying Tryz.underlying30, hv, Value.cells, hst]
    · rw [List.length_take, hlen]; omega
    · rw [hcur]
      simp only [List.size_toArray, List.length_append, List.length_take, List.length_drop, Array.length_toList, hzl]
      omega
    · rw [hcur, ← htake, List.take_take, List.append_assoc, Nat.add_zero, List.take_append_of_le_length (by simp; omega), List.take_take]
      congr 1
      omega

end Go.Proofs.YticdmochedadbaaGreat
