/- What is heard at halves one behind the other, and where the most is: by the program and by the model. -/
import Derived.Test.YteamijcnejjmjaaIRow
set_option linter.unusedSimpArgs false
set_option linter.unusedVariables false
set_option maxRecDepth 100000
namespace Go.Proofs.Yteamijcnejjmjaa
open Go.ChangeShapes Go.WideShapes Go.ChangeAt Go.RowKit

/-- What is heard at so many halves. -/
def hl (h x : Int) (n : Nat) : List Int := (List.range n).map fun k : Nat => stM h (x + k)
theorem hl_length (h x : Int) (n : Nat) : (hl h x n).length = n := by simp [hl]
theorem hl_get (h x : Int) {n j : Nat} (hj : j < n) : (hl h x n).getD j 0 = stM h (x + j) := by simp [hl, List.getD_eq_getElem?_getD, hj]
theorem snocI (f : Nat → Int) (k : Nat) : ints ((List.range k).map f) ++ [.int .i64 (f k)] = ints ((List.range (k + 1)).map f) := by
  simp [ints, List.range_succ]
theorem hl_snoc (h x : Int) (k : Nat) {t : Int} (ht : stM h (x + k) = t) : ints (hl h x k) ++ [.int .i64 t] = ints (hl h x (k + 1)) := by subst ht; exact snocI _ k
def frOk (h x c : Int) : Bool := halfB h x && inB c 1 60
def frL (h x c : Int) : List Int := if frOk h x c then hl h x c.toNat else []
theorem frL_len (h x c : Int) : (frL h x c).length ≤ 1000000 := by
  unfold frL
  split
  · rename_i k
    simp only [frOk, Bool.and_eq_true] at k
    have := inB_bd k.2
    rw [hl_length]; omega
  · simp

set_option maxHeartbeats 1600000 in
theorem stFrom_any (h x : Int) (N : Nat) (hh : 2 ≤ h ∧ h ≤ 24) (hx : 0 ≤ x ∧ x < 2 * h) (hN : N ≤ 1000) (w : World) :
    Calls Try.prog 40 #[.int .i64 h, .int .i64 x, .int .i64 N] w (fun e w' => ∃ v, e = .returned v ∧ IRow w' w.heap.size v (hl h x N) ∧ Below w.heap.size w w') := by
  obtain ⟨i0, hi0, hz0, hz1, hz2⟩ := info_parts Try.infoInt
  have I0 := Lib.hid hi0
  have Z0 := Lib.hid hz0
  have Z1 := Lib.hid hz1
  have Z2 := Lib.hid hz2
  clear hi0 hz0 hz1 hz2
  have hw2 := w64 (n := 2 * h) (by omega)
  have hz3 : ¬ (2 * h = 0) := by omega
  (go_enter Try.func40, Try.ntmps40)
  go_wp2
  go_loopw [7, 8] (fun o i wr => ∃ k : Nat, k ≤ N ∧ i = .int .i64 k ∧ wr.ownsRow w.heap.size 3 1 o k (ints (hl h x k)) ∧ Below w.heap.size w wr) (fun _ i _ => N - (intOf i).toNat)
  case atStart => exact ⟨0, by omega, rfl, World.ownsRow_nil _ _ _ _, Below.refl _ _⟩
  case round =>
    obtain ⟨k, hk, rfl, hown, hbel⟩ := hrel
    have HO := Lib.hid hown
    have hzr := hbel.size
    have i0' : (0 : Int) ≤ (k : Int) := Int.natCast_nonneg _
    by_cases hlt : k < N
    · have hr := t64 (n := x + k) (g := 2 * h) (by omega) (by omega) (by omega)
      obtain ⟨m1, m2⟩ := mod_bd (x + k) hh
      obtain ⟨t, hte⟩ : ∃ t, stM h (x + k) = t := ⟨_, rfl⟩
      have HT := Lib.hid hte
      have HLT : ∀ k, u7.ownBlock = some k → w.heap.size ≤ k := fun k hk => (World.ownsRow.lt HO.out k hk).1
      clear hte hown
      have i1 : (k : Int) < (N : Int) := by omega
      go_wp2_with fail
      refine (stAt_is h ((x + k) % (2 * h)) m1 (by omega) HT.out _).mono ?_
      (rintro e1 w1 ⟨rfl, rfl⟩)
      go_wp2_with (at_builtin; refine wpList_append_lies _ rfl _ _ _ rfl (w.heap.size) 3 i0 _ 1 8 Try.underlying30 I0.out Z0.out Z1.out Z2.out rfl (by omega) u7 (k) _ rfl (HO.out.alloc _) ⟨wr.heap.size, 0, none⟩ 1 1 [.int .i64 (t)] rfl rfl (World.news_of_block (cs := #[.int .i64 (t)]) (t := 3) (fr := (0, 0)) (by simpa using heap_alloc_new wr _)) (by simp [Value.oneCell']) (by omega) (by unfold maxLen; omega) (by omega) (by simp; omega) (wr.heap.size + 1) (by simp) ?_; intro g cap w3 hown3 hgrow hat hlt3)
      go_wp2
      go_roundw
      case rel =>
        refine ⟨k + 1, by omega, by go_num, ?_, ?_⟩
        · rw [← hl_snoc h x k HT.out]; exact hown3
        · exact Below.grown (by (repeat' (first | (with_reducible exact Below.refl _ _) | (with_reducible assumption) | (with_reducible refine Below.alloc ?_ ?_ _) | (with_reducible refine Below.drew ?_) | (with_reducible refine below_drewN ?_ _) | (with_reducible refine Below.setCell ?_ ?_ _) | (with_reducible refine below_call ?_ ?_ (by assumption)) | go_size))) hgrow (by simp; omega) HLT
      case measure => simp [intOf]; omega
    · obtain rfl : k = N := by omega
      go_wp2
      go_ret
      refine ⟨_, rfl, ?_, hbel⟩
      unfold IRow
      rw [hl_length]
      exact HO.out

end Go.Proofs.Yteamijcnejjmjaa
