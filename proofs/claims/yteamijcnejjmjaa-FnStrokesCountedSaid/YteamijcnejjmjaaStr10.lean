/- The halves that a list leaves, and how long one listens: by the program. -/
import Derived.Test.YteamijcnejjmjaaStr9
import Derived.Test.YteamijcnejjmjaaStrK
set_option linter.unusedSimpArgs false
set_option linter.unusedVariables false
set_option maxRecDepth 100000
namespace Go.Proofs.Yteamijcnejjmjaa
open Go.ChangeShapes Go.WideShapes Go.ChangeAt Go.RowKit Go.Maps

theorem allS_bd {h x : Int} {b : Bool} (e : (allS h x && b) = true) : 0 ≤ x ∧ x < 2 * h := by
  simp only [Bool.and_eq_true, allS, decide_eq_true_eq] at e
  exact e.1
theorem take_more {L : List Int} {k : Nat} (hk : k < L.length) : L.take (k + 1) = L.take k ++ [L.getD k 0] := by
  rw [List.take_succ_eq_append_getElem hk, List.getD_eq_getElem?_getD, List.getElem?_eq_getElem hk]; rfl
theorem hvB_take {h : Int} {L : List Int} {k : Nat} (hk : k < L.length) (z : Int) : hvB h (L.take (k + 1)) z = (hvB h (L.take k) z && (stM h (z + k) == L.getD k 0)) := by
  rw [take_more hk, hvB_snoc, List.length_take, Nat.min_eq_left (by omega)]
theorem hvB_more (h x z : Int) (k : Nat) : hvB h (hl h x (k + 1)) z = (hvB h (hl h x k) z && (stM h (z + k) == stM h (x + k))) := by
  rw [hl_succ, hvB_snoc, hl_length]
/-- The world that a map's block alone has turned in. -/
theorem far_cell {w wr : World} {b c : Nat} {v : Value} (hg : w.grownBy wr (some b)) (hc : w.cell? ⟨c, 0, none⟩ = some v) (hlt : c < w.heap.size) (hne : c ≠ b) : wr.cell? ⟨c, 0, none⟩ = some v :=
  (World.grownBy.cell_far hg ⟨c, 0, none⟩ hlt (by simpa using hne)).trans hc

set_option maxHeartbeats 1600000 in
theorem halvesLeft_any (h : Int) (L : List Int) (n : Nat) (hn : L.length = n) (a : Option Addr) (c : Nat) (hle : n ≤ 1000) (hh : 2 ≤ h ∧ h ≤ 24) (w : World) (h1 : IIn w a L) :
    Calls Try.prog 45 #[.int .i64 h, .slice a n c] w (fun e w' => e = .returned (.map (some (w.heap.size + 1))) ∧ MapAt w' (w.heap.size + 1) (fun x => allS h x && hvB h L x) ∧ Below w.heap.size w w') := by
  have X1 := Lib.hid h1
  have HN := Lib.hid hn
  clear h1 hn
  (go_enter Try.func45, Try.ntmps45)
  go_wp2_with fail
  refine (strokesOf_any h _).mono ?_
  (rintro e1 w1 ⟨rfl, rfl⟩)
  go_wp2_with fail
  refine (allHalves_any h hh _).mono ?_
  rintro e2 w2 ⟨rfl, hm2, hb2⟩
  simp only [World.size_alloc] at hm2 hb2 ⊢
  have HM2 := Lib.hid hm2
  have hz2 := hb2.size
  simp only [World.size_alloc] at hz2
  have HC2 : Hid (w2.cell? ⟨w.heap.size, 0, none⟩ = some (.int .i64 h)) := Lib.hid ((hb2.cell (p := ⟨w.heap.size, 0, none⟩) (by show w.heap.size < w.heap.size + 1; omega)).trans (by go_simp))
  have hB2 : Below w.heap.size w w2 := (Below.alloc (Below.refl _ _) (Nat.le_refl _) _).trans (hb2.mono (by omega))
  have HB2 := Lib.hid hB2
  have hlt2 : w.heap.size + 1 < w2.heap.size := MapAt.lt hm2
  clear hm2 hb2 hB2
  go_wp2
  go_loopw [15] (fun i wr => ∃ k : Nat, k ≤ n ∧ i = .int .i64 k ∧ MapAt wr (w.heap.size + 1) (fun x => allS h x && hvB h (L.take k) x) ∧ w2.grownBy wr (some (w.heap.size + 1))) (fun i _ => n - (RowKit.intOf i).toNat)
  case atStart => exact ⟨0, Nat.zero_le _, rfl, HM2.out.same (fun x => by rw [List.take_zero, hvB_nil, Bool.and_true]), grownBy_refl _ _⟩
  case round =>
    obtain ⟨k, hk, rfl, hm, hg⟩ := hrel
    have HM := Lib.hid hm
    have HG := Lib.hid hg
    have hzr := hg.size
    have hbel : Below w.heap.size w wr := Below.grown HB2.out hg (by omega) (fun j hj => by cases hj; omega)
    clear hm hg
    have i0 : (0 : Int) ≤ (k : Int) := Int.natCast_nonneg _
    by_cases hlt : k < n
    · obtain ⟨g1, o1, rfl, e1, e2⟩ := X1.out k (by have := HN.out; omega)
      obtain ⟨hc0, hf0⟩ := bcell hbel
      have z1 := (hc0 g1 (o1 + k) e1).trans e2
      have u1 : g1 < wr.heap.size := by omega
      have i1 : (k : Int) < (n : Int) := by omega
      have hcw : Hid (wr.cell? ⟨w.heap.size, 0, none⟩ = some (.int .i64 h)) := Lib.hid (far_cell HG.out HC2.out (by omega) (by omega))
      have HS : Hid (∀ x, (allS h x && hvB h (L.take (k + 1)) x) = ((allS h x && hvB h (L.take k) x) && (stM h (x + k) == L.getD k 0))) := Lib.hid (fun x => by rw [hvB_take (by have := HN.out; omega), Bool.and_assoc])
      clear e2 hc0 hf0
      generalize L.getD k 0 = t at *
      go_wp2_with fail
      refine (dropOthers_any h k t (w.heap.size + 1) w.heap.size (fun x => allS h x && hvB h (L.take k) x) _ HM.out (fun x e => allS_bd e) hcw.out (by omega) (by omega) hh (by omega)).mono ?_
      rintro e3 w3 ⟨rfl, hm3, hg3⟩
      have HM3 := Lib.hid hm3
      have HG3 := Lib.hid hg3
      clear hm3 hg3
      go_wp2
      go_roundw
      case rel => exact ⟨k + 1, by omega, by go_num, HM3.out.same (fun x => (HS.out x).symm), grownBy_trans HG.out HG3.out⟩
      case measure => simp [RowKit.intOf]; omega
    · obtain rfl : k = n := by omega
      have HT : Hid (L.take k = L) := Lib.hid (List.take_of_length_le (by have := HN.out; omega))
      go_wp2
      go_ret
      refine ⟨rfl, ?_, hbel⟩
      have := HM.out
      rwa [HT.out] at this

end Go.Proofs.Yteamijcnejjmjaa
