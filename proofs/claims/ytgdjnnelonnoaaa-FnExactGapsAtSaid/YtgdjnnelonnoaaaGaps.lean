/- Where hands of a list stand, sorted; the array that holds their places. -/
import Derived.Test.YtgdjnnelonnoaaaHArg
import Derived.Test.YtgdjnnelonnoaaaPlaces
import Derived.Deep.MidRow
set_option linter.unusedSimpArgs false
set_option linter.unusedVariables false
set_option maxRecDepth 100000
namespace Go.Proofs.Ytgdjnnelonnoaaa
open Go.RowKit Go.Shelf Go.Lib Go.Sort

def plR (tn td : Int) (h : Int × Int × Int) : Int × Int × Bool := handAtT h.1 h.2.1 h.2.2 tn td
def plH (tn td : Int) (h : Int × Int × Int) : Int × Int := ((plR tn td h).1, (plR tn td h).2.1)
theorem plR_good {tn td : Int} {h : Int × Int × Int} (ho : (plR tn td h).2.2 = true) : goodB (plH tn td h).1 (plH tn td h).2 = true := by
  unfold plH
  unfold plR handAtT at *
  split at ho
  · rename_i g
    rw [if_pos g]
    simp only [Bool.and_eq_true] at g
    obtain ⟨⟨a1, a2, a3, a4⟩, a5, a6⟩ := handB_bd g.1
    obtain ⟨b1, b2, b3, b4⟩ := goodB_bd g.2
    unfold mk at *
    split at ho
    · rename_i hd
      rw [if_pos hd]
      exact good_low_of _ _ (Int.mul_pos (by omega) (by omega)) hd
    · cases ho
  · cases ho
def spOk (L : List (Int × Int × Int)) (tn td : Int) : Bool := inB L.length 1 12 && L.all fun h => (plR tn td h).2.2
def spL (L : List (Int × Int × Int)) (tn td : Int) : List (Int × Int) := sortT (L.map (plH tn td))
theorem spL_len (L : List (Int × Int × Int)) (tn td : Int) : (spL L tn td).length = L.length := by unfold spL; rw [sortT_len]; simp
theorem all_get {L : List (Int × Int × Int)} {f : Int × Int × Int → Bool} : L.all f = true ↔ ∀ j, j < L.length → f (L.getD j (0, 0, 0)) = true := by
  rw [List.all_eq_true]
  constructor
  · intro h j hj
    refine h _ ?_
    rw [List.getD_eq_getElem?_getD, List.getElem?_eq_getElem hj]
    exact List.getElem_mem hj
  · intro h x hx
    obtain ⟨j, hj, e⟩ := List.getElem_of_mem hx
    have := h j hj
    rwa [List.getD_eq_getElem?_getD, List.getElem?_eq_getElem hj, e] at this
theorem pl_all {L : List (Int × Int × Int)} {tn td : Int} (h : ∀ j, j < L.length → (plR tn td (L.getD j (0, 0, 0))).2.2 = true) : AllGood (L.map (plH tn td)) := by
  intro t ht
  obtain ⟨x, hx, rfl⟩ := List.mem_map.1 ht
  obtain ⟨j, hj, e⟩ := List.getElem_of_mem hx
  have := h j hj
  rw [List.getD_eq_getElem?_getD, List.getElem?_eq_getElem hj, e] at this
  exact plR_good this
theorem spL_good {L : List (Int × Int × Int)} {tn td : Int} (h : spOk L tn td = true) : AllGood (spL L tn td) := by
  simp only [spOk, Bool.and_eq_true] at h
  exact (sortT_spec (pl_all (all_get.1 h.2))).1

theorem RowHand.inn {w : World} {b : Nat} {v : Value} {L : List (Int × Int × Int)} (h : RowHand w b v L) : ∃ (a : Option Addr) (c : Nat), v = .slice a L.length c ∧ HIn w a L ∧ L.length ≤ c ∧ c ≤ maxLen := by
  obtain ⟨a, c, hv, h1, h2, hx⟩ := h.cells
  refine ⟨a, c, hv, fun k hk => ?_, h1, h2⟩
  obtain ⟨g, e1, -, e2, e3, e4, e5⟩ := hx k hk
  exact ⟨g, 0, e1, e2, by simpa using e3, by simpa using e4, by simpa using e5⟩

theorem implHandAt_r (n d s tn td : Int) {r : Int × Int × Bool} (hr : plR tn td (n, d, s) = r) (w : World) :
    Calls Try.prog 24 #[hv n d s, tv tn td] w fun e w' => e = .returned (rv r) ∧ Below w.heap.size w w' := by
  subst hr; exact implHandAt_any n d s tn td w

theorem Try.infoArr : (Try.prog.info? 79).map (·.size) = some 24 := by kernel_rfl
theorem range_flat {w : World} {b : Nat} {dk : List (Int × Int)} (h : w.rangeAt b 0 (flat dk)) {k : Nat} (hk : k < dk.length) : w.cell? ⟨b, k * 2, none⟩ = some (.int .i64 (dk.getD k (0, 0)).1) ∧ w.cell? ⟨b, k * 2 + 1, none⟩ = some (.int .i64 (dk.getD k (0, 0)).2) := by
  obtain ⟨g1, g2⟩ := flat_get dk k hk
  have h1 := h _ _ g1
  have h2 := h _ _ g2
  rw [Nat.zero_add] at h1 h2
  exact ⟨h1, h2⟩
theorem range_below {w w' : World} {b : Nat} {cs : List Value} (h : w.rangeAt b 0 cs) (hb : Below w.heap.size w w') (hlt : b < w.heap.size) : w'.rangeAt b 0 cs := fun j v hj => ((bcell hb).1 _ _ hlt).trans (h j v hj)
theorem there_below {w w' : World} {b n : Nat} (h : w.there b 0 n) (hb : Below w.heap.size w w') (hlt : b < w.heap.size) : w'.there b 0 n := fun j hj => by
  obtain ⟨hc, hf⟩ := bcell hb
  rw [hc _ _ hlt, hf _ _ hlt]
  exact h j hj
theorem range_set {w : World} {b : Nat} {cs : List Value} {k : Nat} {v : Value} (h : w.rangeAt b 0 cs) (hk : k < cs.length) : (w.setCell ⟨b, k, none⟩ v).rangeAt b 0 (cs.set k v) := by
  intro j u hj
  rw [Nat.zero_add]
  have hold := h k cs[k] (List.getElem?_eq_getElem hk)
  rw [Nat.zero_add] at hold
  by_cases e : k = j
  · subst e
    rw [List.getElem?_set_self hk] at hj
    injection hj with hj
    subst hj
    exact World.cell?_setCell_same _ _ _ hold
  · rw [List.getElem?_set_ne e] at hj
    rw [World.cell?_setCell_other _ _ _ _ (by intro he; simp only [Addr.mk.injEq] at he; omega)]
    have := h j u hj
    rwa [Nat.zero_add] at this
theorem there_set {w : World} {b b' k n : Nat} {v : Value} (h : w.there b 0 n) : (w.setCell ⟨b', k, none⟩ v).there b 0 n := by
  intro j hj
  obtain ⟨h1, h2⟩ := h j hj
  refine ⟨?_, by rw [World.frozen?_setCell]; exact h2⟩
  obtain ⟨u, hu⟩ := Option.isSome_iff_exists.1 h1
  by_cases e : (⟨b, 0 + j, none⟩ : Addr) = ⟨b', k, none⟩
  · rw [← e, World.cell?_setCell_same _ _ _ hu]; rfl
  · rw [World.cell?_setCell_other _ _ _ _ (fun h => e h.symm)]; exact h1
end Go.Proofs.Ytgdjnnelonnoaaa
