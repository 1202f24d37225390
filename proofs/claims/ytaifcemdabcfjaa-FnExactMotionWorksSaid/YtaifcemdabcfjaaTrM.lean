/- Trains of a ratio, found by trying all numbers of teeth, and the best one of them. -/
import Derived.Test.YtaifcemdabcfjaaFstT
set_option linter.unusedSimpArgs false
set_option linter.unusedVariables false
set_option maxRecDepth 100000
namespace Go.Proofs.Ytaifcemdabcfjaa
open Go.RowKit

def sumTr (t : Tr) : Int := t.1.1 + t.1.2 + t.2.1 + t.2.2
def stepT (fw : Bool) (r : Option Tr) (t : Tr) : Option Tr := match r with
  | none => some t
  | some s => if fw && decide (sumTr t < sumTr s) then some t else some s
def bestT (fw : Bool) (LL : List Tr) : Option Tr := LL.foldl (stepT fw) none
theorem fold_first (LL : List Tr) (s : Tr) : LL.foldl (stepT false) (some s) = some s := by
  induction LL with
  | nil => rfl
  | cons t LL ih => simpa [stepT] using ih
theorem bestT_first (LL : List Tr) : bestT false LL = LL.head? := by
  cases LL with
  | nil => rfl
  | cons t LL => simpa [bestT, stepT] using fold_first LL t
def trC (N D : Int) (n : Nat) (p : Int × Int) : List Tr := (clA (N * p.2) (D * p.1) (5 + (n : Int)) n).map fun q => (p, q)
def PL (N D : Int) (n i j k : Nat) : List Tr := (partP n i j).flatMap (trC N D n) ++ (clA (N * (6 + (j : Int))) (D * (6 + (i : Int))) (5 + (n : Int)) k).map fun q => ((6 + (i : Int), 6 + (j : Int)), q)
theorem flatMap_same {α β : Type} {L : List α} {F G : α → List β} (h : ∀ x, x ∈ L → F x = G x) : L.flatMap F = L.flatMap G := by
  induction L with
  | nil => rfl
  | cons a L ih =>
    rw [List.flatMap_cons, List.flatMap_cons, h a List.mem_cons_self, ih (fun x hx => h x (List.mem_cons_of_mem _ hx))]
theorem trainsL_eq {N D : Int} (hN : 1 ≤ N) (hD : 1 ≤ D) {n : Nat} (hn : n ≤ 115) : trainsL N D n = (allP n).flatMap (trC N D n) := by
  refine flatMap_same fun p hp => ?_
  obtain ⟨⟨h1, h2⟩, h3, h4⟩ := mem_allP hp
  have m1 := Int.mul_pos (show 0 < N by omega) (show 0 < p.2 by omega)
  have m2 := Int.mul_pos (show 0 < D by omega) (show 0 < p.1 by omega)
  unfold trE trC innerL innerP innerQ
  rw [wl_eq (by omega) (by omega) hn]
theorem PL_start (N D : Int) (n : Nat) : PL N D n 0 0 0 = [] := by simp [PL, partP, clA]
theorem PL_col (N D : Int) (n i j : Nat) : PL N D n i j n = PL N D n i (j + 1) 0 := by
  simp [PL, partP_next, clA, trC]
theorem PL_row (N D : Int) (n i : Nat) : PL N D n i n 0 = PL N D n (i + 1) 0 0 := by
  simp [PL, partP_row, clA]
theorem PL_end {N D : Int} (hN : 1 ≤ N) (hD : 1 ≤ D) {n : Nat} (hn : n ≤ 115) : PL N D n n 0 0 = trainsL N D n := by
  rw [trainsL_eq hN hD hn]
  simp [PL, partP_end, clA]
theorem PL_no {N D : Int} {n i j k : Nat} (h : candB (N * (6 + (j : Int))) (D * (6 + (i : Int))) (5 + (n : Int)) (6 + (k : Int)) = false) : PL N D n i j (k + 1) = PL N D n i j k := by
  simp [PL, clA, clE, h]
theorem PL_yes {N D : Int} {n i j k : Nat} (h : candB (N * (6 + (j : Int))) (D * (6 + (i : Int))) (5 + (n : Int)) (6 + (k : Int)) = true) :
    PL N D n i j (k + 1) = PL N D n i j k ++ [((6 + (i : Int), 6 + (j : Int)), (6 + (k : Int), (6 + (k : Int)) * (D * (6 + (i : Int))) / (N * (6 + (j : Int)))))] := by
  simp [PL, clA, clE, h]
theorem PL_pre {N D : Int} (hN : 1 ≤ N) (hD : 1 ≤ D) {n i j k : Nat} (hn : n ≤ 115) (hi : i < n) (hj : j < n) (hk : k ≤ n) : PL N D n i j k <+: trainsL N D n := by
  rw [trainsL_eq hN hD hn]
  have h1 : partP n i j ++ [(6 + (i : Int), 6 + (j : Int))] <+: allP n := by
    rw [← partP_next]
    exact partP_pre n i (j + 1) hi hj
  exact flat_pre (trC N D n) h1 (List.IsPrefix.map _ (clA_pre _ _ _ hk))
theorem trial_eq {num den a b c : Int} : c * (den * a) = a * c * den ∧ num * b = b * num := by
  exact ⟨by grind, by grind⟩
end Go.Proofs.Ytaifcemdabcfjaa
