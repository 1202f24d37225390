/- What the walk of FnSeenTrue asks of the numbers. -/
import Derived.Test.YticdmochedadbaaGreatSeL
import Derived.Test.YticdmochedadbaaGreatRowN
set_option linter.unusedSimpArgs false
set_option linter.unusedVariables false
set_option maxRecDepth 100000
namespace Go.Proofs.YticdmochedadbaaGreat
open Go.RowKit

theorem hasT_yes {ts : List (Int × Int)} {x y : Int} (h : (x, y) ∈ ts) : hasT ts x y = true := decide_eq_true h
theorem wHas_is {r : Bool} (ts : List (Int × Int)) (v : Value) (b : Nat) (x y : Int) (w : World) (hr : hasT ts x y = r) (row : TRow w b v ts) (hl : ts.length ≤ 1000000) :
    Calls Tryz.prog 15 #[v, tv x y] w fun e w' => e = .returned (.bool r) ∧ Below w.heap.size w w' := by
  subst hr; exact wHas_any ts v b x y w row hl
theorem ex_seen {h n d x y a b c e : Int} {o : Bool} (k : exTimeT h n d = (x, y, true)) (ks : seenOfT h n d = (a, b, c, e, o)) : o = true := by
  obtain ⟨g, -⟩ := ex_ask k
  unfold seenOfT at ks
  rw [if_pos g] at ks
  simp only [Prod.mk.injEq] at ks
  exact ks.2.2.2.2.symm
theorem seen_all {h n d a b c e x y : Int} {o : Bool} (k : seenOfT h n d = (a, b, c, e, true)) (kx : exTimeT h n d = (x, y, o)) :
    (seenB a b c e = true ∧ isTrueT h a b c e = (true, true) ∧ timeSeenT h a b c e = (n, d, true) ∧ exchT a b c e = (c, e, a, b, true) ∧ isTrueT h c e a b = (o, true)) ∧
    (twoR h a b c e (c, e, a, b)).2 = true ∧ Rises (twoR h a b c e (c, e, a, b)).1 ∧ (n, d) ∈ (twoR h a b c e (c, e, a, b)).1 ∧
    (o = false → (twoR h a b c e (c, e, a, b)).1.length = 1) ∧ (o = true → (x, y) ∈ (twoR h a b c e (c, e, a, b)).1 ∧ (twoR h a b c e (c, e, a, b)).1.length = if eqT x y n d = true then 1 else 2) := by
  obtain ⟨⟨e1, e2, e3, e4⟩, g, s1, s2, s3, s4, s5⟩ := seen_ok k
  obtain ⟨a1, a2, a3, a4, a5⟩ := alike_ok k
  have ho : trueB h c e a b = o ∧ (o = true → x = c ∧ y = e) := by
    have := ex_val g
    rw [kx, ← e3, ← e4] at this
    rw [e1, e2]
    split at this
    · rename_i ht
      simp only [Prod.mk.injEq] at this
      exact ⟨ht.trans this.2.2.symm, fun _ => ⟨this.1, this.2.1⟩⟩
    · rename_i ht
      simp only [fail3, Prod.mk.injEq] at this
      exact ⟨by rw [this.2.2]; simpa using ht, fun hh => by rw [this.2.2] at hh; cases hh⟩
  refine ⟨⟨s1, s2, s3, s4, by rw [s5, ho.1]⟩, a1, a2, a3, fun h0 => a4 (by rw [ho.1, h0]), fun h1 => ?_⟩
  obtain ⟨rfl, rfl⟩ := ho.2 h1
  obtain ⟨b1, b2⟩ := a5 (by rw [ho.1, h1])
  refine ⟨b1, ?_⟩
  rw [b2]
  by_cases hq : x = n ∧ y = d
  · rw [if_pos (by rw [hq.1, hq.2]), if_pos (eqT_iff.2 hq)]
  · rw [if_neg (fun hh => hq (by simpa using hh)), if_neg (fun hh => hq (eqT_iff.1 hh))]
theorem time_three {h a b c d x y : Int} {o p q : Bool} (k : timeSeenT h a b c d = (x, y, o)) (kt : isTrueT h a b c d = (p, q)) : o = (q && p) := by
  have e1 : o = (timeSeenT h a b c d).2.2 := by rw [k]
  have e2 : p = (isTrueT h a b c d).1 := by rw [kt]
  have e3 : q = (isTrueT h a b c d).2 := by rw [kt]
  rw [e1, e2, e3]
  unfold timeSeenT isTrueT
  cases seAskB h a b c d <;> cases trueB h a b c d <;> rfl
theorem two_three {h a b c d : Int} {p q o : Bool} {z : Q4} {L : List (Int × Int)} (k : twoR h a b c d z = (L, o)) (kt : isTrueT h a b c d = (p, q)) : o = q := by
  have e1 : o = (twoR h a b c d z).2 := by rw [k]
  have e3 : q = (isTrueT h a b c d).2 := by rw [kt]
  rw [e1, e3]
  unfold twoR isTrueT
  cases seAskB h a b c d <;> rfl
theorem exch_ok {a b c d x y z u : Int} {o : Bool} (k : exchT a b c d = (x, y, z, u, o)) : seenB a b c d = o := by
  have e1 : o = (exchT a b c d).2.2.2.2 := by rw [k]
  rw [e1]
  unfold exchT
  cases seenB a b c d <;> rfl
theorem cnt_ok {h c : Int} {g o : Bool} (k : cntU h = (c, o)) (kg : inB h 2 24 = g) : o = g ∧ (g = true → c = h * h - 1 - (h - 1)) := by
  unfold cntU at k
  rw [kg] at k
  cases g
  · exact ⟨(Prod.mk.inj k).2.symm, fun e => by cases e⟩
  · exact ⟨(Prod.mk.inj k).2.symm, fun _ => (Prod.mk.inj k).1.symm⟩
/-- The list of exchanged times, one after the other. -/
theorem evL_get {N : Int} {k : Nat} (hk : k < (evL N).length) : (evL N).getD k (0, 0) = (lowNum k N, lowDen k N) := by
  have hk' : k < N.toNat := by simpa [evL] using hk
  simp [evL, List.getD_eq_getElem?_getD, hk', evT]
theorem hh_bd {h : Int} (hh : 2 ≤ h ∧ h ≤ 24) : 4 ≤ h * h ∧ h * h ≤ 576 := by
  have a1 : 2 * 2 ≤ h * h := Int.mul_le_mul hh.1 hh.1 (by omega) (by omega)
  have a2 : h * h ≤ 24 * 24 := Int.mul_le_mul hh.2 hh.2 (by omega) (by omega)
  omega
theorem uns_le {h : Int} : ∀ k : Nat, 0 ≤ uns h k ∧ uns h k ≤ k
  | 0 => by simp [uns]
  | k + 1 => by
    have := uns_le (h := h) k
    simp only [uns]
    split <;> omega
end Go.Proofs.YticdmochedadbaaGreat
