/- A map's keys are the halves that a list leaves: so many, and these in order. -/
import Derived.Test.YteamijcnejjmjaaStr8
import Derived.Lib.SlKeysI
set_option linter.unusedSimpArgs false
set_option linter.unusedVariables false
set_option maxRecDepth 100000
namespace Go.Proofs.Yteamijcnejjmjaa
open Go.RowKit Go.Maps

/-- A map's keys are the halves of a list: so many, and these in order. -/
theorem keys_perm {D : DataW Unit} {h : Int} {L : List Int} (w : World) (b n : Nat) (e : TypeId) (ho : w.ownsMap Try.prog 3 (plainElem Try.prog e) b n D) (hD : ∀ x, has D (kI x) = (allS h x && hvB h L x)) :
    (hvs h L).Perm (intKeys D) ∧ Maps.size D = (hvs h L).length := by
  obtain ⟨es, rfl, hp, hk⟩ := ho.entries mb_law
  have hk' : ∀ p ∈ es, ∃ x, p.1 = .int .i64 x := by
    obtain ⟨es', clock, hb, Ft, hs, hDe⟩ := ho
    intro p hp'
    have := fit_keys Ft p (by
      have h1 := (DataW.map.inj hDe) ▸ hp'
      exact (mem_sorted).1 h1)
    obtain ⟨v, hv⟩ := this
    obtain ⟨x, _, hx, _⟩ := Maps.keyOf_i64 mb_int hv
    exact ⟨x, hx⟩
  have hpm := perm_intKeys hp hk' (hvs_nodup h L) (fun x => by rw [mem_hvs, ← hD x])
  refine ⟨hpm, ?_⟩
  rw [hpm.length_eq]
  simp [intKeys, Maps.size]
theorem sorted_hvs {h : Int} {L ss : List Int} (hp : ss.Perm (hvs h L)) : ss.mergeSort leI = hvs h L := by
  rw [mergeSort_of_perm_i hp]
  exact List.mergeSort_of_pairwise ((hvs_lt h L).imp fun h => by simp [leI]; omega)

/-- A map whose keys are the halves of a list: how many it has. -/
theorem MapAt.size {w : World} {b : Nat} {h : Int} {L : List Int} (hm : MapAt w b (fun x => allS h x && hvB h L x)) :
    ∃ (n : Nat) (D : DataW Unit), w.ownsMap Try.prog 3 (plainElem Try.prog 4) b n D ∧ n ≤ 1000 ∧ (∀ x, has D (kI x) = (allS h x && hvB h L x)) ∧ Maps.size D = (hvs h L).length := by
  obtain ⟨n, D, ho, h1, h2⟩ := hm
  exact ⟨n, D, ho, h1, h2, (keys_perm w b n _ ho h2).2⟩
end Go.Proofs.Yteamijcnejjmjaa
