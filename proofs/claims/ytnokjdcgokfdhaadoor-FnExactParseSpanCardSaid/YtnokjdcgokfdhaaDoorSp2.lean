/- What a text tells of a span, by the program's way and by the model's: the same. -/
import Derived.Test.YtnokjdcgokfdhaaDoorSp1
import Derived.Test.YtnokjdcgokfdhaaDoorPtW4
set_option linter.unusedSimpArgs false
set_option linter.unusedVariables false
set_option maxRecDepth 100000
namespace Go.Proofs.YtnokjdcgokfdhaaDoor
open Go.RowKit

/-- By the program. -/
def implP (s : List UInt8) : Int × Int × Bool := match atoiV (Lib.cut s [47]).1, atoiV (Lib.cut s [47]).2.1 with
  | some n, some d => if spanB n d = true ∧ spanL n d = s then (n, d, true) else fail3
  | _, _ => fail3
/-- The Num that the model reads. -/
def numP (a : List UInt8) : Int := if a = [49, 48, 48, 48, 48, 48, 48] then 1000000 else readN a
/-- By the model. -/
def specP (s : List UInt8) : Int × Int × Bool := if s.length ≤ 20 ∧ (splitL 47 s).length = 2 then limS (numP ((splitL 47 s).getD 0 [])) (readN ((splitL 47 s).getD 1 [])) else fail3
theorem limS_or (n d : Int) : limS n d = fail3 ∨ (limS n d = (n, d, true) ∧ spanB n d = true) := by
  unfold limS
  cases spanB n d <;> simp
theorem dec_million : dec 1000000 = [49, 48, 48, 48, 48, 48, 48] := by
  have e : valF 0 ([49, 48, 48, 48, 48, 48, 48] : List UInt8) = 1000000 := by decide
  have := dec_of_val 6 [49, 48, 48, 48, 48, 48, 48] rfl (by decide) (by intro _; decide)
  rw [e] at this
  exact this
theorem num_dec {n : Int} (h0 : 0 ≤ n) (h : n ≤ 1000000) : numP (dec n) = n := by
  unfold numP
  by_cases hn : n = 1000000
  · subst hn; rw [if_pos dec_million]
  · rw [if_neg (fun e => hn (by rw [← dec_val h0, e]; decide)), read_dec h0 (by omega)]
theorem num_good {a : List UInt8} (h : 0 ≤ numP a) : dec (numP a) = a := by
  unfold numP at h ⊢
  split
  · rename_i e; rw [e]; exact dec_million
  · rename_i e
    rw [if_neg e] at h
    cases hc : canonB a
    · rw [← read_bad hc] at h; omega
    · exact (dec_read hc).1
theorem spec_sound {s : List UInt8} {n d : Int} (h : specP s = (n, d, true)) : spanB n d = true ∧ spanL n d = s := by
  unfold specP at h
  split at h
  · rename_i hc
    obtain ⟨a, b, rfl, e⟩ := splitL_two hc.2
    rw [e] at h
    simp only [List.getD_cons_zero, List.getD_cons_succ] at h
    rcases limS_or (numP a) (readN b) with hl | ⟨hl, hb⟩
    · rw [hl] at h; cases h
    · rw [hl] at h
      injection h with h1 h2
      injection h2 with h2 _
      subst h1 h2
      refine ⟨hb, ?_⟩
      obtain ⟨b1, b2, b3, b4, -⟩ := spanB_bd hb
      have ea := num_good b3
      have eb : dec (readN b) = b := by
        cases hc : canonB b
        · rw [← read_bad hc] at b1; omega
        · exact (dec_read hc).1
      unfold spanL
      rw [ea, eb]
  · cases h
theorem span_parts {n d : Int} (h : spanB n d = true) : ¬ (47 : UInt8) ∈ dec n ∧ ¬ (47 : UInt8) ∈ dec d ∧ (spanL n d).length ≤ 20 := by
  obtain ⟨b1, b2, b3, b4, -⟩ := spanB_bd h
  refine ⟨not_dig (dec_all b3) (by decide), not_dig (dec_all (by omega)) (by decide), ?_⟩
  have l1 := dec_lenk 6 n b3 (by simp; omega)
  have l2 := dec_lenk 4 d (by omega) (by simp; omega)
  unfold spanL
  simp
  omega
theorem spec_complete {n d : Int} (h : spanB n d = true) : specP (spanL n d) = (n, d, true) := by
  obtain ⟨h1, h2, h3⟩ := span_parts h
  obtain ⟨b1, b2, b3, b4, -⟩ := spanB_bd h
  have e : splitL 47 (spanL n d) = [dec n, dec d] := by unfold spanL; rw [splitL_at h1, splitL_no h2]
  unfold specP
  rw [if_pos ⟨h3, by rw [e]; rfl⟩, e]
  simp only [List.getD_cons_zero, List.getD_cons_succ]
  rw [num_dec b3 b4, read_dec (by omega) (by omega)]
  unfold limS
  rw [if_pos h]
theorem impl_soundP {s : List UInt8} {n d : Int} (h : implP s = (n, d, true)) : spanB n d = true ∧ spanL n d = s := by
  unfold implP at h
  split at h
  · split at h
    · rename_i hc
      injection h with h1 h2
      injection h2 with h2 _
      subst h1 h2
      exact hc
    · cases h
  · cases h
theorem impl_completeP {n d : Int} (h : spanB n d = true) : implP (spanL n d) = (n, d, true) := by
  obtain ⟨h1, h2, h3⟩ := span_parts h
  obtain ⟨b1, b2, b3, b4, -⟩ := spanB_bd h
  have e : Lib.cut (spanL n d) [47] = (dec n, dec d, true) := by unfold spanL; exact cut_at h1
  have e1 : atoiV (dec n) = some n := by unfold atoiV; rw [atoi_dec b3 (by omega)]
  have e2 : atoiV (dec d) = some d := by unfold atoiV; rw [atoi_dec (by omega) (by omega)]
  unfold implP
  rw [e]
  simp only [e1, e2]
  exact if_pos ⟨h, trivial⟩
theorem implP_or (s : List UInt8) : implP s = fail3 ∨ ∃ n d, implP s = (n, d, true) := by
  unfold implP
  split
  · split
    · exact .inr ⟨_, _, rfl⟩
    · exact .inl rfl
  · exact .inl rfl
theorem specP_or (s : List UInt8) : specP s = fail3 ∨ ∃ n d, specP s = (n, d, true) := by
  unfold specP
  split
  · rcases limS_or (numP ((splitL 47 s).getD 0 [])) (readN ((splitL 47 s).getD 1 [])) with h | ⟨h, -⟩
    · exact .inl h
    · exact .inr ⟨_, _, h⟩
  · exact .inl rfl
theorem impl_specP (s : List UInt8) : implP s = specP s := by
  rcases specP_or s with h | ⟨n, d, h⟩
  · rcases implP_or s with h' | ⟨n, d, h'⟩
    · rw [h, h']
    · obtain ⟨h1, h2⟩ := impl_soundP h'
      have := spec_complete h1
      rw [h2, h] at this
      cases this
  · obtain ⟨h1, h2⟩ := spec_sound h
    rw [h, ← h2]
    exact impl_completeP h1
end Go.Proofs.YtnokjdcgokfdhaaDoor
