/- What the laws ask of lists of texts: their size, and that two lists lie apart. -/
import Derived.Test.YtijnppomeoaebaaDoorXRow
set_option linter.unusedSimpArgs false
set_option linter.unusedVariables false
set_option maxRecDepth 100000
namespace Go.Proofs.YtijnppomeoaebaaDoor
open Go.RowKit

theorem IRow.top {w : World} {b : Nat} {v : Value} {L : List Int} (h : IRow w b v L) : ∀ k, v.ownBlock = some k → k < w.heap.size := fun k hk => (World.ownsRow.lt h k hk).2
theorem XRow.top {w : World} {b : Nat} {v : Value} {L : List (List UInt8)} (h : XRow w b v L) : ∀ k, v.ownBlock = some k → k < w.heap.size := fun k hk => (World.ownsRow.lt h k hk).2
theorem apart_rows {v v' : Value} {A b' : Nat} (h : ∀ k, v.ownBlock = some k → k < A) (h' : ∀ k, v'.ownBlock = some k → b' ≤ k) (hb : A ≤ b') : v.ownBlock = none ∨ v.ownBlock ≠ v'.ownBlock := by
  cases hv : v.ownBlock with
  | none => exact .inl rfl
  | some k =>
    refine .inr fun e => ?_
    have h1 := h k hv
    have h2 := h' k e.symm
    omega
theorem apart_sym' {v v' : Value} (h : v.ownBlock = none ∨ v.ownBlock ≠ v'.ownBlock) : v'.ownBlock = none ∨ v'.ownBlock ≠ v.ownBlock := by
  rcases h with h | h
  · cases h' : v'.ownBlock with
    | none => exact .inl rfl
    | some k => exact .inr (by rw [h]; simp)
  · exact .inr fun e => h e.symm
/-- What is left of a number when the texts' lengths are taken away; -1 where it isn't enough. -/
def szG : List (List UInt8) → Int → Int
  | [], s => s
  | l :: r, s => if s - l.length < 0 then -1 else szG r (s - l.length)
def szS (L : List (List UInt8)) (s : Int) : Int := if s - L.length < 0 then -1 else szG L (s - L.length)
theorem szG_bd : ∀ {L : List (List UInt8)} {s q : Int}, 0 ≤ s → szG L s = q → ¬ q < 0 → (∀ k, k < L.length → ((L.getD k []).length : Int) ≤ s) ∧ q ≤ s
  | [], s, q, _, h, _ => ⟨fun k hk => absurd hk (Nat.not_lt_zero _), by rw [szG] at h; omega⟩
  | l :: r, s, q, h0, h, hn => by
    unfold szG at h
    by_cases hl : s - (l.length : Int) < 0
    · rw [if_pos hl] at h; omega
    · rw [if_neg hl] at h
      obtain ⟨h1, h2⟩ := szG_bd (by omega) h hn
      refine ⟨fun k hk => ?_, by omega⟩
      cases k with
      | zero => simp; omega
      | succ k =>
        have := h1 k (by simpa using hk)
        simp only [List.getD_cons_succ]
        omega
theorem szS_bd {L : List (List UInt8)} {s q : Int} (hs : 0 ≤ s ∧ s ≤ 1048576) (h : szS L s = q) (hn : ¬ q < 0) : L.length ≤ 1048576 ∧ (∀ k, k < L.length → (L.getD k []).length ≤ 1048576) ∧ (0 ≤ q ∧ q ≤ 1048576) := by
  unfold szS at h
  by_cases hl : s - (L.length : Int) < 0
  · rw [if_pos hl] at h; omega
  · rw [if_neg hl] at h
    obtain ⟨h1, h2⟩ := szG_bd (by omega) h hn
    refine ⟨by omega, fun k hk => ?_, by omega⟩
    have := h1 k hk
    omega
theorem drop_getD {L : List (List UInt8)} {k : Nat} (h : k < L.length) : L.drop k = L.getD k [] :: L.drop (k + 1) := by
  rw [List.drop_eq_getElem_cons h]
  simp [List.getD_eq_getElem?_getD, h]
set_option maxHeartbeats 1600000 in
theorem szStringS_any (a : Option Addr) (c : Nat) (L : List (List UInt8)) (s : Int) (w : World) (hs : 0 ≤ s ∧ s ≤ 1048576) (hn : L.length ≤ maxLen) (hx : ∀ x ∈ L, x.length ≤ maxLen) (hin : XIn w a L) :
    Calls Tryd.prog 7 #[.slice a L.length c, .int .i64 s] w fun e w' => e = .returned (.int .i64 (szS L s)) ∧ w = w' := by
  have X := Lib.hid hin
  have HX : Hid (∀ k, k < L.length → (L.getD k []).length ≤ maxLen) := Lib.hid fun k hk => hx _ (by
    rw [List.getD_eq_getElem?_getD, List.getElem?_eq_getElem hk]
    exact List.getElem_mem hk)
  clear hin hx
  unfold maxLen at hn
  have f1 := w64 (n := s - L.length) (by omega)
  by_cases hl : s - (L.length : Int) < 0
  · have HM : Hid (-1 = szS L s) := Lib.hid (by unfold szS; rw [if_pos hl])
    (go_enter Tryd.func7, Tryd.ntmps7)
    go_wp2
    go_ret
    exact ⟨ret_int HM.out, rfl⟩
  · have HM : Hid (szG L (s - L.length) = szS L s) := Lib.hid (by unfold szS; rw [if_neg hl])
    (go_enter Tryd.func7, Tryd.ntmps7)
    go_wp2
    go_loop [1, 5] (fun q i => ∃ (k : Nat) (t : Int), k ≤ L.length ∧ i = .int .i64 k ∧ q = .int .i64 t ∧ 0 ≤ t ∧ t ≤ 1048576 ∧ szG (L.drop k) t = szS L s) (fun _ i => L.length - (intOf i).toNat)
    case atStart => exact ⟨0, s - L.length, Nat.zero_le _, rfl, rfl, by omega, by omega, HM.out⟩
    case round =>
      obtain ⟨k, t, hk, rfl, rfl, t0, t1, hrec⟩ := hrel
      have HR := Lib.hid hrec
      clear hrec
      have i0 : (0 : Int) ≤ (k : Int) := Int.natCast_nonneg _
      by_cases hlt : k < L.length
      · obtain ⟨b, off, rfl, e1, e2⟩ := X.out k hlt
        have i1 : (k : Int) < (L.length : Int) := by omega
        have hlm := HX.out k hlt
        unfold maxLen at hlm
        have HD := HR.out
        rw [drop_getD hlt] at HD
        clear HR
        generalize L.getD k [] = l at *
        have f2 := w64 (n := t - l.length) (by omega)
        have HD := Lib.hid HD
        by_cases hneg : t - (l.length : Int) < 0
        · have HE : Hid (-1 = szS L s) := Lib.hid (by have := HD.out; unfold szG at this; rwa [if_pos hneg] at this)
          go_wp2
          go_ret
          exact ⟨ret_int HE.out, rfl⟩
        · have HE : Hid (szG (L.drop (k + 1)) (t - l.length) = szS L s) := Lib.hid (by have := HD.out; unfold szG at this; rwa [if_neg hneg] at this)
          go_wp2
          go_round
          case rel => exact ⟨k + 1, t - l.length, by omega, by go_num, rfl, by omega, by omega, HE.out⟩
          case measure => simp [intOf]; omega
      · have HE : Hid (t = szS L s) := Lib.hid (by have := HR.out; rw [List.drop_eq_nil_of_le (by omega), szG] at this; exact this)
        go_wp2
        go_ret
        exact ⟨ret_int HE.out, rfl⟩
end Go.Proofs.YtijnppomeoaebaaDoor
