/- The bells of a tune: by the program and by the model. -/
import Derived.Test.YtijnppomeoaebaaBel4
import Derived.Test.YtijnppomeoaebaaBSort
import Derived.Lib.OthersKept
set_option linter.unusedSimpArgs false
set_option linter.unusedVariables false
set_option maxRecDepth 100000
namespace Go.Proofs.Ytijnppomeoaebaa
open Go.RowKit

theorem below_grown {w w' : World} (h : Below w.heap.size w w') (row : Option Nat) : w.grownBy w' row := ⟨h.os, h.tape, h.output, h.size, fun k hk _ => h.block k hk⟩
/-- A bell's note. -/
def ntB (b : Int) : UInt8 := UInt8.ofNat (48 + b).toNat
theorem ntB_nat {b : Int} (h : 1 ≤ b ∧ b ≤ 8) : ((ntB b).toNat : Int) = 48 + b := by unfold ntB; rw [UInt8.toNat_ofNat']; omega
/-- How often a bell is in a text. -/
def cntN (b : Int) (l : List UInt8) : Nat := l.count (ntB b)
theorem cntN_le (b : Int) (l : List UInt8) : cntN b l ≤ l.length := List.count_le_length
theorem cntN_take (b : Int) {l : List UInt8} {k : Nat} (h : k < l.length) : cntN b (l.take (k + 1)) = cntN b (l.take k) + if l.getD k 0 = ntB b then 1 else 0 := by
  unfold cntN
  rw [take_next h, List.count_append, List.count_singleton]
  simp only [beq_iff_eq]
theorem cntN_pos {b : Int} {l : List UInt8} : 0 < cntN b l ↔ ntB b ∈ l := List.count_pos_iff
set_option maxHeartbeats 1600000 in
theorem beBell_any (b : Int) (l : List UInt8) (hb : 1 ≤ b ∧ b ≤ 8) (hl : l.length ≤ 1000) (w : World) :
    Calls Try.prog 57 #[str l, .int .i64 b] w fun e w' => e = .returned (.int .i64 (cntN b l : Nat)) ∧ w = w' := by
  have HB := Lib.hid (ntB_nat hb)
  (go_enter Try.func57, Try.ntmps57)
  go_wp2
  go_loop [5, 6] (fun s i => ∃ k : Nat, k ≤ l.length ∧ i = .int .i64 k ∧ s = .int .i64 (cntN b (l.take k) : Nat)) (fun _ i => l.length - (intOf i).toNat)
  case atStart => exact ⟨0, Nat.zero_le _, rfl, rfl⟩
  case round =>
    obtain ⟨k, hk, rfl, rfl⟩ := hrel
    have i0 : (0 : Int) ≤ (k : Int) := Int.natCast_nonneg _
    by_cases hlt : k < l.length
    · have i1 : (k : Int) < (l.length : Int) := by omega
      obtain ⟨x, hx⟩ : ∃ x : Int, x = ((l.getD k 0).toNat : Int) := ⟨_, rfl⟩
      have hz := fun W => run_byte l k x hlt hx W
      have hbd := byte_bd (l.getD k 0)
      rw [← hx] at hbd
      have HC := Lib.hid (cntN_take b hlt)
      have hcl := cntN_le b (l.take k)
      rw [List.length_take] at hcl
      have HX := Lib.hid hx
      clear hx
      by_cases he : x = 48 + b
      · have HE : Hid (l.getD k 0 = ntB b) := Lib.hid (by have h1 := HX.out; have h2 := HB.out; exact UInt8.toNat_inj.1 (by omega))
        have HS : Hid (cntN b (l.take (k + 1)) = cntN b (l.take k) + 1) := Lib.hid (by rw [HC.out, if_pos HE.out])
        generalize cntN b (l.take k) = s at *
        subst he
        have f1 : IntKind.u8.wrap (48 + b - 48) = b := by rw [show 48 + b - 48 = b by omega]; exact IntWalk.u8_in _ (by omega)
        have f2 := w64 (n := b) (by omega)
        have f3 := w64 (n := (s : Int) + 1) (by omega)
        go_wp2
        go_round
        case rel =>
          refine ⟨k + 1, by omega, by go_num, ?_⟩
          rw [HS.out]
          exact ret_num (by push_cast; first | rfl | omega)
        case measure => simp [intOf]; omega
      · have HE : Hid (¬ l.getD k 0 = ntB b) := Lib.hid (fun h => he (by have h1 := HX.out; have h2 := HB.out; rw [h] at h1; omega))
        have HS : Hid (cntN b (l.take (k + 1)) = cntN b (l.take k)) := Lib.hid (by rw [HC.out, if_neg HE.out, Nat.add_zero])
        generalize cntN b (l.take k) = s at *
        obtain ⟨y, hy⟩ : ∃ y : Int, IntKind.u8.wrap (x - 48) = y := ⟨_, rfl⟩
        have hy2 : y ≠ b ∧ 0 ≤ y ∧ y ≤ 255 := by
          have : IntKind.u8.wrap (x - 48) = (x - 48) % 256 := by simp [IntKind.wrap, IntKind.bits, IntKind.signed]
          omega
        have f2 := w64 (n := y) (by omega)
        have f4 : (y == b) = false := by simpa using hy2.1
        go_wp2
        go_round
        case rel =>
          refine ⟨k + 1, by omega, by go_num, ?_⟩
          rw [HS.out]
        case measure => simp [intOf]; omega
    · have HE : Hid (cntN b (l.take k) = cntN b l) := Lib.hid (by rw [List.take_of_length_le (by omega)])
      go_wp2
      go_ret
      exact ⟨ret_int (by rw [HE.out]), rfl⟩

/-! ### The bells -/
/-- A bell is in a tune. -/
def hasB (T : List (List UInt8)) (b : Int) : Bool := T.any fun l => decide (0 < cntN b l)
/-- The bells of a tune, up to the k-th. -/
def belK (T : List (List UInt8)) : Nat → List Int
  | 0 => []
  | k + 1 => belK T k ++ if hasB T ((k : Int) + 1) then [(k : Int) + 1] else []
theorem belK_all (T : List (List UInt8)) : ∀ k, (belK T k).Pairwise (· < ·) ∧ (∀ z, z ∈ belK T k ↔ 1 ≤ z ∧ z ≤ k ∧ hasB T z = true) ∧ (belK T k).length ≤ k
  | 0 => by simp [belK]; intro z h1 h2; omega
  | k + 1 => by
    obtain ⟨h1, h2, h3⟩ := belK_all T k
    simp only [belK]
    cases hb : hasB T ((k : Int) + 1)
    · simp only [Bool.false_eq_true, if_false, List.append_nil]
      refine ⟨h1, fun z => ?_, by omega⟩
      rw [h2]
      constructor
      · rintro ⟨a, b, c⟩; exact ⟨a, by omega, c⟩
      · rintro ⟨a, b, c⟩
        by_cases e : z = (k : Int) + 1
        · subst e; rw [hb] at c; cases c
        · exact ⟨a, by omega, c⟩
    · simp only [if_true]
      refine ⟨List.pairwise_append.2 ⟨h1, by simp, fun a ha b hb' => ?_⟩, fun z => ?_, by simp; omega⟩
      · have := (h2 a).1 ha
        simp only [List.mem_singleton] at hb'
        omega
      · rw [List.mem_append, h2, List.mem_singleton]
        constructor
        · rintro (⟨a, b, c⟩ | e)
          · exact ⟨a, by omega, c⟩
          · subst e; exact ⟨by omega, by omega, hb⟩
        · rintro ⟨a, b, c⟩
          by_cases e : z = (k : Int) + 1
          · exact .inr e
          · exact .inl ⟨a, by omega, c⟩
theorem belK_no {T : List (List UInt8)} {k : Nat} (h : hasB T ((k : Int) + 1) = false) : belK T (k + 1) = belK T k := by simp [belK, h]
theorem belK_yes {T : List (List UInt8)} {k : Nat} (h : hasB T ((k : Int) + 1) = true) : belK T (k + 1) = belK T k ++ [(k : Int) + 1] := by simp [belK, h]
def bsR (T : List (List UInt8)) : List Int × Bool := if okT T then (belK T 8, true) else ([], false)
theorem bsR_len (T : List (List UInt8)) : (bsR T).1.length ≤ 2000000 := by
  unfold bsR
  split
  · have := (belK_all T 8).2.2; simp only; omega
  · exact Nat.zero_le _
/-- None of the first phrases has it. -/
theorem any_next {T : List (List UInt8)} {p : List UInt8 → Bool} {k : Nat} (hk : k < T.length) (h : (T.take k).any p = false) (hp : p (T.getD k []) = false) : (T.take (k + 1)).any p = false := by
  rw [List.take_add_one, List.any_append, h]
  rw [List.getD_eq_getElem?_getD, List.getElem?_eq_getElem hk] at hp
  simpa [hk] using hp
theorem any_hit {T : List (List UInt8)} {p : List UInt8 → Bool} {k : Nat} (hk : k < T.length) (hp : p (T.getD k []) = true) : T.any p = true := by
  rw [List.getD_eq_getElem?_getD, List.getElem?_eq_getElem hk] at hp
  exact List.any_eq_true.2 ⟨_, List.getElem_mem hk, by simpa using hp⟩
set_option maxHeartbeats 3200000 in
theorem specBellsOf_any (a : Option Addr) (c : Nat) (T : List (List UInt8)) (hm : T.length ≤ maxLen) (hs : ∀ k, k < T.length → (T.getD k []).length ≤ maxLen) (w : World) (hin : XIn w a T) :
    Calls Try.prog 31 #[.slice a T.length c] w (IntsOut w (bsR T).1 (bsR T).2) := by
  obtain ⟨i0, hi0, hz0, hz1, hz2⟩ := info_parts Try.infoInt
  have I0 := Lib.hid hi0
  have Z0 := Lib.hid hz0
  have Z1 := Lib.hid hz1
  have Z2 := Lib.hid hz2
  clear hi0 hz0 hz1 hz2
  have X0 := Lib.hid hin
  clear hin hs
  cases ht : okT T
  · have HM := Lib.hid (show (([] : List Int), false) = bsR T from by simp [bsR, ht])
    (go_enter Try.func31, Try.ntmps31)
    go_wp2_with fail
    refine (beTune_is a c T hm ht _ X0.out).mono ?_
    (rintro e1 w1 ⟨rfl, hb1⟩; obtain ⟨hc1, hf1⟩ := bcell hb1; have hz1 := hb1.size; (try simp only [World.size_alloc, World.size_setCell, World.size_drew] at hz1); have q1 : w.heap.size ≤ w1.heap.size := (by omega); (try have q1_0 : w.heap.size < w1.heap.size := (by omega)); (try have q1_1 : w.heap.size + 1 < w1.heap.size := (by omega)); (try have q1_2 : w.heap.size + 2 < w1.heap.size := (by omega)); (try have q1_3 : w.heap.size + 3 < w1.heap.size := (by omega)))
    go_wp2
    (refine bodyPost_ret (by simp [results, Try.results31, go_sem, *]; try rfl) rfl ?_)
    rw [← HM.out]
    exact IntsOut.none (by (repeat' (first | (with_reducible exact Below.refl _ _) | (with_reducible assumption) | (with_reducible refine Below.alloc ?_ ?_ _) | (with_reducible refine Below.drew ?_) | (with_reducible refine below_drewN ?_ _) | (with_reducible refine Below.setCell ?_ ?_ _) | (with_reducible refine below_call ?_ ?_ (by assumption)) | go_size)))
  · have HM := Lib.hid (show (belK T 8, true) = bsR T from by simp [bsR, ht])
    obtain ⟨hn, hall⟩ := okT_bd ht
    have HALL := Lib.hid hall
    clear hall
    (go_enter Try.func31, Try.ntmps31)
    go_wp2_with fail
    refine (beTune_is a c T hm ht _ X0.out).mono ?_
    rintro e1 w1 ⟨rfl, hb1⟩
    have hz1 := hb1.size
    have X := Lib.hid (X0.out.below hb1)
    clear X0
    go_wp2
    go_loopw [4, 5] (fun o i wr => ∃ k : Nat, k ≤ 8 ∧ i = .int .i64 ((k : Int) + 1) ∧ IRow wr w1.heap.size o (belK T k) ∧ Below w1.heap.size w1 wr) (fun _ i _ => 9 - (intOf i).toNat)
    case atStart => exact ⟨0, by omega, rfl, IRow.nil _ _, Below.refl _ _⟩
    case round =>
      obtain ⟨k, hk, rfl, hrow, hbr⟩ := hrel
      have HO := Lib.hid hrow
      have hzr := hbr.size
      clear hrow
      have i0' : (0 : Int) ≤ (k : Int) := Int.natCast_nonneg _
      have f1 := w64 (n := (k : Int) + 1 + 1) (by omega)
      by_cases hlt : k < 8
      · have hkl := (belK_all T k).2.2
        have HNO : Hid (hasB T ((k : Int) + 1) = false → belK T (k + 1) = belK T k) := Lib.hid belK_no
        have HYES : Hid (hasB T ((k : Int) + 1) = true → belK T (k + 1) = belK T k ++ [(k : Int) + 1]) := Lib.hid belK_yes
        have XR := Lib.hid (X.out.below hbr)
        have i9 : (k : Int) + 1 ≤ 8 := by omega
        have hkey : ∃ b : Int, b = (k : Int) + 1 := ⟨_, rfl⟩
        obtain ⟨b, hbe⟩ := hkey
        have HBE := Lib.hid hbe
        have hbb : 1 ≤ b ∧ b ≤ 8 := by omega
        rw [← hbe] at HNO HYES f1 i9 ⊢
        clear hbe
        generalize belK T k = M at *
        have f2 := w64 (n := b) (by omega)
        go_wp2
        go_loop [4, 17] (fun o j => ∃ m : Nat, m ≤ T.length ∧ j = .int .i64 m ∧ o = u4 ∧ (T.take m).any (fun l => decide (0 < cntN b l)) = false) (fun _ j => T.length - (intOf j).toNat)
        case atStart => exact ⟨0, Nat.zero_le _, rfl, rfl, by simp⟩
        case round =>
          obtain ⟨m, hm', rfl, rfl, hno⟩ := hrel
          have HNA := Lib.hid hno
          clear hno
          have j0 : (0 : Int) ≤ (m : Int) := Int.natCast_nonneg _
          by_cases hlt2 : m < T.length
          · obtain ⟨g, off, rfl, e1, e2⟩ := XR.out m hlt2
            have j1 : (m : Int) < (T.length : Int) := by omega
            have hl8 := (okP_bd (all_at (d := []) HALL.out hlt2)).1
            have HN := Lib.hid (fun h => any_next (p := fun l => decide (0 < cntN b l)) hlt2 HNA.out h)
            have HH := Lib.hid (fun h => any_hit (p := fun l => decide (0 < cntN b l)) hlt2 h)
            have hcl := cntN_le b (T.getD m [])
            generalize T.getD m [] = l at *
            by_cases hc : 0 < cntN b l
            · have HE : Hid (belK T (k + 1) = M ++ [b]) := Lib.hid (HYES.out (HH.out (by simpa using hc)))
              have hc' : (0 : Int) < ((cntN b l : Nat) : Int) := by omega
              have HC := Lib.hid (fun W => beBell_any b l hbb (by omega) W)
              generalize cntN b l = n at *
              have HLT : ∀ k, u4.ownBlock = some k → w1.heap.size ≤ k := fun k hk => (World.ownsRow.lt HO.out k hk).1
              go_wp2_with fail
              refine (HC.out _).mono ?_
              (rintro e1 w1 ⟨rfl, rfl⟩)
              go_wp2_with (at_builtin; refine wpList_append_lies _ rfl _ _ _ rfl (w1.heap.size) 3 i0 _ 1 8 Try.underlying27 I0.out Z0.out Z1.out Z2.out rfl (by omega) u4 (M.length) _ rfl (World.ownsRow.alloc HO.out _) ⟨wr.heap.size, 0, none⟩ 1 1 [.int .i64 b] rfl rfl (World.news_of_block (cs := #[.int .i64 b]) (t := 3) (fr := (0, 0)) (by simpa using heap_alloc_new wr _)) (by simp [Value.oneCell']) (by omega) (by unfold maxLen; omega) (by omega) (by simp; omega) (wr.heap.size + 1) (by simp) ?_; intro g cap w3 hown3 hgrow hat hlt3)
              go_wp2
              go_roundw
              case rel =>
                refine ⟨k + 1, by omega, ?_, ?_, ?_⟩
                · have := HBE.out
                  exact ret_num (by first | omega | (rw [f1]; omega))
                · rw [HE.out]
                  unfold IRow
                  rw [List.length_append, ints, List.map_append]
                  exact hown3
                · exact Below.grown (Below.alloc hbr hzr _) hgrow (by simp; omega) HLT
              case measure => simp [intOf]; omega
            · have HE := Lib.hid (HN.out (by simpa using hc))
              have hc' : ¬ (0 : Int) < ((cntN b l : Nat) : Int) := by omega
              have HC := Lib.hid (fun W => beBell_any b l hbb (by omega) W)
              generalize cntN b l = n at *
              go_wp2_with fail
              refine (HC.out _).mono ?_
              (rintro e1 w1 ⟨rfl, rfl⟩)
              go_wp2
              go_round
              case rel => exact ⟨m + 1, by omega, by go_num, rfl, HE.out⟩
              case measure => simp [intOf]; omega
          · have HE : Hid (belK T (k + 1) = M) := Lib.hid (HNO.out (by have := HNA.out; rw [List.take_of_length_le (by omega)] at this; exact this))
            go_wp2
            go_roundw
            case rel =>
              refine ⟨k + 1, by omega, ?_, ?_, hbr⟩
              · have := HBE.out
                exact ret_num (by first | omega | (rw [f1]; omega))
              · rw [HE.out]; exact HO.out
            case measure => simp [intOf]; omega
      · obtain rfl : k = 8 := by omega
        go_wp2
        (refine bodyPost_ret (by simp [results, Try.results31, go_sem, *]; try rfl) rfl ?_)
        rw [← HM.out]
        exact ⟨_, rfl, IRow.mono HO.out hz1, hb1.trans (hbr.mono hz1)⟩

end Go.Proofs.Ytijnppomeoaebaa
