/- When one knows, and from where it takes longest: by the program and by the model. -/
import Derived.Test.YtmjakhnchabkaaaStr10
set_option linter.unusedSimpArgs false
set_option linter.unusedVariables false
set_option maxRecDepth 100000
namespace Go.Proofs.Ytmjakhnchabkaaa
open Go.ChangeShapes Go.WideShapes Go.ChangeAt Go.RowKit Go.Maps

def knR (h x : Int) : Int × Bool := if halfB h x then ((kn h x : Int), true) else (0, false)
/-- A list, a number, and whether there are such. -/
def IntsNOut (w0 : World) (L : List Int) (n : Int) (ok : Bool) (e : Ending) (w' : World) : Prop := ∃ v, e = .returned (.tuple #[v, .int .i64 n, .bool ok]) ∧ IRow w' w0.heap.size v L ∧ Below w0.heap.size w0 w'
/-- Of the first halves, those from which it takes longest, and how long. -/
def lgK (h : Int) : Nat → List Int × Nat
  | 0 => ([], 0)
  | k + 1 => if (lgK h k).2 < kn h k then ([(k : Int)], kn h k) else if kn h k = (lgK h k).2 then ((lgK h k).1 ++ [(k : Int)], (lgK h k).2) else lgK h k
def lgL (h : Int) : List Int := if inB h 2 24 then (lgK h (2 * h).toNat).1 else []
def lgN (h : Int) : Int := if inB h 2 24 then ((lgK h (2 * h).toNat).2 : Int) else 0
theorem lgK_len (h : Int) (k : Nat) : (lgK h k).1.length ≤ k := by
  induction k with
  | zero => simp [lgK]
  | succ k ih =>
    simp only [lgK]
    split
    · simp
    · split
      · simp; omega
      · omega
theorem lgK_bd {h : Int} (hh : 2 ≤ h ∧ h ≤ 24) (k : Nat) (hk : (k : Int) ≤ 2 * h) : (lgK h k).2 ≤ 48 := by
  induction k with
  | zero => simp [lgK]
  | succ k ih =>
    have := ih (by omega)
    have := (kn_spec (h := h) (x := (k : Int)) hh (by omega)).2.1
    simp only [lgK]
    split
    · exact this
    · split <;> assumption
theorem lgL_len (h : Int) : (lgL h).length ≤ 1000000 := by
  unfold lgL
  split
  · rename_i k
    have := inB_bd k
    exact Nat.le_trans (lgK_len _ _) (by omega)
  · simp
theorem lgK_new {h : Int} {k c : Nat} (hc : kn h k = c) (h1 : (lgK h k).2 < c) : lgK h (k + 1) = ([(k : Int)], c) := by subst hc; simp only [lgK]; rw [if_pos h1]
theorem lgK_also {h : Int} {k c : Nat} (hc : kn h k = c) (h1 : c = (lgK h k).2) : lgK h (k + 1) = ((lgK h k).1 ++ [(k : Int)], (lgK h k).2) := by subst hc; simp only [lgK]; rw [if_neg (by omega), if_pos h1]
theorem lgK_not {h : Int} {k c : Nat} (hc : kn h k = c) (h1 : c < (lgK h k).2) : lgK h (k + 1) = lgK h k := by subst hc; simp only [lgK]; rw [if_neg (by omega), if_neg (by omega)]

set_option maxHeartbeats 1600000 in
theorem implKnownAfter_any (h x : Int) (w : World) :
    Calls Try.prog 38 #[.int .i64 h, .int .i64 x] w fun e w' => e = .returned (nv (knR h x)) ∧ Below w.heap.size w w' := by
  cases ga : halfB h x
  · have HM := Lib.hid (show (0, false) = knR h x from by simp [knR, ga])
    (go_enter Try.func38, Try.ntmps38)
    go_wp2_with fail
    refine (isHalf_is _ _ ga _).mono ?_
    (rintro e1 w1 ⟨rfl, rfl⟩)
    go_wp2
    (refine bodyPost_ret (by simp [results, Try.results38, go_sem, *]; try rfl) rfl ?_)
    exact ⟨ret_nv HM.out, by (repeat' (first | (with_reducible exact Below.refl _ _) | (with_reducible assumption) | (with_reducible refine Below.alloc ?_ ?_ _) | (with_reducible refine Below.drew ?_) | (with_reducible refine below_drewN ?_ _) | (with_reducible refine Below.setCell ?_ ?_ _) | (with_reducible refine below_call ?_ ?_ (by assumption)) | go_size))⟩
  · obtain ⟨hh, hx⟩ := halfB_bd ga
    obtain ⟨k1, k2, -, -⟩ := kn_spec hh hx
    have HM := Lib.hid (show ((kn h x : Int), true) = knR h x from by simp [knR, ga])
    have HC : Hid (∀ W : World, Calls Try.prog 76 #[.int .i64 h, .int .i64 x] W fun e w' => e = .returned (.int .i64 (kn h x)) ∧ Below W.heap.size W w') := Lib.hid (fun W => listenFrom_any h x hh hx W)
    generalize kn h x = K at *
    have hk0 : ((K : Int) == 0) = false := by simp; omega
    (go_enter Try.func38, Try.ntmps38)
    go_wp2_with fail
    refine (isHalf_is _ _ ga _).mono ?_
    (rintro e1 w1 ⟨rfl, rfl⟩)
    go_wp2_with fail
    refine (HC.out _).mono ?_
    rintro e1 w1 ⟨rfl, hb1⟩
    have hz1 := hb1.size
    go_wp2
    (refine bodyPost_ret (by simp [results, Try.results38, go_sem, *]; try rfl) rfl ?_)
    exact ⟨ret_nv HM.out, hb1⟩

set_option maxHeartbeats 1600000 in
theorem specKnownAfter_any (h x : Int) (w : World) :
    Calls Try.prog 37 #[.int .i64 h, .int .i64 x] w fun e w' => e = .returned (nv (knR h x)) ∧ Below w.heap.size w w' := by
  cases ga : halfB h x
  · have HM := Lib.hid (show (0, false) = knR h x from by simp [knR, ga])
    (go_enter Try.func37, Try.ntmps37)
    go_wp2_with fail
    refine (stHalf_is _ _ ga _).mono ?_
    (rintro e1 w1 ⟨rfl, rfl⟩)
    go_wp2
    (refine bodyPost_ret (by simp [results, Try.results37, go_sem, *]; try rfl) rfl ?_)
    exact ⟨ret_nv HM.out, by (repeat' (first | (with_reducible exact Below.refl _ _) | (with_reducible assumption) | (with_reducible refine Below.alloc ?_ ?_ _) | (with_reducible refine Below.drew ?_) | (with_reducible refine below_drewN ?_ _) | (with_reducible refine Below.setCell ?_ ?_ _) | (with_reducible refine below_call ?_ ?_ (by assumption)) | go_size))⟩
  · obtain ⟨hh, hx⟩ := halfB_bd ga
    obtain ⟨k1, k2, -, -⟩ := kn_spec hh hx
    have HM := Lib.hid (show ((kn h x : Int), true) = knR h x from by simp [knR, ga])
    have HC : Hid (∀ W : World, Calls Try.prog 75 #[.int .i64 h, .int .i64 x] W fun e w' => e = .returned (.int .i64 (kn h x)) ∧ Below W.heap.size W w') := Lib.hid (fun W => stKnown_any h x hh hx W)
    generalize kn h x = K at *
    have hk0 : ((K : Int) == 0) = false := by simp; omega
    (go_enter Try.func37, Try.ntmps37)
    go_wp2_with fail
    refine (stHalf_is _ _ ga _).mono ?_
    (rintro e1 w1 ⟨rfl, rfl⟩)
    go_wp2_with fail
    refine (HC.out _).mono ?_
    rintro e1 w1 ⟨rfl, hb1⟩
    have hz1 := hb1.size
    go_wp2_with fail
    refine (HC.out _).mono ?_
    rintro e2 w2 ⟨rfl, hb2⟩
    have hz2 := hb2.size
    go_wp2
    (refine bodyPost_ret (by simp [results, Try.results37, go_sem, *]; try rfl) rfl ?_)
    exact ⟨ret_nv HM.out, hb1.trans (hb2.mono hz1)⟩

set_option maxHeartbeats 1600000 in
theorem implLongestUnknown_any (h : Int) (w : World) :
    Calls Try.prog 40 #[.int .i64 h] w (IntsNOut w (lgL h) (lgN h) (inB h 2 24)) := by
  cases ga : inB h 2 24
  · have H1 : Hid (([] : List Int) = lgL h) := Lib.hid (by simp [lgL, ga])
    have H2 : Hid ((0 : Int) = lgN h) := Lib.hid (by simp [lgN, ga])
    (go_enter Try.func40, Try.ntmps40)
    go_wp2_with fail
    refine (isDial_is _ ga _).mono ?_
    (rintro e1 w1 ⟨rfl, rfl⟩)
    go_wp2
    (refine bodyPost_ret (by simp [results, Try.results40, go_sem, *]; try rfl) rfl ?_)
    rw [← H1.out, ← H2.out]
    exact ⟨_, rfl, IRow.nil _ _, Below.refl _ _⟩
  · obtain ⟨i0, hi0, hz0, hz1, hz2⟩ := info_parts Try.infoInt
    have I0 := Lib.hid hi0
    have Z0 := Lib.hid hz0
    have Z1 := Lib.hid hz1
    have Z2 := Lib.hid hz2
    clear hi0 hz0 hz1 hz2
    have hh := inB_bd ga
    have hw2 := w64 (n := 2 * h) (by omega)
    obtain ⟨R, hR⟩ : ∃ R : Nat, (R : Int) = 2 * h := ⟨(2 * h).toNat, by omega⟩
    have HL : Hid ((lgK h R).1 = lgL h) := Lib.hid (by rw [lgL, ga, show (2 * h).toNat = R by omega]; rfl)
    have HK : Hid (((lgK h R).2 : Int) = lgN h) := Lib.hid (by rw [lgN, ga, show (2 * h).toNat = R by omega]; rfl)
    (go_enter Try.func40, Try.ntmps40)
    go_wp2_with fail
    refine (isDial_is _ ga _).mono ?_
    (rintro e1 w1 ⟨rfl, rfl⟩)
    go_wp2
    go_loopw [5, 6, 14] (fun o m i wr => ∃ k : Nat, k ≤ R ∧ i = .int .i64 k ∧ m = .int .i64 (lgK h k).2 ∧ IRow wr w.heap.size o (lgK h k).1 ∧ Below w.heap.size w wr) (fun _ _ i _ => R - (RowKit.intOf i).toNat)
    case atStart => exact ⟨0, Nat.zero_le _, rfl, rfl, IRow.nil _ _, Below.refl _ _⟩
    case round =>
      obtain ⟨k, hk, rfl, rfl, hown, hbel⟩ := hrel
      have HO := Lib.hid hown
      have hzr := hbel.size
      have i0' : (0 : Int) ≤ (k : Int) := Int.natCast_nonneg _
      have hlen := lgK_len h k
      have hm0 := lgK_bd hh k (by omega)
      clear hown
      by_cases hlt : (k : Int) < 2 * h
      · obtain ⟨k1, k2, -, -⟩ := kn_spec (h := h) (x := (k : Int)) hh (by omega)
        have HC : Hid (∀ W : World, Calls Try.prog 76 #[.int .i64 h, .int .i64 k] W fun e w' => e = .returned (.int .i64 (kn h k)) ∧ Below W.heap.size W w') := Lib.hid (fun W => listenFrom_any h k hh (by omega) W)
        obtain ⟨c, hcc⟩ : ∃ c, kn h k = c := ⟨_, rfl⟩
        rw [hcc] at HC k1 k2
        have HLT := Lib.hid (IRow.low HO.out)
        have HLT0 : Hid (∀ j, (Value.slice none 0 0).ownBlock = some j → w.heap.size ≤ j) := Lib.hid (fun j hj => by cases hj)
        by_cases h1 : (lgK h k).2 < c
        · have HN := Lib.hid (lgK_new hcc h1)
          clear hcc
          generalize lgK h k = p at *
          obtain ⟨pl, pm⟩ := p
          simp only at *
          have h1' : (pm : Int) < (c : Int) := by omega
          go_wp2_with fail
          refine (HC.out _).mono ?_
          rintro e1 w1 ⟨rfl, hb1⟩
          have hz1 := hb1.size
          have hB1 : Below w.heap.size w w1 := hbel.trans (hb1.mono hzr)
          have HO1 : Hid (w1.ownsRow w.heap.size 3 1 (.slice none 0 0) 0 (ints [])) := Lib.hid (World.ownsRow_nil _ _ _ _)
          go_wp2_with (at_builtin; refine wpList_append_lies _ rfl _ _ _ rfl (w.heap.size) 3 i0 _ 1 8 Try.underlying31 I0.out Z0.out Z1.out Z2.out rfl (by omega) (Value.slice none 0 0) (0) _ rfl (HO1.out.alloc _) ⟨w1.heap.size, 0, none⟩ 1 1 [.int .i64 ((k : Int))] rfl rfl (World.news_of_block (cs := #[.int .i64 ((k : Int))]) (t := 3) (fr := (0, 0)) (by simpa using heap_alloc_new w1 _)) (by simp [Value.oneCell']) (by omega) (by unfold maxLen; omega) (by omega) (by simp; omega) (w1.heap.size + 1) (by simp) ?_; intro g cap w3 hown3 hgrow hat hlt3)
          go_wp2
          go_roundw
          case rel =>
            refine ⟨k + 1, by omega, by go_num, by rw [HN.out], ?_, ?_⟩
            · rw [HN.out]
              unfold IRow
              
              exact hown3
            · exact Below.grown (by (repeat' (first | (with_reducible exact Below.refl _ _) | (with_reducible assumption) | (with_reducible refine Below.alloc ?_ ?_ _) | (with_reducible refine Below.drew ?_) | (with_reducible refine below_drewN ?_ _) | (with_reducible refine Below.setCell ?_ ?_ _) | (with_reducible refine below_call ?_ ?_ (by assumption)) | go_size))) hgrow (by simp; omega) HLT0.out
          case measure => simp [RowKit.intOf]; omega
        · by_cases h2 : c = (lgK h k).2
          · have HN := Lib.hid (lgK_also hcc h2)
            clear hcc
            generalize lgK h k = p at *
            obtain ⟨pl, pm⟩ := p
            simp only at *
            subst h2
            go_wp2_with fail
            refine (HC.out _).mono ?_
            rintro e1 w1 ⟨rfl, hb1⟩
            have hz1 := hb1.size
            have hB1 : Below w.heap.size w w1 := hbel.trans (hb1.mono hzr)
            have HO1 : Hid (w1.ownsRow w.heap.size 3 1 u5 pl.length (ints pl)) := Lib.hid (IRow.below HO.out hb1)
            go_wp2_with (at_builtin; refine wpList_append_lies _ rfl _ _ _ rfl (w.heap.size) 3 i0 _ 1 8 Try.underlying31 I0.out Z0.out Z1.out Z2.out rfl (by omega) u5 (pl.length) _ rfl (HO1.out.alloc _) ⟨w1.heap.size, 0, none⟩ 1 1 [.int .i64 ((k : Int))] rfl rfl (World.news_of_block (cs := #[.int .i64 ((k : Int))]) (t := 3) (fr := (0, 0)) (by simpa using heap_alloc_new w1 _)) (by simp [Value.oneCell']) (by omega) (by unfold maxLen; omega) (by omega) (by simp; omega) (w1.heap.size + 1) (by simp) ?_; intro g cap w3 hown3 hgrow hat hlt3)
            go_wp2
            go_roundw
            case rel =>
              refine ⟨k + 1, by omega, by go_num, by rw [HN.out], ?_, ?_⟩
              · rw [HN.out]
                unfold IRow
                rw [show (pl ++ [(k : Int)]).length = pl.length + 1 by simp, show ints (pl ++ [(k : Int)]) = ints pl ++ [.int .i64 k] by simp [ints]]
                exact hown3
              · exact Below.grown (by (repeat' (first | (with_reducible exact Below.refl _ _) | (with_reducible assumption) | (with_reducible refine Below.alloc ?_ ?_ _) | (with_reducible refine Below.drew ?_) | (with_reducible refine below_drewN ?_ _) | (with_reducible refine Below.setCell ?_ ?_ _) | (with_reducible refine below_call ?_ ?_ (by assumption)) | go_size))) hgrow (by simp; omega) HLT.out
            case measure => simp [RowKit.intOf]; omega
          · have HN := Lib.hid (lgK_not hcc (by omega))
            clear hcc
            generalize lgK h k = p at *
            obtain ⟨pl, pm⟩ := p
            simp only at *
            have h1' : ¬ (pm : Int) < (c : Int) := by omega
            have h2' : ((c : Int) == (pm : Int)) = false := by simp; omega
            go_wp2_with fail
            refine (HC.out _).mono ?_
            rintro e1 w1 ⟨rfl, hb1⟩
            have hz1 := hb1.size
            have hB1 : Below w.heap.size w w1 := hbel.trans (hb1.mono hzr)
            go_wp2
            go_roundw
            case rel =>
              refine ⟨k + 1, by omega, by go_num, by rw [HN.out], ?_, ?_⟩
              · rw [HN.out]; exact IRow.below HO.out hb1
              · exact hB1
            case measure => simp [RowKit.intOf]; omega
      · obtain rfl : k = R := by omega
        go_wp2
        (refine bodyPost_ret (by simp [results, Try.results40, go_sem, *]; try rfl) rfl ?_)
        rw [← HK.out, ← HL.out]
        exact ⟨_, rfl, HO.out, hbel⟩

set_option maxHeartbeats 1600000 in
theorem specLongestUnknown_any (h : Int) (w : World) :
    Calls Try.prog 39 #[.int .i64 h] w (IntsNOut w (lgL h) (lgN h) (inB h 2 24)) := by
  cases ga : inB h 2 24
  · have H1 : Hid (([] : List Int) = lgL h) := Lib.hid (by simp [lgL, ga])
    have H2 : Hid ((0 : Int) = lgN h) := Lib.hid (by simp [lgN, ga])
    (go_enter Try.func39, Try.ntmps39)
    go_wp2_with fail
    refine (diHours_is _ ga _).mono ?_
    (rintro e1 w1 ⟨rfl, rfl⟩)
    go_wp2
    (refine bodyPost_ret (by simp [results, Try.results39, go_sem, *]; try rfl) rfl ?_)
    rw [← H1.out, ← H2.out]
    exact ⟨_, rfl, IRow.nil _ _, Below.refl _ _⟩
  · obtain ⟨i0, hi0, hz0, hz1, hz2⟩ := info_parts Try.infoInt
    have I0 := Lib.hid hi0
    have Z0 := Lib.hid hz0
    have Z1 := Lib.hid hz1
    have Z2 := Lib.hid hz2
    clear hi0 hz0 hz1 hz2
    have hh := inB_bd ga
    have hw2 := w64 (n := 2 * h) (by omega)
    obtain ⟨R, hR⟩ : ∃ R : Nat, (R : Int) = 2 * h := ⟨(2 * h).toNat, by omega⟩
    have HL : Hid ((lgK h R).1 = lgL h) := Lib.hid (by rw [lgL, ga, show (2 * h).toNat = R by omega]; rfl)
    have HK : Hid (((lgK h R).2 : Int) = lgN h) := Lib.hid (by rw [lgN, ga, show (2 * h).toNat = R by omega]; rfl)
    (go_enter Try.func39, Try.ntmps39)
    go_wp2_with fail
    refine (diHours_is _ ga _).mono ?_
    (rintro e1 w1 ⟨rfl, rfl⟩)
    go_wp2
    go_loopw [5, 6, 7] (fun o m i wr => ∃ k : Nat, k ≤ R ∧ i = .int .i64 k ∧ m = .int .i64 (lgK h k).2 ∧ IRow wr w.heap.size o (lgK h k).1 ∧ Below w.heap.size w wr) (fun _ _ i _ => R - (RowKit.intOf i).toNat)
    case atStart => exact ⟨0, Nat.zero_le _, rfl, rfl, IRow.nil _ _, Below.refl _ _⟩
    case round =>
      obtain ⟨k, hk, rfl, rfl, hown, hbel⟩ := hrel
      have HO := Lib.hid hown
      have hzr := hbel.size
      have i0' : (0 : Int) ≤ (k : Int) := Int.natCast_nonneg _
      have hlen := lgK_len h k
      have hm0 := lgK_bd hh k (by omega)
      clear hown
      by_cases hlt : (k : Int) < 2 * h
      · obtain ⟨k1, k2, -, -⟩ := kn_spec (h := h) (x := (k : Int)) hh (by omega)
        have HC : Hid (∀ W : World, Calls Try.prog 75 #[.int .i64 h, .int .i64 k] W fun e w' => e = .returned (.int .i64 (kn h k)) ∧ Below W.heap.size W w') := Lib.hid (fun W => stKnown_any h k hh (by omega) W)
        obtain ⟨c, hcc⟩ : ∃ c, kn h k = c := ⟨_, rfl⟩
        rw [hcc] at HC k1 k2
        have HLT := Lib.hid (IRow.low HO.out)
        have HLT0 : Hid (∀ j, (Value.slice none 0 0).ownBlock = some j → w.heap.size ≤ j) := Lib.hid (fun j hj => by cases hj)
        by_cases h1 : (lgK h k).2 < c
        · have HN := Lib.hid (lgK_new hcc h1)
          clear hcc
          generalize lgK h k = p at *
          obtain ⟨pl, pm⟩ := p
          simp only at *
          have h1' : (pm : Int) < (c : Int) := by omega
          go_wp2_with fail
          refine (HC.out _).mono ?_
          rintro e1 w1 ⟨rfl, hb1⟩
          have hz1 := hb1.size
          have hB1 : Below w.heap.size w w1 := hbel.trans (hb1.mono hzr)
          have HO1 : Hid (w1.ownsRow w.heap.size 3 1 (.slice none 0 0) 0 (ints [])) := Lib.hid (World.ownsRow_nil _ _ _ _)
          go_wp2_with (at_builtin; refine wpList_append_lies _ rfl _ _ _ rfl (w.heap.size) 3 i0 _ 1 8 Try.underlying31 I0.out Z0.out Z1.out Z2.out rfl (by omega) (Value.slice none 0 0) (0) _ rfl (HO1.out.alloc _) ⟨w1.heap.size, 0, none⟩ 1 1 [.int .i64 ((k : Int))] rfl rfl (World.news_of_block (cs := #[.int .i64 ((k : Int))]) (t := 3) (fr := (0, 0)) (by simpa using heap_alloc_new w1 _)) (by simp [Value.oneCell']) (by omega) (by unfold maxLen; omega) (by omega) (by simp; omega) (w1.heap.size + 1) (by simp) ?_; intro g cap w3 hown3 hgrow hat hlt3)
          go_wp2
          go_roundw
          case rel =>
            refine ⟨k + 1, by omega, by go_num, by rw [HN.out], ?_, ?_⟩
            · rw [HN.out]
              unfold IRow
              
              exact hown3
            · exact Below.grown (by (repeat' (first | (with_reducible exact Below.refl _ _) | (with_reducible assumption) | (with_reducible refine Below.alloc ?_ ?_ _) | (with_reducible refine Below.drew ?_) | (with_reducible refine below_drewN ?_ _) | (with_reducible refine Below.setCell ?_ ?_ _) | (with_reducible refine below_call ?_ ?_ (by assumption)) | go_size))) hgrow (by simp; omega) HLT0.out
          case measure => simp [RowKit.intOf]; omega
        · by_cases h2 : c = (lgK h k).2
          · have HN := Lib.hid (lgK_also hcc h2)
            clear hcc
            generalize lgK h k = p at *
            obtain ⟨pl, pm⟩ := p
            simp only at *
            subst h2
            go_wp2_with fail
            refine (HC.out _).mono ?_
            rintro e1 w1 ⟨rfl, hb1⟩
            have hz1 := hb1.size
            have hB1 : Below w.heap.size w w1 := hbel.trans (hb1.mono hzr)
            have HO1 : Hid (w1.ownsRow w.heap.size 3 1 u5 pl.length (ints pl)) := Lib.hid (IRow.below HO.out hb1)
            go_wp2_with (at_builtin; refine wpList_append_lies _ rfl _ _ _ rfl (w.heap.size) 3 i0 _ 1 8 Try.underlying31 I0.out Z0.out Z1.out Z2.out rfl (by omega) u5 (pl.length) _ rfl (HO1.out.alloc _) ⟨w1.heap.size, 0, none⟩ 1 1 [.int .i64 ((k : Int))] rfl rfl (World.news_of_block (cs := #[.int .i64 ((k : Int))]) (t := 3) (fr := (0, 0)) (by simpa using heap_alloc_new w1 _)) (by simp [Value.oneCell']) (by omega) (by unfold maxLen; omega) (by omega) (by simp; omega) (w1.heap.size + 1) (by simp) ?_; intro g cap w3 hown3 hgrow hat hlt3)
            go_wp2
            go_roundw
            case rel =>
              refine ⟨k + 1, by omega, by go_num, by rw [HN.out], ?_, ?_⟩
              · rw [HN.out]
                unfold IRow
                rw [show (pl ++ [(k : Int)]).length = pl.length + 1 by simp, show ints (pl ++ [(k : Int)]) = ints pl ++ [.int .i64 k] by simp [ints]]
                exact hown3
              · exact Below.grown (by (repeat' (first | (with_reducible exact Below.refl _ _) | (with_reducible assumption) | (with_reducible refine Below.alloc ?_ ?_ _) | (with_reducible refine Below.drew ?_) | (with_reducible refine below_drewN ?_ _) | (with_reducible refine Below.setCell ?_ ?_ _) | (with_reducible refine below_call ?_ ?_ (by assumption)) | go_size))) hgrow (by simp; omega) HLT.out
            case measure => simp [RowKit.intOf]; omega
          · have HN := Lib.hid (lgK_not hcc (by omega))
            clear hcc
            generalize lgK h k = p at *
            obtain ⟨pl, pm⟩ := p
            simp only at *
            have h1' : ¬ (pm : Int) < (c : Int) := by omega
            have h2' : ((c : Int) == (pm : Int)) = false := by simp; omega
            go_wp2_with fail
            refine (HC.out _).mono ?_
            rintro e1 w1 ⟨rfl, hb1⟩
            have hz1 := hb1.size
            have hB1 : Below w.heap.size w w1 := hbel.trans (hb1.mono hzr)
            go_wp2
            go_roundw
            case rel =>
              refine ⟨k + 1, by omega, by go_num, by rw [HN.out], ?_, ?_⟩
              · rw [HN.out]; exact IRow.below HO.out hb1
              · exact hB1
            case measure => simp [RowKit.intOf]; omega
      · obtain rfl : k = R := by omega
        go_wp2
        (refine bodyPost_ret (by simp [results, Try.results39, go_sem, *]; try rfl) rfl ?_)
        rw [← HK.out, ← HL.out]
        exact ⟨_, rfl, HO.out, hbel⟩

end Go.Proofs.Ytmjakhnchabkaaa
