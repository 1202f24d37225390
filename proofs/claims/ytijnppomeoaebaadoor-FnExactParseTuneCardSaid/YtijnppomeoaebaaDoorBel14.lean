/- The tune with a text: by the program and by the model. -/
import Derived.Test.YtijnppomeoaebaaDoorBel4
import Derived.Test.YtijnppomeoaebaaDoorShelf
import Derived.Lib.Split
set_option linter.unusedSimpArgs false
set_option linter.unusedVariables false
set_option maxRecDepth 100000
namespace Go.Proofs.YtijnppomeoaebaaDoor
open Go.RowKit

/-- A text split at each occurrence of a byte. -/
def splitL (x : UInt8) : List UInt8 → List (List UInt8)
  | [] => [[]]
  | c :: r => if c = x then [] :: splitL x r else ((c :: (splitL x r).headD []) :: (splitL x r).tail)
theorem splitL_ne (x : UInt8) (l : List UInt8) : 1 ≤ (splitL x l).length := by
  cases l with
  | nil => simp [splitL]
  | cons c r => unfold splitL; split <;> simp
theorem splitL_at {x : UInt8} {b : List UInt8} : ∀ {a : List UInt8}, ¬ x ∈ a → splitL x (a ++ x :: b) = a :: splitL x b
  | [], _ => by simp [splitL]
  | c :: a, h => by
    have h1 : ¬ c = x := fun e => h (by simp [e])
    have h2 : ¬ x ∈ a := fun e => h (by simp [e])
    rw [List.cons_append, splitL, if_neg h1, splitL_at h2]
    rfl
theorem splitL_no {x : UInt8} : ∀ {a : List UInt8}, ¬ x ∈ a → splitL x a = [a]
  | [], _ => by simp [splitL]
  | c :: a, h => by
    have h1 : ¬ c = x := fun e => h (by simp [e])
    have h2 : ¬ x ∈ a := fun e => h (by simp [e])
    rw [splitL, if_neg h1, splitL_no h2]
    rfl
def SplitAt (x : UInt8) (l : List UInt8) (k f : Nat) (P : List (List UInt8)) : Prop := f ≤ k ∧ P.length ≤ f ∧ splitL x l = P ++ splitL x (l.drop f) ∧ ¬ x ∈ (l.drop f).take (k - f)
theorem piece_next {l : List UInt8} {k f : Nat} (hf : f ≤ k) (hk : k < l.length) : (l.drop f).take (k + 1 - f) = (l.drop f).take (k - f) ++ [l.getD k 0] := by
  rw [show k + 1 - f = (k - f) + 1 by omega, take_next (by simp; omega)]
  simp [List.getD_eq_getElem?_getD, List.getElem?_drop, show f + (k - f) = k by omega]
theorem split_zero (x : UInt8) (l : List UInt8) : SplitAt x l 0 0 [] := ⟨Nat.le_refl _, Nat.le_refl _, rfl, by simp⟩
theorem split_next {x : UInt8} {l : List UInt8} {k f : Nat} {P : List (List UInt8)} (h : SplitAt x l k f P) (hk : k < l.length) (hx : ¬ l.getD k 0 = x) : SplitAt x l (k + 1) f P := by
  obtain ⟨h1, h2, h3, h4⟩ := h
  refine ⟨by omega, h2, h3, ?_⟩
  rw [piece_next h1 hk, List.mem_append]
  rintro (h | h)
  · exact h4 h
  · exact hx (List.mem_singleton.1 h).symm
theorem split_cut {x : UInt8} {l : List UInt8} {k f : Nat} {P : List (List UInt8)} (h : SplitAt x l k f P) (hk : k < l.length) (hx : l.getD k 0 = x) : SplitAt x l (k + 1) (k + 1) (P ++ [(l.drop f).take (k - f)]) := by
  obtain ⟨h1, h2, h3, h4⟩ := h
  refine ⟨Nat.le_refl _, by simp; omega, ?_, by simp⟩
  have e : l.drop f = (l.drop f).take (k - f) ++ x :: l.drop (k + 1) := by
    have e2 : (l.drop f).drop (k - f) = x :: l.drop (k + 1) := by
      rw [List.drop_drop, show f + (k - f) = k by omega, List.drop_eq_getElem_cons hk]
      rw [List.getD_eq_getElem?_getD, List.getElem?_eq_getElem hk] at hx
      rw [← hx]
      rfl
    rw [← e2, List.take_append_drop]
  rw [h3, List.append_assoc]
  congr 1
  conv => lhs; rw [e]
  rw [splitL_at h4]
  rfl
theorem split_end {x : UInt8} {l : List UInt8} {f : Nat} {P : List (List UInt8)} (h : SplitAt x l l.length f P) : splitL x l = P ++ [l.drop f] := by
  obtain ⟨h1, h2, h3, h4⟩ := h
  rw [h3]
  have : (l.drop f).take (l.length - f) = l.drop f := List.take_of_length_le (by simp)
  rw [this] at h4
  rw [splitL_no h4]
set_option maxHeartbeats 1600000 in
theorem l1Split_any (l : List UInt8) (x : UInt8) (hl : l.length ≤ 1048576) (w : World) :
    Calls Tryd.prog 43 #[str l, .int .u8 (x.toNat : Int)] w fun e w' => ∃ v, e = .returned v ∧ XRow w' w.heap.size v (splitL x l) ∧ Below w.heap.size w w' := by
  obtain ⟨i0, hi0, hz0, hz1, hz2⟩ := info_parts Tryd.infoString
  have I0 := Lib.hid hi0
  have Z0 := Lib.hid hz0
  have Z1 := Lib.hid hz1
  have Z2 := Lib.hid hz2
  clear hi0 hz0 hz1 hz2
  obtain ⟨y, hy⟩ : ∃ y : Int, y = (x.toNat : Int) := ⟨_, rfl⟩
  have HY := Lib.hid hy
  rw [← hy]
  clear hy
  (go_enter Tryd.func43, Tryd.ntmps43)
  go_wp2
  go_loopw [5, 6, 7] (fun o fr i wr => ∃ (k f : Nat) (P : List (List UInt8)), k ≤ l.length ∧ i = .int .i64 k ∧ fr = .int .i64 f ∧ SplitAt x l k f P ∧ XRow wr w.heap.size o P ∧ Below w.heap.size w wr) (fun _ _ i _ => l.length - (intOf i).toNat)
  case atStart => exact ⟨0, 0, [], Nat.zero_le _, rfl, rfl, split_zero x l, World.ownsRow_nil _ _ _ _, Below.refl _ _⟩
  case round =>
    obtain ⟨k, f, P, hk, rfl, rfl, hsp, hrow, hbr⟩ := hrel
    obtain ⟨hfk, hPf, -, -⟩ := id hsp
    have hzr := hbr.size
    have HS := Lib.hid hsp
    have HR := Lib.hid hrow
    clear hsp hrow
    have j0 : (0 : Int) ≤ (k : Int) := Int.natCast_nonneg _
    have j2 : (0 : Int) ≤ (f : Int) := Int.natCast_nonneg _
    have j3 : (f : Int) ≤ (k : Int) := by omega
    by_cases hlt : k < l.length
    · have j1 : (k : Int) < (l.length : Int) := by omega
      obtain ⟨c, hc⟩ : ∃ c : Int, c = ((l.getD k 0).toNat : Int) := ⟨_, rfl⟩
      have hzk := fun W => run_byte l k c hlt hc W
      have HC := Lib.hid hc
      clear hc
      by_cases he : c = y
      · obtain ⟨p, hp⟩ : ∃ p, p = (l.drop f).take (k - f) := ⟨_, rfl⟩
        have hpz := fun W => run_piece l f k hfk (by omega) p hp W
        have HN := Lib.hid (split_cut HS.out hlt (by
          have h1 := HC.out; have h2 := HY.out
          exact UInt8.toNat_inj.1 (by omega)))
        rw [← hp] at HN
        clear hp
        subst he
        have HLT : ∀ k, u5.ownBlock = some k → w.heap.size ≤ k := fun k hk => (World.ownsRow.lt HR.out k hk).1
        go_wp2_with (at_builtin; refine wpList_append_lies _ rfl _ _ _ rfl w.heap.size 9 i0 _ 1 16 Tryd.underlying22 I0.out Z0.out Z1.out Z2.out rfl (by omega) u5 P.length _ rfl (World.ownsRow.alloc HR.out _) ⟨wr.heap.size, 0, none⟩ 1 1 [str p] rfl rfl (World.news_of_block (cs := #[str p]) (t := 9) (fr := (0, 0)) (by simpa using heap_alloc_new wr _)) (by simp [Value.oneCell']) (by omega) (by unfold maxLen; omega) (by omega) (by simp; omega) (wr.heap.size + 1) (by simp) ?_; intro g cap w3 hown3 hgrow hat hlt3)
        go_roundw
        case rel =>
          refine ⟨k + 1, k + 1, P ++ [p], by omega, by go_num, by go_num, HN.out, ?_, ?_⟩
          · unfold XRow texts
            rw [List.map_append, List.length_append]
            exact hown3
          · exact Below.grown (by (repeat' (first | (with_reducible exact Below.refl _ _) | (with_reducible assumption) | (with_reducible refine Below.alloc ?_ ?_ _) | (with_reducible refine Below.drew ?_) | (with_reducible refine below_drewN ?_ _) | (with_reducible refine Below.setCell ?_ ?_ _) | (with_reducible refine below_call ?_ ?_ (by assumption)) | go_size))) hgrow (by simp; omega) HLT
        case measure => simp [intOf]; omega
      · have HN := Lib.hid (split_next HS.out hlt (fun h => he (by rw [HC.out, HY.out, h])))
        go_wp2
        go_roundw
        case rel => exact ⟨k + 1, f, P, by omega, by go_num, rfl, HN.out, HR.out, hbr⟩
        case measure => simp [intOf]; omega
    · obtain rfl : k = l.length := by omega
      have HE := Lib.hid (split_end HS.out)
      obtain ⟨p, hp⟩ : ∃ p, p = l.drop f := ⟨_, rfl⟩
      have hpz := fun W => run_tail l f (by omega) p hp W
      rw [← hp] at HE
      clear hp
      have HLT : ∀ k, u5.ownBlock = some k → w.heap.size ≤ k := fun k hk => (World.ownsRow.lt HR.out k hk).1
      go_wp2_with (at_builtin; refine wpList_append_lies _ rfl _ _ _ rfl w.heap.size 9 i0 _ 1 16 Tryd.underlying22 I0.out Z0.out Z1.out Z2.out rfl (by omega) u5 P.length _ rfl (World.ownsRow.alloc HR.out _) ⟨wr.heap.size, 0, none⟩ 1 1 [str p] rfl rfl (World.news_of_block (cs := #[str p]) (t := 9) (fr := (0, 0)) (by simpa using heap_alloc_new wr _)) (by simp [Value.oneCell']) (by omega) (by unfold maxLen; omega) (by omega) (by simp; omega) (wr.heap.size + 1) (by simp) ?_; intro g cap w3 hown3 hgrow hat hlt3)
      go_ret
      refine ⟨_, rfl, ?_, ?_⟩
      · rw [HE.out]
        unfold XRow texts
        rw [List.map_append, List.length_append]
        exact hown3
      · exact Below.grown (by (repeat' (first | (with_reducible exact Below.refl _ _) | (with_reducible assumption) | (with_reducible refine Below.alloc ?_ ?_ _) | (with_reducible refine Below.drew ?_) | (with_reducible refine below_drewN ?_ _) | (with_reducible refine Below.setCell ?_ ?_ _) | (with_reducible refine below_call ?_ ?_ (by assumption)) | go_size))) hgrow (by simp; omega) HLT
theorem splitL_size (x : UInt8) : ∀ l : List UInt8, (splitL x l).flatten.length + (splitL x l).length = l.length + 1
  | [] => by simp [splitL]
  | c :: r => by
    have ih := splitL_size x r
    have hne := splitL_ne x r
    unfold splitL
    split
    · simp only [List.flatten_cons, List.length_append, List.length_nil, List.length_cons]; omega
    · cases h : splitL x r with
      | nil => rw [h] at hne; simp at hne
      | cons z zs =>
        rw [h] at ih
        simp only [List.headD_cons, List.tail_cons, List.flatten_cons, List.length_append, List.length_cons] at ih ⊢
        omega
theorem flat_len {T : List (List UInt8)} (h : T.all okP = true) : T.flatten.length ≤ 8 * T.length := by
  induction T with
  | nil => simp
  | cons z zs ih =>
    rw [List.all_cons, Bool.and_eq_true] at h
    have h1 := (okP_bd h.1).1
    have h2 := ih h.2
    simp only [List.flatten_cons, List.length_append, List.length_cons]
    omega
theorem parse_short {l : List UInt8} (h : 120 < l.length) : okT (splitL 47 l) = false := by
  cases ht : okT (splitL 47 l)
  · rfl
  · have h1 := splitL_size 47 l
    obtain ⟨h2, h3⟩ := okT_bd ht
    have h4 := flat_len h3
    omega
theorem index_no {x : UInt8} : ∀ {l : List UInt8}, ¬ x ∈ l → Lib.index l [x] = -1
  | [], _ => by simp [Lib.index]
  | c :: r, h => by
    have h1 : ¬ x = c := fun e => h (by simp [e])
    have h2 : ¬ x ∈ r := fun e => h (by simp [e])
    have ih := index_no h2
    simp [Lib.index, List.isPrefixOf, ih, h1]
theorem index_at {x : UInt8} {b : List UInt8} : ∀ {a : List UInt8}, ¬ x ∈ a → Lib.index (a ++ x :: b) [x] = a.length
  | [], _ => by simp [Lib.index, List.isPrefixOf]
  | c :: a, h => by
    have h1 : ¬ x = c := fun e => h (by simp [e])
    have h2 : ¬ x ∈ a := fun e => h (by simp [e])
    have ih := index_at (b := b) h2
    rw [List.cons_append]
    unfold Lib.index
    rw [if_neg (by simp [List.isPrefixOf, h1]), ih, if_neg (by simp)]
    simp
theorem splitK_one (x : UInt8) : ∀ (n : Nat) (l : List UInt8), l.length ≤ n → Lib.splitK [x] 0 (Lib.count l [x]) l = splitL x l ∧ Lib.count l [x] + 1 = (splitL x l).length := by
  intro n
  induction n with
  | zero =>
    intro l h
    have : l = [] := List.eq_nil_of_length_eq_zero (by omega)
    subst this
    rw [Lib.count_miss (index_no (by simp))]
    simp [Lib.splitK, splitL]
  | succ n ih =>
    intro l h
    by_cases hx : x ∈ l
    · obtain ⟨a, b, rfl, ha⟩ := List.eq_append_cons_of_mem hx
      have hi := index_at (b := b) ha
      have hc := Lib.count_hit (s := a ++ x :: b) (sub := [x]) (by simp) hi
      have hd : (a ++ x :: b).drop (a.length + [x].length) = b := by simp
      rw [hd] at hc
      obtain ⟨i1, i2⟩ := ih b (by simp only [List.length_append, List.length_cons] at h; omega)
      rw [hc, Nat.add_comm 1, splitL_at ha]
      refine ⟨?_, by simp [i2]⟩
      unfold Lib.splitK
      rw [hi, if_neg (by simp)]
      simp only [Int.toNat_natCast, Nat.add_zero]
      rw [hd, i1]
      simp
    · rw [Lib.count_miss (index_no hx), splitL_no hx]
      simp [Lib.splitK]
theorem strings_of (L : List ByteArray) : L.map Value.string = (L.map (·.data.toList)).map str := by
  rw [List.map_map]
  exact List.map_congr_left fun b _ => by cases b; simp [str]
/-- The library's variable that its search reads. -/
def CutW (w : World) : Prop := ∃ m : Int, w.cell? ⟨0, 0, none⟩ = some (.int .i64 m)
theorem CutW.below {w w' : World} (h : CutW w) (hb : Below w.heap.size w w') : CutW w' := by
  obtain ⟨m, hm⟩ := h
  obtain ⟨hc, -⟩ := bcell hb
  have hlt : 0 < w.heap.size := by
    rcases Nat.lt_or_ge 0 w.heap.size with h' | h'
    · exact h'
    · simp [World.cell?, Array.getElem?_eq_none h'] at hm
  exact ⟨m, (hc _ _ hlt).trans hm⟩
theorem split_any (l : List UInt8) (hl : l.length ≤ 1048576) (w : World) (hw : CutW w) :
    Calls Tryd.prog 44 #[str l, str [47]] w fun e w' => ∃ a c, e = .returned (.slice a (splitL 47 l).length c) ∧ XRow w' w.heap.size (.slice a (splitL 47 l).length c) (splitL 47 l) ∧ Below w.heap.size w w' := by
  obtain ⟨m, hm⟩ := hw
  refine (Tryd.strings_Split ⟨l.toArray⟩ ⟨#[47]⟩ m w (by rw [bsize]; omega) hm (by decide)).mono fun e w' ⟨he, hw'⟩ => ?_
  obtain ⟨h1, h2⟩ := splitK_one 47 l.length l (Nat.le_refl _)
  have hc : Lib.countB ⟨l.toArray⟩ ⟨#[47]⟩ = Lib.count l [47] := rfl
  have hs : (Lib.splitB ⟨#[47]⟩ 0 (Lib.countB ⟨l.toArray⟩ ⟨#[47]⟩) ⟨l.toArray⟩).map Value.string = texts (splitL 47 l) := by
    rw [strings_of, Lib.splitB_data]
    show (Lib.splitK [47] 0 (Lib.count l [47]) l).map str = _
    rw [h1]; rfl
  rw [hs] at hw'
  rw [hc, h2] at he
  have hsz := splitL_size 47 l
  refine ⟨_, _, he, ?_, by rw [hw']; exact Below.alloc (Below.refl _ _) (Nat.le_refl _) _⟩
  rw [hw']
  refine ⟨by rw [texts_length]; omega, .inr ⟨w.heap.size, _, _, rfl, Nat.le_refl _, heap_alloc_new w _, Nat.le_refl _, by unfold maxLen; omega, ?_, ?_⟩⟩
  · simp [texts]
  · simp only [texts, Nat.mul_one]; exact List.take_of_length_le (by simp)
def ptR (l : List UInt8) : List (List UInt8) × Bool := if okT (splitL 47 l) then (splitL 47 l, true) else ([], false)
theorem ptR_len (l : List UInt8) : (ptR l).1.length ≤ 2000000 := by
  unfold ptR
  split
  · rename_i h
    have := (okT_bd h).1
    simp only; omega
  · exact Nat.zero_le _
theorem split_mem (x : UInt8) (l : List UInt8) : ∀ k, k < (splitL x l).length → ((splitL x l).getD k []).length ≤ l.length := by
  intro k hk
  have h1 := splitL_size x l
  have h2 : ((splitL x l).getD k []).length ≤ (splitL x l).flatten.length := by
    rw [List.getD_eq_getElem?_getD, List.getElem?_eq_getElem hk]
    exact List.Sublist.length_le (List.sublist_flatten_of_mem (List.getElem_mem hk))
  have h3 := splitL_ne x l
  omega
set_option maxHeartbeats 1600000 in
theorem specParseTune_any (l : List UInt8) (hl : l.length ≤ 1048576) (w : World) :
    Calls Tryd.prog 18 #[str l] w (TextsOut w (ptR l).1 (ptR l).2) := by
  by_cases h0 : 120 < l.length
  · have h0' : (120 : Int) < (l.length : Int) := by omega
    have HM := Lib.hid (show (([] : List (List UInt8)), false) = ptR l from by simp [ptR, parse_short h0])
    (go_enter Tryd.func18, Tryd.ntmps18)
    go_wp2
    (refine bodyPost_ret (by simp [results, Tryd.results18, go_sem, *]; try rfl) rfl ?_)
    rw [← HM.out]
    exact TextsOut.none (Below.refl _ _)
  · have h0' : ¬ (120 : Int) < (l.length : Int) := by omega
    have hsz := splitL_size 47 l
    have HSP := Lib.hid (fun W => l1Split_any l 47 hl W)
    obtain ⟨T, hT⟩ : ∃ T, splitL 47 l = T := ⟨_, rfl⟩
    have HR : Hid (ptR l = if okT T then (T, true) else ([], false)) := Lib.hid (by unfold ptR; rw [hT])
    rw [hT] at HSP hsz
    clear hT
    have hTl : T.length ≤ 121 := by omega
    clear hsz
    cases ht : okT T
    · have HM := Lib.hid (show (([] : List (List UInt8)), false) = ptR l from by rw [HR.out, ht]; rfl)
      (go_enter Tryd.func18, Tryd.ntmps18)
      go_wp2_with fail
      refine (HSP.out _).mono ?_
      rintro e1 w1 ⟨v1, rfl, hr1, hb1⟩
      obtain ⟨a1, c1, rfl, hin1, -, -⟩ := hr1.inn
      have X1 := Lib.hid hin1
      clear hr1 hin1
      have hz1 := hb1.size
      go_wp2_with fail
      refine (beTune_is a1 c1 T (by unfold maxLen; omega) ht _ X1.out).mono ?_
      rintro e2 w2 ⟨rfl, hb2⟩
      go_wp2
      (refine bodyPost_ret (by simp [results, Tryd.results18, go_sem, *]; try rfl) rfl ?_)
      rw [← HM.out]
      exact TextsOut.none (hb1.trans (hb2.mono hz1))
    · have HM := Lib.hid (show (T, true) = ptR l from by rw [HR.out, ht]; rfl)
      (go_enter Tryd.func18, Tryd.ntmps18)
      go_wp2_with fail
      refine (HSP.out _).mono ?_
      rintro e1 w1 ⟨v1, rfl, hr1, hb1⟩
      obtain ⟨a1, c1, rfl, hin1, -, -⟩ := hr1.inn
      have X1 := Lib.hid hin1
      clear hr1 hin1
      have hz1 := hb1.size
      go_wp2_with fail
      refine (beTune_is a1 c1 T (by unfold maxLen; omega) ht _ X1.out).mono ?_
      rintro e2 w2 ⟨rfl, hb2⟩
      have hb12 := hb1.trans (hb2.mono hz1)
      have hz2 := hb12.size
      go_wp2_with fail
      refine (HSP.out _).mono ?_
      rintro e3 w3 ⟨v3, rfl, hr3, hb3⟩
      have HR3 := Lib.hid (XRow.mono hr3 hz2)
      clear hr3
      go_wp2
      (refine bodyPost_ret (by simp [results, Tryd.results18, go_sem, *]; try rfl) rfl ?_)
      rw [← HM.out]
      exact ⟨_, rfl, HR3.out, hb12.trans (hb3.mono hz2)⟩
set_option maxHeartbeats 1600000 in
theorem implParseTune_any (l : List UInt8) (hl : l.length ≤ 1048576) (w : World) (hw : CutW w) :
    Calls Tryd.prog 19 #[str l] w (TextsOut w (ptR l).1 (ptR l).2) := by
  have HSP := Lib.hid (split_any l hl w hw)
  have HSM := Lib.hid (split_mem 47 l)
  obtain ⟨T, hT⟩ : ∃ T, splitL 47 l = T := ⟨_, rfl⟩
  have HR : Hid (ptR l = if okT T then (T, true) else ([], false)) := Lib.hid (by unfold ptR; rw [hT])
  rw [hT] at HSP HSM
  clear hT
  cases ht : okT T
  · have HM := Lib.hid (show (([] : List (List UInt8)), false) = ptR l from by rw [HR.out, ht]; rfl)
    (go_enter Tryd.func19, Tryd.ntmps19)
    go_wp2_with fail
    refine HSP.out.mono ?_
    rintro e1 w1 ⟨a1, c1, rfl, hr1, hb1⟩
    obtain ⟨a1', c1', e1', hin1, -, -⟩ := hr1.inn
    obtain ⟨rfl, -, rfl⟩ : a1 = a1' ∧ True ∧ c1 = c1' := by simpa using e1'
    have X1 := Lib.hid hin1
    clear hr1 hin1 e1'
    have hz1 := hb1.size
    go_wp2_with fail
    refine (isTune_is a1 c1 T (fun k hk => Nat.le_trans (HSM.out k hk) (by unfold maxLen; omega)) ht _ X1.out).mono ?_
    rintro e2 w2 ⟨rfl, hb2⟩
    go_wp2
    (refine bodyPost_ret (by simp [results, Tryd.results19, go_sem, *]; try rfl) rfl ?_)
    rw [← HM.out]
    exact TextsOut.none (hb1.trans (hb2.mono hz1))
  · have HM := Lib.hid (show (T, true) = ptR l from by rw [HR.out, ht]; rfl)
    (go_enter Tryd.func19, Tryd.ntmps19)
    go_wp2_with fail
    refine HSP.out.mono ?_
    rintro e1 w1 ⟨a1, c1, rfl, hr1, hb1⟩
    obtain ⟨a1', c1', e1', hin1, -, -⟩ := hr1.inn
    obtain ⟨rfl, -, rfl⟩ : a1 = a1' ∧ True ∧ c1 = c1' := by simpa using e1'
    have X1 := Lib.hid hin1
    have HR1 := Lib.hid hr1
    clear hr1 hin1 e1'
    have hz1 := hb1.size
    go_wp2_with fail
    refine (isTune_is a1 c1 T (fun k hk => Nat.le_trans (HSM.out k hk) (by unfold maxLen; omega)) ht _ X1.out).mono ?_
    rintro e2 w2 ⟨rfl, hb2⟩
    go_wp2
    (refine bodyPost_ret (by simp [results, Tryd.results19, go_sem, *]; try rfl) rfl ?_)
    rw [← HM.out]
    exact ⟨_, rfl, HR1.out.below hb2, hb1.trans (hb2.mono hz1)⟩
end Go.Proofs.YtijnppomeoaebaaDoor
