/- The tune in which each bell is 9 less it: by the program and by the model. -/
import Derived.Test.YtijnppomeoaebaaDoorBel4
import Derived.Test.YtijnppomeoaebaaDoorShelfM
set_option linter.unusedSimpArgs false
set_option linter.unusedVariables false
set_option maxRecDepth 100000
namespace Go.Proofs.YtijnppomeoaebaaDoor
open Go.RowKit

/-- A note's mirror. -/
def mirB (c : UInt8) : UInt8 := UInt8.ofNat (105 - c.toNat)
def mirL (l : List UInt8) : List UInt8 := l.map mirB
def mirR (T : List (List UInt8)) : List (List UInt8) × Bool := if okT T then (T.map mirL, true) else ([], false)
theorem mirR_len (T : List (List UInt8)) : (mirR T).1.length ≤ 2000000 := by
  unfold mirR
  split
  · rename_i h
    have := (okT_bd h).1
    simp only [List.length_map]; omega
  · exact Nat.zero_le _
theorem mir_get {T : List (List UInt8)} {k : Nat} (h : k < T.length) : (T.map mirL).getD k [] = mirL (T.getD k []) := by simp [List.getD_eq_getElem?_getD, h]
theorem mir_num {c : UInt8} (h : okN c = true) : dec (9 - ((c.toNat : Int) - 48)) = [mirB c] := by
  have hb := okN_bd h
  rw [dec_one (by omega) (by omega)]
  unfold mirB
  rw [show (48 + (9 - ((c.toNat : Int) - 48))).toNat = 105 - c.toNat by omega]
theorem mirL_next {l : List UInt8} {k : Nat} (h : k < l.length) : mirL (l.take (k + 1)) = mirL (l.take k) ++ [mirB (l.getD k 0)] := by rw [take_next h]; simp [mirL]
theorem mirL_len (l : List UInt8) : (mirL l).length = l.length := by simp [mirL]
theorem map_dec {l : List UInt8} (h : l.all okN = true) : ∀ n, l.length ≤ n → Lib.mapGoD (fun x => 105 - x) n l = mirL l := by
  induction l with
  | nil => intro n _; cases n <;> simp [Lib.mapGoD, mirL]
  | cons c r ih =>
    intro n hn
    cases n with
    | zero => simp at hn
    | succ n =>
      rw [List.all_cons, Bool.and_eq_true] at h
      have hb := okN_bd h.1
      have hd : Lib.decodeL (c :: r) = (c.toNat, 1) := by
        have h2 : (0 : Nat) < (⟨(c :: r).toArray⟩ : ByteArray).size := by show 0 < (c :: r).toArray.size; simp
        have e : (⟨(c :: r).toArray⟩ : ByteArray)[0]'h2 = c := byte_at (c :: r) 0 (by simp)
        unfold Lib.decodeL
        rw [decode_ascii _ 0 h2 (by rw [e]; omega), e]
      unfold Lib.mapGoD
      rw [if_neg (by simp), hd]
      simp only [List.drop_succ_cons, List.drop_zero]
      rw [if_pos (by omega), ih h.2 n (by simpa using hn)]
      unfold Lib.encodeRune
      rw [Lib.encodeRuneZ_one (by omega) (by omega)]
      simp only [mirL, List.map_cons, List.map_nil, List.singleton_append, List.cons.injEq, and_true]
      unfold mirB
      rw [show (105 - (c.toNat : Int)).toNat = 105 - c.toNat by omega]
set_option maxHeartbeats 400000 in
theorem mirrorNote_any (x : Int) (h0 : 0 ≤ x) (h1 : x ≤ 1114111) (w : World) :
    Calls Tryd.prog 41 #[.int .i32 x] w fun e w' => e = .returned (.int .i32 (105 - x)) ∧ Below w.heap.size w w' := by
  have f1 := w64 (n := 9 - (x - 48)) (by omega)
  have f2 : IntKind.i32.wrap (9 - (x - 48)) = 9 - (x - 48) := by rw [IntKind.wrap_i32]; omega
  have f3 : IntKind.i32.wrap (48 + (9 - (x - 48))) = 105 - x := by rw [IntKind.wrap_i32]; omega
  (go_enter Tryd.func41, Tryd.ntmps41)
  go_wp2_with fail
  refine (bellOf_any x h0 (by omega) _).mono ?_
  (rintro e1 w1 ⟨rfl, rfl⟩)
  go_wp2
  go_ret
  exact ⟨by first | exact ret_int (by omega) | (rw [f3]) | rfl, Below.refl _ _⟩
theorem mapNotes_any (l : List UInt8) (hl : l.all okN = true) (hs : l.length ≤ 1000) (w : World) (ht : Lib.Utf8Tabs 1 2 w) :
    Calls Tryd.prog 40 #[.func (.func 41) #[] #[], str l] w fun e w' => e = .returned (str (mirL l)) ∧ Below w.heap.size w w' := by
  have h := Tryd.strings_Map_grows 41 #[] (enters_of Tryd.func41 (by kernel_rfl) rfl) (fun x => 105 - x) ⟨l.toArray⟩ w (by rw [bsize]; omega) (fun W x hx hb => mirrorNote_any x (by omega) (by omega) W) (fun x hx => by omega) ht
  refine h.mono fun e w' ⟨he, hb⟩ => ⟨?_, hb⟩
  rw [he]
  unfold Lib.mapD
  rw [map_dec hl _ (Nat.le_refl _)]
theorem cell_lt {w : World} {b o : Nat} {v : Value} (h : w.cell? ⟨b, o, none⟩ = some v) : b < w.heap.size := by
  rcases Nat.lt_or_ge b w.heap.size with h' | h'
  · exact h'
  · simp [World.cell?, Array.getElem?_eq_none h'] at h
/-- The library's tables of UTF-8 lie in the world. -/
def U8W (w : World) : Prop := Lib.Utf8Tabs 1 2 w
theorem U8W.below {w w' : World} (h : U8W w) (hb : Below w.heap.size w w') : U8W w' := by
  obtain ⟨hc, -⟩ := bcell hb
  refine ⟨fun c hc' => ?_, fun i hi => ?_⟩
  · have := h.1 c hc'
    exact (hc _ _ (cell_lt this)).trans this
  · have := h.2 i hi
    refine ⟨?_, ?_⟩
    · exact (hc _ _ (cell_lt this.1)).trans this.1
    · exact (hc _ _ (cell_lt this.2)).trans this.2
set_option maxHeartbeats 3200000 in
theorem specMirrorTune_any (a : Option Addr) (c : Nat) (T : List (List UInt8)) (hm : T.length ≤ maxLen) (hs : ∀ k, k < T.length → (T.getD k []).length ≤ maxLen) (w : World) (hin : XIn w a T) :
    Calls Tryd.prog 14 #[.slice a T.length c] w (TextsOut w (mirR T).1 (mirR T).2) := by
  obtain ⟨i0, hi0, hz0, hz1, hz2⟩ := info_parts Tryd.infoString
  have I0 := Lib.hid hi0
  have Z0 := Lib.hid hz0
  have Z1 := Lib.hid hz1
  have Z2 := Lib.hid hz2
  clear hi0 hz0 hz1 hz2
  have X0 := Lib.hid hin
  clear hin hs
  cases ht : okT T
  · have HM := Lib.hid (show (([] : List (List UInt8)), false) = mirR T from by simp [mirR, ht])
    (go_enter Tryd.func14, Tryd.ntmps14)
    go_wp2_with fail
    refine (beTune_is a c T hm ht _ X0.out).mono ?_
    (rintro e1 w1 ⟨rfl, hb1⟩; obtain ⟨hc1, hf1⟩ := bcell hb1; have hz1 := hb1.size; (try simp only [World.size_alloc, World.size_setCell, World.size_drew] at hz1); have q1 : w.heap.size ≤ w1.heap.size := (by omega); (try have q1_0 : w.heap.size < w1.heap.size := (by omega)); (try have q1_1 : w.heap.size + 1 < w1.heap.size := (by omega)); (try have q1_2 : w.heap.size + 2 < w1.heap.size := (by omega)); (try have q1_3 : w.heap.size + 3 < w1.heap.size := (by omega)))
    go_wp2
    (refine bodyPost_ret (by simp [results, Tryd.results14, go_sem, *]; try rfl) rfl ?_)
    rw [← HM.out]
    exact TextsOut.none (by (repeat' (first | (with_reducible exact Below.refl _ _) | (with_reducible assumption) | (with_reducible refine Below.alloc ?_ ?_ _) | (with_reducible refine Below.drew ?_) | (with_reducible refine below_drewN ?_ _) | (with_reducible refine Below.setCell ?_ ?_ _) | (with_reducible refine below_call ?_ ?_ (by assumption)) | go_size)))
  · have HM := Lib.hid (show (T.map mirL, true) = mirR T from by simp [mirR, ht])
    obtain ⟨hn, hall⟩ := okT_bd ht
    have HALL := Lib.hid hall
    clear hall
    (go_enter Tryd.func14, Tryd.ntmps14)
    go_wp2_with fail
    refine (beTune_is a c T hm ht _ X0.out).mono ?_
    rintro e1 w1 ⟨rfl, hb1⟩
    have hz1 := hb1.size
    have X := Lib.hid (X0.out.below hb1)
    clear X0
    go_wp2
    go_loopw [4, 14] (fun o i wr => ∃ k : Nat, k ≤ T.length ∧ i = .int .i64 k ∧ XRow wr w1.heap.size o ((T.map mirL).take k) ∧ Below w1.heap.size w1 wr) (fun _ i _ => T.length - (RowKit.intOf i).toNat)
    case atStart => exact ⟨0, Nat.zero_le _, rfl, XRow.nil _ _, Below.refl _ _⟩
    case round =>
      obtain ⟨k, hk, rfl, hrow, hbr⟩ := hrel
      obtain ⟨wo, rfl⟩ : ∃ wo, wo = wr := ⟨_, rfl⟩
      have HO := Lib.hid hrow
      have hzr := hbr.size
      clear hrow
      have j0' : (0 : Int) ≤ (k : Int) := Int.natCast_nonneg _
      by_cases hlt : k < T.length
      · obtain ⟨hcr, hfr⟩ := bcell hbr
        obtain ⟨g0, off, rfl, e1, e2⟩ := X.out k hlt
        have u1 : g0 < wo.heap.size := by omega
        have i1 : (k : Int) < (T.length : Int) := by omega
        have hok := okP_bd (all_at (d := []) HALL.out hlt)
        have HP := Lib.hid hok.2
        have hl8 := hok.1
        have HNX : Hid ((T.map mirL).take (k + 1) = (T.map mirL).take k ++ [mirL (T.getD k [])]) := Lib.hid (by
          rw [List.take_add_one, ← mir_get hlt]
          simp [List.getD_eq_getElem?_getD, hlt])
        have hlen : ((T.map mirL).take k).length = k := by rw [List.length_take, List.length_map]; omega
        clear hok
        generalize T.getD k [] = l at *
        generalize (T.map mirL).take k = M at *
        go_wp2
        go_loopw [7, 8] (fun o i wr => ∃ m : Nat, m ≤ l.length ∧ i = .int .i64 m ∧ o = str (mirL (l.take m)) ∧ Below wo.heap.size wo wr) (fun _ i _ => l.length - (RowKit.intOf i).toNat)
        case atStart => exact ⟨0, Nat.zero_le _, rfl, rfl, Below.refl _ _⟩
        case round =>
          obtain ⟨m, hm', rfl, rfl, hbq⟩ := hrel
          have hzq := hbq.size
          have m0 : (0 : Int) ≤ (m : Int) := Int.natCast_nonneg _
          by_cases hlt2 : m < l.length
          · have m1 : (m : Int) < (l.length : Int) := by omega
            have hok2 := all_at (d := 0) HP.out hlt2
            have hbd := okN_bd hok2
            obtain ⟨y, hy⟩ : ∃ y : Int, y = ((l.getD m 0).toNat : Int) := ⟨_, rfl⟩
            have hyz := fun W => run_byte l m y hlt2 hy W
            have hybd : 49 ≤ y ∧ y ≤ 56 := by omega
            have HNM : Hid (dec (9 - (y - 48)) = [mirB (l.getD m 0)]) := Lib.hid (by rw [hy]; exact mir_num hok2)
            have HNL := Lib.hid (mirL_next hlt2)
            have hl0 := mirL_len (l.take m)
            rw [List.length_take] at hl0
            clear hok2 hbd hy
            generalize mirB (l.getD m 0) = z at *
            generalize mirL (l.take m) = s at *
            have f1 : IntKind.u8.wrap (y - 48) = y - 48 := IntWalk.u8_in _ (by omega)
            have f2 := w64 (n := y - 48) (by omega)
            have f3 := w64 (n := 9 - (y - 48)) (by omega)
            have HC := Lib.hid (fun W => l1Num_one (9 - (y - 48)) (by omega) (by omega) W)
            rw [HNM.out] at HC
            have h1 : ¬ 9223372036854775807 < s.length + 1 := by omega
            go_wp2_with fail
            refine (HC.out _).mono ?_
            rintro e5 w5 ⟨rfl, hb5⟩
            go_wp2
            go_roundw
            case rel =>
              refine ⟨m + 1, by omega, by go_num, ?_, hbq.trans (hb5.mono hzq)⟩
              rw [HNL.out]
              exact congrArg Value.string (ByteArray.mk_append_mk _ _)
            case measure => simp [RowKit.intOf]; omega
          · have HE : Hid (mirL (l.take m) = mirL l) := Lib.hid (by rw [List.take_of_length_le (by omega)])
            have HO2 := Lib.hid (XRow.below HO.out hbq)
            have HLT : ∀ k, u4.ownBlock = some k → w1.heap.size ≤ k := fun k hk => (World.ownsRow.lt HO2.out k hk).1
            have hbA := hbr.trans (hbq.mono hzr)
            have hzA := hbA.size
            generalize mirL (l.take m) = s at *
            have HO3 : Hid (World.ownsRow wr w1.heap.size 9 1 u4 k (texts M)) := Lib.hid (by rw [← hlen]; exact HO2.out)
            go_wp2_with (at_builtin; refine wpList_append_lies _ rfl _ _ _ rfl (w1.heap.size) 9 i0 _ 1 16 Tryd.underlying22 I0.out Z0.out Z1.out Z2.out rfl (by omega) u4 (k) _ rfl (World.ownsRow.alloc HO3.out _) ⟨wr.heap.size, 0, none⟩ 1 1 [str s] rfl rfl (World.news_of_block (cs := #[str s]) (t := 9) (fr := (0, 0)) (by simpa using heap_alloc_new wr _)) (by simp [Value.oneCell']) (by omega) (by unfold maxLen; omega) (by omega) (by simp; omega) (wr.heap.size + 1) (by simp) ?_; intro g cap w3 hown3 hgrow hat hlt3)
            go_roundw
            case rel =>
              refine ⟨k + 1, by omega, by go_num, ?_, ?_⟩
              · rw [HNX.out, ← HE.out]
                unfold XRow
                rw [List.length_append, hlen, texts, List.map_append]
                exact hown3
              · exact Below.grown (Below.alloc hbA hzA _) hgrow (by simp; omega) HLT
            case measure => simp [RowKit.intOf]; omega
      · obtain rfl : k = T.length := by omega
        have HE : Hid ((T.map mirL).take T.length = T.map mirL) := Lib.hid (List.take_of_length_le (by simp))
        go_wp2
        (refine bodyPost_ret (by simp [results, Tryd.results14, go_sem, *]; try rfl) rfl ?_)
        rw [← HM.out]
        refine ⟨_, rfl, ?_, hb1.trans (hbr.mono hz1)⟩
        rw [← HE.out]
        exact XRow.mono HO.out hz1

set_option maxHeartbeats 3200000 in
theorem implMirrorTune_any (a : Option Addr) (c : Nat) (T : List (List UInt8)) (hm : T.length ≤ maxLen) (hs : ∀ k, k < T.length → (T.getD k []).length ≤ maxLen) (w : World) (hin : XIn w a T) (hU : U8W w) :
    Calls Tryd.prog 15 #[.slice a T.length c] w (TextsOut w (mirR T).1 (mirR T).2) := by
  obtain ⟨i0, hi0, hz0, hz1, hz2⟩ := info_parts Tryd.infoString
  have I0 := Lib.hid hi0
  have Z0 := Lib.hid hz0
  have Z1 := Lib.hid hz1
  have Z2 := Lib.hid hz2
  clear hi0 hz0 hz1 hz2
  have X0 := Lib.hid hin
  have HSZ := Lib.hid hs
  have HU := Lib.hid hU
  clear hin hs hU
  cases ht : okT T
  · have HM := Lib.hid (show (([] : List (List UInt8)), false) = mirR T from by simp [mirR, ht])
    (go_enter Tryd.func15, Tryd.ntmps15)
    go_wp2_with fail
    refine (isTune_is a c T HSZ.out ht _ X0.out).mono ?_
    (rintro e1 w1 ⟨rfl, hb1⟩; obtain ⟨hc1, hf1⟩ := bcell hb1; have hz1 := hb1.size; (try simp only [World.size_alloc, World.size_setCell, World.size_drew] at hz1); have q1 : w.heap.size ≤ w1.heap.size := (by omega); (try have q1_0 : w.heap.size < w1.heap.size := (by omega)); (try have q1_1 : w.heap.size + 1 < w1.heap.size := (by omega)); (try have q1_2 : w.heap.size + 2 < w1.heap.size := (by omega)); (try have q1_3 : w.heap.size + 3 < w1.heap.size := (by omega)))
    go_wp2
    (refine bodyPost_ret (by simp [results, Tryd.results15, go_sem, *]; try rfl) rfl ?_)
    rw [← HM.out]
    exact TextsOut.none (by (repeat' (first | (with_reducible exact Below.refl _ _) | (with_reducible assumption) | (with_reducible refine Below.alloc ?_ ?_ _) | (with_reducible refine Below.drew ?_) | (with_reducible refine below_drewN ?_ _) | (with_reducible refine Below.setCell ?_ ?_ _) | (with_reducible refine below_call ?_ ?_ (by assumption)) | go_size)))
  · have HM := Lib.hid (show (T.map mirL, true) = mirR T from by simp [mirR, ht])
    obtain ⟨hn, hall⟩ := okT_bd ht
    have HALL := Lib.hid hall
    clear hall
    (go_enter Tryd.func15, Tryd.ntmps15)
    go_wp2_with fail
    refine (isTune_is a c T HSZ.out ht _ X0.out).mono ?_
    rintro e1 w1 ⟨rfl, hb1⟩
    have hz1 := hb1.size
    have X := Lib.hid (X0.out.below hb1)
    have HU1 := Lib.hid (U8W.below HU.out hb1)
    clear X0 HU
    go_wp2_with (at_make; refine wpList_make_full _ rfl _ _ 22 rfl w1.heap.size 9 i0 (str []) 1 Tryd.underlying22 I0.out Z0.out Z1.out .i64 .i64 _ _ T.length rfl rfl rfl rfl (by rw [Z2.out]; omega) (by unfold maxLen; omega) (by go_size) ?_; intro w0 hown0 hgrow0)
    rw [made_zeroX] at hown0
    have hb0 : Below w1.heap.size w1 w0 := Below.grown (Below.refl _ _) hgrow0 (by go_size) (fun k hk => by cases hk)
    have hz0' := hgrow0.size
    have HO0 := Lib.hid hown0
    clear hown0 hgrow0
    go_wp2
    go_loopw [15] (fun i wr => ∃ (k : Nat) (dk : List (List UInt8)), k ≤ T.length ∧ i = .int .i64 k ∧ dk.length = T.length ∧ (∀ j, j < k → dk.getD j [] = (T.map mirL).getD j []) ∧ wr.ownsRow w1.heap.size 9 1 (.slice (some ⟨w1.heap.size, 0, none⟩) T.length T.length) T.length (texts dk) ∧ Below w1.heap.size w1 wr) (fun i _ => T.length - (RowKit.intOf i).toNat)
    case atStart => exact ⟨0, List.replicate T.length [], Nat.zero_le _, rfl, by simp, fun j hj => absurd hj (Nat.not_lt_zero _), HO0.out, hb0⟩
    case round =>
      obtain ⟨k, dk, hk, rfl, hdl, hdk, hown, hbr⟩ := hrel
      have HA := Lib.hid hdk
      have HO := Lib.hid hown
      have hzr := hbr.size
      have j0' : (0 : Int) ≤ (k : Int) := Int.natCast_nonneg _
      by_cases hlt : k < T.length
      · obtain ⟨hcr, hfr⟩ := bcell hbr
        obtain ⟨g0, off, rfl, e1, e2⟩ := X.out k hlt
        have u1 : g0 < wr.heap.size := by omega
        have i1 : (k : Int) < (T.length : Int) := by omega
        have hok := okP_bd (all_at (d := []) HALL.out hlt)
        have hl8 := hok.1
        have HMAP := Lib.hid (fun W hW => mapNotes_any (T.getD k []) hok.2 (by omega) W hW)
        have HN2 : Hid (∀ j, j < k + 1 → (dk.set k (mirL (T.getD k []))).getD j [] = (T.map mirL).getD j []) := fun j hj => by
          by_cases hjk : j = k
          · subst hjk; rw [getD_set_selfX (by omega), mir_get hlt]
          · rw [getD_set_farX (by omega)]; exact HA.out j (by omega)
        clear hdk hown hok
        generalize T.getD k [] = l at *
        generalize mirL l = z at *
        have HUr := Lib.hid (U8W.below HU1.out hbr)
        go_wp2_with fail
        refine (HMAP.out _ HUr.out).mono ?_
        rintro e5 w5 ⟨rfl, hb5⟩
        have hz5 := hb5.size
        have HO5 : Hid (World.ownsRow w5 w1.heap.size 9 1 (.slice (some ⟨w1.heap.size, 0, none⟩) T.length T.length) T.length (texts dk)) := Lib.hid (World.ownsRow.kept HO.out (row := none) ⟨hb5.os, hb5.tape, hb5.output, hb5.size, fun k hk _ => hb5.block k hk⟩ (by simp [Value.ownBlock]))
        have z0 : w5.frozen? ⟨w1.heap.size, k, none⟩ = false := World.ownsRow.frozenAt HO5.out _
        have d0 := (World.ownsRow.cellAt HO5.out k (by omega)).trans (texts_get dk k (by omega))
        have hg5 : w1.heap.size < w5.heap.size := (World.ownsRow.lt HO5.out w1.heap.size rfl).2
        have hb15 := hbr.trans (hb5.mono hzr)
        generalize dk.getD k [] = o1 at d0
        go_wp2
        go_roundw
        case rel =>
          have s1 := World.ownsRow.stored HO5.out k (str z)
          refine ⟨k + 1, dk.set k z, by omega, by go_num, by simpa using hdl, HN2.out, ?_, ?_⟩
          · rw [← texts_set]
            exact s1.1
          · exact Below.grown hb15 s1.2 (by omega) (fun j hj => some_le' hj (Nat.le_refl _))
        case measure => simp [RowKit.intOf]; omega
      · obtain rfl : k = T.length := by omega
        have HE : Hid (dk = T.map mirL) := Lib.hid (list_extX (by simpa using hdl) fun j hj => HA.out j (by simpa using hj))
        clear hdk hown
        go_wp2
        (refine bodyPost_ret (by simp [results, Tryd.results15, go_sem, *]; try rfl) rfl ?_)
        rw [← HM.out]
        refine ⟨_, rfl, ?_, hb1.trans (hbr.mono hz1)⟩
        refine XRow.mono (b := w1.heap.size) ?_ hz1
        rw [← HE.out]
        unfold XRow
        rw [hdl]
        exact HO.out

end Go.Proofs.YtijnppomeoaebaaDoor
