/- Puzzles: NeedlessClues: by the program and by the model. -/
import Derived.Test.YtcpgjjmamclklaaPz17
set_option linter.unusedSimpArgs false
set_option linter.unusedVariables false
set_option maxRecDepth 100000
namespace Go.Proofs.Ytcpgjjmamclklaa
open Go.RowKit

/-- The first k clues that are needless. -/
def nedB (h : Int) (L : List (Int × Int × Int)) (k : Nat) : Bool := decide (sol h (L.eraseIdx k) = sol h L)
def nedK (h : Int) (L : List (Int × Int × Int)) (k : Nat) : List Int := ((List.range k).filter (nedB h L)).map fun m : Nat => (m : Int)
theorem nedK_len (h : Int) (L : List (Int × Int × Int)) (n : Nat) : (nedK h L n).length ≤ n := by
  unfold nedK
  rw [List.length_map]
  exact Nat.le_trans (List.length_filter_le _ _) (by simp)
theorem nedK_yes {h : Int} {L : List (Int × Int × Int)} {n : Nat} (hf : nedB h L n = true) : nedK h L (n + 1) = nedK h L n ++ [(n : Int)] := by
  unfold nedK
  rw [List.range_succ, List.filter_append, List.map_append]
  simp [hf]
theorem nedK_no {h : Int} {L : List (Int × Int × Int)} {n : Nat} (hf : nedB h L n = false) : nedK h L (n + 1) = nedK h L n := by
  unfold nedK
  rw [List.range_succ, List.filter_append, List.map_append]
  simp [hf]
def nedR (h : Int) (L : List (Int × Int × Int)) : List Int × Bool := if okZ h L then (nedK h L L.length, true) else ([], false)
theorem nedR_len (h : Int) (L : List (Int × Int × Int)) : (nedR h L).1.length ≤ 2000000 := by
  unfold nedR
  split
  · rename_i hok
    have := (okZ_bd hok).2.1
    have := nedK_len h L L.length
    show (nedK h L L.length).length ≤ _
    omega
  · simp
set_option maxHeartbeats 3200000 in
theorem needless_any (h : Int) (a : Option Addr) (c : Nat) (L : List (Int × Int × Int)) (hh : 2 ≤ h ∧ h ≤ 24) (hok : L.all (okC h) = true) (hc : L.length ≤ c) (hcm : c ≤ maxLen) (hl : L.length ≤ 1048576) (w : World) (hin : CIn w a L) :
    Calls Try.prog 89 #[pzv h (.slice a L.length c)] w fun e w' => ∃ v, e = .returned v ∧ IRow w' w.heap.size v (nedK h L L.length) ∧ Below w.heap.size w w' := by
  obtain ⟨i0, hi0, hz0, hz1, hz2⟩ := info_parts Try.infoInt
  have I0 := Lib.hid hi0
  have Z0 := Lib.hid hz0
  have Z1 := Lib.hid hz1
  have Z2 := Lib.hid hz2
  clear hi0 hz0 hz1 hz2
  have HC0 := Lib.hid (fun W (hb : Below w.heap.size w W) => solutions_any h a c L hh hok hl W (hin.below hb))
  have HC1 := Lib.hid (fun (k : Nat) (hk : k < L.length) W (hb : Below w.heap.size w W) => without_any h a c L k hk hc hcm hl W (hin.below hb))
  have HC2 := Lib.hid (fun (k : Nat) (a' : Option Addr) (c' : Nat) W (hi : CIn W a' (L.eraseIdx k)) => solutions_any h a' c' (L.eraseIdx k) hh (all_erase hok k) (Nat.le_trans (List.length_eraseIdx_le L k) hl) W hi)
  have HS0 := Lib.hid (fun k => sol_len hh.2 (L.eraseIdx k))
  have hs := sol_len hh.2 L
  clear hin hok
  (go_enter Try.func89, Try.ntmps89)
  go_wp2_with fail
  refine (HC0.out _ (by (repeat' (first | (with_reducible exact Below.refl _ _) | (with_reducible assumption) | (with_reducible refine Below.alloc ?_ ?_ _) | (with_reducible refine Below.drew ?_) | (with_reducible refine below_drewN ?_ _) | (with_reducible refine Below.setCell ?_ ?_ _) | (with_reducible refine below_call ?_ ?_ (by assumption)) | go_size)))).mono ?_
  rintro e1 w1 ⟨v1, rfl, hr1, hb1⟩
  obtain ⟨a2, c2, rfl, hi2, -⟩ := hr1.inn
  have hz1 := hb1.size
  simp only [World.size_alloc] at hz1
  obtain ⟨hc1, hf1⟩ := bcell hb1
  have x0 : w1.cell? ⟨w.heap.size, 0, none⟩ = some (.int .i64 h) := (hc1 _ _ (by go_size)).trans (by go_simp)
  have x1 : w1.cell? ⟨w.heap.size, 1, none⟩ = some (.slice a L.length c) := (hc1 _ _ (by go_size)).trans (by go_simp)
  have hbw1 : Below w.heap.size w w1 := by (repeat' (first | (with_reducible exact Below.refl _ _) | (with_reducible assumption) | (with_reducible refine Below.alloc ?_ ?_ _) | (with_reducible refine Below.drew ?_) | (with_reducible refine below_drewN ?_ _) | (with_reducible refine Below.setCell ?_ ?_ _) | (with_reducible refine below_call ?_ ?_ (by assumption)) | go_size))
  have HIS := Lib.hid hi2
  clear hr1 hc1 hf1 hi2 hb1
  go_wp2
  go_loopw [4, 11] (fun q i wr => ∃ (k : Nat), k ≤ L.length ∧ i = .int .i64 k ∧ IRow wr w1.heap.size q (nedK h L k) ∧ wr.cell? ⟨w.heap.size, 0, none⟩ = some (.int .i64 h) ∧ wr.cell? ⟨w.heap.size, 1, none⟩ = some (.slice a L.length c) ∧ w.heap.size + 1 ≤ wr.heap.size ∧ Below w1.heap.size w1 wr) (fun _ i _ => L.length - (intOf i).toNat)
  case atStart => exact ⟨0, by omega, rfl, by simpa [nedK] using IRow.nil _ _, x0, x1, by omega, Below.refl _ _⟩
  case round =>
    obtain ⟨k, hk, rfl, hrow, c0, c1, hz3, hbr⟩ := hrel
    have HR := Lib.hid hrow
    obtain ⟨qa, qc, rfl, -, -, -⟩ := hrow.cells
    clear hrow
    have n0' : (0 : Int) ≤ (k : Int) := Int.natCast_nonneg _
    have p0 : w.heap.size < wr.heap.size := by omega
    have hlk := nedK_len h L k
    have hbwr : Below w.heap.size w wr := hbw1.trans (hbr.mono hbw1.size)
    have hzr := hbr.size
    by_cases hlt : k < L.length
    · have k1 : (k : Int) < (L.length : Int) := by omega
      have HD1 := Lib.hid (HC1.out k hlt)
      have HQY := Lib.hid (fun e : nedB h L k = true => nedK_yes e)
      have HQN := Lib.hid (fun e : nedB h L k = false => nedK_no e)
      go_wp2_with fail
      refine (HD1.out _ hbwr).mono ?_
      rintro e2 w2 ⟨a3, c3, rfl, hi3, hc3, hm3, hb2⟩
      have hz2 := hb2.size
      have HI3 := Lib.hid hi3
      clear hi3
      go_wp2_with fail
      refine (HC2.out k a3 c3 _ HI3.out).mono ?_
      rintro e4 w4 ⟨v4, rfl, hr4, hb4⟩
      have hz4 := hb4.size
      obtain ⟨a4, c4, rfl, hi4, -⟩ := hr4.inn
      have hb24 : Below wr.heap.size wr w4 := hb2.trans (hb4.mono hb2.size)
      have hls := HS0.out k
      have HEQ := Lib.hid (equalI_any (sol h (L.eraseIdx k)) (sol h L) a4 a2 c4 c2 (by omega) w4 hi4 (HIS.out.below (hbr.trans (hb24.mono hbr.size))))
      have HND : Hid (decide (sol h (L.eraseIdx k) = sol h L) = nedB h L k) := Lib.hid rfl
      rw [HND.out] at HEQ
      clear hr4 hi4 HND hls
      generalize sol h (L.eraseIdx k) = S2 at *
      cases hq : nedB h L k
      · rw [hq] at HEQ
        have HQ := Lib.hid (HQN.out hq)
        clear hq HQY HQN
        go_wp2_with fail
        refine HEQ.out.mono ?_
        rintro e5 w5 ⟨rfl, hb5⟩
        have hb15 : Below wr.heap.size wr w5 := hb24.trans (hb5.mono hb24.size)
        obtain ⟨hc5, hf5⟩ := bcell hb15
        have v0 := (hc5 _ _ p0).trans c0
        have v1 := (hc5 _ _ p0).trans c1
        have HR2 := Lib.hid (HR.out.below hb15)
        have hz5 := hb15.size
        clear hc5 hf5
        go_wp2
        go_roundw
        case rel => exact ⟨k + 1, by omega, by go_num, by rw [HQ.out]; exact HR2.out, v0, v1, by omega, hbr.trans (hb15.mono hbr.size)⟩
        case measure => simp [intOf]; omega
      · rw [hq] at HEQ
        have HQ := Lib.hid (HQY.out hq)
        clear hq HQY HQN
        go_wp2_with fail
        refine HEQ.out.mono ?_
        rintro e5 w5 ⟨rfl, hb5⟩
        have hb15 : Below wr.heap.size wr w5 := hb24.trans (hb5.mono hb24.size)
        obtain ⟨hc5, hf5⟩ := bcell hb15
        have v0 := (hc5 _ _ p0).trans c0
        have v1 := (hc5 _ _ p0).trans c1
        have hz5 := hb15.size
        have HR2 : Hid (w5.ownsRow w1.heap.size 3 1 (.slice qa (nedK h L k).length qc) (nedK h L k).length (ints (nedK h L k))) := Lib.hid (HR.out.below hb15)
        have hbw : Below w1.heap.size w1 w5 := hbr.trans (hb15.mono hbr.size)
        have HLT : ∀ j, (Value.slice qa (nedK h L k).length qc).ownBlock = some j → w1.heap.size ≤ j := fun j hj => (World.ownsRow.lt HR2.out j hj).1
        clear hc5 hf5 c0 c1 HR hb2 hb4 hb5 hb24 hb15
        obtain ⟨wq, rfl⟩ : ∃ wq, wq = w5 := ⟨_, rfl⟩
        go_wp2_with (at_builtin; refine wpList_append_lies _ rfl _ _ _ rfl (w1.heap.size) 3 i0 _ 1 8 Try.underlying42 I0.out Z0.out Z1.out Z2.out rfl (by omega) (.slice qa (nedK h L k).length qc) ((nedK h L k).length) _ rfl (World.ownsRow.alloc HR2.out _) ⟨wq.heap.size, 0, none⟩ 1 1 [.int .i64 (k : Int)] rfl rfl (World.news_of_block (cs := #[.int .i64 (k : Int)]) (t := 3) (fr := (0, 0)) (by simpa using heap_alloc_new wq _)) (by simp [Value.oneCell']) (by omega) (by unfold maxLen; omega) (by omega) (by simp; omega) (wq.heap.size + 1) (by simp) ?_; intro g cap w3 hown3 hgrow hat hlt3)
        have hb3 : Below w1.heap.size w1 w3 := Below.grown (w := wq.alloc (.cells #[.int .i64 (k : Int)] 3)) (by (repeat' (first | (with_reducible exact Below.refl _ _) | (with_reducible assumption) | (with_reducible refine Below.alloc ?_ ?_ _) | (with_reducible refine Below.drew ?_) | (with_reducible refine below_drewN ?_ _) | (with_reducible refine Below.setCell ?_ ?_ _) | (with_reducible refine below_call ?_ ?_ (by assumption)) | go_size))) hgrow (by simp; omega) (fun j hj => by have := HLT j hj; omega)
        have hz4' := hgrow.size
        simp only [World.size_alloc] at hz4'
        have kc : ∀ o, w3.cell? ⟨w.heap.size, o, none⟩ = wq.cell? ⟨w.heap.size, o, none⟩ := fun o => (cell_of_heap (hgrow.block _ (by simp; omega) (fun e => by have := HLT _ e.symm; omega))).trans (World.cell?_alloc_past _ _ _ (by omega))
        have v3 := (kc 0).trans v0
        have v4 := (kc 1).trans v1
        have OWN := Lib.hid hown3
        clear hown3 hgrow hat kc v0 v1
        go_wp2
        go_roundw
        case rel =>
          refine ⟨k + 1, by omega, by go_num, ?_, v3, v4, by omega, hb3⟩
          rw [HQ.out]
          unfold IRow
          rw [ints_snoc, List.length_append]
          exact OWN.out
        case measure => simp [intOf]; omega
    · obtain rfl : k = L.length := by omega
      go_wp2
      go_ret
      exact ⟨_, rfl, HR.out.mono (by omega), hbwr⟩
set_option maxHeartbeats 800000 in
theorem tellNeedless_any (h : Int) (a : Option Addr) (c : Nat) (L : List (Int × Int × Int)) (hm : L.length ≤ maxLen) (w : World) (hin : CIn w a L) :
    Calls Try.prog 75 #[pzv h (.slice a L.length c), .func (.func 89) #[] #[]] w fun e w' => ∃ v, e = .returned (.tuple #[v, .bool (nedR h L).2]) ∧ IRow w' w.heap.size v (nedR h L).1 ∧ Below w.heap.size w w' := by
  have HC := Lib.hid (fun W (hb : Below w.heap.size w W) => openPuzzle_any h a c L hm W (hin.below hb))
  clear hin
  (go_enter Try.func75, Try.ntmps75)
  go_wp2_with fail
  refine (HC.out _ (by (repeat' (first | (with_reducible exact Below.refl _ _) | (with_reducible assumption) | (with_reducible refine Below.alloc ?_ ?_ _) | (with_reducible refine Below.drew ?_) | (with_reducible refine below_drewN ?_ _) | (with_reducible refine Below.setCell ?_ ?_ _) | (with_reducible refine below_call ?_ ?_ (by assumption)) | go_size)))).mono ?_
  rintro e1 w1 ⟨hb1, ⟨hok, v, rfl, hr⟩ | ⟨hok, rfl⟩⟩
  · obtain ⟨hh, hl6, hall⟩ := okZ_bd hok
    obtain ⟨a1, c1, rfl, hi1, hcap, hcmx⟩ := hr.inn
    have HM := Lib.hid hok
    have HI := Lib.hid hi1
    have hz1 := hb1.size
    simp only [World.size_alloc] at hz1
    obtain ⟨hc1, hf1⟩ := bcell hb1
    clear hr hok hi1
    go_wp2_with fail
    refine (needless_any h a1 c1 L hh hall hcap hcmx (by omega) _ (HI.out.below (by (repeat' (first | (with_reducible exact Below.refl _ _) | (with_reducible assumption) | (with_reducible refine Below.alloc ?_ ?_ _) | (with_reducible refine Below.drew ?_) | (with_reducible refine below_drewN ?_ _) | (with_reducible refine Below.setCell ?_ ?_ _) | (with_reducible refine below_call ?_ ?_ (by assumption)) | go_size))))).mono ?_
    rintro e2 w2 ⟨v2, rfl, hr2, hb2⟩
    have HR := Lib.hid (hr2.mono (show w.heap.size ≤ _ by simp; omega))
    clear hr2
    have hz2 := hb2.size
    simp only [World.size_alloc] at hz2
    go_wp2
    (refine bodyPost_ret (by simp [results, Try.results75, go_sem, *]; try rfl) rfl ?_)
    rw [show nedR h L = (nedK h L L.length, true) from by simp [nedR, HM.out]]
    exact ⟨_, rfl, HR.out, by (repeat' (first | (with_reducible exact Below.refl _ _) | (with_reducible assumption) | (with_reducible refine Below.alloc ?_ ?_ _) | (with_reducible refine Below.drew ?_) | (with_reducible refine below_drewN ?_ _) | (with_reducible refine Below.setCell ?_ ?_ _) | (with_reducible refine below_call ?_ ?_ (by assumption)) | go_size))⟩
  · have HM := Lib.hid hok
    have hz1 := hb1.size
    simp only [World.size_alloc] at hz1
    clear hok
    go_wp2
    (refine bodyPost_ret (by simp [results, Try.results75, go_sem, *]; try rfl) rfl ?_)
    rw [show nedR h L = ([], false) from by simp [nedR, HM.out]]
    exact ⟨_, rfl, IRow.nil _ _, by (repeat' (first | (with_reducible exact Below.refl _ _) | (with_reducible assumption) | (with_reducible refine Below.alloc ?_ ?_ _) | (with_reducible refine Below.drew ?_) | (with_reducible refine below_drewN ?_ _) | (with_reducible refine Below.setCell ?_ ?_ _) | (with_reducible refine below_call ?_ ?_ (by assumption)) | go_size))⟩
set_option maxHeartbeats 800000 in
theorem implNeedlessClues_any (h : Int) (a : Option Addr) (c : Nat) (L : List (Int × Int × Int)) (hm : L.length ≤ maxLen) (w : World) (hin : CIn w a L) :
    Calls Try.prog 46 #[pzv h (.slice a L.length c)] w fun e w' => ∃ v, e = .returned (.tuple #[v, .bool (nedR h L).2]) ∧ IRow w' w.heap.size v (nedR h L).1 ∧ Below w.heap.size w w' := by
  have HC := Lib.hid (fun W (hb : Below w.heap.size w W) => tellNeedless_any h a c L hm W (hin.below hb))
  clear hin
  (go_enter Try.func46, Try.ntmps46)
  go_wp2_with fail
  refine (HC.out _ (by (repeat' (first | (with_reducible exact Below.refl _ _) | (with_reducible assumption) | (with_reducible refine Below.alloc ?_ ?_ _) | (with_reducible refine Below.drew ?_) | (with_reducible refine below_drewN ?_ _) | (with_reducible refine Below.setCell ?_ ?_ _) | (with_reducible refine below_call ?_ ?_ (by assumption)) | go_size)))).mono ?_
  rintro e1 w1 ⟨v1, rfl, hr1, hb1⟩
  have HR := Lib.hid (hr1.mono (show w.heap.size ≤ _ by simp))
  clear hr1
  have hz1 := hb1.size
  simp only [World.size_alloc] at hz1
  go_wp2
  (refine bodyPost_ret (by simp [results, Try.results46, go_sem, *]; try rfl) rfl ?_)
  exact ⟨_, rfl, HR.out, by (repeat' (first | (with_reducible exact Below.refl _ _) | (with_reducible assumption) | (with_reducible refine Below.alloc ?_ ?_ _) | (with_reducible refine Below.drew ?_) | (with_reducible refine below_drewN ?_ _) | (with_reducible refine Below.setCell ?_ ?_ _) | (with_reducible refine below_call ?_ ?_ (by assumption)) | go_size))⟩
set_option maxHeartbeats 3200000 in
theorem specNeedlessClues_any (h : Int) (a : Option Addr) (c : Nat) (L : List (Int × Int × Int)) (hm : L.length ≤ maxLen) (hc : L.length ≤ c) (hcm : c ≤ maxLen) (w : World) (hin : CIn w a L) :
    Calls Try.prog 45 #[pzv h (.slice a L.length c)] w fun e w' => ∃ v, e = .returned (.tuple #[v, .bool (nedR h L).2]) ∧ IRow w' w.heap.size v (nedR h L).1 ∧ Below w.heap.size w w' := by
  obtain ⟨i0, hi0, hz0, hz1, hz2⟩ := info_parts Try.infoInt
  have I0 := Lib.hid hi0
  have Z0 := Lib.hid hz0
  have Z1 := Lib.hid hz1
  have Z2 := Lib.hid hz2
  clear hi0 hz0 hz1 hz2
  have HX := Lib.hid (fun W (hb : Below w.heap.size w W) => hin.below hb)
  cases hok : okZ h L
  · have HC := Lib.hid (fun W (hb : Below w.heap.size w W) => pzGood_is h a c L hm hok W (hin.below hb))
    have HM := Lib.hid hok
    clear hin hok
    (go_enter Try.func45, Try.ntmps45)
    go_wp2_with fail
    refine (HC.out _ (by (repeat' (first | (with_reducible exact Below.refl _ _) | (with_reducible assumption) | (with_reducible refine Below.alloc ?_ ?_ _) | (with_reducible refine Below.drew ?_) | (with_reducible refine below_drewN ?_ _) | (with_reducible refine Below.setCell ?_ ?_ _) | (with_reducible refine below_call ?_ ?_ (by assumption)) | go_size)))).mono ?_
    (rintro e1 w1 ⟨rfl, hb1⟩; obtain ⟨hc1, hf1⟩ := bcell hb1; have hz1 := hb1.size; (try simp only [World.size_alloc, World.size_setCell, World.size_drew] at hz1); have q1 : w.heap.size ≤ w1.heap.size := (by omega); (try have q1_0 : w.heap.size < w1.heap.size := (by omega)); (try have q1_1 : w.heap.size + 1 < w1.heap.size := (by omega)); (try have q1_2 : w.heap.size + 2 < w1.heap.size := (by omega)); (try have q1_3 : w.heap.size + 3 < w1.heap.size := (by omega)))
    go_wp2
    (refine bodyPost_ret (by simp [results, Try.results45, go_sem, *]; try rfl) rfl ?_)
    rw [show nedR h L = ([], false) from by simp [nedR, HM.out]]
    exact ⟨_, rfl, IRow.nil _ _, by (repeat' (first | (with_reducible exact Below.refl _ _) | (with_reducible assumption) | (with_reducible refine Below.alloc ?_ ?_ _) | (with_reducible refine Below.drew ?_) | (with_reducible refine below_drewN ?_ _) | (with_reducible refine Below.setCell ?_ ?_ _) | (with_reducible refine below_call ?_ ?_ (by assumption)) | go_size))⟩
  · have HC := Lib.hid (fun W (hb : Below w.heap.size w W) => pzGood_is h a c L hm hok W (hin.below hb))
    have HM := Lib.hid hok
    obtain ⟨hh, hl6, hall⟩ := okZ_bd hok
    clear hin hok
    (go_enter Try.func45, Try.ntmps45)
    go_wp2_with fail
    refine (HC.out _ (by (repeat' (first | (with_reducible exact Below.refl _ _) | (with_reducible assumption) | (with_reducible refine Below.alloc ?_ ?_ _) | (with_reducible refine Below.drew ?_) | (with_reducible refine below_drewN ?_ _) | (with_reducible refine Below.setCell ?_ ?_ _) | (with_reducible refine below_call ?_ ?_ (by assumption)) | go_size)))).mono ?_
    (rintro e1 w1 ⟨rfl, hb1⟩; obtain ⟨hc1, hf1⟩ := bcell hb1; have hz1 := hb1.size; (try simp only [World.size_alloc, World.size_setCell, World.size_drew] at hz1); have q1 : w.heap.size ≤ w1.heap.size := (by omega); (try have q1_0 : w.heap.size < w1.heap.size := (by omega)); (try have q1_1 : w.heap.size + 1 < w1.heap.size := (by omega)); (try have q1_2 : w.heap.size + 2 < w1.heap.size := (by omega)); (try have q1_3 : w.heap.size + 3 < w1.heap.size := (by omega)))
    have hs := sol_len hh.2 L
    go_wp2_with fail
    refine (pzAll_any h a c L hh hall (by omega) _ (HX.out _ (by (repeat' (first | (with_reducible exact Below.refl _ _) | (with_reducible assumption) | (with_reducible refine Below.alloc ?_ ?_ _) | (with_reducible refine Below.drew ?_) | (with_reducible refine below_drewN ?_ _) | (with_reducible refine Below.setCell ?_ ?_ _) | (with_reducible refine below_call ?_ ?_ (by assumption)) | go_size))))).mono ?_
    rintro e2 w2 ⟨v2, rfl, hr2, hb2⟩
    have hz2 := hb2.size
    obtain ⟨hc2, hf2⟩ := bcell hb2
    obtain ⟨a2, c2, rfl, hi2, -⟩ := hr2.inn
    have HIS := Lib.hid hi2
    have HC1 := Lib.hid (fun (k : Nat) (hk : k < L.length) W (hb : Below w.heap.size w W) => pzWithout_any a c L k hk hc hcm (by omega) W (HX.out W hb))
    have HC2 := Lib.hid (fun (k : Nat) (a' : Option Addr) (c' : Nat) W (hi : CIn W a' (L.eraseIdx k)) => pzAll_any h a' c' (L.eraseIdx k) hh (all_erase hall k) (Nat.le_trans (List.length_eraseIdx_le L k) (by omega)) W hi)
    have HS0 := Lib.hid (fun k => sol_len hh.2 (L.eraseIdx k))
    have HM2 : Hid (nedR h L = (nedK h L L.length, true)) := Lib.hid (by simp [nedR, HM.out])
    have x0 : w2.cell? ⟨w.heap.size, 0, none⟩ = some (.int .i64 h) := (hc2 _ _ (by go_size)).trans ((hc1 _ _ (by go_size)).trans (by go_simp))
    have x1 : w2.cell? ⟨w.heap.size, 1, none⟩ = some (.slice a L.length c) := (hc2 _ _ (by go_size)).trans ((hc1 _ _ (by go_size)).trans (by go_simp))
    have hbw1 : Below w.heap.size w w2 := by (repeat' (first | (with_reducible exact Below.refl _ _) | (with_reducible assumption) | (with_reducible refine Below.alloc ?_ ?_ _) | (with_reducible refine Below.drew ?_) | (with_reducible refine below_drewN ?_ _) | (with_reducible refine Below.setCell ?_ ?_ _) | (with_reducible refine below_call ?_ ?_ (by assumption)) | go_size))
    have hzz : w.heap.size + 1 ≤ w2.heap.size := by omega
    clear hr2 hc2 hf2 hc1 hf1 hb1 hb2 hi2
    go_wp2
    go_loopw [4, 18] (fun q i wr => ∃ (k : Nat), k ≤ L.length ∧ i = .int .i64 k ∧ IRow wr w2.heap.size q (nedK h L k) ∧ wr.cell? ⟨w.heap.size, 0, none⟩ = some (.int .i64 h) ∧ wr.cell? ⟨w.heap.size, 1, none⟩ = some (.slice a L.length c) ∧ w.heap.size + 1 ≤ wr.heap.size ∧ Below w2.heap.size w2 wr) (fun _ i _ => L.length - (intOf i).toNat)
    case atStart => exact ⟨0, by omega, rfl, by simpa [nedK] using IRow.nil _ _, x0, x1, hzz, Below.refl _ _⟩
    case round =>
      obtain ⟨k, hk, rfl, hrow, c0, c1, hz3, hbr⟩ := hrel
      have HR := Lib.hid hrow
      obtain ⟨qa, qc, rfl, -, -, -⟩ := hrow.cells
      clear hrow
      have n0' : (0 : Int) ≤ (k : Int) := Int.natCast_nonneg _
      have p0 : w.heap.size < wr.heap.size := by omega
      have hlk := nedK_len h L k
      have hbwr : Below w.heap.size w wr := hbw1.trans (hbr.mono hbw1.size)
      have hzr := hbr.size
      by_cases hlt : k < L.length
      · have k1 : (k : Int) < (L.length : Int) := by omega
        have HD1 := Lib.hid (HC1.out k hlt)
        have HQY := Lib.hid (fun e : nedB h L k = true => nedK_yes e)
        have HQN := Lib.hid (fun e : nedB h L k = false => nedK_no e)
        go_wp2_with fail
        have hS1 : wr.drew.cell? ⟨w.heap.size, 0, none⟩ = some (.int .i64 h) ∧ wr.drew.cell? ⟨w.heap.size, 1, none⟩ = some (.slice a L.length c) := ⟨c0, c1⟩
        refine wp_region_held (by kernel_rfl) (S := fun W => W.cell? ⟨w.heap.size, 0, none⟩ = some (.int .i64 h) ∧ W.cell? ⟨w.heap.size, 1, none⟩ = some (.slice a L.length c)) ?_
        refine take_first (i := 0) (v := .pointer (some ⟨w.heap.size, 0, none⟩)) _ rfl rfl (by kernel_rfl) (by kernel_rfl) (by kernel_rfl) (fun _ _ _ h => h) (by rfl) ?_ (by assumption) ?_
        · intro wq hq
          obtain ⟨s0, s1⟩ := hq
          go_simp
          try rfl
        simp only [Act.put, List.setIfInBounds_toArray, List.set_cons_zero, List.set_cons_succ]
        refine take_first (i := 1) (v := .int .i64 h) _ rfl rfl (by kernel_rfl) (by kernel_rfl) (by kernel_rfl) (fun _ _ _ h => h) (by rfl) ?_ (by assumption) ?_
        · intro wq hq
          obtain ⟨s0, s1⟩ := hq
          go_simp
          try rfl
        simp only [Act.put, List.setIfInBounds_toArray, List.set_cons_zero, List.set_cons_succ]
        refine take_first (i := 2) (v := .pointer (some ⟨w.heap.size, 1, none⟩)) _ rfl rfl (by kernel_rfl) (by kernel_rfl) (by kernel_rfl) (fun _ _ _ h => h) (by rfl) ?_ (by assumption) ?_
        · intro wq hq
          obtain ⟨s0, s1⟩ := hq
          go_simp
          try rfl
        simp only [Act.put, List.setIfInBounds_toArray, List.set_cons_zero, List.set_cons_succ]
        refine take_first (i := 3) (v := .slice a L.length c) _ rfl rfl (by kernel_rfl) (by kernel_rfl) (by kernel_rfl) (fun _ _ _ h => h) (by rfl) ?_ (by assumption) ?_
        · intro wq hq
          obtain ⟨s0, s1⟩ := hq
          go_simp
          try rfl
        simp only [Act.put, List.setIfInBounds_toArray, List.set_cons_zero, List.set_cons_succ]
        refine take_first (i := 4) (v := .int .i64 k) _ rfl rfl (by kernel_rfl) (by kernel_rfl) (by kernel_rfl) (fun _ _ _ h => h) (by rfl) ?_ (by assumption) ?_
        · intro wq hq
          obtain ⟨s0, s1⟩ := hq
          go_simp
          try rfl
        simp only [Act.put, List.setIfInBounds_toArray, List.set_cons_zero, List.set_cons_succ]
        refine take_first (i := 7) (v := .slice a2 (sol h L).length c2) _ rfl rfl (by kernel_rfl) (by kernel_rfl) (by kernel_rfl) (fun _ _ _ h => h) (by rfl) ?_ (by assumption) ?_
        · intro wq hq
          obtain ⟨s0, s1⟩ := hq
          go_simp
          try rfl
        simp only [Act.put, List.setIfInBounds_toArray, List.set_cons_zero, List.set_cons_succ]
        refine wpAnyH_all (rs := [5]) (by kernel_rfl) (by decide) (List.forall_mem_cons.2 ⟨?_, fun _ h => absurd h List.not_mem_nil⟩)
        refine wpOp_wp rfl rfl (wp_call_at _ rfl (f := 88) (args := #[.slice a L.length c, .int .i64 k]) (by go_simp) ((HD1.out _ hbwr.drew).mono ?_))
        rintro e3 w3 ⟨v3, rfl, hr3, hb3⟩
        obtain ⟨a3, c3, rfl, hi3, -⟩ := hr3.inn
        have hE3 : Below wr.heap.size wr w3 := (Below.refl _ _).drew.trans hb3
        have s0 := ((bcell hE3).1 _ _ p0).trans c0
        have s1 := ((bcell hE3).1 _ _ p0).trans c1
        have hz3' := hE3.size
        have HI3 := Lib.hid hi3
        clear hr3 hi3
        refine ⟨_, rfl, ⟨s0, s1⟩, ?_⟩
        simp only [Act.put, List.setIfInBounds_toArray, List.set_cons_zero, List.set_cons_succ]
        refine wpAnyH_all (rs := [6]) (by kernel_rfl) (by decide) (List.forall_mem_cons.2 ⟨?_, fun _ h => absurd h List.not_mem_nil⟩)
        refine wpOp_wp rfl rfl (wp_call_at _ rfl (f := 74) (args := #[.int .i64 h, .slice a3 (L.eraseIdx k).length c3]) (by go_simp) ((HC2.out k a3 c3 _ HI3.out).mono ?_))
        rintro e4 w4 ⟨v4, rfl, hr4, hb4⟩
        obtain ⟨a4, c4, rfl, hi4, -⟩ := hr4.inn
        have hE4 : Below wr.heap.size wr w4 := hE3.trans (hb4.mono hE3.size)
        have s2 := ((bcell hE4).1 _ _ p0).trans c0
        have s3 := ((bcell hE4).1 _ _ p0).trans c1
        have hz4 := hE4.size
        have hls := HS0.out k
        have HEQ := Lib.hid (l1Same_any (sol h (L.eraseIdx k)) (sol h L) a4 a2 c4 c2 (by omega) w4 hi4 (HIS.out.below (hbr.trans (hE4.mono hbr.size))))
        have HND : Hid (decide (sol h (L.eraseIdx k) = sol h L) = nedB h L k) := Lib.hid rfl
        rw [HND.out] at HEQ
        clear hr4 hi4 HND hls s0 s1
        generalize sol h (L.eraseIdx k) = S2 at *
        refine ⟨_, rfl, ⟨s2, s3⟩, ?_⟩
        simp only [Act.put, List.setIfInBounds_toArray, List.set_cons_zero, List.set_cons_succ]
        refine wpAnyH_all (rs := [8]) (by kernel_rfl) (by decide) (List.forall_mem_cons.2 ⟨?_, fun _ h => absurd h List.not_mem_nil⟩)
        refine wpOp_wp rfl rfl (wp_call_at _ rfl (f := 87) (args := #[.slice a4 S2.length c4, .slice a2 (sol h L).length c2]) (by go_simp) (HEQ.out.mono ?_))
        rintro e5 w5 ⟨rfl, hb5⟩
        have hE5 : Below wr.heap.size wr w5 := hE4.trans (hb5.mono hE4.size)
        have v0 := ((bcell hE5).1 _ _ p0).trans c0
        have v1 := ((bcell hE5).1 _ _ p0).trans c1
        have hz5 := hE5.size
        clear s2 s3 hS1
        refine ⟨_, rfl, ⟨v0, v1⟩, ?_⟩
        simp only [Act.put, List.setIfInBounds_toArray, List.set_cons_zero, List.set_cons_succ]
        refine wpAnyH_done (by kernel_rfl) ?_ _
        cases hq : nedB h L k
        · have HQ := Lib.hid (HQN.out hq)
          have HR2 := Lib.hid (HR.out.below hE5)
          clear hq HQY HQN
          go_wp2
          go_roundw
          case rel => exact ⟨k + 1, by omega, by go_num, by rw [HQ.out]; exact HR2.out, v0, v1, by omega, hbr.trans (hE5.mono hbr.size)⟩
          case measure => simp [intOf]; omega
        · have HQ := Lib.hid (HQY.out hq)
          clear hq HQY HQN
          have HR2 : Hid (w5.ownsRow w2.heap.size 3 1 (.slice qa (nedK h L k).length qc) (nedK h L k).length (ints (nedK h L k))) := Lib.hid (HR.out.below hE5)
          have hbw : Below w2.heap.size w2 w5 := hbr.trans (hE5.mono hbr.size)
          have HLT : ∀ j, (Value.slice qa (nedK h L k).length qc).ownBlock = some j → w2.heap.size ≤ j := fun j hj => (World.ownsRow.lt HR2.out j hj).1
          clear c0 c1 HR hb3 hb4 hb5 hE3 hE4 hE5
          obtain ⟨wq, rfl⟩ : ∃ wq, wq = w5 := ⟨_, rfl⟩
          go_wp2_with (at_builtin; refine wpList_append_lies _ rfl _ _ _ rfl (w2.heap.size) 3 i0 _ 1 8 Try.underlying42 I0.out Z0.out Z1.out Z2.out rfl (by omega) (.slice qa (nedK h L k).length qc) ((nedK h L k).length) _ rfl (World.ownsRow.alloc HR2.out _) ⟨wq.heap.size, 0, none⟩ 1 1 [.int .i64 (k : Int)] rfl rfl (World.news_of_block (cs := #[.int .i64 (k : Int)]) (t := 3) (fr := (0, 0)) (by simpa using heap_alloc_new wq _)) (by simp [Value.oneCell']) (by omega) (by unfold maxLen; omega) (by omega) (by simp; omega) (wq.heap.size + 1) (by simp) ?_; intro g cap w9 hown3 hgrow hat hlt3)
          have hb9 : Below w2.heap.size w2 w9 := Below.grown (w := wq.alloc (.cells #[.int .i64 (k : Int)] 3)) (by (repeat' (first | (with_reducible exact Below.refl _ _) | (with_reducible assumption) | (with_reducible refine Below.alloc ?_ ?_ _) | (with_reducible refine Below.drew ?_) | (with_reducible refine below_drewN ?_ _) | (with_reducible refine Below.setCell ?_ ?_ _) | (with_reducible refine below_call ?_ ?_ (by assumption)) | go_size))) hgrow (by simp; omega) (fun j hj => by have := HLT j hj; omega)
          have hz9 := hgrow.size
          simp only [World.size_alloc] at hz9
          have kc : ∀ o, w9.cell? ⟨w.heap.size, o, none⟩ = wq.cell? ⟨w.heap.size, o, none⟩ := fun o => (cell_of_heap (hgrow.block _ (by simp; omega) (fun e => by have := HLT _ e.symm; omega))).trans (World.cell?_alloc_past _ _ _ (by omega))
          have v3 := (kc 0).trans v0
          have v4 := (kc 1).trans v1
          have OWN := Lib.hid hown3
          clear hown3 hgrow hat kc v0 v1
          go_wp2
          go_roundw
          case rel =>
            refine ⟨k + 1, by omega, by go_num, ?_, v3, v4, by omega, hb9⟩
            rw [HQ.out]
            unfold IRow
            rw [ints_snoc, List.length_append]
            exact OWN.out
          case measure => simp [intOf]; omega

      · obtain rfl : k = L.length := by omega
        go_wp2
        (refine bodyPost_ret (by simp [results, Try.results45, go_sem, *]; try rfl) rfl ?_)
        rw [HM2.out]
        exact ⟨_, rfl, HR.out.mono (by omega), hbwr⟩

end Go.Proofs.Ytcpgjjmamclklaa
