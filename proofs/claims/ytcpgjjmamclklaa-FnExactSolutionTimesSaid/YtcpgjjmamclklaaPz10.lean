/- Puzzles: the times of all solutions: by the program and by the model. -/
import Derived.Test.YtcpgjjmamclklaaPz9
import Derived.Test.YtcpgjjmamclklaaParts
set_option linter.unusedSimpArgs false
set_option linter.unusedVariables false
set_option maxRecDepth 100000
namespace Go.Proofs.Ytcpgjjmamclklaa
open Go.RowKit

/-- The time of minutes. -/
def tOf (h : Int) (m : Int) : Int × Int := (lowNum m (60 * h), lowDen m (60 * h))
def tmK (h : Int) (S : List Int) (k : Nat) : List (Int × Int) := (S.take k).map (tOf h)
theorem tmK_len (h : Int) (S : List Int) (k : Nat) (hk : k ≤ S.length) : (tmK h S k).length = k := by simp [tmK]; omega
theorem takeI_next {S : List Int} {k : Nat} (hk : k < S.length) : S.take (k + 1) = S.take k ++ [S.getD k 0] := by
  rw [List.take_add_one]
  simp [List.getD_eq_getElem?_getD, hk]
theorem tmK_snoc (h : Int) {S : List Int} {k : Nat} (hk : k < S.length) : flat (tmK h S (k + 1)) = flat (tmK h S k) ++ [.int .i64 (tOf h (S.getD k 0)).1, .int .i64 (tOf h (S.getD k 0)).2] := by
  unfold tmK
  rw [takeI_next hk, List.map_append, flat_append]
  rfl
theorem tmK_all (h : Int) (S : List Int) : tmK h S S.length = S.map (tOf h) := by unfold tmK; rw [List.take_length]
def timR (h : Int) (L : List (Int × Int × Int)) : List (Int × Int) × Bool := if okZ h L then ((sol h L).map (tOf h), true) else ([], false)
theorem timR_len (h : Int) (L : List (Int × Int × Int)) : (timR h L).1.length ≤ 1000000 := by
  unfold timR
  split
  · rename_i hok
    have := sol_len (okZ_bd hok).1.2 L
    show ((sol h L).map (tOf h)).length ≤ _
    rw [List.length_map]
    omega
  · simp
theorem turnOfMinute_t (h m : Int) (hh : 2 ≤ h ∧ h ≤ 24) (w : World) :
    Calls Try.prog 112 #[.int .i64 h, .int .i64 m] w fun e w' => e = .returned (tv (tOf h m).1 (tOf h m).2) ∧ Below w.heap.size w w' := turnOfMinute_any h m hh w
set_option maxHeartbeats 400000 in
theorem zDiTime_any (h m : Int) (hh : 2 ≤ h ∧ h ≤ 24) (hm : 0 ≤ m ∧ m < 60 * h) (w : World) :
    Calls Try.prog 80 #[.int .i64 h, .int .i64 (m / 60), .int .i64 (m % 60), .int .i64 0] w fun e w' => e = .returned (tv (tOf h m).1 (tOf h m).2) ∧ Below w.heap.size w w' := by
  have e0 : (m / 60 * 60 + m % 60) * 60 + 0 = m * 60 := by omega
  have hs := (low_same (m * 60) (h * 3600) m (60 * h) (by omega) (by omega)).2 (by
    rw [show m * 60 * (60 * h) - m * (h * 3600) = 0 by grind]
    exact Int.dvd_zero _)
  have HE : Hid (mk (m * 60) (h * 3600) = ((tOf h m).1, (tOf h m).2, true)) := Lib.hid (by
    rw [low_fits (m * 60) (h * 3600) (by omega) (by omega), hs.1, hs.2]
    rfl)
  have HC := Lib.hid (fun W => diMake_val (m * 60) (h * 3600) HE.out (by omega) (by omega) W)
  generalize tOf h m = tt at *
  obtain ⟨p, q⟩ := tt
  simp only at HC
  obtain ⟨a, ha⟩ : ∃ a, m / 60 = a := ⟨_, rfl⟩
  obtain ⟨b, hb⟩ : ∃ b, m % 60 = b := ⟨_, rfl⟩
  have b1 : 0 ≤ a ∧ a < 24 := by omega
  have b2 : 0 ≤ b ∧ b < 60 := by omega
  have b3 : m * 60 = (a * 60 + b) * 60 := by omega
  rw [b3] at HC
  rw [ha, hb]
  clear ha hb b3 e0 hs HE
  have f1 := zw64 (n := a * 60) (by omega)
  have f2 := zw64 (n := a * 60 + b) (by omega)
  have f3 := zw64 (n := (a * 60 + b) * 60) (by omega)
  have f4 := zw64 (n := h * 3600) (by omega)
  (go_enter Try.func80, Try.ntmps80)
  go_wp2_with fail
  refine (HC.out _).mono ?_
  (rintro e1 w1 ⟨rfl, hb1⟩; obtain ⟨hc1, hf1⟩ := bcell hb1; have hz1 := hb1.size; (try simp only [World.size_alloc, World.size_setCell, World.size_drew] at hz1); have q1 : w.heap.size ≤ w1.heap.size := (by omega); (try have q1_0 : w.heap.size < w1.heap.size := (by omega)); (try have q1_1 : w.heap.size + 1 < w1.heap.size := (by omega)); (try have q1_2 : w.heap.size + 2 < w1.heap.size := (by omega)); (try have q1_3 : w.heap.size + 3 < w1.heap.size := (by omega)))
  go_wp2
  (refine bodyPost_ret (by simp [results, Try.results80, go_sem, *]; try rfl) rfl ?_)
  exact ⟨rfl, by (repeat' (first | (with_reducible exact Below.refl _ _) | (with_reducible assumption) | (with_reducible refine Below.alloc ?_ ?_ _) | (with_reducible refine Below.drew ?_) | (with_reducible refine below_drewN ?_ _) | (with_reducible refine Below.setCell ?_ ?_ _) | (with_reducible refine below_call ?_ ?_ (by assumption)) | go_size))⟩
theorem getD_memI {S : List Int} {k : Nat} (hk : k < S.length) : S.getD k 0 ∈ S := by
  rw [List.getD_eq_getElem?_getD, List.getElem?_eq_getElem hk]
  exact List.getElem_mem hk
set_option maxHeartbeats 3200000 in
theorem solutionTimes_any (h : Int) (a : Option Addr) (c : Nat) (L : List (Int × Int × Int)) (hh : 2 ≤ h ∧ h ≤ 24) (hok : L.all (okC h) = true) (hl : L.length ≤ 1048576) (w : World) (hin : CIn w a L) :
    Calls Try.prog 82 #[pzv h (.slice a L.length c)] w fun e w' => ∃ v, e = .returned v ∧ TRow w' w.heap.size v ((sol h L).map (tOf h)) ∧ Below w.heap.size w w' := by
  obtain ⟨i0, hi0, hz0, hz1, hz2⟩ := info_parts Try.infoTurn
  have I0 := Lib.hid hi0
  have Z0 := Lib.hid hz0
  have Z1 := Lib.hid hz1
  have Z2 := Lib.hid hz2
  clear hi0 hz0 hz1 hz2
  have HC0 := Lib.hid (fun W (hb : Below w.heap.size w W) => solutions_any h a c L hh hok hl W (hin.below hb))
  have hs := sol_len hh.2 L
  have HSB : Hid (∀ k, k < (sol h L).length → 0 ≤ (sol h L).getD k 0 ∧ (sol h L).getD k 0 < 60 * h) := Lib.hid (fun k hk => sol_bd (by omega) (getD_memI hk))
  clear hin hok
  generalize sol h L = S at *
  (go_enter Try.func82, Try.ntmps82)
  go_wp2_with fail
  refine (HC0.out _ (by (repeat' (first | (with_reducible exact Below.refl _ _) | (with_reducible assumption) | (with_reducible refine Below.alloc ?_ ?_ _) | (with_reducible refine Below.drew ?_) | (with_reducible refine below_drewN ?_ _) | (with_reducible refine Below.setCell ?_ ?_ _) | (with_reducible refine below_call ?_ ?_ (by assumption)) | go_size)))).mono ?_
  rintro e1 w1 ⟨v1, rfl, hr1, hb1⟩
  obtain ⟨a2, c2, rfl, hi2, -⟩ := hr1.inn
  obtain ⟨hc1, hf1⟩ := bcell hb1
  have hz1 := hb1.size
  simp only [World.size_alloc] at hz1
  have x0 : w1.cell? ⟨w.heap.size, 0, none⟩ = some (.int .i64 h) := (hc1 _ _ (by go_size)).trans (by go_simp)
  have hbw1 : Below w.heap.size w w1 := by (repeat' (first | (with_reducible exact Below.refl _ _) | (with_reducible assumption) | (with_reducible refine Below.alloc ?_ ?_ _) | (with_reducible refine Below.drew ?_) | (with_reducible refine below_drewN ?_ _) | (with_reducible refine Below.setCell ?_ ?_ _) | (with_reducible refine below_call ?_ ?_ (by assumption)) | go_size))
  clear hr1 hc1 hf1
  have HIS := Lib.hid hi2
  clear hi2
  go_wp2
  go_loopw [3, 9] (fun u i wr => ∃ (k : Nat), k ≤ S.length ∧ i = .int .i64 k ∧ TRow wr w1.heap.size u (tmK h S k) ∧ wr.cell? ⟨w.heap.size, 0, none⟩ = some (.int .i64 h) ∧ Below w1.heap.size w1 wr) (fun _ i _ => S.length - (intOf i).toNat)
  case atStart => exact ⟨0, Nat.zero_le _, rfl, (show TRow _ _ _ [] from World.ownsRow_nil _ _ _ _), by assumption, by (repeat' (first | (with_reducible exact Below.refl _ _) | (with_reducible assumption) | (with_reducible refine Below.alloc ?_ ?_ _) | (with_reducible refine Below.drew ?_) | (with_reducible refine below_drewN ?_ _) | (with_reducible refine Below.setCell ?_ ?_ _) | (with_reducible refine below_call ?_ ?_ (by assumption)) | go_size))⟩
  case round =>
    obtain ⟨k, hk, rfl, hrow, c0, hbr⟩ := hrel
    have HR := Lib.hid hrow
    obtain ⟨qa, qc, rfl, hq1, hq2, hq3⟩ := hrow.cells
    have hlk := tmK_len h S k hk
    rw [hlk] at hq1 HR ⊢
    clear hrow hq3
    have n0' : (0 : Int) ≤ (k : Int) := Int.natCast_nonneg _
    have hzr := hbr.size
    have p0 : w.heap.size < wr.heap.size := by omega
    by_cases hlt : k < S.length
    · obtain ⟨b, off, rfl, l1, y1⟩ := (HIS.out.below hbr) k hlt
      have k1 : (k : Int) < (S.length : Int) := by omega
      have hmb := HSB.out k hlt
      have HT := Lib.hid (tmK_snoc h hlt)
      clear HIS
      generalize S.getD k 0 = m at *
      have HC := Lib.hid (fun W => turnOfMinute_t h m hh W)
      obtain ⟨tn, htn⟩ : ∃ tn, (tOf h m).1 = tn := ⟨_, rfl⟩
      obtain ⟨td, htd⟩ : ∃ td, (tOf h m).2 = td := ⟨_, rfl⟩
      rw [htn, htd] at HC HT
      clear htn htd
      
      go_wp2_with fail
      refine (HC.out _).mono ?_
      rintro e3 w3' ⟨rfl, hb3⟩
      obtain ⟨hc3, hf3⟩ := bcell hb3
      have hz3 := hb3.size
      have v0 := (hc3 _ _ p0).trans c0
      have HR2 : Hid (w3'.ownsRow w1.heap.size 88 2 (.slice qa k qc) k (flat (tmK h S k))) := Lib.hid (by have := HR.out.below hb3; unfold TRow at this; rwa [hlk] at this)
      have hbw : Below w1.heap.size w1 w3' := hbr.trans (hb3.mono hbr.size)
      have HLT : ∀ j, (Value.slice qa k qc).ownBlock = some j → w1.heap.size ≤ j := fun j hj => (World.ownsRow.lt HR2.out j hj).1
      clear hc3 hf3 c0 HR
      obtain ⟨wq, rfl⟩ : ∃ wq, wq = w3' := ⟨_, rfl⟩
      go_wp2_with (at_builtin; refine wpList_append_lies _ rfl _ _ _ rfl (w1.heap.size) 88 i0 _ 2 16 Try.underlying50 I0.out Z0.out Z1.out Z2.out rfl (by omega) (.slice qa k qc) (k) _ rfl (World.ownsRow.alloc HR2.out _) ⟨wq.heap.size, 0, none⟩ 1 1 [.int .i64 tn, .int .i64 td] rfl rfl (World.news_of_block (cs := #[.int .i64 tn, .int .i64 td]) (t := 88) (fr := (0, 0)) (by simpa using heap_alloc_new wq _)) (by simp [Value.oneCell']) (by omega) (by unfold maxLen; omega) (by omega) (by simp; omega) (wq.heap.size + 1) (by simp) ?_; intro g cap w3 hown3 hgrow hat hlt3)
      have hb4 : Below w1.heap.size w1 w3 := Below.grown (w := wq.alloc (.cells #[.int .i64 tn, .int .i64 td] 88)) (by (repeat' (first | (with_reducible exact Below.refl _ _) | (with_reducible assumption) | (with_reducible refine Below.alloc ?_ ?_ _) | (with_reducible refine Below.drew ?_) | (with_reducible refine below_drewN ?_ _) | (with_reducible refine Below.setCell ?_ ?_ _) | (with_reducible refine below_call ?_ ?_ (by assumption)) | go_size))) hgrow (by simp; omega) (fun j hj => by have := HLT j hj; omega)
      have hz4 := hgrow.size
      simp only [World.size_alloc] at hz4
      have v3 : w3.cell? ⟨w.heap.size, 0, none⟩ = some (.int .i64 h) := ((cell_of_heap (hgrow.block _ (by simp; omega) (fun e => by have := HLT _ e.symm; omega))).trans (World.cell?_alloc_past _ _ _ (by omega))).trans v0
      have OWN := Lib.hid hown3
      clear hown3 hgrow hat v0
      go_wp2
      go_roundw
      case rel =>
        refine ⟨k + 1, by omega, by go_num, ?_, v3, hb4⟩
        unfold TRow
        rw [HT.out, tmK_len h S (k + 1) (by omega)]
        exact OWN.out
      case measure => simp [intOf]; omega
    · obtain rfl : k = S.length := by omega
      have HE := Lib.hid (tmK_all h S)
      go_wp2
      go_ret
      exact ⟨_, rfl, by rw [← HE.out]; unfold TRow; rw [hlk]; have := (HR.out.mono (show w.heap.size ≤ _ by omega)); unfold TRow at this; rw [hlk] at this; exact this, hbw1.trans (hbr.mono hbw1.size)⟩
set_option maxHeartbeats 800000 in
theorem tellTimes_any (h : Int) (a : Option Addr) (c : Nat) (L : List (Int × Int × Int)) (hm : L.length ≤ maxLen) (w : World) (hin : CIn w a L) :
    Calls Try.prog 81 #[pzv h (.slice a L.length c), .func (.func 82) #[] #[]] w fun e w' => ∃ v, e = .returned (.tuple #[v, .bool (timR h L).2]) ∧ TRow w' w.heap.size v (timR h L).1 ∧ Below w.heap.size w w' := by
  have HC := Lib.hid (fun W (hb : Below w.heap.size w W) => openPuzzle_any h a c L hm W (hin.below hb))
  clear hin
  (go_enter Try.func81, Try.ntmps81)
  go_wp2_with fail
  refine (HC.out _ (by (repeat' (first | (with_reducible exact Below.refl _ _) | (with_reducible assumption) | (with_reducible refine Below.alloc ?_ ?_ _) | (with_reducible refine Below.drew ?_) | (with_reducible refine below_drewN ?_ _) | (with_reducible refine Below.setCell ?_ ?_ _) | (with_reducible refine below_call ?_ ?_ (by assumption)) | go_size)))).mono ?_
  rintro e1 w1 ⟨hb1, ⟨hok, v, rfl, hr⟩ | ⟨hok, rfl⟩⟩
  · obtain ⟨hh, hl6, hall⟩ := okZ_bd hok
    obtain ⟨a1, c1, rfl, hi1, hcap, hcmx⟩ := hr.inn
    have HM := Lib.hid hok
    have HI := Lib.hid hi1
    have hz1 := hb1.size
    simp only [World.size_alloc] at hz1
    obtain ⟨hc1, hf1⟩ := bcell hb1
    clear hr hok hi1
    go_wp2_with fail
    refine (solutionTimes_any h a1 c1 L hh hall (by omega) _ (HI.out.below (by (repeat' (first | (with_reducible exact Below.refl _ _) | (with_reducible assumption) | (with_reducible refine Below.alloc ?_ ?_ _) | (with_reducible refine Below.drew ?_) | (with_reducible refine below_drewN ?_ _) | (with_reducible refine Below.setCell ?_ ?_ _) | (with_reducible refine below_call ?_ ?_ (by assumption)) | go_size))))).mono ?_
    rintro e2 w2 ⟨v2, rfl, hr2, hb2⟩
    have HR := Lib.hid (hr2.mono (show w.heap.size ≤ _ by simp; omega))
    clear hr2
    have hz2 := hb2.size
    simp only [World.size_alloc] at hz2
    go_wp2
    (refine bodyPost_ret (by simp [results, Try.results81, go_sem, *]; try rfl) rfl ?_)
    rw [show timR h L = ((sol h L).map (tOf h), true) from by simp [timR, HM.out]]
    exact ⟨_, rfl, HR.out, by (repeat' (first | (with_reducible exact Below.refl _ _) | (with_reducible assumption) | (with_reducible refine Below.alloc ?_ ?_ _) | (with_reducible refine Below.drew ?_) | (with_reducible refine below_drewN ?_ _) | (with_reducible refine Below.setCell ?_ ?_ _) | (with_reducible refine below_call ?_ ?_ (by assumption)) | go_size))⟩
  · have HM := Lib.hid hok
    have hz1 := hb1.size
    simp only [World.size_alloc] at hz1
    clear hok
    go_wp2
    (refine bodyPost_ret (by simp [results, Try.results81, go_sem, *]; try rfl) rfl ?_)
    rw [show timR h L = ([], false) from by simp [timR, HM.out]]
    exact ⟨_, rfl, World.ownsRow_nil _ _ _ _, by (repeat' (first | (with_reducible exact Below.refl _ _) | (with_reducible assumption) | (with_reducible refine Below.alloc ?_ ?_ _) | (with_reducible refine Below.drew ?_) | (with_reducible refine below_drewN ?_ _) | (with_reducible refine Below.setCell ?_ ?_ _) | (with_reducible refine below_call ?_ ?_ (by assumption)) | go_size))⟩
set_option maxHeartbeats 800000 in
theorem implSolutionTimes_any (h : Int) (a : Option Addr) (c : Nat) (L : List (Int × Int × Int)) (hm : L.length ≤ maxLen) (w : World) (hin : CIn w a L) :
    Calls Try.prog 39 #[pzv h (.slice a L.length c)] w fun e w' => ∃ v, e = .returned (.tuple #[v, .bool (timR h L).2]) ∧ TRow w' w.heap.size v (timR h L).1 ∧ Below w.heap.size w w' := by
  have HC := Lib.hid (fun W (hb : Below w.heap.size w W) => tellTimes_any h a c L hm W (hin.below hb))
  clear hin
  (go_enter Try.func39, Try.ntmps39)
  go_wp2_with fail
  refine (HC.out _ (by (repeat' (first | (with_reducible exact Below.refl _ _) | (with_reducible assumption) | (with_reducible refine Below.alloc ?_ ?_ _) | (with_reducible refine Below.drew ?_) | (with_reducible refine below_drewN ?_ _) | (with_reducible refine Below.setCell ?_ ?_ _) | (with_reducible refine below_call ?_ ?_ (by assumption)) | go_size)))).mono ?_
  rintro e1 w1 ⟨v1, rfl, hr1, hb1⟩
  have HR := Lib.hid (hr1.mono (show w.heap.size ≤ _ by simp))
  clear hr1
  have hz1 := hb1.size
  simp only [World.size_alloc] at hz1
  go_wp2
  (refine bodyPost_ret (by simp [results, Try.results39, go_sem, *]; try rfl) rfl ?_)
  exact ⟨_, rfl, HR.out, by (repeat' (first | (with_reducible exact Below.refl _ _) | (with_reducible assumption) | (with_reducible refine Below.alloc ?_ ?_ _) | (with_reducible refine Below.drew ?_) | (with_reducible refine below_drewN ?_ _) | (with_reducible refine Below.setCell ?_ ?_ _) | (with_reducible refine below_call ?_ ?_ (by assumption)) | go_size))⟩
set_option maxHeartbeats 1600000 in
theorem specSolutionTimes_any (h : Int) (a : Option Addr) (c : Nat) (L : List (Int × Int × Int)) (hm : L.length ≤ maxLen) (w : World) (hin : CIn w a L) :
    Calls Try.prog 38 #[pzv h (.slice a L.length c)] w fun e w' => ∃ v, e = .returned (.tuple #[v, .bool (timR h L).2]) ∧ TRow w' w.heap.size v (timR h L).1 ∧ Below w.heap.size w w' := by
  obtain ⟨i0, hi0, hz0, hz1, hz2⟩ := info_parts Try.infoTurn
  have I0 := Lib.hid hi0
  have Z0 := Lib.hid hz0
  have Z1 := Lib.hid hz1
  have Z2 := Lib.hid hz2
  clear hi0 hz0 hz1 hz2
  have HX := Lib.hid (fun W (hb : Below w.heap.size w W) => hin.below hb)
  cases hok : okZ h L
  · have HC := Lib.hid (fun W (hb : Below w.heap.size w W) => pzGood_is h a c L hm hok W (hin.below hb))
    have HM := Lib.hid hok
    clear hin hok
    (go_enter Try.func38, Try.ntmps38)
    go_wp2_with fail
    refine (HC.out _ (by (repeat' (first | (with_reducible exact Below.refl _ _) | (with_reducible assumption) | (with_reducible refine Below.alloc ?_ ?_ _) | (with_reducible refine Below.drew ?_) | (with_reducible refine below_drewN ?_ _) | (with_reducible refine Below.setCell ?_ ?_ _) | (with_reducible refine below_call ?_ ?_ (by assumption)) | go_size)))).mono ?_
    (rintro e1 w1 ⟨rfl, hb1⟩; obtain ⟨hc1, hf1⟩ := bcell hb1; have hz1 := hb1.size; (try simp only [World.size_alloc, World.size_setCell, World.size_drew] at hz1); have q1 : w.heap.size ≤ w1.heap.size := (by omega); (try have q1_0 : w.heap.size < w1.heap.size := (by omega)); (try have q1_1 : w.heap.size + 1 < w1.heap.size := (by omega)); (try have q1_2 : w.heap.size + 2 < w1.heap.size := (by omega)); (try have q1_3 : w.heap.size + 3 < w1.heap.size := (by omega)))
    go_wp2
    (refine bodyPost_ret (by simp [results, Try.results38, go_sem, *]; try rfl) rfl ?_)
    rw [show timR h L = ([], false) from by simp [timR, HM.out]]
    exact ⟨_, rfl, World.ownsRow_nil _ _ _ _, by (repeat' (first | (with_reducible exact Below.refl _ _) | (with_reducible assumption) | (with_reducible refine Below.alloc ?_ ?_ _) | (with_reducible refine Below.drew ?_) | (with_reducible refine below_drewN ?_ _) | (with_reducible refine Below.setCell ?_ ?_ _) | (with_reducible refine below_call ?_ ?_ (by assumption)) | go_size))⟩
  · have HC := Lib.hid (fun W (hb : Below w.heap.size w W) => pzGood_is h a c L hm hok W (hin.below hb))
    have HM := Lib.hid hok
    obtain ⟨hh, hl6, hall⟩ := okZ_bd hok
    clear hin hok
    (go_enter Try.func38, Try.ntmps38)
    go_wp2_with fail
    refine (HC.out _ (by (repeat' (first | (with_reducible exact Below.refl _ _) | (with_reducible assumption) | (with_reducible refine Below.alloc ?_ ?_ _) | (with_reducible refine Below.drew ?_) | (with_reducible refine below_drewN ?_ _) | (with_reducible refine Below.setCell ?_ ?_ _) | (with_reducible refine below_call ?_ ?_ (by assumption)) | go_size)))).mono ?_
    (rintro e1 w1 ⟨rfl, hb1⟩; obtain ⟨hc1, hf1⟩ := bcell hb1; have hz1 := hb1.size; (try simp only [World.size_alloc, World.size_setCell, World.size_drew] at hz1); have q1 : w.heap.size ≤ w1.heap.size := (by omega); (try have q1_0 : w.heap.size < w1.heap.size := (by omega)); (try have q1_1 : w.heap.size + 1 < w1.heap.size := (by omega)); (try have q1_2 : w.heap.size + 2 < w1.heap.size := (by omega)); (try have q1_3 : w.heap.size + 3 < w1.heap.size := (by omega)))
    have hs := sol_len hh.2 L
    have HSB : Hid (∀ k, k < (sol h L).length → 0 ≤ (sol h L).getD k 0 ∧ (sol h L).getD k 0 < 60 * h) := Lib.hid (fun k hk => sol_bd (by omega) (getD_memI hk))
    go_wp2_with fail
    refine (pzAll_any h a c L hh hall (by omega) _ (HX.out _ (by (repeat' (first | (with_reducible exact Below.refl _ _) | (with_reducible assumption) | (with_reducible refine Below.alloc ?_ ?_ _) | (with_reducible refine Below.drew ?_) | (with_reducible refine below_drewN ?_ _) | (with_reducible refine Below.setCell ?_ ?_ _) | (with_reducible refine below_call ?_ ?_ (by assumption)) | go_size))))).mono ?_
    rintro e2 w2 ⟨v2, rfl, hr2, hb2⟩
    have hz2 := hb2.size
    obtain ⟨hc2, hf2⟩ := bcell hb2
    obtain ⟨a2, c2, rfl, hi2, -⟩ := hr2.inn
    have HM2 : Hid (timR h L = ((sol h L).map (tOf h), true)) := Lib.hid (by simp [timR, HM.out])
    generalize sol h L = S at *
    have x0 : w2.cell? ⟨w.heap.size, 0, none⟩ = some (.int .i64 h) := (hc2 _ _ (by go_size)).trans ((hc1 _ _ (by go_size)).trans (by go_simp))
    have hbw1 : Below w.heap.size w w2 := by (repeat' (first | (with_reducible exact Below.refl _ _) | (with_reducible assumption) | (with_reducible refine Below.alloc ?_ ?_ _) | (with_reducible refine Below.drew ?_) | (with_reducible refine below_drewN ?_ _) | (with_reducible refine Below.setCell ?_ ?_ _) | (with_reducible refine below_call ?_ ?_ (by assumption)) | go_size))
    have hzz : w.heap.size < w2.heap.size := by omega
    clear hr2 hc2 hf2 hc1 hf1 hb1 hb2
    have HIS := Lib.hid hi2
    clear hi2
    go_wp2
    go_loopw [4, 16] (fun u i wr => ∃ (k : Nat), k ≤ S.length ∧ i = .int .i64 k ∧ TRow wr w2.heap.size u (tmK h S k) ∧ wr.cell? ⟨w.heap.size, 0, none⟩ = some (.int .i64 h) ∧ Below w2.heap.size w2 wr) (fun _ i _ => S.length - (intOf i).toNat)
    case atStart => exact ⟨0, Nat.zero_le _, rfl, (show TRow _ _ _ [] from World.ownsRow_nil _ _ _ _), by assumption, by (repeat' (first | (with_reducible exact Below.refl _ _) | (with_reducible assumption) | (with_reducible refine Below.alloc ?_ ?_ _) | (with_reducible refine Below.drew ?_) | (with_reducible refine below_drewN ?_ _) | (with_reducible refine Below.setCell ?_ ?_ _) | (with_reducible refine below_call ?_ ?_ (by assumption)) | go_size))⟩
    case round =>
      obtain ⟨k, hk, rfl, hrow, c0, hbr⟩ := hrel
      have HR := Lib.hid hrow
      obtain ⟨qa, qc, rfl, hq1, hq2, hq3⟩ := hrow.cells
      have hlk := tmK_len h S k hk
      rw [hlk] at hq1 HR ⊢
      clear hrow hq3
      have n0' : (0 : Int) ≤ (k : Int) := Int.natCast_nonneg _
      have hzr := hbr.size
      have p0 : w.heap.size < wr.heap.size := by omega
      by_cases hlt : k < S.length
      · obtain ⟨b, off, rfl, l1, y1⟩ := (HIS.out.below hbr) k hlt
        have k1 : (k : Int) < (S.length : Int) := by omega
        have hmb := HSB.out k hlt
        have HT := Lib.hid (tmK_snoc h hlt)
        clear HIS
        generalize S.getD k 0 = m at *
        have HC := Lib.hid (fun W => zDiTime_any h m hh hmb W)
        obtain ⟨tn, htn⟩ : ∃ tn, (tOf h m).1 = tn := ⟨_, rfl⟩
        obtain ⟨td, htd⟩ : ∃ td, (tOf h m).2 = td := ⟨_, rfl⟩
        rw [htn, htd] at HC HT
        clear htn htd
        have f1 := zq64 (n := m) (g := 60) hmb.1 (by omega) (by omega)
        have f2 : m.tmod 60 = m % 60 := Int.tmod_eq_emod_of_nonneg hmb.1
        have f3 := zw64 (n := m % 60) (by omega)
        go_wp2_with fail
        refine (HC.out _).mono ?_
        rintro e3 w3' ⟨rfl, hb3⟩
        obtain ⟨hc3, hf3⟩ := bcell hb3
        have hz3 := hb3.size
        have v0 := (hc3 _ _ p0).trans c0
        have HR2 : Hid (w3'.ownsRow w2.heap.size 88 2 (.slice qa k qc) k (flat (tmK h S k))) := Lib.hid (by have := HR.out.below hb3; unfold TRow at this; rwa [hlk] at this)
        have hbw : Below w2.heap.size w2 w3' := hbr.trans (hb3.mono hbr.size)
        have HLT : ∀ j, (Value.slice qa k qc).ownBlock = some j → w2.heap.size ≤ j := fun j hj => (World.ownsRow.lt HR2.out j hj).1
        clear hc3 hf3 c0 HR
        obtain ⟨wq, rfl⟩ : ∃ wq, wq = w3' := ⟨_, rfl⟩
        go_wp2_with (at_builtin; refine wpList_append_lies _ rfl _ _ _ rfl (w2.heap.size) 88 i0 _ 2 16 Try.underlying50 I0.out Z0.out Z1.out Z2.out rfl (by omega) (.slice qa k qc) (k) _ rfl (World.ownsRow.alloc HR2.out _) ⟨wq.heap.size, 0, none⟩ 1 1 [.int .i64 tn, .int .i64 td] rfl rfl (World.news_of_block (cs := #[.int .i64 tn, .int .i64 td]) (t := 88) (fr := (0, 0)) (by simpa using heap_alloc_new wq _)) (by simp [Value.oneCell']) (by omega) (by unfold maxLen; omega) (by omega) (by simp; omega) (wq.heap.size + 1) (by simp) ?_; intro g cap w3 hown3 hgrow hat hlt3)
        have hb4 : Below w2.heap.size w2 w3 := Below.grown (w := wq.alloc (.cells #[.int .i64 tn, .int .i64 td] 88)) (by (repeat' (first | (with_reducible exact Below.refl _ _) | (with_reducible assumption) | (with_reducible refine Below.alloc ?_ ?_ _) | (with_reducible refine Below.drew ?_) | (with_reducible refine below_drewN ?_ _) | (with_reducible refine Below.setCell ?_ ?_ _) | (with_reducible refine below_call ?_ ?_ (by assumption)) | go_size))) hgrow (by simp; omega) (fun j hj => by have := HLT j hj; omega)
        have hz4 := hgrow.size
        simp only [World.size_alloc] at hz4
        have v3 : w3.cell? ⟨w.heap.size, 0, none⟩ = some (.int .i64 h) := ((cell_of_heap (hgrow.block _ (by simp; omega) (fun e => by have := HLT _ e.symm; omega))).trans (World.cell?_alloc_past _ _ _ (by omega))).trans v0
        have OWN := Lib.hid hown3
        clear hown3 hgrow hat v0
        go_wp2
        go_roundw
        case rel =>
          refine ⟨k + 1, by omega, by go_num, ?_, v3, hb4⟩
          unfold TRow
          rw [HT.out, tmK_len h S (k + 1) (by omega)]
          exact OWN.out
        case measure => simp [intOf]; omega
      · obtain rfl : k = S.length := by omega
        have HE := Lib.hid (tmK_all h S)
        go_wp2
        (refine bodyPost_ret (by simp [results, Try.results38, go_sem, *]; try rfl) rfl ?_)
        rw [HM2.out]
        exact ⟨_, rfl, by show TRow _ _ _ (S.map (tOf h)); rw [← HE.out]; unfold TRow; rw [hlk]; have := (HR.out.mono (show w.heap.size ≤ _ by omega)); unfold TRow at this; rw [hlk] at this; exact this, hbw1.trans (hbr.mono hbw1.size)⟩

end Go.Proofs.Ytcpgjjmamclklaa
