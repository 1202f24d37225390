/- Puzzles: the minutes that fit all clues: by the program and by the model. -/
import Derived.Test.YtcpgjjmamclklaaPz6
import Derived.Test.YtcpgjjmamclklaaPz7
set_option linter.unusedSimpArgs false
set_option linter.unusedVariables false
set_option maxRecDepth 100000
namespace Go.Proofs.Ytcpgjjmamclklaa
open Go.RowKit

theorem fits_next {h m : Int} {L : List (Int × Int × Int)} {k : Nat} (hk : k < L.length) : fitsAll h (L.take (k + 1)) m = (fitsAll h (L.take k) m && fitB h m (L.getD k (0, 0, 0))) := by
  unfold fitsAll
  rw [take3_next hk, List.all_append]
  simp
theorem all3_at {L : List (Int × Int × Int)} {k : Nat} {p : Int × Int × Int → Bool} (h : L.all p = true) (hk : k < L.length) : p (L.getD k (0, 0, 0)) = true := by
  rw [List.getD_eq_getElem?_getD, List.getElem?_eq_getElem hk]
  exact List.all_eq_true.1 h _ (List.getElem_mem hk)
theorem ints_snoc (L : List Int) (x : Int) : ints (L ++ [x]) = ints L ++ [.int .i64 x] := by simp [ints]
set_option maxHeartbeats 3200000 in
theorem pzAll_any (h : Int) (a : Option Addr) (c : Nat) (L : List (Int × Int × Int)) (hh : 2 ≤ h ∧ h ≤ 24) (hok : L.all (okC h) = true) (hl : L.length ≤ 1048576) (w : World) (hin : CIn w a L) :
    Calls Try.prog 74 #[.int .i64 h, .slice a L.length c] w fun e w' => ∃ v, e = .returned v ∧ IRow w' w.heap.size v (sol h L) ∧ Below w.heap.size w w' := by
  obtain ⟨i0, hi0, hz0, hz1, hz2⟩ := info_parts Try.infoInt
  have I0 := Lib.hid hi0
  have Z0 := Lib.hid hz0
  have Z1 := Lib.hid hz1
  have Z2 := Lib.hid hz2
  clear hi0 hz0 hz1 hz2
  have X := Lib.hid hin
  have HOK := Lib.hid hok
  clear hin hok
  have f0 := zw64 (n := 60 * h) (by omega)
  (go_enter Try.func74, Try.ntmps74)
  go_wp2
  go_loopw [5, 6] (fun q i wr => ∃ (n : Nat), (n : Int) ≤ 60 * h ∧ i = .int .i64 n ∧ IRow wr w.heap.size q (solN h L n) ∧ Below w.heap.size w wr) (fun _ i _ => (60 * h).toNat - (intOf i).toNat)
  case atStart => exact ⟨0, by omega, rfl, by simpa [solN] using IRow.nil _ _, by (repeat' (first | (with_reducible exact Below.refl _ _) | (with_reducible assumption) | (with_reducible refine Below.alloc ?_ ?_ _) | (with_reducible refine Below.drew ?_) | (with_reducible refine below_drewN ?_ _) | (with_reducible refine Below.setCell ?_ ?_ _) | (with_reducible refine below_call ?_ ?_ (by assumption)) | go_size))⟩
  case round =>
    obtain ⟨n, hn, rfl, hrow, hbr⟩ := hrel
    obtain ⟨wo, rfl⟩ : ∃ wo, wo = wr := ⟨_, rfl⟩
    have HR := Lib.hid hrow
    obtain ⟨qa, qc, rfl, -, -, -⟩ := hrow.cells
    clear hrow
    have n0' : (0 : Int) ≤ (n : Int) := Int.natCast_nonneg _
    have hzr := hbr.size
    have hsl := solN_len h L n
    by_cases hlt : (n : Int) < 60 * h
    · go_wp2
      go_loopw [7, 18] (fun q i wr => ∃ (k : Nat), k ≤ L.length ∧ i = .int .i64 k ∧ q = .bool (fitsAll h (L.take k) n) ∧ Below wo.heap.size wo wr) (fun _ i _ => L.length - (intOf i).toNat)
      case atStart => exact ⟨0, Nat.zero_le _, rfl, by simp [fitsAll], by (repeat' (first | (with_reducible exact Below.refl _ _) | (with_reducible assumption) | (with_reducible refine Below.alloc ?_ ?_ _) | (with_reducible refine Below.drew ?_) | (with_reducible refine below_drewN ?_ _) | (with_reducible refine Below.setCell ?_ ?_ _) | (with_reducible refine below_call ?_ ?_ (by assumption)) | go_size))⟩
      case round =>
        obtain ⟨k, hk, rfl, rfl, hb2⟩ := hrel
        have hz2 := hb2.size
        have k0' : (0 : Int) ≤ (k : Int) := Int.natCast_nonneg _
        by_cases hkl : k < L.length
        · have k1 : (k : Int) < (L.length : Int) := by omega
          obtain ⟨hcr, hfr⟩ := bcell (hbr.trans (hb2.mono hbr.size))
          obtain ⟨b, off, rfl, e1, e2, e3, e4⟩ := X.out k hkl
          have f2 := (hcr b (off + k * 3) e1).trans e2
          have f3 := (hcr b (off + k * 3 + 1) e1).trans e3
          have f4 := (hcr b (off + k * 3 + 2) e1).trans e4
          have u1 : b < wr.heap.size := by omega
          have HN := Lib.hid (fits_next (h := h) (m := (n : Int)) hkl)
          have hq := all3_at HOK.out hkl
          clear e2 e3 e4 hcr hfr
          generalize L.getD k (0, 0, 0) = t at *
          obtain ⟨x, y, z⟩ := t
          simp only at f2 f3 f4
          have HC := Lib.hid (fun W => pzFits_any h n x y z hh ⟨n0', hlt⟩ hq W)
          clear hq
          generalize fitB h n (x, y, z) = s at *
          cases hs : fitsAll h (L.take k) n
          · have HQ : Hid (false = fitsAll h (L.take (k + 1)) n) := Lib.hid (by rw [HN.out, hs]; rfl)
            clear hs HN
            go_wp2
            go_roundw
            case rel => exact ⟨k + 1, by omega, by go_num, by rw [← HQ.out], by (repeat' (first | (with_reducible exact Below.refl _ _) | (with_reducible assumption) | (with_reducible refine Below.alloc ?_ ?_ _) | (with_reducible refine Below.drew ?_) | (with_reducible refine below_drewN ?_ _) | (with_reducible refine Below.setCell ?_ ?_ _) | (with_reducible refine below_call ?_ ?_ (by assumption)) | go_size))⟩
            case measure => simp [intOf]; omega
          · have HQ : Hid (s = fitsAll h (L.take (k + 1)) n) := Lib.hid (by rw [HN.out, hs]; rfl)
            clear hs HN
            go_wp2_with fail
            refine (HC.out _).mono ?_
            rintro e2 w2 ⟨rfl, hbc⟩
            go_wp2
            go_roundw
            case rel => exact ⟨k + 1, by omega, by go_num, by rw [← HQ.out], by (repeat' (first | (with_reducible exact Below.refl _ _) | (with_reducible assumption) | (with_reducible refine Below.alloc ?_ ?_ _) | (with_reducible refine Below.drew ?_) | (with_reducible refine below_drewN ?_ _) | (with_reducible refine Below.setCell ?_ ?_ _) | (with_reducible refine below_call ?_ ?_ (by assumption)) | go_size))⟩
            case measure => simp [intOf]; omega
        · obtain rfl : k = L.length := by omega
          rw [List.take_length]
          have HR2 : Hid (wr.ownsRow w.heap.size 3 1 (.slice qa (solN h L n).length qc) (solN h L n).length (ints (solN h L n))) := Lib.hid (HR.out.below hb2)
          have hbw : Below w.heap.size w wr := hbr.trans (hb2.mono hbr.size)
          have HLT : ∀ j, (Value.slice qa (solN h L n).length qc).ownBlock = some j → w.heap.size ≤ j := fun j hj => (World.ownsRow.lt HR2.out j hj).1
          clear HR X
          cases hs : fitsAll h L n
          · have HQ := Lib.hid (solN_no hs)
            clear hs
            generalize solN h L n = S at *
            go_wp2
            go_roundw
            case rel => exact ⟨n + 1, by omega, by go_num, by rw [HQ.out]; exact HR2.out, hbw⟩
            case measure => simp [intOf]; omega
          · have HQ := Lib.hid (solN_yes hs)
            clear hs
            generalize solN h L n = S at *
            go_wp2_with (at_builtin; refine wpList_append_lies _ rfl _ _ _ rfl (w.heap.size) 3 i0 _ 1 8 Try.underlying42 I0.out Z0.out Z1.out Z2.out rfl (by omega) (.slice qa S.length qc) (S.length) _ rfl (World.ownsRow.alloc HR2.out _) ⟨wr.heap.size, 0, none⟩ 1 1 [.int .i64 (n : Int)] rfl rfl (World.news_of_block (cs := #[.int .i64 (n : Int)]) (t := 3) (fr := (0, 0)) (by simpa using heap_alloc_new wr _)) (by simp [Value.oneCell']) (by omega) (by unfold maxLen; omega) (by omega) (by simp; omega) (wr.heap.size + 1) (by simp) ?_; intro g cap w3 hown3 hgrow hat hlt3)
            have hb3 : Below w.heap.size w w3 := Below.grown (w := wr.alloc (.cells #[.int .i64 (n : Int)] 3)) (by (repeat' (first | (with_reducible exact Below.refl _ _) | (with_reducible assumption) | (with_reducible refine Below.alloc ?_ ?_ _) | (with_reducible refine Below.drew ?_) | (with_reducible refine below_drewN ?_ _) | (with_reducible refine Below.setCell ?_ ?_ _) | (with_reducible refine below_call ?_ ?_ (by assumption)) | go_size))) hgrow (by simp; omega) HLT
            have OWN := Lib.hid hown3
            clear hown3 hgrow hat
            go_wp2
            go_roundw
            case rel =>
              refine ⟨n + 1, by omega, by go_num, ?_, hb3⟩
              rw [HQ.out]
              unfold IRow
              rw [ints_snoc, List.length_append]
              exact OWN.out
            case measure => simp [intOf]; omega
    · have HE : Hid (solN h L n = sol h L) := Lib.hid (by unfold sol; rw [show n = (60 * h).toNat by omega])
      go_wp2
      go_ret
      exact ⟨_, rfl, by rw [← HE.out]; exact HR.out, hbr⟩
set_option maxHeartbeats 400000 in
theorem notFits_any (h m k a b : Int) (g1 g2 : Nat) (hh : 2 ≤ h ∧ h ≤ 24) (hm : 0 ≤ m ∧ m < 60 * h) (hok : okC h (k, a, b) = true) (w : World) (c1 : w.cell? ⟨g1, 0, none⟩ = some (.int .i64 h)) (c2 : w.cell? ⟨g2, 0, none⟩ = some (.int .i64 m)) (l1 : g1 < w.heap.size) (l2 : g2 < w.heap.size) :
    Calls Try.prog 124 #[kv k a b, .pointer (some ⟨g1, 0, none⟩), .pointer (some ⟨g2, 0, none⟩)] w fun e w' => e = .returned (.bool (!fitB h m (k, a, b))) ∧ Below w.heap.size w w' := by
  have HC := Lib.hid (fun W => fit_any h m k a b hh hm (fun e => by subst e; exact (okC_one hok).1) W)
  generalize fitB h m (k, a, b) = s at *
  clear hok
  (go_enter Try.func124, Try.ntmps124)
  go_wp2_with fail
  refine (HC.out _).mono ?_
  (rintro e1 w1 ⟨rfl, hb1⟩; obtain ⟨hc1, hf1⟩ := bcell hb1; have hz1 := hb1.size; (try simp only [World.size_alloc, World.size_setCell, World.size_drew] at hz1); have q1 : w.heap.size ≤ w1.heap.size := (by omega); (try have q1_0 : w.heap.size < w1.heap.size := (by omega)); (try have q1_1 : w.heap.size + 1 < w1.heap.size := (by omega)); (try have q1_2 : w.heap.size + 2 < w1.heap.size := (by omega)); (try have q1_3 : w.heap.size + 3 < w1.heap.size := (by omega)))
  go_wp2
  go_ret
  exact ⟨rfl, by (repeat' (first | (with_reducible exact Below.refl _ _) | (with_reducible assumption) | (with_reducible refine Below.alloc ?_ ?_ _) | (with_reducible refine Below.drew ?_) | (with_reducible refine below_drewN ?_ _) | (with_reducible refine Below.setCell ?_ ?_ _) | (with_reducible refine below_call ?_ ?_ (by assumption)) | go_size))⟩
theorem fits_fail {h m : Int} {L : List (Int × Int × Int)} {k : Nat} (hk : k < L.length) (hp : fitB h m (L.getD k (0, 0, 0)) = false) : fitsAll h L m = false := by
  unfold fitsAll
  exact all3_fail hk hp
set_option maxHeartbeats 1600000 in
theorem indexNot_any (h m : Int) (a : Option Addr) (c : Nat) (L : List (Int × Int × Int)) (g1 g2 : Nat) (hh : 2 ≤ h ∧ h ≤ 24) (hm : 0 ≤ m ∧ m < 60 * h) (hok : L.all (okC h) = true) (hl : L.length ≤ 1048576) (w : World) (hin : CIn w a L) (c1 : w.cell? ⟨g1, 0, none⟩ = some (.int .i64 h)) (c2 : w.cell? ⟨g2, 0, none⟩ = some (.int .i64 m)) (l1 : g1 < w.heap.size) (l2 : g2 < w.heap.size) :
    Calls Try.prog 130 #[.slice a L.length c, .func (.func 124) #[] #[.pointer (some ⟨g1, 0, none⟩), .pointer (some ⟨g2, 0, none⟩)]] w fun e w' => ∃ i : Int, e = .returned (.int .i64 i) ∧ -1 ≤ i ∧ i ≤ 1048576 ∧ fitsAll h L m = !decide (0 ≤ i) ∧ Below w.heap.size w w' := by
  have X := Lib.hid hin
  have HOK := Lib.hid hok
  clear hin hok
  (go_enter Try.func130, Try.ntmps130)
  go_wp2
  go_loopw [8] (fun i wr => ∃ k : Nat, k ≤ L.length ∧ i = .int .i64 k ∧ fitsAll h (L.take k) m = true ∧ Below w.heap.size w wr) (fun i _ => L.length - (intOf i).toNat)
  case atStart => exact ⟨0, Nat.zero_le _, rfl, by simp [fitsAll], Below.refl _ _⟩
  case round =>
    obtain ⟨k, hk, rfl, hall, hbr⟩ := hrel
    have HA := Lib.hid hall
    clear hall
    obtain ⟨hcr, hfr⟩ := bcell hbr
    have hzr := hbr.size
    have i0 : (0 : Int) ≤ (k : Int) := Int.natCast_nonneg _
    by_cases hlt : k < L.length
    · obtain ⟨b, off, rfl, e1, e2, e3, e4⟩ := X.out k hlt
      have k1 : (k : Int) < (L.length : Int) := by omega
      have u1 : b < wr.heap.size := by omega
      have u2 : g1 < wr.heap.size := by omega
      have u3 : g2 < wr.heap.size := by omega
      have f2 := (hcr b (off + k * 3) e1).trans e2
      have f3 := (hcr b (off + k * 3 + 1) e1).trans e3
      have f4 := (hcr b (off + k * 3 + 2) e1).trans e4
      have v1 := (hcr _ _ l1).trans c1
      have v2 := (hcr _ _ l2).trans c2
      have HN := Lib.hid (fits_next (h := h) (m := m) hlt)
      have HF : Hid (fitB h m (L.getD k (0, 0, 0)) = false → fitsAll h L m = false) := Lib.hid (fun hx => fits_fail hlt hx)
      have hq := all3_at HOK.out hlt
      clear e2 e3 e4 hcr hfr
      generalize L.getD k (0, 0, 0) = t at *
      obtain ⟨x, y, z⟩ := t
      simp only at f2 f3 f4
      have HC := Lib.hid (notFits_any h m x y z g1 g2 hh hm hq wr v1 v2 u2 u3)
      clear hq
      cases hs : fitB h m (x, y, z)
      · rw [hs] at HC
        have HQ := Lib.hid (HF.out hs)
        clear hs HN
        go_wp2_with fail
        refine HC.out.mono ?_
        rintro e2' w2 ⟨rfl, hb2⟩
        go_wp2
        go_ret
        exact ⟨k, rfl, by omega, by omega, by rw [HQ.out]; simp, hbr.trans (hb2.mono hzr)⟩
      · rw [hs] at HC
        have HQ : Hid (fitsAll h (L.take (k + 1)) m = true) := Lib.hid (by rw [HN.out, HA.out, hs]; rfl)
        clear hs HN
        go_wp2_with fail
        refine HC.out.mono ?_
        rintro e2' w2 ⟨rfl, hb2⟩
        go_wp2
        go_roundw
        case rel => exact ⟨k + 1, by omega, by go_num, HQ.out, hbr.trans (hb2.mono hzr)⟩
        case measure => simp [intOf]; omega
    · have HE : Hid (fitsAll h L m = true) := Lib.hid (by have := HA.out; rwa [show k = L.length by omega, List.take_length] at this)
      go_wp2
      go_ret
      exact ⟨-1, rfl, by omega, by omega, by rw [HE.out]; rfl, hbr⟩
set_option maxHeartbeats 800000 in
theorem isSolution_any (h m : Int) (a : Option Addr) (c : Nat) (L : List (Int × Int × Int)) (hh : 2 ≤ h ∧ h ≤ 24) (hm : 0 ≤ m ∧ m < 60 * h) (hok : L.all (okC h) = true) (hl : L.length ≤ 1048576) (w : World) (hin : CIn w a L) :
    Calls Try.prog 110 #[pzv h (.slice a L.length c), .int .i64 m] w fun e w' => e = .returned (.bool (fitsAll h L m)) ∧ Below w.heap.size w w' := by
  have hmf : ∀ (fn : Fn) (first cap : Array Value) (w : World), (Instr.makeFunc fn first cap).run Try.prog w = .ok (.func fn first cap) w := fun _ _ _ _ => rfl
  have HC := Lib.hid (fun W (hb : Below w.heap.size w W) => indexNot_any h m a c L w.heap.size (w.heap.size + 1) hh hm hok hl W (hin.below hb))
  clear hin hok
  (go_enter Try.func110, Try.ntmps110)
  go_wp2_with (go_at_call 123; go_in)
  go_wp2_with fail
  refine (HC.out _ (by (repeat' (first | (with_reducible exact Below.refl _ _) | (with_reducible assumption) | (with_reducible refine Below.alloc ?_ ?_ _) | (with_reducible refine Below.drew ?_) | (with_reducible refine below_drewN ?_ _) | (with_reducible refine Below.setCell ?_ ?_ _) | (with_reducible refine below_call ?_ ?_ (by assumption)) | go_size))) (by go_simp) (by go_simp) (by go_size) (by go_size)).mono ?_
  rintro e1 w1 ⟨i, rfl, i1, i2, hall, hb1⟩
  have HE : Hid ((!decide (0 ≤ i)) = fitsAll h L m) := Lib.hid hall.symm
  clear hall
  have hz1 := hb1.size
  simp only [World.size_alloc] at hz1
  go_wp2
  go_ret
  exact ⟨zret_bool HE.out, by (repeat' (first | (with_reducible exact Below.refl _ _) | (with_reducible assumption) | (with_reducible refine Below.alloc ?_ ?_ _) | (with_reducible refine Below.drew ?_) | (with_reducible refine below_drewN ?_ _) | (with_reducible refine Below.setCell ?_ ?_ _) | (with_reducible refine below_call ?_ ?_ (by assumption)) | go_size))⟩
set_option maxHeartbeats 1600000 in
theorem solutions_any (h : Int) (a : Option Addr) (c : Nat) (L : List (Int × Int × Int)) (hh : 2 ≤ h ∧ h ≤ 24) (hok : L.all (okC h) = true) (hl : L.length ≤ 1048576) (w : World) (hin : CIn w a L) :
    Calls Try.prog 76 #[pzv h (.slice a L.length c)] w fun e w' => ∃ v, e = .returned v ∧ IRow w' w.heap.size v (sol h L) ∧ Below w.heap.size w w' := by
  obtain ⟨i0, hi0, hz0, hz1, hz2⟩ := info_parts Try.infoInt
  have I0 := Lib.hid hi0
  have Z0 := Lib.hid hz0
  have Z1 := Lib.hid hz1
  have Z2 := Lib.hid hz2
  clear hi0 hz0 hz1 hz2
  have HC := Lib.hid (fun (n : Nat) (hn : (n : Int) < 60 * h) W (hb : Below w.heap.size w W) => isSolution_any h n a c L hh ⟨by omega, hn⟩ hok hl W (hin.below hb))
  clear hin hok
  have f0 := zw64 (n := 60 * h) (by omega)
  (go_enter Try.func76, Try.ntmps76)
  go_wp2
  go_loopw [3, 8] (fun q i wr => ∃ (n : Nat), (n : Int) ≤ 60 * h ∧ i = .int .i64 n ∧ IRow wr w.heap.size q (solN h L n) ∧ wr.cell? ⟨w.heap.size, 0, none⟩ = some (.int .i64 h) ∧ wr.cell? ⟨w.heap.size, 1, none⟩ = some (.slice a L.length c) ∧ w.heap.size + 1 ≤ wr.heap.size ∧ (∀ j, q.ownBlock = some j → w.heap.size + 1 ≤ j) ∧ Below w.heap.size w wr) (fun _ i _ => (60 * h).toNat - (intOf i).toNat)
  case atStart => exact ⟨0, by omega, rfl, by simpa [solN] using IRow.nil _ _, by go_simp, by go_simp, by go_size, (fun j hj => by cases hj), by (repeat' (first | (with_reducible exact Below.refl _ _) | (with_reducible assumption) | (with_reducible refine Below.alloc ?_ ?_ _) | (with_reducible refine Below.drew ?_) | (with_reducible refine below_drewN ?_ _) | (with_reducible refine Below.setCell ?_ ?_ _) | (with_reducible refine below_call ?_ ?_ (by assumption)) | go_size))⟩
  case round =>
    obtain ⟨n, hn, rfl, hrow, c0, c1, hz3, hnb, hbr⟩ := hrel
    have HR := Lib.hid hrow
    obtain ⟨qa, qc, rfl, -, -, -⟩ := hrow.cells
    clear hrow
    have n0' : (0 : Int) ≤ (n : Int) := Int.natCast_nonneg _
    have hzr := hbr.size
    have hsl := solN_len h L n
    have p0 : w.heap.size < wr.heap.size := by omega
    have HNB := Lib.hid hnb
    clear hnb
    by_cases hlt : (n : Int) < 60 * h
    · have HC2 := Lib.hid (HC.out n hlt)
      cases hs : fitsAll h L n
      · have HQ := Lib.hid (solN_no hs)
        rw [hs] at HC2
        clear hs
        generalize solN h L n = S at *
        go_wp2_with fail
        refine (HC2.out _ hbr).mono ?_
        rintro e1 w1 ⟨rfl, hb1⟩
        obtain ⟨hc1, hf1⟩ := bcell hb1
        have hz1 := hb1.size
        have v0 := (hc1 _ _ p0).trans c0
        have v1 := (hc1 _ _ p0).trans c1
        have HR2 := Lib.hid (HR.out.below hb1)
        clear hc1 hf1
        go_wp2
        go_roundw
        case rel => exact ⟨n + 1, by omega, by go_num, by rw [HQ.out]; exact HR2.out, v0, v1, by omega, HNB.out, hbr.trans (hb1.mono hbr.size)⟩
        case measure => simp [intOf]; omega
      · have HQ := Lib.hid (solN_yes hs)
        rw [hs] at HC2
        clear hs
        generalize solN h L n = S at *
        go_wp2_with fail
        refine (HC2.out _ hbr).mono ?_
        rintro e1 w1 ⟨rfl, hb1⟩
        obtain ⟨hc1, hf1⟩ := bcell hb1
        have hz1 := hb1.size
        have v0 := (hc1 _ _ p0).trans c0
        have v1 := (hc1 _ _ p0).trans c1
        have HR2 : Hid (w1.ownsRow w.heap.size 3 1 (.slice qa S.length qc) S.length (ints S)) := Lib.hid (HR.out.below hb1)
        have hbw : Below w.heap.size w w1 := hbr.trans (hb1.mono hbr.size)
        have HLT : ∀ j, (Value.slice qa S.length qc).ownBlock = some j → w.heap.size ≤ j := fun j hj => (World.ownsRow.lt HR2.out j hj).1
        clear hc1 hf1 c0 c1 HR
        obtain ⟨wq, rfl⟩ : ∃ wq, wq = w1 := ⟨_, rfl⟩
        go_wp2_with (at_builtin; refine wpList_append_lies _ rfl _ _ _ rfl (w.heap.size) 3 i0 _ 1 8 Try.underlying42 I0.out Z0.out Z1.out Z2.out rfl (by omega) (.slice qa S.length qc) (S.length) _ rfl (World.ownsRow.alloc HR2.out _) ⟨wq.heap.size, 0, none⟩ 1 1 [.int .i64 (n : Int)] rfl rfl (World.news_of_block (cs := #[.int .i64 (n : Int)]) (t := 3) (fr := (0, 0)) (by simpa using heap_alloc_new wq _)) (by simp [Value.oneCell']) (by omega) (by unfold maxLen; omega) (by omega) (by simp; omega) (wq.heap.size + 1) (by simp) ?_; intro g cap w3 hown3 hgrow hat hlt3)
        have hb3 : Below w.heap.size w w3 := Below.grown (w := wq.alloc (.cells #[.int .i64 (n : Int)] 3)) (by (repeat' (first | (with_reducible exact Below.refl _ _) | (with_reducible assumption) | (with_reducible refine Below.alloc ?_ ?_ _) | (with_reducible refine Below.drew ?_) | (with_reducible refine below_drewN ?_ _) | (with_reducible refine Below.setCell ?_ ?_ _) | (with_reducible refine below_call ?_ ?_ (by assumption)) | go_size))) hgrow (by simp; omega) HLT
        have hz4 := hgrow.size
        simp only [World.size_alloc] at hz4
        have hne : ∀ j, (Value.slice qa S.length qc).ownBlock = some j → w.heap.size ≠ j := fun j hj => by have := HNB.out j hj; omega
        have kc : ∀ o, w3.cell? ⟨w.heap.size, o, none⟩ = wq.cell? ⟨w.heap.size, o, none⟩ := fun o => (cell_of_heap (hgrow.block _ (by simp; omega) (fun e => hne _ e.symm rfl))).trans (World.cell?_alloc_past _ _ _ (by omega))
        have v3 := (kc 0).trans v0
        have v4 := (kc 1).trans v1
        have OWN := Lib.hid hown3
        have HAT := Lib.hid hat
        clear hown3 hgrow hat kc v0 v1
        go_wp2
        go_roundw
        case rel =>
          refine ⟨n + 1, by omega, by go_num, ?_, v3, v4, by omega, fun j hj => ?_, hb3⟩
          · rw [HQ.out]
            unfold IRow
            rw [ints_snoc, List.length_append]
            exact OWN.out
          · have hj' : g = j := by simpa [Value.ownBlock] using hj
            subst hj'
            rcases HAT.out with h1 | h1
            · exact HNB.out _ h1
            · omega
        case measure => simp [intOf]; omega
    · have HE : Hid (solN h L n = sol h L) := Lib.hid (by unfold sol; rw [show n = (60 * h).toNat by omega])
      go_wp2
      go_ret
      exact ⟨_, rfl, by rw [← HE.out]; exact HR.out, hbr⟩

end Go.Proofs.Ytcpgjjmamclklaa
