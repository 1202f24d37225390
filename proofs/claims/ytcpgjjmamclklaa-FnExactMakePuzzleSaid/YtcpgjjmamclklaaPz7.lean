/- Puzzles: which there are: by the program and by the model. -/
import Derived.Test.YtcpgjjmamclklaaPz3
set_option linter.unusedSimpArgs false
set_option linter.unusedVariables false
set_option maxRecDepth 100000
namespace Go.Proofs.Ytcpgjjmamclklaa
open Go.RowKit

set_option maxHeartbeats 1600000 in
theorem pzGood_is {r : Bool} (h : Int) (a : Option Addr) (c : Nat) (L : List (Int × Int × Int)) (hm : L.length ≤ maxLen) (hr : okZ h L = r) (w : World) (hin : CIn w a L) :
    Calls Try.prog 66 #[pzv h (.slice a L.length c)] w fun e w' => e = .returned (.bool r) ∧ Below w.heap.size w w' := by
  subst hr
  have X := Lib.hid hin
  clear hin
  unfold maxLen at hm
  cases ga : inB h 2 24
  · have HM := Lib.hid (show false = okZ h L from by simp [okZ, ga])
    (go_enter Try.func66, Try.ntmps66)
    go_wp2_with fail
    refine (zHours_is _ ga _).mono ?_
    (rintro e1 w1 ⟨rfl, rfl⟩)
    go_wp2
    go_ret
    exact ⟨zret_bool HM.out, by (repeat' (first | (with_reducible exact Below.refl _ _) | (with_reducible assumption) | (with_reducible refine Below.alloc ?_ ?_ _) | (with_reducible refine Below.drew ?_) | (with_reducible refine below_drewN ?_ _) | (with_reducible refine Below.setCell ?_ ?_ _) | (with_reducible refine below_call ?_ ?_ (by assumption)) | go_size))⟩
  · have hh := inB_bd ga
    by_cases hl : L.length ≤ 6
    · have hl' : ¬ (6 : Int) < (L.length : Int) := by omega
      have HZ : Hid (L.all (okC h) = true → true = okZ h L) := Lib.hid (fun hx => by simp [okZ, ga, hl, hx])
      (go_enter Try.func66, Try.ntmps66)
      go_wp2_with fail
      refine (zHours_is _ ga _).mono ?_
      (rintro e1 w1 ⟨rfl, rfl⟩)
      go_wp2
      go_loopw [18] (fun i wr => ∃ k : Nat, k ≤ L.length ∧ i = .int .i64 k ∧ (L.take k).all (okC h) = true ∧ wr.cell? ⟨w.heap.size, 0, none⟩ = some (.int .i64 h) ∧ w.heap.size + 1 ≤ wr.heap.size ∧ Below w.heap.size w wr) (fun i _ => L.length - (intOf i).toNat)
      case atStart => exact ⟨0, Nat.zero_le _, rfl, by simp, by go_simp, by go_size, by (repeat' (first | (with_reducible exact Below.refl _ _) | (with_reducible assumption) | (with_reducible refine Below.alloc ?_ ?_ _) | (with_reducible refine Below.drew ?_) | (with_reducible refine below_drewN ?_ _) | (with_reducible refine Below.setCell ?_ ?_ _) | (with_reducible refine below_call ?_ ?_ (by assumption)) | go_size))⟩
      case round =>
        obtain ⟨k, hk, rfl, hall, c0, hz3, hbr⟩ := hrel
        have HA := Lib.hid hall
        clear hall
        obtain ⟨hcr, hfr⟩ := bcell hbr
        have k0' : (0 : Int) ≤ (k : Int) := Int.natCast_nonneg _
        have p0 : w.heap.size < wr.heap.size := by omega
        by_cases hlt : k < L.length
        · have k1 : (k : Int) < (L.length : Int) := by omega
          obtain ⟨b, off, rfl, e1, e2, e3, e4⟩ := X.out k hlt
          have f2 := (hcr b (off + k * 3) e1).trans e2
          have f3 := (hcr b (off + k * 3 + 1) e1).trans e3
          have f4 := (hcr b (off + k * 3 + 2) e1).trans e4
          have u1 : b < wr.heap.size := by omega
          have HN : Hid (okC h (L.getD k (0, 0, 0)) = true → (L.take (k + 1)).all (okC h) = true) := Lib.hid (fun hx => all3_next hlt HA.out hx)
          have HF : Hid (okC h (L.getD k (0, 0, 0)) = false → false = okZ h L) := Lib.hid (fun hx => by unfold okZ; rw [all3_fail hlt hx]; simp)
          clear e2 e3 e4 hcr hfr
          generalize L.getD k (0, 0, 0) = t at *
          obtain ⟨x, y, z⟩ := t
          simp only at f2 f3 f4
          cases hq : okC h (x, y, z)
          · have HQ := Lib.hid (HF.out hq)
            have HC := Lib.hid (fun W => pzClue_is x y z h hh hq W)
            clear HN hq
            go_wp2_with fail
            refine (HC.out _).mono ?_
            rintro e2 w2 ⟨rfl, hb2⟩
            go_wp2
            go_ret
            exact ⟨zret_bool HQ.out, by (repeat' (first | (with_reducible exact Below.refl _ _) | (with_reducible assumption) | (with_reducible refine Below.alloc ?_ ?_ _) | (with_reducible refine Below.drew ?_) | (with_reducible refine below_drewN ?_ _) | (with_reducible refine Below.setCell ?_ ?_ _) | (with_reducible refine below_call ?_ ?_ (by assumption)) | go_size))⟩
          · have HQ := Lib.hid (HN.out hq)
            have HC := Lib.hid (fun W => pzClue_is x y z h hh hq W)
            clear HF hq
            go_wp2_with fail
            refine (HC.out _).mono ?_
            rintro e2 w2 ⟨rfl, hb2⟩
            obtain ⟨hc2, hf2⟩ := bcell hb2
            have hz2 := hb2.size
            simp only [World.size_alloc] at hz2
            have v0 : w2.cell? ⟨w.heap.size, 0, none⟩ = some (.int .i64 h) := (hc2 _ _ (by go_size)).trans (by go_simp)
            go_wp2
            go_roundw
            case rel => exact ⟨k + 1, by omega, by go_num, HQ.out, v0, by omega, by (repeat' (first | (with_reducible exact Below.refl _ _) | (with_reducible assumption) | (with_reducible refine Below.alloc ?_ ?_ _) | (with_reducible refine Below.drew ?_) | (with_reducible refine below_drewN ?_ _) | (with_reducible refine Below.setCell ?_ ?_ _) | (with_reducible refine below_call ?_ ?_ (by assumption)) | go_size))⟩
            case measure => simp [intOf]; omega
        · obtain rfl : k = L.length := by omega
          have HQ := Lib.hid (HZ.out (by have := HA.out; rwa [List.take_length] at this))
          clear HA hcr hfr
          go_wp2
          go_ret
          exact ⟨zret_bool HQ.out, by (repeat' (first | (with_reducible exact Below.refl _ _) | (with_reducible assumption) | (with_reducible refine Below.alloc ?_ ?_ _) | (with_reducible refine Below.drew ?_) | (with_reducible refine below_drewN ?_ _) | (with_reducible refine Below.setCell ?_ ?_ _) | (with_reducible refine below_call ?_ ?_ (by assumption)) | go_size))⟩
    · have hl' : (6 : Int) < (L.length : Int) := by omega
      have HM := Lib.hid (show false = okZ h L from by simp [okZ, hl])
      (go_enter Try.func66, Try.ntmps66)
      go_wp2_with fail
      refine (zHours_is _ ga _).mono ?_
      (rintro e1 w1 ⟨rfl, rfl⟩)
      go_wp2
      go_ret
      exact ⟨zret_bool HM.out, by (repeat' (first | (with_reducible exact Below.refl _ _) | (with_reducible assumption) | (with_reducible refine Below.alloc ?_ ?_ _) | (with_reducible refine Below.drew ?_) | (with_reducible refine below_drewN ?_ _) | (with_reducible refine Below.setCell ?_ ?_ _) | (with_reducible refine below_call ?_ ?_ (by assumption)) | go_size))⟩
theorem CIn.up {w w' : World} {a : Option Addr} {L : List (Int × Int × Int)} (h : CIn w a L) (hb : Below w.heap.size w w') : CIn w' a L := h.below hb
set_option maxHeartbeats 400000 in
theorem specIsPuzzle_any (h : Int) (a : Option Addr) (c : Nat) (L : List (Int × Int × Int)) (hm : L.length ≤ maxLen) (w : World) (hin : CIn w a L) :
    Calls Try.prog 22 #[pzv h (.slice a L.length c)] w fun e w' => e = .returned (.bool (okZ h L)) ∧ Below w.heap.size w w' := by
  have HC := Lib.hid (fun W (hb : Below w.heap.size w W) => pzGood_is h a c L hm rfl W (hin.below hb))
  clear hin
  (go_enter Try.func22, Try.ntmps22)
  go_wp2_with fail
  refine (HC.out _ (by (repeat' (first | (with_reducible exact Below.refl _ _) | (with_reducible assumption) | (with_reducible refine Below.alloc ?_ ?_ _) | (with_reducible refine Below.drew ?_) | (with_reducible refine below_drewN ?_ _) | (with_reducible refine Below.setCell ?_ ?_ _) | (with_reducible refine below_call ?_ ?_ (by assumption)) | go_size)))).mono ?_
  (rintro e1 w1 ⟨rfl, hb1⟩; obtain ⟨hc1, hf1⟩ := bcell hb1; have hz1 := hb1.size; (try simp only [World.size_alloc, World.size_setCell, World.size_drew] at hz1); have q1 : w.heap.size ≤ w1.heap.size := (by omega); (try have q1_0 : w.heap.size < w1.heap.size := (by omega)); (try have q1_1 : w.heap.size + 1 < w1.heap.size := (by omega)); (try have q1_2 : w.heap.size + 2 < w1.heap.size := (by omega)); (try have q1_3 : w.heap.size + 3 < w1.heap.size := (by omega)))
  go_wp2
  go_ret
  exact ⟨rfl, by (repeat' (first | (with_reducible exact Below.refl _ _) | (with_reducible assumption) | (with_reducible refine Below.alloc ?_ ?_ _) | (with_reducible refine Below.drew ?_) | (with_reducible refine below_drewN ?_ _) | (with_reducible refine Below.setCell ?_ ?_ _) | (with_reducible refine below_call ?_ ?_ (by assumption)) | go_size))⟩
set_option maxHeartbeats 400000 in
theorem implIsPuzzle_any (h : Int) (a : Option Addr) (c : Nat) (L : List (Int × Int × Int)) (hm : L.length ≤ maxLen) (w : World) (hin : CIn w a L) :
    Calls Try.prog 24 #[pzv h (.slice a L.length c)] w fun e w' => e = .returned (.bool (okZ h L)) ∧ Below w.heap.size w w' := by
  have HC := Lib.hid (fun W (hb : Below w.heap.size w W) => openPuzzle_any h a c L hm W (hin.below hb))
  clear hin
  (go_enter Try.func24, Try.ntmps24)
  go_wp2_with fail
  refine (HC.out _ (by (repeat' (first | (with_reducible exact Below.refl _ _) | (with_reducible assumption) | (with_reducible refine Below.alloc ?_ ?_ _) | (with_reducible refine Below.drew ?_) | (with_reducible refine below_drewN ?_ _) | (with_reducible refine Below.setCell ?_ ?_ _) | (with_reducible refine below_call ?_ ?_ (by assumption)) | go_size)))).mono ?_
  rintro e1 w1 ⟨hb1, ⟨hok, v, rfl, hr⟩ | ⟨hok, rfl⟩⟩
  · have HM := Lib.hid hok.symm
    have hz1 := hb1.size
    simp only [World.size_alloc] at hz1
    obtain ⟨a1, c1, rfl, -⟩ := hr.inn
    clear hr hok
    go_wp2
    go_ret
    exact ⟨zret_bool HM.out, by (repeat' (first | (with_reducible exact Below.refl _ _) | (with_reducible assumption) | (with_reducible refine Below.alloc ?_ ?_ _) | (with_reducible refine Below.drew ?_) | (with_reducible refine below_drewN ?_ _) | (with_reducible refine Below.setCell ?_ ?_ _) | (with_reducible refine below_call ?_ ?_ (by assumption)) | go_size))⟩
  · have HM := Lib.hid hok.symm
    have hz1 := hb1.size
    simp only [World.size_alloc] at hz1
    clear hok
    go_wp2
    go_ret
    exact ⟨zret_bool HM.out, by (repeat' (first | (with_reducible exact Below.refl _ _) | (with_reducible assumption) | (with_reducible refine Below.alloc ?_ ?_ _) | (with_reducible refine Below.drew ?_) | (with_reducible refine below_drewN ?_ _) | (with_reducible refine Below.setCell ?_ ?_ _) | (with_reducible refine below_call ?_ ?_ (by assumption)) | go_size))⟩
end Go.Proofs.Ytcpgjjmamclklaa
