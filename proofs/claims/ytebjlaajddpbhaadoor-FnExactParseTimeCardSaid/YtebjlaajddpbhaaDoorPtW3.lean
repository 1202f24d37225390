/- Numbers read by the program: strconv.Atoi, and the seconds of a text. -/
import Derived.Test.YtebjlaajddpbhaaDoorPtM2
import Derived.Test.YtebjlaajddpbhaaDoorPtW1
import Derived.Test.YtebjlaajddpbhaaDoorPtW2
import Derived.Test.YtebjlaajddpbhaaDoorText3
set_option linter.unusedSimpArgs false
set_option linter.unusedVariables false
set_option maxRecDepth 100000
namespace Go.Proofs.YtebjlaajddpbhaaDoor
open Go.RowKit

/-- The two errors of strconv lie in the world. -/
def Errs (w : World) : Prop := (∃ te pe, w.cell? ⟨1, 0, none⟩ = some (.iface te pe)) ∧ (∃ te pe, w.cell? ⟨2, 0, none⟩ = some (.iface te pe))
theorem Errs.below {w w' : World} (h : Errs w) (hb : Below w.heap.size w w') : Errs w' := by
  obtain ⟨⟨t1, p1, h1⟩, t2, p2, h2⟩ := h
  exact ⟨⟨t1, p1, (hb.cell (show (⟨1, 0, none⟩ : Addr).block < w.heap.size from Lib.lt_of_cell h1)).trans h1⟩, t2, p2, (hb.cell (show (⟨2, 0, none⟩ : Addr).block < w.heap.size from Lib.lt_of_cell h2)).trans h2⟩
/-- The number that a text spells, if it spells one. -/
def atoiV (l : List UInt8) : Option Int := match Lib.atoiAll l with
  | .ok v => some v
  | _ => none
theorem atoi_yes (l : List UInt8) (v : Int) (h : atoiV l = some v) (hl : l.length ≤ 1048576) (w : World) :
    Calls Tryd.prog 40 #[str l] w fun e w' => e = .returned (.tuple #[.int .i64 v, .nilIface]) ∧ Below w.heap.size w w' := by
  have h' : Lib.atoiAll l = .ok v := by
    unfold atoiV at h
    split at h
    · rename_i v' e; rw [e]; injection h with h; rw [h]
    · cases h
  refine (Tryd.strconv_Atoi_ok ⟨l.toArray⟩ (by show l.toArray.size ≤ _; simp; omega) v (by simpa using h') w).mono fun e w' ⟨he, hw⟩ => ⟨he, ?_⟩
  rcases hw with rfl | ⟨t, rfl⟩
  · exact Below.refl _ _
  · exact Lib.bytesWorld_below _ _ _
theorem atoi_no (l : List UInt8) (h : atoiV l = none) (hl : l.length ≤ 1048576) (w : World) (hE : Errs w) :
    Calls Tryd.prog 40 #[str l] w fun e w' => ∃ n t p, e = .returned (.tuple #[.int .i64 n, .iface t p]) ∧ Below w.heap.size w w' := by
  obtain ⟨⟨t1, p1, h1⟩, t2, p2, h2⟩ := hE
  have hsz : (⟨l.toArray⟩ : ByteArray).size ≤ 281474976710656 := by show l.toArray.size ≤ _; simp; omega
  rcases hr : Lib.atoiAll l with v | _ | _
  · unfold atoiV at h; rw [hr] at h; cases h
  · refine (Tryd.strconv_Atoi_syntax ⟨l.toArray⟩ hsz (by simpa using hr) _ w h1 (.inr ⟨_, _, rfl⟩)).mono fun e w' ⟨N, he, _, _, hb⟩ => ⟨_, _, _, he, hb⟩
  · refine (Tryd.strconv_Atoi_range ⟨l.toArray⟩ hsz (by simpa using hr) _ w h2 (.inr ⟨_, _, rfl⟩)).mono fun e w' ⟨N, he, _, _, hb⟩ => ⟨_, _, _, he, hb⟩
theorem pu10_bd (l : List UInt8) : ∀ acc u : Nat, Lib.parseUint10 acc l = .ok u → u + 1 ≤ (acc + 1) * 10 ^ l.length := by
  induction l with
  | nil => intro acc u h; simp only [Lib.parseUint10] at h; injection h with h; simp; omega
  | cons c r ih =>
    intro acc u h
    rw [Lib.parseUint10] at h
    split at h
    · split at h
      · cases h
      · split at h
        · cases h
        · rename_i hc _ _
          refine Nat.le_trans (ih _ _ h) ?_
          rw [List.length_cons, Nat.pow_succ, Nat.mul_comm (10 ^ r.length) 10, ← Nat.mul_assoc]
          exact Nat.mul_le_mul_right _ (by omega)
    · cases h
theorem mag_bd {l : List UInt8} {u : Nat} (h : Lib.parseMag l = .ok u) (hl : l.length ≤ 2) : u ≤ 99 := by
  unfold Lib.parseMag at h
  split at h
  · cases h
  · have h1 := pu10_bd l 0 u h
    have h2 : 10 ^ l.length ≤ 10 ^ 2 := Nat.pow_le_pow_right (by omega) hl
    omega
theorem atoiV_two {l : List UInt8} {v : Int} (h : atoiV l = some v) (hl : l.length ≤ 2) : -99 ≤ v ∧ v ≤ 99 := by
  have h' : Lib.atoiAll l = .ok v := by
    unfold atoiV at h
    split at h
    · rename_i v' e; rw [e]; injection h with h; rw [h]
    · cases h
  match l, hl with
  | [], _ => cases h'
  | c :: r, hl =>
    by_cases h43 : c = 43
    · subst h43
      rw [Lib.atoiAll_plus] at h'
      cases hm : Lib.parseMag r with
      | ok u =>
        have := mag_bd hm (by simp at hl; omega)
        rw [hm, Lib.signless] at h'
        split at h'
        · cases h'
        · injection h' with h'; omega
      | _ => rw [hm] at h'; cases h'
    by_cases h45 : c = 45
    · subst h45
      rw [Lib.atoiAll_minus] at h'
      cases hm : Lib.parseMag r with
      | ok u =>
        have := mag_bd hm (by simp at hl; omega)
        rw [hm, Lib.signed] at h'
        split at h'
        · cases h'
        · injection h' with h'; omega
      | _ => rw [hm] at h'; cases h'
    · rw [Lib.atoiAll_plain c r (fun e => h43 (UInt8.toNat_inj.1 e)) (fun e => h45 (UInt8.toNat_inj.1 e))] at h'
      cases hm : Lib.parseMag (c :: r) with
      | ok u =>
        have := mag_bd hm hl
        rw [hm, Lib.signless] at h'
        split at h'
        · cases h'
        · injection h' with h'; omega
      | _ => rw [hm] at h'; cases h'
theorem secL_eq (s : List UInt8) : secL s = if s.length = 8 then (match atoiV (s.take 2), atoiV ((s.drop 3).take 2), atoiV (s.drop 6) with
    | some a, some b, some c => (a * 3600 + b * 60 + c, true)
    | _, _, _ => fail2) else fail2 := by
  unfold secL atoiV
  split
  · cases Lib.atoiAll (s.take 2) <;> cases Lib.atoiAll ((s.drop 3).take 2) <;> cases Lib.atoiAll (s.drop 6) <;> rfl
  · rfl
theorem run_head (l : List UInt8) (k : Nat) (h2 : k ≤ l.length) (p : List UInt8) (hp : p = l.take k) (W : World) :
    (Instr.slice 9 (.string ⟨l.toArray⟩) none (some (.int .i64 (k : Int))) none).run Tryd.prog W = .ok (str p) W := by
  rw [run_slice_string_h (w := W) (t := 9) (s := ⟨l.toArray⟩) (by kernel_rfl) .i64 k (by omega) (by show (k : Int) ≤ (l.toArray.size : Int); simp; omega)]
  have : (⟨l.toArray⟩ : ByteArray).extract 0 (k : Int).toNat = ⟨p.toArray⟩ := by
    apply ByteArray.ext
    rw [ByteArray.data_extract, hp]
    simp
  rw [this]

set_option maxHeartbeats 1600000 in
theorem parseSeconds_any (l : List UInt8) (hl : l.length ≤ 1048576) (w : World) (hE : Errs w) :
    Calls Tryd.prog 18 #[str l] w fun e w' => e = .returned (iv (secL l)) ∧ Below w.heap.size w w' := by
  by_cases h8 : l.length = 8
  · obtain ⟨p1, hp1⟩ : ∃ p, p = l.take 2 := ⟨_, rfl⟩
    obtain ⟨p2, hp2⟩ : ∃ p, p = (l.drop 3).take (5 - 3) := ⟨_, rfl⟩
    obtain ⟨p3, hp3⟩ : ∃ p, p = l.drop 6 := ⟨_, rfl⟩
    have z1 := fun W => run_head l 2 (by omega) p1 hp1 W
    have z2 := fun W => run_piece l 3 5 (by omega) (by omega) p2 hp2 W
    have z3 := fun W => run_tail l 6 (by omega) p3 hp3 W
    have l1 : p1.length ≤ 2 := by rw [hp1]; simp; omega
    have l2 : p2.length ≤ 2 := by rw [hp2]; simp; omega
    have l3 : p3.length ≤ 2 := by rw [hp3]; simp; omega
    have HS : secL l = (match atoiV p1, atoiV p2, atoiV p3 with
      | some a, some b, some c => (a * 3600 + b * 60 + c, true)
      | _, _, _ => fail2) := by rw [secL_eq, if_pos h8, hp1, hp2, hp3]
    have HS := Lib.hid HS
    have e8 : (l.length : Int) = 8 := by omega
    have HE := Lib.hid hE
    clear hp1 hp2 hp3 hE
    simp only [Int.cast_ofNat_Int] at z1 z2 z3
    cases ha : atoiV p1 with
    | none =>
      cases hb : atoiV p2 with
      | none =>
        cases hc : atoiV p3 with
        | none =>
          have HM := Lib.hid (show fail2 = secL l from by rw [HS.out, ha, hb, hc])
          have H1 := Lib.hid (fun W => atoi_no p1 ha (by omega) W)
          have H2 := Lib.hid (fun W => atoi_no p2 hb (by omega) W)
          have H3 := Lib.hid (fun W => atoi_no p3 hc (by omega) W)
          clear ha hb hc HS
          (go_enter Tryd.func18, Tryd.ntmps18)
          go_wp2_with fail
          refine (H1.out _ HE.out).mono ?_
          rintro e1 w1 ⟨n1, t1, q1, rfl, hb1⟩
          have B1 : Below w.heap.size w w1 := hb1
          go_wp2_with fail
          refine (H2.out _ (HE.out.below B1)).mono ?_
          rintro e2 w2 ⟨n2, t2, q2, rfl, hb2⟩
          have B2 : Below w.heap.size w w2 := B1.trans (hb2.mono B1.size)
          go_wp2_with fail
          refine (H3.out _ (HE.out.below B2)).mono ?_
          rintro e3 w3 ⟨n3, t3, q3, rfl, hb3⟩
          have B3 : Below w.heap.size w w3 := B2.trans (hb3.mono B2.size)
          go_wp2
          go_ret2
          exact ⟨ret_iv HM.out, B3⟩
        | some c =>
          have HM := Lib.hid (show fail2 = secL l from by rw [HS.out, ha, hb, hc])
          have H1 := Lib.hid (fun W => atoi_no p1 ha (by omega) W)
          have H2 := Lib.hid (fun W => atoi_no p2 hb (by omega) W)
          have H3 := Lib.hid (fun W => atoi_yes p3 c hc (by omega) W)
          clear ha hb hc HS
          (go_enter Tryd.func18, Tryd.ntmps18)
          go_wp2_with fail
          refine (H1.out _ HE.out).mono ?_
          rintro e1 w1 ⟨n1, t1, q1, rfl, hb1⟩
          have B1 : Below w.heap.size w w1 := hb1
          go_wp2_with fail
          refine (H2.out _ (HE.out.below B1)).mono ?_
          rintro e2 w2 ⟨n2, t2, q2, rfl, hb2⟩
          have B2 : Below w.heap.size w w2 := B1.trans (hb2.mono B1.size)
          go_wp2_with fail
          refine (H3.out _).mono ?_
          rintro e3 w3 ⟨rfl, hb3⟩
          have B3 : Below w.heap.size w w3 := B2.trans (hb3.mono B2.size)
          go_wp2
          go_ret2
          exact ⟨ret_iv HM.out, B3⟩
      | some b =>
        cases hc : atoiV p3 with
        | none =>
          have HM := Lib.hid (show fail2 = secL l from by rw [HS.out, ha, hb, hc])
          have H1 := Lib.hid (fun W => atoi_no p1 ha (by omega) W)
          have H2 := Lib.hid (fun W => atoi_yes p2 b hb (by omega) W)
          have H3 := Lib.hid (fun W => atoi_no p3 hc (by omega) W)
          clear ha hb hc HS
          (go_enter Tryd.func18, Tryd.ntmps18)
          go_wp2_with fail
          refine (H1.out _ HE.out).mono ?_
          rintro e1 w1 ⟨n1, t1, q1, rfl, hb1⟩
          have B1 : Below w.heap.size w w1 := hb1
          go_wp2_with fail
          refine (H2.out _).mono ?_
          rintro e2 w2 ⟨rfl, hb2⟩
          have B2 : Below w.heap.size w w2 := B1.trans (hb2.mono B1.size)
          go_wp2_with fail
          refine (H3.out _ (HE.out.below B2)).mono ?_
          rintro e3 w3 ⟨n3, t3, q3, rfl, hb3⟩
          have B3 : Below w.heap.size w w3 := B2.trans (hb3.mono B2.size)
          go_wp2
          go_ret2
          exact ⟨ret_iv HM.out, B3⟩
        | some c =>
          have HM := Lib.hid (show fail2 = secL l from by rw [HS.out, ha, hb, hc])
          have H1 := Lib.hid (fun W => atoi_no p1 ha (by omega) W)
          have H2 := Lib.hid (fun W => atoi_yes p2 b hb (by omega) W)
          have H3 := Lib.hid (fun W => atoi_yes p3 c hc (by omega) W)
          clear ha hb hc HS
          (go_enter Tryd.func18, Tryd.ntmps18)
          go_wp2_with fail
          refine (H1.out _ HE.out).mono ?_
          rintro e1 w1 ⟨n1, t1, q1, rfl, hb1⟩
          have B1 : Below w.heap.size w w1 := hb1
          go_wp2_with fail
          refine (H2.out _).mono ?_
          rintro e2 w2 ⟨rfl, hb2⟩
          have B2 : Below w.heap.size w w2 := B1.trans (hb2.mono B1.size)
          go_wp2_with fail
          refine (H3.out _).mono ?_
          rintro e3 w3 ⟨rfl, hb3⟩
          have B3 : Below w.heap.size w w3 := B2.trans (hb3.mono B2.size)
          go_wp2
          go_ret2
          exact ⟨ret_iv HM.out, B3⟩
    | some a =>
      cases hb : atoiV p2 with
      | none =>
        cases hc : atoiV p3 with
        | none =>
          have HM := Lib.hid (show fail2 = secL l from by rw [HS.out, ha, hb, hc])
          have H1 := Lib.hid (fun W => atoi_yes p1 a ha (by omega) W)
          have H2 := Lib.hid (fun W => atoi_no p2 hb (by omega) W)
          have H3 := Lib.hid (fun W => atoi_no p3 hc (by omega) W)
          clear ha hb hc HS
          (go_enter Tryd.func18, Tryd.ntmps18)
          go_wp2_with fail
          refine (H1.out _).mono ?_
          rintro e1 w1 ⟨rfl, hb1⟩
          have B1 : Below w.heap.size w w1 := hb1
          go_wp2_with fail
          refine (H2.out _ (HE.out.below B1)).mono ?_
          rintro e2 w2 ⟨n2, t2, q2, rfl, hb2⟩
          have B2 : Below w.heap.size w w2 := B1.trans (hb2.mono B1.size)
          go_wp2_with fail
          refine (H3.out _ (HE.out.below B2)).mono ?_
          rintro e3 w3 ⟨n3, t3, q3, rfl, hb3⟩
          have B3 : Below w.heap.size w w3 := B2.trans (hb3.mono B2.size)
          go_wp2
          go_ret2
          exact ⟨ret_iv HM.out, B3⟩
        | some c =>
          have HM := Lib.hid (show fail2 = secL l from by rw [HS.out, ha, hb, hc])
          have H1 := Lib.hid (fun W => atoi_yes p1 a ha (by omega) W)
          have H2 := Lib.hid (fun W => atoi_no p2 hb (by omega) W)
          have H3 := Lib.hid (fun W => atoi_yes p3 c hc (by omega) W)
          clear ha hb hc HS
          (go_enter Tryd.func18, Tryd.ntmps18)
          go_wp2_with fail
          refine (H1.out _).mono ?_
          rintro e1 w1 ⟨rfl, hb1⟩
          have B1 : Below w.heap.size w w1 := hb1
          go_wp2_with fail
          refine (H2.out _ (HE.out.below B1)).mono ?_
          rintro e2 w2 ⟨n2, t2, q2, rfl, hb2⟩
          have B2 : Below w.heap.size w w2 := B1.trans (hb2.mono B1.size)
          go_wp2_with fail
          refine (H3.out _).mono ?_
          rintro e3 w3 ⟨rfl, hb3⟩
          have B3 : Below w.heap.size w w3 := B2.trans (hb3.mono B2.size)
          go_wp2
          go_ret2
          exact ⟨ret_iv HM.out, B3⟩
      | some b =>
        cases hc : atoiV p3 with
        | none =>
          have HM := Lib.hid (show fail2 = secL l from by rw [HS.out, ha, hb, hc])
          have H1 := Lib.hid (fun W => atoi_yes p1 a ha (by omega) W)
          have H2 := Lib.hid (fun W => atoi_yes p2 b hb (by omega) W)
          have H3 := Lib.hid (fun W => atoi_no p3 hc (by omega) W)
          clear ha hb hc HS
          (go_enter Tryd.func18, Tryd.ntmps18)
          go_wp2_with fail
          refine (H1.out _).mono ?_
          rintro e1 w1 ⟨rfl, hb1⟩
          have B1 : Below w.heap.size w w1 := hb1
          go_wp2_with fail
          refine (H2.out _).mono ?_
          rintro e2 w2 ⟨rfl, hb2⟩
          have B2 : Below w.heap.size w w2 := B1.trans (hb2.mono B1.size)
          go_wp2_with fail
          refine (H3.out _ (HE.out.below B2)).mono ?_
          rintro e3 w3 ⟨n3, t3, q3, rfl, hb3⟩
          have B3 : Below w.heap.size w w3 := B2.trans (hb3.mono B2.size)
          go_wp2
          go_ret2
          exact ⟨ret_iv HM.out, B3⟩
        | some c =>
          have HM := Lib.hid (show (a * 3600 + b * 60 + c, true) = secL l from by rw [HS.out, ha, hb, hc])
          obtain ⟨b00, b01⟩ := atoiV_two ha l1
          have H1 := Lib.hid (fun W => atoi_yes p1 a ha (by omega) W)
          obtain ⟨b10, b11⟩ := atoiV_two hb l2
          have H2 := Lib.hid (fun W => atoi_yes p2 b hb (by omega) W)
          obtain ⟨b20, b21⟩ := atoiV_two hc l3
          have H3 := Lib.hid (fun W => atoi_yes p3 c hc (by omega) W)
          clear ha hb hc HS
          (go_enter Tryd.func18, Tryd.ntmps18)
          go_wp2_with fail
          refine (H1.out _).mono ?_
          rintro e1 w1 ⟨rfl, hb1⟩
          have B1 : Below w.heap.size w w1 := hb1
          go_wp2_with fail
          refine (H2.out _).mono ?_
          rintro e2 w2 ⟨rfl, hb2⟩
          have B2 : Below w.heap.size w w2 := B1.trans (hb2.mono B1.size)
          go_wp2_with fail
          refine (H3.out _).mono ?_
          rintro e3 w3 ⟨rfl, hb3⟩
          have B3 : Below w.heap.size w w3 := B2.trans (hb3.mono B2.size)
          go_wp2
          go_ret2
          exact ⟨ret_iv HM.out, B3⟩
  · have HM := Lib.hid (show fail2 = secL l from by rw [secL_eq, if_neg h8])
    have e8 : ¬ (l.length : Int) = 8 := by omega
    (go_enter Tryd.func18, Tryd.ntmps18)
    go_wp2
    go_ret2
    exact ⟨ret_iv HM.out, by (repeat' (first | (with_reducible exact Below.refl _ _) | (with_reducible assumption) | (with_reducible refine Below.alloc ?_ ?_ _) | (with_reducible refine Below.drew ?_) | (with_reducible refine below_drewN ?_ _) | (with_reducible refine Below.setCell ?_ ?_ _) | (with_reducible refine below_call ?_ ?_ (by assumption)) | go_size))⟩
end Go.Proofs.YtebjlaajddpbhaaDoor
