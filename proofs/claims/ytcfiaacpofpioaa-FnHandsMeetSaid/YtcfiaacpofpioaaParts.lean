/- All turns of which so many times are a turn: a list of them, by the program. -/
import Derived.Test.YtcfiaacpofpioaaDial2
import Derived.Test.YtcfiaacpofpioaaTRow
set_option linter.unusedSimpArgs false
set_option linter.unusedVariables false
set_option maxRecDepth 100000
namespace Go.Proofs.Ytcfiaacpofpioaa
open Go.RowKit

theorem Try.infoTurn : (Try.prog.info? 25).map (fun i => (i.zero, i.size, i.bytes)) = some (some (.agg #[.int .i64 0, .int .i64 0]), 2, 16) := by kernel_rfl
/-- What a function leaves that hands back a list of turns and whether there is one. -/
def TurnsOut (w0 : World) (L : List (Int × Int)) (ok : Bool) (e : Ending) (w' : World) : Prop :=
  ∃ v, e = .returned (.tuple #[v, .bool ok]) ∧ TRow w' w0.heap.size v L ∧ Below w0.heap.size w0 w'
theorem TurnsOut.none {w0 w' : World} (h : Below w0.heap.size w0 w') : TurnsOut w0 [] false (.returned (.tuple #[.slice none 0 0, .bool false])) w' :=
  ⟨_, rfl, World.ownsRow_nil _ _ _ _, h⟩
theorem TRow.mono {w : World} {b b' : Nat} {v : Value} {L : List (Int × Int)} (h : TRow w b v L) (hb : b' ≤ b) : TRow w b' v L := by
  refine ⟨h.1, ?_⟩
  rcases h.2 with hn | ⟨g, cap, cur, h1, h2, h3⟩
  · exact .inl hn
  · exact .inr ⟨g, cap, cur, h1, by omega, h3⟩
/-- The same behind a world that has grown: the list made later. -/
theorem TurnsOut.up {w0 w1 w' : World} {L : List (Int × Int)} {ok : Bool} {e : Ending} (hb : Below w0.heap.size w0 w1) (h : TurnsOut w1 L ok e w') : TurnsOut w0 L ok e w' := by
  obtain ⟨v, he, hr, hb'⟩ := h
  exact ⟨v, he, hr.mono hb.size, hb.trans (hb'.mono hb.size)⟩
theorem mk_of {n d : Int} (h : lowDen n d ≤ 1000000) : mk n d = (lowNum n d, lowDen n d, true) := if_pos h
theorem mk_not {n d : Int} (h : ¬ lowDen n d ≤ 1000000) : mk n d = fail3 := if_neg h
theorem diMake_val {r : Int × Int × Bool} (n d : Int) (hr : mk n d = r) (hd : 1 ≤ d) (hd' : d ≤ 1000000000000000000) (w : World) :
    Calls Try.prog 75 #[.int .i64 n, .int .i64 d] w fun e w' => e = .returned (rv r) ∧ Below w.heap.size w w' := by
  subst hr; exact diMake_any n d hd hd' w
theorem limitedTurn_val {r : Int × Int × Bool} (n d : Int) (hr : mk n d = r) (w : World) :
    Calls Try.prog 57 #[tv (lowNum n d) (lowDen n d)] w fun e w' => e = .returned (rv r) ∧ Below w.heap.size w w' := by
  subst hr; exact limitedTurn_low n d w

/-- The j-th turn of which h times are n / d. -/
def twl (h n d : Int) (j : Nat) : Int × Int := (lowNum (n + j * d) (d * h), lowDen (n + j * d) (d * h))
def partsOk (h n d : Int) : Bool := (List.range h.toNat).all fun j => decide ((twl h n d j).2 ≤ 1000000)
def partsL (h n d : Int) : List (Int × Int) := if partsOk h n d then (List.range h.toNat).map (twl h n d) else []
theorem parts_no {h n d : Int} (hb : partsOk h n d = false) : partsL h n d = [] := by simp [partsL, hb]
theorem parts_bad {h n d : Int} {k : Nat} (hk : k < h.toNat) (hb : ¬ (twl h n d k).2 ≤ 1000000) : partsOk h n d = false := by
  unfold partsOk
  rw [List.all_eq_false]
  exact ⟨k, List.mem_range.2 hk, by simpa using hb⟩
theorem parts_yes {h n d : Int} (hb : ∀ j, j < h.toNat → (twl h n d j).2 ≤ 1000000) : partsOk h n d = true ∧ partsL h n d = (List.range h.toNat).map (twl h n d) := by
  have : partsOk h n d = true := by
    simp only [partsOk, List.all_eq_true, List.mem_range, decide_eq_true_eq]
    exact hb
  exact ⟨this, by simp [partsL, this]⟩
theorem partsL_len (h n d : Int) (hh : h ≤ 1000000) : (partsL h n d).length ≤ 1000000 := by
  unfold partsL
  split
  · simp; omega
  · simp
theorem map_snoc (f : Nat → Int × Int) (k : Nat) : flat ((List.range k).map f) ++ [.int .i64 (f k).1, .int .i64 (f k).2] = flat ((List.range (k + 1)).map f) := by
  rw [List.range_succ, List.map_append, flat_append]
  rfl
theorem twl_impl {h n d : Int} {k : Nat} (hok : (twl h n d k).2 ≤ 1000000) : mk (k * d + n) (h * d) = ((twl h n d k).1, (twl h n d k).2, true) := by
  rw [Int.add_comm, Int.mul_comm h d]
  exact mk_of hok
theorem twl_impl_no {h n d : Int} {k : Nat} (hok : ¬ (twl h n d k).2 ≤ 1000000) : mk (k * d + n) (h * d) = (0, 0, false) := by
  rw [Int.add_comm, Int.mul_comm h d]
  exact mk_not hok

set_option maxHeartbeats 1600000 in
theorem allParts_any (h n d : Int) (c1 : 1 ≤ h) (c2 : h ≤ 1000) (a1 : 1 ≤ d) (a2 : d ≤ 1000000000) (a3 : 0 ≤ n) (a4 : n ≤ 1000000000) (w : World) :
    Calls Try.prog 87 #[tv n d, .int .i64 h] w (TurnsOut w (partsL h n d) (partsOk h n d)) := by
  obtain ⟨i0, hi0, hz0, hz1, hz2⟩ := info_parts Try.infoTurn
  have I0 := Lib.hid hi0
  have Z0 := Lib.hid hz0
  have Z1 := Lib.hid hz1
  have Z2 := Lib.hid hz2
  clear hi0 hz0 hz1 hz2
  obtain ⟨p1, p2⟩ := mulb (show 0 ≤ h by omega) c2 (show 0 ≤ d by omega) a2
  have p3 : 1 ≤ h * d := Int.mul_pos (by omega) (by omega)
  (go_enter Try.func87, Try.ntmps87)
  go_wp2_with (at_make; refine wpList_make_own _ rfl _ _ 30 rfl (w.heap.size + 1) 25 i0 (.agg #[.int .i64 0, .int .i64 0]) 2 Try.underlying30 I0.out Z0.out Z1.out .i64 .i64 _ h.toNat rfl rfl (by omega) (by rw [Z2.out]; omega) (by unfold maxLen; omega) (by go_size) ?_; intro w0 hown0 hgrow0)
  have hb0 : Below w.heap.size w w0 := Below.grown (by (repeat' (first | (with_reducible exact Below.refl _ _) | (with_reducible assumption) | (with_reducible refine Below.alloc ?_ ?_ _) | (with_reducible refine Below.drew ?_) | (with_reducible refine below_drewN ?_ _) | (with_reducible refine Below.setCell ?_ ?_ _) | (with_reducible refine below_call ?_ ?_ (by assumption)) | go_size))) hgrow0 (by go_size) (fun k hk => by cases hk)
  have hz0 := hgrow0.size
  try simp only [World.size_alloc, World.size_setCell, World.size_drew] at hz0
  have hcell : Hid (∀ o, w0.cell? ⟨w.heap.size, o, none⟩ = #[Value.int .i64 n, Value.int .i64 d][o]?) := fun o => by
    rw [World.grownBy.cell_far hgrow0 ⟨w.heap.size, o, none⟩ (by go_size) (fun e => by cases e)]
    exact (cells_of_block (heap_alloc_new w _)).1 o
  have HO0 : Hid (w0.ownsRow (w.heap.size + 1) 25 2 (.slice (some ⟨w.heap.size + 1, 0, none⟩) 0 h.toNat) 0 (flat ((List.range 0).map (twl h n d)))) := by
    have hx := hown0
    rw [World.size_alloc] at hx
    exact hx
  clear hown0 hgrow0
  go_loopw [6, 13] (fun o i wr => ∃ k : Nat, (k : Int) ≤ h ∧ i = .int .i64 k ∧ wr.ownsRow (w.heap.size + 1) 25 2 o k (flat ((List.range k).map (twl h n d))) ∧ (∀ j, j < k → (twl h n d j).2 ≤ 1000000) ∧ Below (w.heap.size + 1) w0 wr) (fun _ i _ => h.toNat - (intOf i).toNat)
  case atStart => exact ⟨0, by omega, rfl, HO0.out, fun j hj => absurd hj (Nat.not_lt_zero _), Below.refl _ _⟩
  case round =>
    obtain ⟨k, hk, rfl, hown, hall, hbel⟩ := hrel
    have HO := Lib.hid hown
    have HA := Lib.hid hall
    clear hown hall
    have hzr := hbel.size
    have q5 : w.heap.size < wr.heap.size := by omega
    have e0 : wr.cell? ⟨w.heap.size, 0, none⟩ = some (.int .i64 n) := (hbel.cell (p := ⟨w.heap.size, 0, none⟩) (by show w.heap.size < w.heap.size + 1; omega)).trans (hcell.out 0)
    have e1 : wr.cell? ⟨w.heap.size, 1, none⟩ = some (.int .i64 d) := (hbel.cell (p := ⟨w.heap.size, 1, none⟩) (by show w.heap.size < w.heap.size + 1; omega)).trans (hcell.out 1)
    have i0' : (0 : Int) ≤ (k : Int) := Int.natCast_nonneg _
    have hbw : Below w.heap.size w wr := hb0.trans (hbel.mono (by omega))
    by_cases hlt : (k : Int) < h
    · obtain ⟨p4, p5⟩ := mulb (show 0 ≤ (k : Int) by omega) (show (k : Int) ≤ 1000 by omega) (show 0 ≤ d by omega) a2
      by_cases hok : (twl h n d k).2 ≤ 1000000
      · have HK := Lib.hid (twl_impl hok)
        have HALL := Lib.hid (show ∀ j, j < k + 1 → (twl h n d j).2 ≤ 1000000 from fun j hj => by
          by_cases hjk : j = k
          · subst hjk; exact hok
          · exact HA.out j (by omega))
        have HSN := Lib.hid (map_snoc (twl h n d) k)
        clear hok
        generalize twl h n d k = t at *
        obtain ⟨x, y⟩ := t
        go_wp2_with fail
        refine (lowest_any (k * d + n) (h * d) p3 (by omega) _).mono ?_
        rintro e3 w3 ⟨rfl, hb3⟩
        have hz3 := hb3.size
        go_wp2_with fail
        refine (limitedTurn_val (k * d + n) (h * d) HK.out _).mono ?_
        rintro e2 w2 ⟨rfl, hb2'⟩
        have hb2 : Below wr.heap.size wr w2 := hb3.trans (hb2'.mono hb3.size)
        obtain ⟨hc2, hf2⟩ := bcell hb2
        have hz2 := hb2.size
        have HO2 := Lib.hid (World.ownsRow.kept HO.out (row := none) ⟨hb2.os, hb2.tape, hb2.output, hb2.size, fun k hk _ => hb2.block k hk⟩ (by generalize (u6 : Value).ownBlock = z; cases z <;> simp))
        have HLT : ∀ k, u6.ownBlock = some k → w.heap.size + 1 ≤ k := fun k hk => (World.ownsRow.lt HO.out k hk).1
        go_wp2_with (at_builtin; refine wpList_append_lies _ rfl _ _ _ rfl (w.heap.size + 1) 25 i0 _ 2 16 Try.underlying30 I0.out Z0.out Z1.out Z2.out rfl (by omega) u6 k _ rfl ((HO2.out.alloc _).alloc _) ⟨w2.heap.size + 1, 0, none⟩ 1 1 [.int .i64 x, .int .i64 y] rfl rfl (World.news_of_block (cs := #[.int .i64 x, .int .i64 y]) (t := 25) (fr := (0, 0)) (by simpa using heap_alloc_new (w2.alloc _) _)) (by simp [Value.oneCell']) (by omega) (by unfold maxLen; omega) (by omega) (by simp; omega) (w2.heap.size + 2) (by simp) ?_; intro g cap w4 hown3 hgrow hat hlt3)
        go_roundw
        case rel =>
          refine ⟨k + 1, by omega, by go_num, ?_, ?_, ?_⟩
          · rw [← HSN.out]; exact hown3
          · exact HALL.out
          · exact Below.grown (hbel.trans (show Below (w.heap.size + 1) wr _ from Below.mono (B := wr.heap.size) (by (repeat' (first | (with_reducible exact Below.refl _ _) | (with_reducible assumption) | (with_reducible refine Below.alloc ?_ ?_ _) | (with_reducible refine Below.drew ?_) | (with_reducible refine below_drewN ?_ _) | (with_reducible refine Below.setCell ?_ ?_ _) | (with_reducible refine below_call ?_ ?_ (by assumption)) | go_size))) (by omega))) hgrow (by simp; omega) HLT
        case measure => simp [intOf]; omega
      · have HK := Lib.hid (twl_impl_no hok)
        have HB := Lib.hid (parts_bad (h := h) (n := n) (d := d) (k := k) (by omega) hok)
        clear hok
        go_wp2_with fail
        refine (lowest_any (k * d + n) (h * d) p3 (by omega) _).mono ?_
        rintro e3 w3 ⟨rfl, hb3⟩
        have hz3 := hb3.size
        go_wp2_with fail
        refine (limitedTurn_val (k * d + n) (h * d) HK.out _).mono ?_
        rintro e2 w2 ⟨rfl, hb2'⟩
        have hb2 : Below wr.heap.size wr w2 := hb3.trans (hb2'.mono hb3.size)
        obtain ⟨hc2, hf2⟩ := bcell hb2
        have hz2 := hb2.size
        go_wp2
        go_ret2
        rw [parts_no HB.out, HB.out]
        have hbz : Below w.heap.size w w2 := hbw.trans (hb2.mono hbw.size)
        exact TurnsOut.none (by (repeat' (first | (with_reducible exact Below.refl _ _) | (with_reducible assumption) | (with_reducible refine Below.alloc ?_ ?_ _) | (with_reducible refine Below.drew ?_) | (with_reducible refine below_drewN ?_ _) | (with_reducible refine Below.setCell ?_ ?_ _) | (with_reducible refine below_call ?_ ?_ (by assumption)) | go_size)))
    · go_wp2
      go_ret2
      have hkh : k = h.toNat := by omega
      subst hkh
      obtain ⟨y1, y2⟩ := parts_yes HA.out
      rw [y2, y1]
      refine ⟨_, rfl, TRow.mono ?_ (show w.heap.size ≤ w.heap.size + 1 by omega), ?_⟩
      · unfold TRow
        simpa using HO.out
      · (repeat' (first | (with_reducible exact Below.refl _ _) | (with_reducible assumption) | (with_reducible refine Below.alloc ?_ ?_ _) | (with_reducible refine Below.drew ?_) | (with_reducible refine below_drewN ?_ _) | (with_reducible refine Below.setCell ?_ ?_ _) | (with_reducible refine below_call ?_ ?_ (by assumption)) | go_size))
end Go.Proofs.Ytcfiaacpofpioaa
