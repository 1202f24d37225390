/- All turns of which so many times are a turn: a list of them, by the program. -/
import Derived.Test.YtcpgjjmamclklaaDial2
import Derived.Test.YtcpgjjmamclklaaTRow
set_option linter.unusedSimpArgs false
set_option linter.unusedVariables false
set_option maxRecDepth 100000
namespace Go.Proofs.Ytcpgjjmamclklaa
open Go.RowKit

theorem Try.infoTurn : (Try.prog.info? 88).map (fun i => (i.zero, i.size, i.bytes)) = some (some (.agg #[.int .i64 0, .int .i64 0]), 2, 16) := by kernel_rfl
/-- What a function leaves that hands back a list of turns and whether there is one. -/
def TurnsOut (w0 : World) (L : List (Int × Int)) (ok : Bool) (e : Ending) (w' : World) : Prop :=
  ∃ v, e = .returned (.tuple #[v, .bool ok]) ∧ TRow w' w0.heap.size v L ∧ Below w0.heap.size w0 w'
theorem TurnsOut.none {w0 w' : World} (h : Below w0.heap.size w0 w') : TurnsOut w0 [] false (.returned (.tuple #[.slice none 0 0, .bool false])) w' :=
  ⟨_, rfl, World.ownsRow_nil _ _ _ _, h⟩
theorem TRow.mono {w : World} {b b' : Nat} {v : Value} {L : List (Int × Int)} (h : TRow w b v L) (hb : b' ≤ b) : TRow w b' v L := by
  refine ⟨h.1, ?_⟩
  rcases h.2 with hn | ⟨g, cap, cur, h1, h2, h3⟩
  · exact .inl hn
  · exact .inr ⟨g, cap, cur, h1, by omega, h3⟩
/-- The same behind a world that has grown: the list made later. -/
theorem TurnsOut.up {w0 w1 w' : World} {L : List (Int × Int)} {ok : Bool} {e : Ending} (hb : Below w0.heap.size w0 w1) (h : TurnsOut w1 L ok e w') : TurnsOut w0 L ok e w' := by
  obtain ⟨v, he, hr, hb'⟩ := h
  exact ⟨v, he, hr.mono hb.size, hb.trans (hb'.mono hb.size)⟩
theorem mk_of {n d : Int} (h : lowDen n d ≤ 1000000) : mk n d = (lowNum n d, lowDen n d, true) := if_pos h
theorem mk_not {n d : Int} (h : ¬ lowDen n d ≤ 1000000) : mk n d = fail3 := if_neg h
theorem diMake_val {r : Int × Int × Bool} (n d : Int) (hr : mk n d = r) (hd : 1 ≤ d) (hd' : d ≤ 1000000000000000000) (w : World) :
    Calls Try.prog 111 #[.int .i64 n, .int .i64 d] w fun e w' => e = .returned (rv r) ∧ Below w.heap.size w w' := by
  subst hr; exact diMake_any n d hd hd' w
/-- The j-th turn of which h times are n / d. -/
def twl (h n d : Int) (j : Nat) : Int × Int := (lowNum (n + j * d) (d * h), lowDen (n + j * d) (d * h))
def partsOk (h n d : Int) : Bool := (List.range h.toNat).all fun j => decide ((twl h n d j).2 ≤ 1000000)
def partsL (h n d : Int) : List (Int × Int) := if partsOk h n d then (List.range h.toNat).map (twl h n d) else []
theorem parts_no {h n d : Int} (hb : partsOk h n d = false) : partsL h n d = [] := by simp [partsL, hb]
theorem parts_bad {h n d : Int} {k : Nat} (hk : k < h.toNat) (hb : ¬ (twl h n d k).2 ≤ 1000000) : partsOk h n d = false := by
  unfold partsOk
  rw [List.all_eq_false]
  exact ⟨k, List.mem_range.2 hk, by simpa using hb⟩
theorem parts_yes {h n d : Int} (hb : ∀ j, j < h.toNat → (twl h n d j).2 ≤ 1000000) : partsOk h n d = true ∧ partsL h n d = (List.range h.toNat).map (twl h n d) := by
  have : partsOk h n d = true := by
    simp only [partsOk, List.all_eq_true, List.mem_range, decide_eq_true_eq]
    exact hb
  exact ⟨this, by simp [partsL, this]⟩
theorem partsL_len (h n d : Int) (hh : h ≤ 1000000) : (partsL h n d).length ≤ 1000000 := by
  unfold partsL
  split
  · simp; omega
  · simp
theorem map_snoc (f : Nat → Int × Int) (k : Nat) : flat ((List.range k).map f) ++ [.int .i64 (f k).1, .int .i64 (f k).2] = flat ((List.range (k + 1)).map f) := by
  rw [List.range_succ, List.map_append, flat_append]
  rfl
theorem twl_impl {h n d : Int} {k : Nat} (hok : (twl h n d k).2 ≤ 1000000) : mk (k * d + n) (h * d) = ((twl h n d k).1, (twl h n d k).2, true) := by
  rw [Int.add_comm, Int.mul_comm h d]
  exact mk_of hok
theorem twl_impl_no {h n d : Int} {k : Nat} (hok : ¬ (twl h n d k).2 ≤ 1000000) : mk (k * d + n) (h * d) = (0, 0, false) := by
  rw [Int.add_comm, Int.mul_comm h d]
  exact mk_not hok

end Go.Proofs.Ytcpgjjmamclklaa
