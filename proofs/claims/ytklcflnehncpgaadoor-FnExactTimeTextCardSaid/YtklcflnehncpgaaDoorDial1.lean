/- Turns: made, added, taken away, multiplied, divided, compared: by the program and by the model. -/
import Derived.Test.YtklcflnehncpgaaDoorTurn
set_option linter.unusedSimpArgs false
set_option linter.unusedVariables false
namespace Go.Proofs.YtklcflnehncpgaaDoor
open Go.RowKit

theorem mulb {a b A B : Int} (h1 : 0 ≤ a) (h2 : a ≤ A) (h3 : 0 ≤ b) (h4 : b ≤ B) : 0 ≤ a * b ∧ a * b ≤ A * B :=
  ⟨Int.mul_nonneg h1 h3, Int.mul_le_mul h2 h4 h3 (by omega)⟩
theorem goodB_bd {n d : Int} (h : goodB n d = true) : 1 ≤ d ∧ d ≤ 1000000 ∧ 0 ≤ n ∧ n ≤ 999999 := by
  obtain ⟨a, b, c, e, _⟩ := (goodB_iff _ _).1 h
  exact ⟨a, b, c, by omega⟩
theorem inB_bd {n lo hi : Int} (h : inB n lo hi = true) : lo ≤ n ∧ n ≤ hi := by simpa [inB] using h
theorem isTurn_is {b : Bool} (n d : Int) (h : goodB n d = b) (w : World) :
    Calls Tryd.prog 26 #[tv n d] w fun e w' => e = .returned (.bool b) ∧ Below w.heap.size w w' := by
  subst h; exact isTurn_any n d w
theorem diGood_is {b : Bool} (n d : Int) (h : goodB n d = b) (k : -9223372036854775808 ≤ d ∧ d ≤ 9223372036854775807) (w : World) :
    Calls Tryd.prog 22 #[tv n d] w fun e w' => e = .returned (.bool b) ∧ Below w.heap.size w w' := by
  subst h; exact diGood_any n d w k.1 k.2
theorem low_fits (n d : Int) (hd : 1 ≤ d) (hd' : d ≤ 1000000) : mk n d = (lowNum n d, lowDen n d, true) :=
  if_pos (by have := (low_bd n d hd).2.2; omega)

def makeT (n d : Int) : Int × Int × Bool := if inB n (-1000000000000) 1000000000000 && inB d 1 1000000000000 then mk n d else fail3
def addT (an ad bn bd : Int) : Int × Int × Bool := if goodB an ad && goodB bn bd then mk (an * bd + bn * ad) (ad * bd) else fail3
def lessT (an ad bn bd : Int) : Int × Int × Bool := if goodB an ad && goodB bn bd then mk (an * bd - bn * ad) (ad * bd) else fail3
def timesT (n d k : Int) : Int × Int × Bool := if goodB n d && inB k (-10000) 10000 then (lowNum (n * k) d, lowDen (n * k) d, true) else fail3
def partT (n d k : Int) : Int × Int × Bool := if goodB n d && inB k 1 10000 then mk n (d * k) else fail3
/-- What is handed back of a number and whether there is one. -/
abbrev iv (r : Int × Bool) : Value := .tuple #[.int .i64 r.1, .bool r.2]
theorem ret_iv {a b : Int × Bool} (h : a = b) : Ending.returned (iv a) = .returned (iv b) := by rw [h]
def fail2 : Int × Bool := (0, false)
def sg (n : Int) : Int := if 0 < n then 1 else if n < 0 then -1 else 0
def cmpT (an ad bn bd : Int) : Int × Bool := if goodB an ad && goodB bn bd then (sg (an * bd - bn * ad), true) else fail2

end Go.Proofs.YtklcflnehncpgaaDoor
