/-
  No cell of these rows narrows 'for every input' (looked for: loops, veiled, ifaces, maps, wideKeys, modest, calm, conditions, laid).
  DERIVED. THE GIVEN ROWS OF THIS SEAT. 16 by the template 'for every input the law returns true; each argument reads behind the call as it read before'; 0 by the template 'total and deterministic' (their statements: YtebjlaajddpbhaaTotals.lean).
  GIVEN WITH THE SEED: the statements are not yours to turn. If you find one false, say at which input.
  Laid BY PROGRAM, IN A SANDBOX (cutbox-rows.mjs): the forced cells as the released guide's own fill.sh prints them over the translation 238272f7208ada08… (all of the seat's roots in one cut). By AI agents, Wed Nov 11 2026. No macro, syntax, notation, axiom, sorry.
-/
import Derived.Test.YtebjlaajddpbhaaChecked
import GoSem.Claim
import GoSem.ClaimJoined
import GoSem.ClaimMapViews
import Derived.JoinedTies
import Derived.KernelRfl
namespace Go.Proofs.Ytebjlaajddpbhaa
/- THE CELL 'sum', in the pinned program and in every row, IS THE sha256 OF THE DUMP (.gsa) THAT YtebjlaajddpbhaaProg.lean LOADS. Nothing in Lean hashes anything: it is a label: what it is worth is what the hold of that sum in a sandbox is worth. -/
noncomputable def Try.pinned : Pinned := { name := "ytebjlaajddpbhaa", sum := "238272f7208ada08ba8658e4520b32d0460e608889d89d172a945204ceb051be", checked := Try.checked }
namespace Rows
def none {H : Type} : Left H := { results := [], args := [] }

/-- 'laws.FnExactIsTurn': WHATEVER THE INPUT: true; the input reads as it did. -/
def fnExactIsTurnSpec : ChangeSpec := { name := "fnExactIsTurn", fn := fun _ => fun
  | [d] => { results := [.lit (.bool true)], args := [d] }
  | _ => none }
def fnExactIsTurnRow : OpenClaim := { program := "ytebjlaajddpbhaa", sum := "238272f7208ada08ba8658e4520b32d0460e608889d89d172a945204ceb051be", func := "loop.example/g01241/laws.FnExactIsTurn", spec := "fnExactIsTurn", apart := false }
def FnExactIsTurnSaid : Prop := fnExactIsTurnRow.holds Try.pinned (OpenSpec.ofChange fnExactIsTurnSpec)

/-- ITS FALSE NEIGHBOUR: 'it returns false'. Refute it at one input. -/
def fnExactIsTurnWrong : ChangeSpec := { name := "fnExactIsTurn", fn := fun _ => fun
  | [d] => { results := [.lit (.bool false)], args := [d] }
  | _ => none }
def FnExactIsTurnWrongFalsely : Prop := fnExactIsTurnRow.holds Try.pinned (OpenSpec.ofChange fnExactIsTurnWrong)

/-- 'laws.FnExactMakeTurn': WHATEVER THE INPUT: true; the input reads as it did. -/
def fnExactMakeTurnSpec : ChangeSpec := { name := "fnExactMakeTurn", fn := fun _ => fun
  | [d1, d2] => { results := [.lit (.bool true)], args := [d1, d2] }
  | _ => none }
def fnExactMakeTurnRow : OpenClaim := { program := "ytebjlaajddpbhaa", sum := "238272f7208ada08ba8658e4520b32d0460e608889d89d172a945204ceb051be", func := "loop.example/g01241/laws.FnExactMakeTurn", spec := "fnExactMakeTurn", apart := false }
def FnExactMakeTurnSaid : Prop := fnExactMakeTurnRow.holds Try.pinned (OpenSpec.ofChange fnExactMakeTurnSpec)

/-- ITS FALSE NEIGHBOUR: 'it returns false'. Refute it at one input. -/
def fnExactMakeTurnWrong : ChangeSpec := { name := "fnExactMakeTurn", fn := fun _ => fun
  | [d1, d2] => { results := [.lit (.bool false)], args := [d1, d2] }
  | _ => none }
def FnExactMakeTurnWrongFalsely : Prop := fnExactMakeTurnRow.holds Try.pinned (OpenSpec.ofChange fnExactMakeTurnWrong)

/-- 'laws.FnExactAddTurns': WHATEVER THE INPUT: true; the input reads as it did. -/
def fnExactAddTurnsSpec : ChangeSpec := { name := "fnExactAddTurns", fn := fun _ => fun
  | [d1, d2] => { results := [.lit (.bool true)], args := [d1, d2] }
  | _ => none }
def fnExactAddTurnsRow : OpenClaim := { program := "ytebjlaajddpbhaa", sum := "238272f7208ada08ba8658e4520b32d0460e608889d89d172a945204ceb051be", func := "loop.example/g01241/laws.FnExactAddTurns", spec := "fnExactAddTurns", apart := false }
def FnExactAddTurnsSaid : Prop := fnExactAddTurnsRow.holds Try.pinned (OpenSpec.ofChange fnExactAddTurnsSpec)

/-- ITS FALSE NEIGHBOUR: 'it returns false'. Refute it at one input. -/
def fnExactAddTurnsWrong : ChangeSpec := { name := "fnExactAddTurns", fn := fun _ => fun
  | [d1, d2] => { results := [.lit (.bool false)], args := [d1, d2] }
  | _ => none }
def FnExactAddTurnsWrongFalsely : Prop := fnExactAddTurnsRow.holds Try.pinned (OpenSpec.ofChange fnExactAddTurnsWrong)

/-- 'laws.FnExactLessTurn': WHATEVER THE INPUT: true; the input reads as it did. -/
def fnExactLessTurnSpec : ChangeSpec := { name := "fnExactLessTurn", fn := fun _ => fun
  | [d1, d2] => { results := [.lit (.bool true)], args := [d1, d2] }
  | _ => none }
def fnExactLessTurnRow : OpenClaim := { program := "ytebjlaajddpbhaa", sum := "238272f7208ada08ba8658e4520b32d0460e608889d89d172a945204ceb051be", func := "loop.example/g01241/laws.FnExactLessTurn", spec := "fnExactLessTurn", apart := false }
def FnExactLessTurnSaid : Prop := fnExactLessTurnRow.holds Try.pinned (OpenSpec.ofChange fnExactLessTurnSpec)

/-- ITS FALSE NEIGHBOUR: 'it returns false'. Refute it at one input. -/
def fnExactLessTurnWrong : ChangeSpec := { name := "fnExactLessTurn", fn := fun _ => fun
  | [d1, d2] => { results := [.lit (.bool false)], args := [d1, d2] }
  | _ => none }
def FnExactLessTurnWrongFalsely : Prop := fnExactLessTurnRow.holds Try.pinned (OpenSpec.ofChange fnExactLessTurnWrong)

/-- 'laws.FnExactTimesTurn': WHATEVER THE INPUT: true; the input reads as it did. -/
def fnExactTimesTurnSpec : ChangeSpec := { name := "fnExactTimesTurn", fn := fun _ => fun
  | [d1, d2] => { results := [.lit (.bool true)], args := [d1, d2] }
  | _ => none }
def fnExactTimesTurnRow : OpenClaim := { program := "ytebjlaajddpbhaa", sum := "238272f7208ada08ba8658e4520b32d0460e608889d89d172a945204ceb051be", func := "loop.example/g01241/laws.FnExactTimesTurn", spec := "fnExactTimesTurn", apart := false }
def FnExactTimesTurnSaid : Prop := fnExactTimesTurnRow.holds Try.pinned (OpenSpec.ofChange fnExactTimesTurnSpec)

/-- ITS FALSE NEIGHBOUR: 'it returns false'. Refute it at one input. -/
def fnExactTimesTurnWrong : ChangeSpec := { name := "fnExactTimesTurn", fn := fun _ => fun
  | [d1, d2] => { results := [.lit (.bool false)], args := [d1, d2] }
  | _ => none }
def FnExactTimesTurnWrongFalsely : Prop := fnExactTimesTurnRow.holds Try.pinned (OpenSpec.ofChange fnExactTimesTurnWrong)

/-- 'laws.FnExactPartOfTurn': WHATEVER THE INPUT: true; the input reads as it did. -/
def fnExactPartOfTurnSpec : ChangeSpec := { name := "fnExactPartOfTurn", fn := fun _ => fun
  | [d1, d2] => { results := [.lit (.bool true)], args := [d1, d2] }
  | _ => none }
def fnExactPartOfTurnRow : OpenClaim := { program := "ytebjlaajddpbhaa", sum := "238272f7208ada08ba8658e4520b32d0460e608889d89d172a945204ceb051be", func := "loop.example/g01241/laws.FnExactPartOfTurn", spec := "fnExactPartOfTurn", apart := false }
def FnExactPartOfTurnSaid : Prop := fnExactPartOfTurnRow.holds Try.pinned (OpenSpec.ofChange fnExactPartOfTurnSpec)

/-- ITS FALSE NEIGHBOUR: 'it returns false'. Refute it at one input. -/
def fnExactPartOfTurnWrong : ChangeSpec := { name := "fnExactPartOfTurn", fn := fun _ => fun
  | [d1, d2] => { results := [.lit (.bool false)], args := [d1, d2] }
  | _ => none }
def FnExactPartOfTurnWrongFalsely : Prop := fnExactPartOfTurnRow.holds Try.pinned (OpenSpec.ofChange fnExactPartOfTurnWrong)

/-- 'laws.FnExactCompareTurns': WHATEVER THE INPUT: true; the input reads as it did. -/
def fnExactCompareTurnsSpec : ChangeSpec := { name := "fnExactCompareTurns", fn := fun _ => fun
  | [d1, d2] => { results := [.lit (.bool true)], args := [d1, d2] }
  | _ => none }
def fnExactCompareTurnsRow : OpenClaim := { program := "ytebjlaajddpbhaa", sum := "238272f7208ada08ba8658e4520b32d0460e608889d89d172a945204ceb051be", func := "loop.example/g01241/laws.FnExactCompareTurns", spec := "fnExactCompareTurns", apart := false }
def FnExactCompareTurnsSaid : Prop := fnExactCompareTurnsRow.holds Try.pinned (OpenSpec.ofChange fnExactCompareTurnsSpec)

/-- ITS FALSE NEIGHBOUR: 'it returns false'. Refute it at one input. -/
def fnExactCompareTurnsWrong : ChangeSpec := { name := "fnExactCompareTurns", fn := fun _ => fun
  | [d1, d2] => { results := [.lit (.bool false)], args := [d1, d2] }
  | _ => none }
def FnExactCompareTurnsWrongFalsely : Prop := fnExactCompareTurnsRow.holds Try.pinned (OpenSpec.ofChange fnExactCompareTurnsWrong)

/-- 'laws.FnExactMirrorTurn': WHATEVER THE INPUT: true; the input reads as it did. -/
def fnExactMirrorTurnSpec : ChangeSpec := { name := "fnExactMirrorTurn", fn := fun _ => fun
  | [d] => { results := [.lit (.bool true)], args := [d] }
  | _ => none }
def fnExactMirrorTurnRow : OpenClaim := { program := "ytebjlaajddpbhaa", sum := "238272f7208ada08ba8658e4520b32d0460e608889d89d172a945204ceb051be", func := "loop.example/g01241/laws.FnExactMirrorTurn", spec := "fnExactMirrorTurn", apart := false }
def FnExactMirrorTurnSaid : Prop := fnExactMirrorTurnRow.holds Try.pinned (OpenSpec.ofChange fnExactMirrorTurnSpec)

/-- ITS FALSE NEIGHBOUR: 'it returns false'. Refute it at one input. -/
def fnExactMirrorTurnWrong : ChangeSpec := { name := "fnExactMirrorTurn", fn := fun _ => fun
  | [d] => { results := [.lit (.bool false)], args := [d] }
  | _ => none }
def FnExactMirrorTurnWrongFalsely : Prop := fnExactMirrorTurnRow.holds Try.pinned (OpenSpec.ofChange fnExactMirrorTurnWrong)

/-- 'laws.FnExactLongHand': WHATEVER THE INPUT: true; the input reads as it did. -/
def fnExactLongHandSpec : ChangeSpec := { name := "fnExactLongHand", fn := fun _ => fun
  | [d1, d2] => { results := [.lit (.bool true)], args := [d1, d2] }
  | _ => none }
def fnExactLongHandRow : OpenClaim := { program := "ytebjlaajddpbhaa", sum := "238272f7208ada08ba8658e4520b32d0460e608889d89d172a945204ceb051be", func := "loop.example/g01241/laws.FnExactLongHand", spec := "fnExactLongHand", unfollowed := true, recurses := true, apart := false }
def FnExactLongHandSaid : Prop := fnExactLongHandRow.holds Try.pinned (OpenSpec.ofChange fnExactLongHandSpec)

/-- ITS FALSE NEIGHBOUR: 'it returns false'. Refute it at one input. -/
def fnExactLongHandWrong : ChangeSpec := { name := "fnExactLongHand", fn := fun _ => fun
  | [d1, d2] => { results := [.lit (.bool false)], args := [d1, d2] }
  | _ => none }
def FnExactLongHandWrongFalsely : Prop := fnExactLongHandRow.holds Try.pinned (OpenSpec.ofChange fnExactLongHandWrong)

/-- 'laws.FnExactAngleOf': WHATEVER THE INPUT: true; the input reads as it did. -/
def fnExactAngleOfSpec : ChangeSpec := { name := "fnExactAngleOf", fn := fun _ => fun
  | [d1, d2] => { results := [.lit (.bool true)], args := [d1, d2] }
  | _ => none }
def fnExactAngleOfRow : OpenClaim := { program := "ytebjlaajddpbhaa", sum := "238272f7208ada08ba8658e4520b32d0460e608889d89d172a945204ceb051be", func := "loop.example/g01241/laws.FnExactAngleOf", spec := "fnExactAngleOf", unfollowed := true, recurses := true, apart := false }
def FnExactAngleOfSaid : Prop := fnExactAngleOfRow.holds Try.pinned (OpenSpec.ofChange fnExactAngleOfSpec)

/-- ITS FALSE NEIGHBOUR: 'it returns false'. Refute it at one input. -/
def fnExactAngleOfWrong : ChangeSpec := { name := "fnExactAngleOf", fn := fun _ => fun
  | [d1, d2] => { results := [.lit (.bool false)], args := [d1, d2] }
  | _ => none }
def FnExactAngleOfWrongFalsely : Prop := fnExactAngleOfRow.holds Try.pinned (OpenSpec.ofChange fnExactAngleOfWrong)

/-- 'laws.FnExactSmallAngle': WHATEVER THE INPUT: true; the input reads as it did. -/
def fnExactSmallAngleSpec : ChangeSpec := { name := "fnExactSmallAngle", fn := fun _ => fun
  | [d1, d2] => { results := [.lit (.bool true)], args := [d1, d2] }
  | _ => none }
def fnExactSmallAngleRow : OpenClaim := { program := "ytebjlaajddpbhaa", sum := "238272f7208ada08ba8658e4520b32d0460e608889d89d172a945204ceb051be", func := "loop.example/g01241/laws.FnExactSmallAngle", spec := "fnExactSmallAngle", unfollowed := true, recurses := true, apart := false }
def FnExactSmallAngleSaid : Prop := fnExactSmallAngleRow.holds Try.pinned (OpenSpec.ofChange fnExactSmallAngleSpec)

/-- ITS FALSE NEIGHBOUR: 'it returns false'. Refute it at one input. -/
def fnExactSmallAngleWrong : ChangeSpec := { name := "fnExactSmallAngle", fn := fun _ => fun
  | [d1, d2] => { results := [.lit (.bool false)], args := [d1, d2] }
  | _ => none }
def FnExactSmallAngleWrongFalsely : Prop := fnExactSmallAngleRow.holds Try.pinned (OpenSpec.ofChange fnExactSmallAngleWrong)

/-- 'laws.FnExactHourOf': WHATEVER THE INPUT: true; the input reads as it did. -/
def fnExactHourOfSpec : ChangeSpec := { name := "fnExactHourOf", fn := fun _ => fun
  | [d1, d2] => { results := [.lit (.bool true)], args := [d1, d2] }
  | _ => none }
def fnExactHourOfRow : OpenClaim := { program := "ytebjlaajddpbhaa", sum := "238272f7208ada08ba8658e4520b32d0460e608889d89d172a945204ceb051be", func := "loop.example/g01241/laws.FnExactHourOf", spec := "fnExactHourOf", unfollowed := true, recurses := true, apart := false }
def FnExactHourOfSaid : Prop := fnExactHourOfRow.holds Try.pinned (OpenSpec.ofChange fnExactHourOfSpec)

/-- ITS FALSE NEIGHBOUR: 'it returns false'. Refute it at one input. -/
def fnExactHourOfWrong : ChangeSpec := { name := "fnExactHourOf", fn := fun _ => fun
  | [d1, d2] => { results := [.lit (.bool false)], args := [d1, d2] }
  | _ => none }
def FnExactHourOfWrongFalsely : Prop := fnExactHourOfRow.holds Try.pinned (OpenSpec.ofChange fnExactHourOfWrong)

/-- 'laws.FnExactMinuteOf': WHATEVER THE INPUT: true; the input reads as it did. -/
def fnExactMinuteOfSpec : ChangeSpec := { name := "fnExactMinuteOf", fn := fun _ => fun
  | [d1, d2] => { results := [.lit (.bool true)], args := [d1, d2] }
  | _ => none }
def fnExactMinuteOfRow : OpenClaim := { program := "ytebjlaajddpbhaa", sum := "238272f7208ada08ba8658e4520b32d0460e608889d89d172a945204ceb051be", func := "loop.example/g01241/laws.FnExactMinuteOf", spec := "fnExactMinuteOf", unfollowed := true, recurses := true, apart := false }
def FnExactMinuteOfSaid : Prop := fnExactMinuteOfRow.holds Try.pinned (OpenSpec.ofChange fnExactMinuteOfSpec)

/-- ITS FALSE NEIGHBOUR: 'it returns false'. Refute it at one input. -/
def fnExactMinuteOfWrong : ChangeSpec := { name := "fnExactMinuteOf", fn := fun _ => fun
  | [d1, d2] => { results := [.lit (.bool false)], args := [d1, d2] }
  | _ => none }
def FnExactMinuteOfWrongFalsely : Prop := fnExactMinuteOfRow.holds Try.pinned (OpenSpec.ofChange fnExactMinuteOfWrong)

/-- 'laws.FnExactSecondOf': WHATEVER THE INPUT: true; the input reads as it did. -/
def fnExactSecondOfSpec : ChangeSpec := { name := "fnExactSecondOf", fn := fun _ => fun
  | [d1, d2] => { results := [.lit (.bool true)], args := [d1, d2] }
  | _ => none }
def fnExactSecondOfRow : OpenClaim := { program := "ytebjlaajddpbhaa", sum := "238272f7208ada08ba8658e4520b32d0460e608889d89d172a945204ceb051be", func := "loop.example/g01241/laws.FnExactSecondOf", spec := "fnExactSecondOf", unfollowed := true, recurses := true, apart := false }
def FnExactSecondOfSaid : Prop := fnExactSecondOfRow.holds Try.pinned (OpenSpec.ofChange fnExactSecondOfSpec)

/-- ITS FALSE NEIGHBOUR: 'it returns false'. Refute it at one input. -/
def fnExactSecondOfWrong : ChangeSpec := { name := "fnExactSecondOf", fn := fun _ => fun
  | [d1, d2] => { results := [.lit (.bool false)], args := [d1, d2] }
  | _ => none }
def FnExactSecondOfWrongFalsely : Prop := fnExactSecondOfRow.holds Try.pinned (OpenSpec.ofChange fnExactSecondOfWrong)

/-- 'laws.FnExactTimeOf': WHATEVER THE INPUT: true; the input reads as it did. -/
def fnExactTimeOfSpec : ChangeSpec := { name := "fnExactTimeOf", fn := fun _ => fun
  | [d1, d2, d3, d4] => { results := [.lit (.bool true)], args := [d1, d2, d3, d4] }
  | _ => none }
def fnExactTimeOfRow : OpenClaim := { program := "ytebjlaajddpbhaa", sum := "238272f7208ada08ba8658e4520b32d0460e608889d89d172a945204ceb051be", func := "loop.example/g01241/laws.FnExactTimeOf", spec := "fnExactTimeOf", apart := false }
def FnExactTimeOfSaid : Prop := fnExactTimeOfRow.holds Try.pinned (OpenSpec.ofChange fnExactTimeOfSpec)

/-- ITS FALSE NEIGHBOUR: 'it returns false'. Refute it at one input. -/
def fnExactTimeOfWrong : ChangeSpec := { name := "fnExactTimeOf", fn := fun _ => fun
  | [d1, d2, d3, d4] => { results := [.lit (.bool false)], args := [d1, d2, d3, d4] }
  | _ => none }
def FnExactTimeOfWrongFalsely : Prop := fnExactTimeOfRow.holds Try.pinned (OpenSpec.ofChange fnExactTimeOfWrong)

/-- 'laws.FnExactTimesWithLong': WHATEVER THE INPUT: true; the input reads as it did. -/
def fnExactTimesWithLongSpec : ChangeSpec := { name := "fnExactTimesWithLong", fn := fun _ => fun
  | [d1, d2] => { results := [.lit (.bool true)], args := [d1, d2] }
  | _ => none }
def fnExactTimesWithLongRow : OpenClaim := { program := "ytebjlaajddpbhaa", sum := "238272f7208ada08ba8658e4520b32d0460e608889d89d172a945204ceb051be", func := "loop.example/g01241/laws.FnExactTimesWithLong", spec := "fnExactTimesWithLong", apart := false }
def FnExactTimesWithLongSaid : Prop := fnExactTimesWithLongRow.holds Try.pinned (OpenSpec.ofChange fnExactTimesWithLongSpec)

/-- ITS FALSE NEIGHBOUR: 'it returns false'. Refute it at one input. -/
def fnExactTimesWithLongWrong : ChangeSpec := { name := "fnExactTimesWithLong", fn := fun _ => fun
  | [d1, d2] => { results := [.lit (.bool false)], args := [d1, d2] }
  | _ => none }
def FnExactTimesWithLongWrongFalsely : Prop := fnExactTimesWithLongRow.holds Try.pinned (OpenSpec.ofChange fnExactTimesWithLongWrong)

/- THE SECOND FORM. 'bulk': how many values and letters a reading holds, each counted each time it is reached (what is shared counts as often as it is met; a slice's spare places count too). A statement '..UptoSaid' is the law's where the arguments, and the package variables that the reading takes, are together of bulk at most 1048576: NARROWER than '..Said'. Prove '..Said' where nothing that the law and all that it calls make is longer than what came in: it says more and counts as full. Else prove '..UptoSaid'. A law counts once. -/
mutual
def uptoBulk {H : Type} : DataW H → Nat
  | .lit (.string bytes) => bytes.length + 1
  | .lit _ => 1
  | .nil => 1
  | .ptr d => uptoBulk d + 1
  | .slice elems spare => uptoBulkAll elems + uptoBulkAll spare + 1
  | .agg parts => uptoBulkAll parts + 1
  | .iface _ d => uptoBulk d + 1
  | .map entries => uptoBulkEntries entries + 1
  | .held _ => 1
def uptoBulkAll {H : Type} : List (DataW H) → Nat
  | [] => 0
  | d :: r => uptoBulk d + uptoBulkAll r
def uptoBulkEntries {H : Type} : List (Lit × DataW H) → Nat
  | [] => 0
  | x :: r => uptoBulkEntry x + uptoBulkEntries r
def uptoBulkEntry {H : Type} : Lit × DataW H → Nat
  | (.string bytes, d) => bytes.length + uptoBulk d + 1
  | (_, d) => uptoBulk d + 1
 end
def uptoSmall : (H : Type) → List (DataW H) → Bool := fun _ ds => decide (uptoBulkAll ds ≤ 1048576)
def OpenSpec.upto (s : _root_.Go.ChangeSpec) : _root_.Go.OpenSpec := { _root_.Go.OpenSpec.ofChange s with cond := some uptoSmall }

/-- 'laws.FnExactIsTurn', WHERE WHAT IT READS IS OF BULK AT MOST 1048576: true; the input reads as it did. -/
def fnExactIsTurnUptoRow : OpenClaim := { program := "ytebjlaajddpbhaa", sum := "238272f7208ada08ba8658e4520b32d0460e608889d89d172a945204ceb051be", func := "loop.example/g01241/laws.FnExactIsTurn", spec := "fnExactIsTurn", apart := false, narrowed := true }
def FnExactIsTurnUptoSaid : Prop := fnExactIsTurnUptoRow.holds Try.pinned (OpenSpec.upto fnExactIsTurnSpec)

/-- 'laws.FnExactMakeTurn', WHERE WHAT IT READS IS OF BULK AT MOST 1048576: true; the input reads as it did. -/
def fnExactMakeTurnUptoRow : OpenClaim := { program := "ytebjlaajddpbhaa", sum := "238272f7208ada08ba8658e4520b32d0460e608889d89d172a945204ceb051be", func := "loop.example/g01241/laws.FnExactMakeTurn", spec := "fnExactMakeTurn", apart := false, narrowed := true }
def FnExactMakeTurnUptoSaid : Prop := fnExactMakeTurnUptoRow.holds Try.pinned (OpenSpec.upto fnExactMakeTurnSpec)

/-- 'laws.FnExactAddTurns', WHERE WHAT IT READS IS OF BULK AT MOST 1048576: true; the input reads as it did. -/
def fnExactAddTurnsUptoRow : OpenClaim := { program := "ytebjlaajddpbhaa", sum := "238272f7208ada08ba8658e4520b32d0460e608889d89d172a945204ceb051be", func := "loop.example/g01241/laws.FnExactAddTurns", spec := "fnExactAddTurns", apart := false, narrowed := true }
def FnExactAddTurnsUptoSaid : Prop := fnExactAddTurnsUptoRow.holds Try.pinned (OpenSpec.upto fnExactAddTurnsSpec)

/-- 'laws.FnExactLessTurn', WHERE WHAT IT READS IS OF BULK AT MOST 1048576: true; the input reads as it did. -/
def fnExactLessTurnUptoRow : OpenClaim := { program := "ytebjlaajddpbhaa", sum := "238272f7208ada08ba8658e4520b32d0460e608889d89d172a945204ceb051be", func := "loop.example/g01241/laws.FnExactLessTurn", spec := "fnExactLessTurn", apart := false, narrowed := true }
def FnExactLessTurnUptoSaid : Prop := fnExactLessTurnUptoRow.holds Try.pinned (OpenSpec.upto fnExactLessTurnSpec)

/-- 'laws.FnExactTimesTurn', WHERE WHAT IT READS IS OF BULK AT MOST 1048576: true; the input reads as it did. -/
def fnExactTimesTurnUptoRow : OpenClaim := { program := "ytebjlaajddpbhaa", sum := "238272f7208ada08ba8658e4520b32d0460e608889d89d172a945204ceb051be", func := "loop.example/g01241/laws.FnExactTimesTurn", spec := "fnExactTimesTurn", apart := false, narrowed := true }
def FnExactTimesTurnUptoSaid : Prop := fnExactTimesTurnUptoRow.holds Try.pinned (OpenSpec.upto fnExactTimesTurnSpec)

/-- 'laws.FnExactPartOfTurn', WHERE WHAT IT READS IS OF BULK AT MOST 1048576: true; the input reads as it did. -/
def fnExactPartOfTurnUptoRow : OpenClaim := { program := "ytebjlaajddpbhaa", sum := "238272f7208ada08ba8658e4520b32d0460e608889d89d172a945204ceb051be", func := "loop.example/g01241/laws.FnExactPartOfTurn", spec := "fnExactPartOfTurn", apart := false, narrowed := true }
def FnExactPartOfTurnUptoSaid : Prop := fnExactPartOfTurnUptoRow.holds Try.pinned (OpenSpec.upto fnExactPartOfTurnSpec)

/-- 'laws.FnExactCompareTurns', WHERE WHAT IT READS IS OF BULK AT MOST 1048576: true; the input reads as it did. -/
def fnExactCompareTurnsUptoRow : OpenClaim := { program := "ytebjlaajddpbhaa", sum := "238272f7208ada08ba8658e4520b32d0460e608889d89d172a945204ceb051be", func := "loop.example/g01241/laws.FnExactCompareTurns", spec := "fnExactCompareTurns", apart := false, narrowed := true }
def FnExactCompareTurnsUptoSaid : Prop := fnExactCompareTurnsUptoRow.holds Try.pinned (OpenSpec.upto fnExactCompareTurnsSpec)

/-- 'laws.FnExactMirrorTurn', WHERE WHAT IT READS IS OF BULK AT MOST 1048576: true; the input reads as it did. -/
def fnExactMirrorTurnUptoRow : OpenClaim := { program := "ytebjlaajddpbhaa", sum := "238272f7208ada08ba8658e4520b32d0460e608889d89d172a945204ceb051be", func := "loop.example/g01241/laws.FnExactMirrorTurn", spec := "fnExactMirrorTurn", apart := false, narrowed := true }
def FnExactMirrorTurnUptoSaid : Prop := fnExactMirrorTurnUptoRow.holds Try.pinned (OpenSpec.upto fnExactMirrorTurnSpec)

/-- 'laws.FnExactLongHand', WHERE WHAT IT READS IS OF BULK AT MOST 1048576: true; the input reads as it did. -/
def fnExactLongHandUptoRow : OpenClaim := { program := "ytebjlaajddpbhaa", sum := "238272f7208ada08ba8658e4520b32d0460e608889d89d172a945204ceb051be", func := "loop.example/g01241/laws.FnExactLongHand", spec := "fnExactLongHand", unfollowed := true, recurses := true, apart := false, narrowed := true }
def FnExactLongHandUptoSaid : Prop := fnExactLongHandUptoRow.holds Try.pinned (OpenSpec.upto fnExactLongHandSpec)

/-- 'laws.FnExactAngleOf', WHERE WHAT IT READS IS OF BULK AT MOST 1048576: true; the input reads as it did. -/
def fnExactAngleOfUptoRow : OpenClaim := { program := "ytebjlaajddpbhaa", sum := "238272f7208ada08ba8658e4520b32d0460e608889d89d172a945204ceb051be", func := "loop.example/g01241/laws.FnExactAngleOf", spec := "fnExactAngleOf", unfollowed := true, recurses := true, apart := false, narrowed := true }
def FnExactAngleOfUptoSaid : Prop := fnExactAngleOfUptoRow.holds Try.pinned (OpenSpec.upto fnExactAngleOfSpec)

/-- 'laws.FnExactSmallAngle', WHERE WHAT IT READS IS OF BULK AT MOST 1048576: true; the input reads as it did. -/
def fnExactSmallAngleUptoRow : OpenClaim := { program := "ytebjlaajddpbhaa", sum := "238272f7208ada08ba8658e4520b32d0460e608889d89d172a945204ceb051be", func := "loop.example/g01241/laws.FnExactSmallAngle", spec := "fnExactSmallAngle", unfollowed := true, recurses := true, apart := false, narrowed := true }
def FnExactSmallAngleUptoSaid : Prop := fnExactSmallAngleUptoRow.holds Try.pinned (OpenSpec.upto fnExactSmallAngleSpec)

/-- 'laws.FnExactHourOf', WHERE WHAT IT READS IS OF BULK AT MOST 1048576: true; the input reads as it did. -/
def fnExactHourOfUptoRow : OpenClaim := { program := "ytebjlaajddpbhaa", sum := "238272f7208ada08ba8658e4520b32d0460e608889d89d172a945204ceb051be", func := "loop.example/g01241/laws.FnExactHourOf", spec := "fnExactHourOf", unfollowed := true, recurses := true, apart := false, narrowed := true }
def FnExactHourOfUptoSaid : Prop := fnExactHourOfUptoRow.holds Try.pinned (OpenSpec.upto fnExactHourOfSpec)

/-- 'laws.FnExactMinuteOf', WHERE WHAT IT READS IS OF BULK AT MOST 1048576: true; the input reads as it did. -/
def fnExactMinuteOfUptoRow : OpenClaim := { program := "ytebjlaajddpbhaa", sum := "238272f7208ada08ba8658e4520b32d0460e608889d89d172a945204ceb051be", func := "loop.example/g01241/laws.FnExactMinuteOf", spec := "fnExactMinuteOf", unfollowed := true, recurses := true, apart := false, narrowed := true }
def FnExactMinuteOfUptoSaid : Prop := fnExactMinuteOfUptoRow.holds Try.pinned (OpenSpec.upto fnExactMinuteOfSpec)

/-- 'laws.FnExactSecondOf', WHERE WHAT IT READS IS OF BULK AT MOST 1048576: true; the input reads as it did. -/
def fnExactSecondOfUptoRow : OpenClaim := { program := "ytebjlaajddpbhaa", sum := "238272f7208ada08ba8658e4520b32d0460e608889d89d172a945204ceb051be", func := "loop.example/g01241/laws.FnExactSecondOf", spec := "fnExactSecondOf", unfollowed := true, recurses := true, apart := false, narrowed := true }
def FnExactSecondOfUptoSaid : Prop := fnExactSecondOfUptoRow.holds Try.pinned (OpenSpec.upto fnExactSecondOfSpec)

/-- 'laws.FnExactTimeOf', WHERE WHAT IT READS IS OF BULK AT MOST 1048576: true; the input reads as it did. -/
def fnExactTimeOfUptoRow : OpenClaim := { program := "ytebjlaajddpbhaa", sum := "238272f7208ada08ba8658e4520b32d0460e608889d89d172a945204ceb051be", func := "loop.example/g01241/laws.FnExactTimeOf", spec := "fnExactTimeOf", apart := false, narrowed := true }
def FnExactTimeOfUptoSaid : Prop := fnExactTimeOfUptoRow.holds Try.pinned (OpenSpec.upto fnExactTimeOfSpec)

/-- 'laws.FnExactTimesWithLong', WHERE WHAT IT READS IS OF BULK AT MOST 1048576: true; the input reads as it did. -/
def fnExactTimesWithLongUptoRow : OpenClaim := { program := "ytebjlaajddpbhaa", sum := "238272f7208ada08ba8658e4520b32d0460e608889d89d172a945204ceb051be", func := "loop.example/g01241/laws.FnExactTimesWithLong", spec := "fnExactTimesWithLong", apart := false, narrowed := true }
def FnExactTimesWithLongUptoSaid : Prop := fnExactTimesWithLongUptoRow.holds Try.pinned (OpenSpec.upto fnExactTimesWithLongSpec)

end Rows
end Go.Proofs.Ytebjlaajddpbhaa
