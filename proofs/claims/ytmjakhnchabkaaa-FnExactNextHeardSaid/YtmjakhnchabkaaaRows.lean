/-
  No cell of these rows narrows 'for every input' (looked for: loops, veiled, ifaces, maps, wideKeys, modest, calm, conditions, laid).
  DERIVED. THE GIVEN ROWS OF THIS SEAT. 16 by the template 'for every input the law returns true; each argument reads behind the call as it read before'; 0 by the template 'total and deterministic' (their statements: YtmjakhnchabkaaaTotals.lean).
  GIVEN WITH THE SEED: the statements are not yours to turn. If you find one false, say at which input.
  Laid BY PROGRAM, IN A SANDBOX (cutbox-rows.mjs): the forced cells as the released guide's own fill.sh prints them over the translation a459cb4562af0865… (all of the seat's roots in one cut). By AI agents, Wed Nov 11 2026. No macro, syntax, notation, axiom, sorry.
-/
import Derived.Test.YtmjakhnchabkaaaChecked
import GoSem.Claim
import GoSem.ClaimJoined
import GoSem.ClaimMapViews
import Derived.JoinedTies
import Derived.KernelRfl
namespace Go.Proofs.Ytmjakhnchabkaaa
/- THE CELL 'sum', in the pinned program and in every row, IS THE sha256 OF THE DUMP (.gsa) THAT YtmjakhnchabkaaaProg.lean LOADS. Nothing in Lean hashes anything: it is a label: what it is worth is what the hold of that sum in a sandbox is worth. -/
noncomputable def Try.pinned : Pinned := { name := "ytmjakhnchabkaaa", sum := "a459cb4562af08653bf62d1d138cb6f52c8ab16d651cacea908d0c1eb909e5da", checked := Try.checked }
namespace Rows
def none {H : Type} : Left H := { results := [], args := [] }

/-- 'laws.FnExactStrokesAt': WHATEVER THE INPUT: true; the input reads as it did. -/
def fnExactStrokesAtSpec : ChangeSpec := { name := "fnExactStrokesAt", fn := fun _ => fun
  | [d1, d2] => { results := [.lit (.bool true)], args := [d1, d2] }
  | _ => none }
def fnExactStrokesAtRow : OpenClaim := { program := "ytmjakhnchabkaaa", sum := "a459cb4562af08653bf62d1d138cb6f52c8ab16d651cacea908d0c1eb909e5da", func := "loop.example/g01241/laws.FnExactStrokesAt", spec := "fnExactStrokesAt", unfollowed := true, recurses := true, apart := false }
def FnExactStrokesAtSaid : Prop := fnExactStrokesAtRow.holds Try.pinned (OpenSpec.ofChange fnExactStrokesAtSpec)

/-- ITS FALSE NEIGHBOUR: 'it returns false'. Refute it at one input. -/
def fnExactStrokesAtWrong : ChangeSpec := { name := "fnExactStrokesAt", fn := fun _ => fun
  | [d1, d2] => { results := [.lit (.bool false)], args := [d1, d2] }
  | _ => none }
def FnExactStrokesAtWrongFalsely : Prop := fnExactStrokesAtRow.holds Try.pinned (OpenSpec.ofChange fnExactStrokesAtWrong)

/-- 'laws.FnExactStrokesOfTurn': WHATEVER THE INPUT: true; the input reads as it did. -/
def fnExactStrokesOfTurnSpec : ChangeSpec := { name := "fnExactStrokesOfTurn", fn := fun _ => fun
  | [d] => { results := [.lit (.bool true)], args := [d] }
  | _ => none }
def fnExactStrokesOfTurnRow : OpenClaim := { program := "ytmjakhnchabkaaa", sum := "a459cb4562af08653bf62d1d138cb6f52c8ab16d651cacea908d0c1eb909e5da", func := "loop.example/g01241/laws.FnExactStrokesOfTurn", spec := "fnExactStrokesOfTurn", apart := false }
def FnExactStrokesOfTurnSaid : Prop := fnExactStrokesOfTurnRow.holds Try.pinned (OpenSpec.ofChange fnExactStrokesOfTurnSpec)

/-- ITS FALSE NEIGHBOUR: 'it returns false'. Refute it at one input. -/
def fnExactStrokesOfTurnWrong : ChangeSpec := { name := "fnExactStrokesOfTurn", fn := fun _ => fun
  | [d] => { results := [.lit (.bool false)], args := [d] }
  | _ => none }
def FnExactStrokesOfTurnWrongFalsely : Prop := fnExactStrokesOfTurnRow.holds Try.pinned (OpenSpec.ofChange fnExactStrokesOfTurnWrong)

/-- 'laws.FnExactStrokesBetween': WHATEVER THE INPUT: true; the input reads as it did. -/
def fnExactStrokesBetweenSpec : ChangeSpec := { name := "fnExactStrokesBetween", fn := fun _ => fun
  | [d1, d2, d3] => { results := [.lit (.bool true)], args := [d1, d2, d3] }
  | _ => none }
def fnExactStrokesBetweenRow : OpenClaim := { program := "ytmjakhnchabkaaa", sum := "a459cb4562af08653bf62d1d138cb6f52c8ab16d651cacea908d0c1eb909e5da", func := "loop.example/g01241/laws.FnExactStrokesBetween", spec := "fnExactStrokesBetween", unfollowed := true, recurses := true, apart := false }
def FnExactStrokesBetweenSaid : Prop := fnExactStrokesBetweenRow.holds Try.pinned (OpenSpec.ofChange fnExactStrokesBetweenSpec)

/-- ITS FALSE NEIGHBOUR: 'it returns false'. Refute it at one input. -/
def fnExactStrokesBetweenWrong : ChangeSpec := { name := "fnExactStrokesBetween", fn := fun _ => fun
  | [d1, d2, d3] => { results := [.lit (.bool false)], args := [d1, d2, d3] }
  | _ => none }
def FnExactStrokesBetweenWrongFalsely : Prop := fnExactStrokesBetweenRow.holds Try.pinned (OpenSpec.ofChange fnExactStrokesBetweenWrong)

/-- 'laws.FnExactStrokeNumber': WHATEVER THE INPUT: true; the input reads as it did. -/
def fnExactStrokeNumberSpec : ChangeSpec := { name := "fnExactStrokeNumber", fn := fun _ => fun
  | [d1, d2] => { results := [.lit (.bool true)], args := [d1, d2] }
  | _ => none }
def fnExactStrokeNumberRow : OpenClaim := { program := "ytmjakhnchabkaaa", sum := "a459cb4562af08653bf62d1d138cb6f52c8ab16d651cacea908d0c1eb909e5da", func := "loop.example/g01241/laws.FnExactStrokeNumber", spec := "fnExactStrokeNumber", unfollowed := true, recurses := true, apart := false }
def FnExactStrokeNumberSaid : Prop := fnExactStrokeNumberRow.holds Try.pinned (OpenSpec.ofChange fnExactStrokeNumberSpec)

/-- ITS FALSE NEIGHBOUR: 'it returns false'. Refute it at one input. -/
def fnExactStrokeNumberWrong : ChangeSpec := { name := "fnExactStrokeNumber", fn := fun _ => fun
  | [d1, d2] => { results := [.lit (.bool false)], args := [d1, d2] }
  | _ => none }
def FnExactStrokeNumberWrongFalsely : Prop := fnExactStrokeNumberRow.holds Try.pinned (OpenSpec.ofChange fnExactStrokeNumberWrong)

/-- 'laws.FnExactHeardFrom': WHATEVER THE INPUT: true; the input reads as it did. -/
def fnExactHeardFromSpec : ChangeSpec := { name := "fnExactHeardFrom", fn := fun _ => fun
  | [d1, d2, d3] => { results := [.lit (.bool true)], args := [d1, d2, d3] }
  | _ => none }
def fnExactHeardFromRow : OpenClaim := { program := "ytmjakhnchabkaaa", sum := "a459cb4562af08653bf62d1d138cb6f52c8ab16d651cacea908d0c1eb909e5da", func := "loop.example/g01241/laws.FnExactHeardFrom", spec := "fnExactHeardFrom", unfollowed := true, recurses := true, apart := false }
def FnExactHeardFromSaid : Prop := fnExactHeardFromRow.holds Try.pinned (OpenSpec.ofChange fnExactHeardFromSpec)

/-- ITS FALSE NEIGHBOUR: 'it returns false'. Refute it at one input. -/
def fnExactHeardFromWrong : ChangeSpec := { name := "fnExactHeardFrom", fn := fun _ => fun
  | [d1, d2, d3] => { results := [.lit (.bool false)], args := [d1, d2, d3] }
  | _ => none }
def FnExactHeardFromWrongFalsely : Prop := fnExactHeardFromRow.holds Try.pinned (OpenSpec.ofChange fnExactHeardFromWrong)

/-- 'laws.FnExactHalvesOfHeard': WHATEVER THE INPUT: true; the input reads as it did. -/
def fnExactHalvesOfHeardSpec : ChangeSpec := { name := "fnExactHalvesOfHeard", fn := fun _ => fun
  | [d1, d2] => { results := [.lit (.bool true)], args := [d1, d2] }
  | _ => none }
def fnExactHalvesOfHeardRow : OpenClaim := { program := "ytmjakhnchabkaaa", sum := "a459cb4562af08653bf62d1d138cb6f52c8ab16d651cacea908d0c1eb909e5da", func := "loop.example/g01241/laws.FnExactHalvesOfHeard", spec := "fnExactHalvesOfHeard", unfollowed := true, recurses := true, apart := false }
def FnExactHalvesOfHeardSaid : Prop := fnExactHalvesOfHeardRow.holds Try.pinned (OpenSpec.ofChange fnExactHalvesOfHeardSpec)

/-- ITS FALSE NEIGHBOUR: 'it returns false'. Refute it at one input. -/
def fnExactHalvesOfHeardWrong : ChangeSpec := { name := "fnExactHalvesOfHeard", fn := fun _ => fun
  | [d1, d2] => { results := [.lit (.bool false)], args := [d1, d2] }
  | _ => none }
def FnExactHalvesOfHeardWrongFalsely : Prop := fnExactHalvesOfHeardRow.holds Try.pinned (OpenSpec.ofChange fnExactHalvesOfHeardWrong)

/-- 'laws.FnExactIsHeard': WHATEVER THE INPUT: true; the input reads as it did. -/
def fnExactIsHeardSpec : ChangeSpec := { name := "fnExactIsHeard", fn := fun _ => fun
  | [d1, d2] => { results := [.lit (.bool true)], args := [d1, d2] }
  | _ => none }
def fnExactIsHeardRow : OpenClaim := { program := "ytmjakhnchabkaaa", sum := "a459cb4562af08653bf62d1d138cb6f52c8ab16d651cacea908d0c1eb909e5da", func := "loop.example/g01241/laws.FnExactIsHeard", spec := "fnExactIsHeard", unfollowed := true, recurses := true, apart := false }
def FnExactIsHeardSaid : Prop := fnExactIsHeardRow.holds Try.pinned (OpenSpec.ofChange fnExactIsHeardSpec)

/-- ITS FALSE NEIGHBOUR: 'it returns false'. Refute it at one input. -/
def fnExactIsHeardWrong : ChangeSpec := { name := "fnExactIsHeard", fn := fun _ => fun
  | [d1, d2] => { results := [.lit (.bool false)], args := [d1, d2] }
  | _ => none }
def FnExactIsHeardWrongFalsely : Prop := fnExactIsHeardRow.holds Try.pinned (OpenSpec.ofChange fnExactIsHeardWrong)

/-- 'laws.FnExactKnownAfter': WHATEVER THE INPUT: true; the input reads as it did. -/
def fnExactKnownAfterSpec : ChangeSpec := { name := "fnExactKnownAfter", fn := fun _ => fun
  | [d1, d2] => { results := [.lit (.bool true)], args := [d1, d2] }
  | _ => none }
def fnExactKnownAfterRow : OpenClaim := { program := "ytmjakhnchabkaaa", sum := "a459cb4562af08653bf62d1d138cb6f52c8ab16d651cacea908d0c1eb909e5da", func := "loop.example/g01241/laws.FnExactKnownAfter", spec := "fnExactKnownAfter", unfollowed := true, recurses := true, apart := false }
def FnExactKnownAfterSaid : Prop := fnExactKnownAfterRow.holds Try.pinned (OpenSpec.ofChange fnExactKnownAfterSpec)

/-- ITS FALSE NEIGHBOUR: 'it returns false'. Refute it at one input. -/
def fnExactKnownAfterWrong : ChangeSpec := { name := "fnExactKnownAfter", fn := fun _ => fun
  | [d1, d2] => { results := [.lit (.bool false)], args := [d1, d2] }
  | _ => none }
def FnExactKnownAfterWrongFalsely : Prop := fnExactKnownAfterRow.holds Try.pinned (OpenSpec.ofChange fnExactKnownAfterWrong)

/-- 'laws.FnExactLongestUnknown': WHATEVER THE INPUT: true; the input reads as it did. -/
def fnExactLongestUnknownSpec : ChangeSpec := { name := "fnExactLongestUnknown", fn := fun _ => fun
  | [d] => { results := [.lit (.bool true)], args := [d] }
  | _ => none }
def fnExactLongestUnknownRow : OpenClaim := { program := "ytmjakhnchabkaaa", sum := "a459cb4562af08653bf62d1d138cb6f52c8ab16d651cacea908d0c1eb909e5da", func := "loop.example/g01241/laws.FnExactLongestUnknown", spec := "fnExactLongestUnknown", unfollowed := true, recurses := true, apart := false }
def FnExactLongestUnknownSaid : Prop := fnExactLongestUnknownRow.holds Try.pinned (OpenSpec.ofChange fnExactLongestUnknownSpec)

/-- ITS FALSE NEIGHBOUR: 'it returns false'. Refute it at one input. -/
def fnExactLongestUnknownWrong : ChangeSpec := { name := "fnExactLongestUnknown", fn := fun _ => fun
  | [d] => { results := [.lit (.bool false)], args := [d] }
  | _ => none }
def FnExactLongestUnknownWrongFalsely : Prop := fnExactLongestUnknownRow.holds Try.pinned (OpenSpec.ofChange fnExactLongestUnknownWrong)

/-- 'laws.FnExactNextHeard': WHATEVER THE INPUT: true; the input reads as it did. -/
def fnExactNextHeardSpec : ChangeSpec := { name := "fnExactNextHeard", fn := fun _ => fun
  | [d1, d2] => { results := [.lit (.bool true)], args := [d1, d2] }
  | _ => none }
def fnExactNextHeardRow : OpenClaim := { program := "ytmjakhnchabkaaa", sum := "a459cb4562af08653bf62d1d138cb6f52c8ab16d651cacea908d0c1eb909e5da", func := "loop.example/g01241/laws.FnExactNextHeard", spec := "fnExactNextHeard", unfollowed := true, recurses := true, apart := false }
def FnExactNextHeardSaid : Prop := fnExactNextHeardRow.holds Try.pinned (OpenSpec.ofChange fnExactNextHeardSpec)

/-- ITS FALSE NEIGHBOUR: 'it returns false'. Refute it at one input. -/
def fnExactNextHeardWrong : ChangeSpec := { name := "fnExactNextHeard", fn := fun _ => fun
  | [d1, d2] => { results := [.lit (.bool false)], args := [d1, d2] }
  | _ => none }
def FnExactNextHeardWrongFalsely : Prop := fnExactNextHeardRow.holds Try.pinned (OpenSpec.ofChange fnExactNextHeardWrong)

/-- 'laws.FnExactStepsBack': WHATEVER THE INPUT: true; the input reads as it did. -/
def fnExactStepsBackSpec : ChangeSpec := { name := "fnExactStepsBack", fn := fun _ => fun
  | [d1, d2, d3] => { results := [.lit (.bool true)], args := [d1, d2, d3] }
  | _ => none }
def fnExactStepsBackRow : OpenClaim := { program := "ytmjakhnchabkaaa", sum := "a459cb4562af08653bf62d1d138cb6f52c8ab16d651cacea908d0c1eb909e5da", func := "loop.example/g01241/laws.FnExactStepsBack", spec := "fnExactStepsBack", unfollowed := true, recurses := true, apart := false }
def FnExactStepsBackSaid : Prop := fnExactStepsBackRow.holds Try.pinned (OpenSpec.ofChange fnExactStepsBackSpec)

/-- ITS FALSE NEIGHBOUR: 'it returns false'. Refute it at one input. -/
def fnExactStepsBackWrong : ChangeSpec := { name := "fnExactStepsBack", fn := fun _ => fun
  | [d1, d2, d3] => { results := [.lit (.bool false)], args := [d1, d2, d3] }
  | _ => none }
def FnExactStepsBackWrongFalsely : Prop := fnExactStepsBackRow.holds Try.pinned (OpenSpec.ofChange fnExactStepsBackWrong)

/-- 'laws.FnExactStrokesToMend': WHATEVER THE INPUT: true; the input reads as it did. -/
def fnExactStrokesToMendSpec : ChangeSpec := { name := "fnExactStrokesToMend", fn := fun _ => fun
  | [d1, d2, d3] => { results := [.lit (.bool true)], args := [d1, d2, d3] }
  | _ => none }
def fnExactStrokesToMendRow : OpenClaim := { program := "ytmjakhnchabkaaa", sum := "a459cb4562af08653bf62d1d138cb6f52c8ab16d651cacea908d0c1eb909e5da", func := "loop.example/g01241/laws.FnExactStrokesToMend", spec := "fnExactStrokesToMend", unfollowed := true, recurses := true, apart := false }
def FnExactStrokesToMendSaid : Prop := fnExactStrokesToMendRow.holds Try.pinned (OpenSpec.ofChange fnExactStrokesToMendSpec)

/-- ITS FALSE NEIGHBOUR: 'it returns false'. Refute it at one input. -/
def fnExactStrokesToMendWrong : ChangeSpec := { name := "fnExactStrokesToMend", fn := fun _ => fun
  | [d1, d2, d3] => { results := [.lit (.bool false)], args := [d1, d2, d3] }
  | _ => none }
def FnExactStrokesToMendWrongFalsely : Prop := fnExactStrokesToMendRow.holds Try.pinned (OpenSpec.ofChange fnExactStrokesToMendWrong)

/-- 'laws.FnExactHalfOfWheel': WHATEVER THE INPUT: true; the input reads as it did. -/
def fnExactHalfOfWheelSpec : ChangeSpec := { name := "fnExactHalfOfWheel", fn := fun _ => fun
  | [d1, d2] => { results := [.lit (.bool true)], args := [d1, d2] }
  | _ => none }
def fnExactHalfOfWheelRow : OpenClaim := { program := "ytmjakhnchabkaaa", sum := "a459cb4562af08653bf62d1d138cb6f52c8ab16d651cacea908d0c1eb909e5da", func := "loop.example/g01241/laws.FnExactHalfOfWheel", spec := "fnExactHalfOfWheel", unfollowed := true, recurses := true, apart := false }
def FnExactHalfOfWheelSaid : Prop := fnExactHalfOfWheelRow.holds Try.pinned (OpenSpec.ofChange fnExactHalfOfWheelSpec)

/-- ITS FALSE NEIGHBOUR: 'it returns false'. Refute it at one input. -/
def fnExactHalfOfWheelWrong : ChangeSpec := { name := "fnExactHalfOfWheel", fn := fun _ => fun
  | [d1, d2] => { results := [.lit (.bool false)], args := [d1, d2] }
  | _ => none }
def FnExactHalfOfWheelWrongFalsely : Prop := fnExactHalfOfWheelRow.holds Try.pinned (OpenSpec.ofChange fnExactHalfOfWheelWrong)

/-- 'laws.FnExactWaitForStrokes': WHATEVER THE INPUT: true; the input reads as it did. -/
def fnExactWaitForStrokesSpec : ChangeSpec := { name := "fnExactWaitForStrokes", fn := fun _ => fun
  | [d1, d2, d3] => { results := [.lit (.bool true)], args := [d1, d2, d3] }
  | _ => none }
def fnExactWaitForStrokesRow : OpenClaim := { program := "ytmjakhnchabkaaa", sum := "a459cb4562af08653bf62d1d138cb6f52c8ab16d651cacea908d0c1eb909e5da", func := "loop.example/g01241/laws.FnExactWaitForStrokes", spec := "fnExactWaitForStrokes", unfollowed := true, recurses := true, apart := false }
def FnExactWaitForStrokesSaid : Prop := fnExactWaitForStrokesRow.holds Try.pinned (OpenSpec.ofChange fnExactWaitForStrokesSpec)

/-- ITS FALSE NEIGHBOUR: 'it returns false'. Refute it at one input. -/
def fnExactWaitForStrokesWrong : ChangeSpec := { name := "fnExactWaitForStrokes", fn := fun _ => fun
  | [d1, d2, d3] => { results := [.lit (.bool false)], args := [d1, d2, d3] }
  | _ => none }
def FnExactWaitForStrokesWrongFalsely : Prop := fnExactWaitForStrokesRow.holds Try.pinned (OpenSpec.ofChange fnExactWaitForStrokesWrong)

/-- 'laws.FnExactMostInHalves': WHATEVER THE INPUT: true; the input reads as it did. -/
def fnExactMostInHalvesSpec : ChangeSpec := { name := "fnExactMostInHalves", fn := fun _ => fun
  | [d1, d2] => { results := [.lit (.bool true)], args := [d1, d2] }
  | _ => none }
def fnExactMostInHalvesRow : OpenClaim := { program := "ytmjakhnchabkaaa", sum := "a459cb4562af08653bf62d1d138cb6f52c8ab16d651cacea908d0c1eb909e5da", func := "loop.example/g01241/laws.FnExactMostInHalves", spec := "fnExactMostInHalves", unfollowed := true, recurses := true, apart := false }
def FnExactMostInHalvesSaid : Prop := fnExactMostInHalvesRow.holds Try.pinned (OpenSpec.ofChange fnExactMostInHalvesSpec)

/-- ITS FALSE NEIGHBOUR: 'it returns false'. Refute it at one input. -/
def fnExactMostInHalvesWrong : ChangeSpec := { name := "fnExactMostInHalves", fn := fun _ => fun
  | [d1, d2] => { results := [.lit (.bool false)], args := [d1, d2] }
  | _ => none }
def FnExactMostInHalvesWrongFalsely : Prop := fnExactMostInHalvesRow.holds Try.pinned (OpenSpec.ofChange fnExactMostInHalvesWrong)

/-- 'laws.FnExactCountHeardOnce': WHATEVER THE INPUT: true; the input reads as it did. -/
def fnExactCountHeardOnceSpec : ChangeSpec := { name := "fnExactCountHeardOnce", fn := fun _ => fun
  | [d] => { results := [.lit (.bool true)], args := [d] }
  | _ => none }
def fnExactCountHeardOnceRow : OpenClaim := { program := "ytmjakhnchabkaaa", sum := "a459cb4562af08653bf62d1d138cb6f52c8ab16d651cacea908d0c1eb909e5da", func := "loop.example/g01241/laws.FnExactCountHeardOnce", spec := "fnExactCountHeardOnce", unfollowed := true, recurses := true, apart := false }
def FnExactCountHeardOnceSaid : Prop := fnExactCountHeardOnceRow.holds Try.pinned (OpenSpec.ofChange fnExactCountHeardOnceSpec)

/-- ITS FALSE NEIGHBOUR: 'it returns false'. Refute it at one input. -/
def fnExactCountHeardOnceWrong : ChangeSpec := { name := "fnExactCountHeardOnce", fn := fun _ => fun
  | [d] => { results := [.lit (.bool false)], args := [d] }
  | _ => none }
def FnExactCountHeardOnceWrongFalsely : Prop := fnExactCountHeardOnceRow.holds Try.pinned (OpenSpec.ofChange fnExactCountHeardOnceWrong)

/- THE SECOND FORM. 'bulk': how many values and letters a reading holds, each counted each time it is reached (what is shared counts as often as it is met; a slice's spare places count too). A statement '..UptoSaid' is the law's where the arguments, and the package variables that the reading takes, are together of bulk at most 1048576: NARROWER than '..Said'. Prove '..Said' where nothing that the law and all that it calls make is longer than what came in: it says more and counts as full. Else prove '..UptoSaid'. A law counts once. -/
mutual
def uptoBulk {H : Type} : DataW H → Nat
  | .lit (.string bytes) => bytes.length + 1
  | .lit _ => 1
  | .nil => 1
  | .ptr d => uptoBulk d + 1
  | .slice elems spare => uptoBulkAll elems + uptoBulkAll spare + 1
  | .agg parts => uptoBulkAll parts + 1
  | .iface _ d => uptoBulk d + 1
  | .map entries => uptoBulkEntries entries + 1
  | .held _ => 1
def uptoBulkAll {H : Type} : List (DataW H) → Nat
  | [] => 0
  | d :: r => uptoBulk d + uptoBulkAll r
def uptoBulkEntries {H : Type} : List (Lit × DataW H) → Nat
  | [] => 0
  | x :: r => uptoBulkEntry x + uptoBulkEntries r
def uptoBulkEntry {H : Type} : Lit × DataW H → Nat
  | (.string bytes, d) => bytes.length + uptoBulk d + 1
  | (_, d) => uptoBulk d + 1
 end
def uptoSmall : (H : Type) → List (DataW H) → Bool := fun _ ds => decide (uptoBulkAll ds ≤ 1048576)
def OpenSpec.upto (s : _root_.Go.ChangeSpec) : _root_.Go.OpenSpec := { _root_.Go.OpenSpec.ofChange s with cond := some uptoSmall }

/-- 'laws.FnExactStrokesAt', WHERE WHAT IT READS IS OF BULK AT MOST 1048576: true; the input reads as it did. -/
def fnExactStrokesAtUptoRow : OpenClaim := { program := "ytmjakhnchabkaaa", sum := "a459cb4562af08653bf62d1d138cb6f52c8ab16d651cacea908d0c1eb909e5da", func := "loop.example/g01241/laws.FnExactStrokesAt", spec := "fnExactStrokesAt", unfollowed := true, recurses := true, apart := false, narrowed := true }
def FnExactStrokesAtUptoSaid : Prop := fnExactStrokesAtUptoRow.holds Try.pinned (OpenSpec.upto fnExactStrokesAtSpec)

/-- 'laws.FnExactStrokesOfTurn', WHERE WHAT IT READS IS OF BULK AT MOST 1048576: true; the input reads as it did. -/
def fnExactStrokesOfTurnUptoRow : OpenClaim := { program := "ytmjakhnchabkaaa", sum := "a459cb4562af08653bf62d1d138cb6f52c8ab16d651cacea908d0c1eb909e5da", func := "loop.example/g01241/laws.FnExactStrokesOfTurn", spec := "fnExactStrokesOfTurn", apart := false, narrowed := true }
def FnExactStrokesOfTurnUptoSaid : Prop := fnExactStrokesOfTurnUptoRow.holds Try.pinned (OpenSpec.upto fnExactStrokesOfTurnSpec)

/-- 'laws.FnExactStrokesBetween', WHERE WHAT IT READS IS OF BULK AT MOST 1048576: true; the input reads as it did. -/
def fnExactStrokesBetweenUptoRow : OpenClaim := { program := "ytmjakhnchabkaaa", sum := "a459cb4562af08653bf62d1d138cb6f52c8ab16d651cacea908d0c1eb909e5da", func := "loop.example/g01241/laws.FnExactStrokesBetween", spec := "fnExactStrokesBetween", unfollowed := true, recurses := true, apart := false, narrowed := true }
def FnExactStrokesBetweenUptoSaid : Prop := fnExactStrokesBetweenUptoRow.holds Try.pinned (OpenSpec.upto fnExactStrokesBetweenSpec)

/-- 'laws.FnExactStrokeNumber', WHERE WHAT IT READS IS OF BULK AT MOST 1048576: true; the input reads as it did. -/
def fnExactStrokeNumberUptoRow : OpenClaim := { program := "ytmjakhnchabkaaa", sum := "a459cb4562af08653bf62d1d138cb6f52c8ab16d651cacea908d0c1eb909e5da", func := "loop.example/g01241/laws.FnExactStrokeNumber", spec := "fnExactStrokeNumber", unfollowed := true, recurses := true, apart := false, narrowed := true }
def FnExactStrokeNumberUptoSaid : Prop := fnExactStrokeNumberUptoRow.holds Try.pinned (OpenSpec.upto fnExactStrokeNumberSpec)

/-- 'laws.FnExactHeardFrom', WHERE WHAT IT READS IS OF BULK AT MOST 1048576: true; the input reads as it did. -/
def fnExactHeardFromUptoRow : OpenClaim := { program := "ytmjakhnchabkaaa", sum := "a459cb4562af08653bf62d1d138cb6f52c8ab16d651cacea908d0c1eb909e5da", func := "loop.example/g01241/laws.FnExactHeardFrom", spec := "fnExactHeardFrom", unfollowed := true, recurses := true, apart := false, narrowed := true }
def FnExactHeardFromUptoSaid : Prop := fnExactHeardFromUptoRow.holds Try.pinned (OpenSpec.upto fnExactHeardFromSpec)

/-- 'laws.FnExactHalvesOfHeard', WHERE WHAT IT READS IS OF BULK AT MOST 1048576: true; the input reads as it did. -/
def fnExactHalvesOfHeardUptoRow : OpenClaim := { program := "ytmjakhnchabkaaa", sum := "a459cb4562af08653bf62d1d138cb6f52c8ab16d651cacea908d0c1eb909e5da", func := "loop.example/g01241/laws.FnExactHalvesOfHeard", spec := "fnExactHalvesOfHeard", unfollowed := true, recurses := true, apart := false, narrowed := true }
def FnExactHalvesOfHeardUptoSaid : Prop := fnExactHalvesOfHeardUptoRow.holds Try.pinned (OpenSpec.upto fnExactHalvesOfHeardSpec)

/-- 'laws.FnExactIsHeard', WHERE WHAT IT READS IS OF BULK AT MOST 1048576: true; the input reads as it did. -/
def fnExactIsHeardUptoRow : OpenClaim := { program := "ytmjakhnchabkaaa", sum := "a459cb4562af08653bf62d1d138cb6f52c8ab16d651cacea908d0c1eb909e5da", func := "loop.example/g01241/laws.FnExactIsHeard", spec := "fnExactIsHeard", unfollowed := true, recurses := true, apart := false, narrowed := true }
def FnExactIsHeardUptoSaid : Prop := fnExactIsHeardUptoRow.holds Try.pinned (OpenSpec.upto fnExactIsHeardSpec)

/-- 'laws.FnExactKnownAfter', WHERE WHAT IT READS IS OF BULK AT MOST 1048576: true; the input reads as it did. -/
def fnExactKnownAfterUptoRow : OpenClaim := { program := "ytmjakhnchabkaaa", sum := "a459cb4562af08653bf62d1d138cb6f52c8ab16d651cacea908d0c1eb909e5da", func := "loop.example/g01241/laws.FnExactKnownAfter", spec := "fnExactKnownAfter", unfollowed := true, recurses := true, apart := false, narrowed := true }
def FnExactKnownAfterUptoSaid : Prop := fnExactKnownAfterUptoRow.holds Try.pinned (OpenSpec.upto fnExactKnownAfterSpec)

/-- 'laws.FnExactLongestUnknown', WHERE WHAT IT READS IS OF BULK AT MOST 1048576: true; the input reads as it did. -/
def fnExactLongestUnknownUptoRow : OpenClaim := { program := "ytmjakhnchabkaaa", sum := "a459cb4562af08653bf62d1d138cb6f52c8ab16d651cacea908d0c1eb909e5da", func := "loop.example/g01241/laws.FnExactLongestUnknown", spec := "fnExactLongestUnknown", unfollowed := true, recurses := true, apart := false, narrowed := true }
def FnExactLongestUnknownUptoSaid : Prop := fnExactLongestUnknownUptoRow.holds Try.pinned (OpenSpec.upto fnExactLongestUnknownSpec)

/-- 'laws.FnExactNextHeard', WHERE WHAT IT READS IS OF BULK AT MOST 1048576: true; the input reads as it did. -/
def fnExactNextHeardUptoRow : OpenClaim := { program := "ytmjakhnchabkaaa", sum := "a459cb4562af08653bf62d1d138cb6f52c8ab16d651cacea908d0c1eb909e5da", func := "loop.example/g01241/laws.FnExactNextHeard", spec := "fnExactNextHeard", unfollowed := true, recurses := true, apart := false, narrowed := true }
def FnExactNextHeardUptoSaid : Prop := fnExactNextHeardUptoRow.holds Try.pinned (OpenSpec.upto fnExactNextHeardSpec)

/-- 'laws.FnExactStepsBack', WHERE WHAT IT READS IS OF BULK AT MOST 1048576: true; the input reads as it did. -/
def fnExactStepsBackUptoRow : OpenClaim := { program := "ytmjakhnchabkaaa", sum := "a459cb4562af08653bf62d1d138cb6f52c8ab16d651cacea908d0c1eb909e5da", func := "loop.example/g01241/laws.FnExactStepsBack", spec := "fnExactStepsBack", unfollowed := true, recurses := true, apart := false, narrowed := true }
def FnExactStepsBackUptoSaid : Prop := fnExactStepsBackUptoRow.holds Try.pinned (OpenSpec.upto fnExactStepsBackSpec)

/-- 'laws.FnExactStrokesToMend', WHERE WHAT IT READS IS OF BULK AT MOST 1048576: true; the input reads as it did. -/
def fnExactStrokesToMendUptoRow : OpenClaim := { program := "ytmjakhnchabkaaa", sum := "a459cb4562af08653bf62d1d138cb6f52c8ab16d651cacea908d0c1eb909e5da", func := "loop.example/g01241/laws.FnExactStrokesToMend", spec := "fnExactStrokesToMend", unfollowed := true, recurses := true, apart := false, narrowed := true }
def FnExactStrokesToMendUptoSaid : Prop := fnExactStrokesToMendUptoRow.holds Try.pinned (OpenSpec.upto fnExactStrokesToMendSpec)

/-- 'laws.FnExactHalfOfWheel', WHERE WHAT IT READS IS OF BULK AT MOST 1048576: true; the input reads as it did. -/
def fnExactHalfOfWheelUptoRow : OpenClaim := { program := "ytmjakhnchabkaaa", sum := "a459cb4562af08653bf62d1d138cb6f52c8ab16d651cacea908d0c1eb909e5da", func := "loop.example/g01241/laws.FnExactHalfOfWheel", spec := "fnExactHalfOfWheel", unfollowed := true, recurses := true, apart := false, narrowed := true }
def FnExactHalfOfWheelUptoSaid : Prop := fnExactHalfOfWheelUptoRow.holds Try.pinned (OpenSpec.upto fnExactHalfOfWheelSpec)

/-- 'laws.FnExactWaitForStrokes', WHERE WHAT IT READS IS OF BULK AT MOST 1048576: true; the input reads as it did. -/
def fnExactWaitForStrokesUptoRow : OpenClaim := { program := "ytmjakhnchabkaaa", sum := "a459cb4562af08653bf62d1d138cb6f52c8ab16d651cacea908d0c1eb909e5da", func := "loop.example/g01241/laws.FnExactWaitForStrokes", spec := "fnExactWaitForStrokes", unfollowed := true, recurses := true, apart := false, narrowed := true }
def FnExactWaitForStrokesUptoSaid : Prop := fnExactWaitForStrokesUptoRow.holds Try.pinned (OpenSpec.upto fnExactWaitForStrokesSpec)

/-- 'laws.FnExactMostInHalves', WHERE WHAT IT READS IS OF BULK AT MOST 1048576: true; the input reads as it did. -/
def fnExactMostInHalvesUptoRow : OpenClaim := { program := "ytmjakhnchabkaaa", sum := "a459cb4562af08653bf62d1d138cb6f52c8ab16d651cacea908d0c1eb909e5da", func := "loop.example/g01241/laws.FnExactMostInHalves", spec := "fnExactMostInHalves", unfollowed := true, recurses := true, apart := false, narrowed := true }
def FnExactMostInHalvesUptoSaid : Prop := fnExactMostInHalvesUptoRow.holds Try.pinned (OpenSpec.upto fnExactMostInHalvesSpec)

/-- 'laws.FnExactCountHeardOnce', WHERE WHAT IT READS IS OF BULK AT MOST 1048576: true; the input reads as it did. -/
def fnExactCountHeardOnceUptoRow : OpenClaim := { program := "ytmjakhnchabkaaa", sum := "a459cb4562af08653bf62d1d138cb6f52c8ab16d651cacea908d0c1eb909e5da", func := "loop.example/g01241/laws.FnExactCountHeardOnce", spec := "fnExactCountHeardOnce", unfollowed := true, recurses := true, apart := false, narrowed := true }
def FnExactCountHeardOnceUptoSaid : Prop := fnExactCountHeardOnceUptoRow.holds Try.pinned (OpenSpec.upto fnExactCountHeardOnceSpec)

end Rows
end Go.Proofs.Ytmjakhnchabkaaa
