/-
  No cell of these rows narrows 'for every input' (looked for: loops, veiled, ifaces, maps, wideKeys, modest, calm, conditions, laid).
  DERIVED. THE GIVEN ROWS OF THIS SEAT. 16 by the template 'for every input the law returns true; each argument reads behind the call as it read before'; 0 by the template 'total and deterministic' (their statements: YtgdjnnelonnoaaaTotals.lean).
  GIVEN WITH THE SEED: the statements are not yours to turn. If you find one false, say at which input.
  Laid BY PROGRAM, IN A SANDBOX (cutbox-rows.mjs): the forced cells as the released guide's own fill.sh prints them over the translation b62dda73a1da3038… (all of the seat's roots in one cut). By AI agents, Wed Nov 11 2026. No macro, syntax, notation, axiom, sorry.
-/
import Derived.Test.YtgdjnnelonnoaaaChecked
import GoSem.Claim
import GoSem.ClaimJoined
import GoSem.ClaimMapViews
import Derived.JoinedTies
import Derived.KernelRfl
namespace Go.Proofs.Ytgdjnnelonnoaaa
/- THE CELL 'sum', in the pinned program and in every row, IS THE sha256 OF THE DUMP (.gsa) THAT YtgdjnnelonnoaaaProg.lean LOADS. Nothing in Lean hashes anything: it is a label: what it is worth is what the hold of that sum in a sandbox is worth. -/
noncomputable def Try.pinned : Pinned := { name := "ytgdjnnelonnoaaa", sum := "b62dda73a1da3038317c8943cc3ca956f72a707b8524b019038ebb14e2061c17", checked := Try.checked }
namespace Rows
def none {H : Type} : Left H := { results := [], args := [] }

/-- 'laws.FnExactIsHand': WHATEVER THE INPUT: true; the input reads as it did. -/
def fnExactIsHandSpec : ChangeSpec := { name := "fnExactIsHand", fn := fun _ => fun
  | [d] => { results := [.lit (.bool true)], args := [d] }
  | _ => none }
def fnExactIsHandRow : OpenClaim := { program := "ytgdjnnelonnoaaa", sum := "b62dda73a1da3038317c8943cc3ca956f72a707b8524b019038ebb14e2061c17", func := "loop.example/g01241/laws.FnExactIsHand", spec := "fnExactIsHand", apart := false }
def FnExactIsHandSaid : Prop := fnExactIsHandRow.holds Try.pinned (OpenSpec.ofChange fnExactIsHandSpec)

/-- ITS FALSE NEIGHBOUR: 'it returns false'. Refute it at one input. -/
def fnExactIsHandWrong : ChangeSpec := { name := "fnExactIsHand", fn := fun _ => fun
  | [d] => { results := [.lit (.bool false)], args := [d] }
  | _ => none }
def FnExactIsHandWrongFalsely : Prop := fnExactIsHandRow.holds Try.pinned (OpenSpec.ofChange fnExactIsHandWrong)

/-- 'laws.FnExactHandAt': WHATEVER THE INPUT: true; the input reads as it did. -/
def fnExactHandAtSpec : ChangeSpec := { name := "fnExactHandAt", fn := fun _ => fun
  | [d1, d2] => { results := [.lit (.bool true)], args := [d1, d2] }
  | _ => none }
def fnExactHandAtRow : OpenClaim := { program := "ytgdjnnelonnoaaa", sum := "b62dda73a1da3038317c8943cc3ca956f72a707b8524b019038ebb14e2061c17", func := "loop.example/g01241/laws.FnExactHandAt", spec := "fnExactHandAt", apart := false }
def FnExactHandAtSaid : Prop := fnExactHandAtRow.holds Try.pinned (OpenSpec.ofChange fnExactHandAtSpec)

/-- ITS FALSE NEIGHBOUR: 'it returns false'. Refute it at one input. -/
def fnExactHandAtWrong : ChangeSpec := { name := "fnExactHandAt", fn := fun _ => fun
  | [d1, d2] => { results := [.lit (.bool false)], args := [d1, d2] }
  | _ => none }
def FnExactHandAtWrongFalsely : Prop := fnExactHandAtRow.holds Try.pinned (OpenSpec.ofChange fnExactHandAtWrong)

/-- 'laws.FnExactAheadAt': WHATEVER THE INPUT: true; the input reads as it did. -/
def fnExactAheadAtSpec : ChangeSpec := { name := "fnExactAheadAt", fn := fun _ => fun
  | [d1, d2, d3] => { results := [.lit (.bool true)], args := [d1, d2, d3] }
  | _ => none }
def fnExactAheadAtRow : OpenClaim := { program := "ytgdjnnelonnoaaa", sum := "b62dda73a1da3038317c8943cc3ca956f72a707b8524b019038ebb14e2061c17", func := "loop.example/g01241/laws.FnExactAheadAt", spec := "fnExactAheadAt", apart := false }
def FnExactAheadAtSaid : Prop := fnExactAheadAtRow.holds Try.pinned (OpenSpec.ofChange fnExactAheadAtSpec)

/-- ITS FALSE NEIGHBOUR: 'it returns false'. Refute it at one input. -/
def fnExactAheadAtWrong : ChangeSpec := { name := "fnExactAheadAt", fn := fun _ => fun
  | [d1, d2, d3] => { results := [.lit (.bool false)], args := [d1, d2, d3] }
  | _ => none }
def FnExactAheadAtWrongFalsely : Prop := fnExactAheadAtRow.holds Try.pinned (OpenSpec.ofChange fnExactAheadAtWrong)

/-- 'laws.FnExactRelativeHand': WHATEVER THE INPUT: true; the input reads as it did. -/
def fnExactRelativeHandSpec : ChangeSpec := { name := "fnExactRelativeHand", fn := fun _ => fun
  | [d1, d2] => { results := [.lit (.bool true)], args := [d1, d2] }
  | _ => none }
def fnExactRelativeHandRow : OpenClaim := { program := "ytgdjnnelonnoaaa", sum := "b62dda73a1da3038317c8943cc3ca956f72a707b8524b019038ebb14e2061c17", func := "loop.example/g01241/laws.FnExactRelativeHand", spec := "fnExactRelativeHand", apart := false }
def FnExactRelativeHandSaid : Prop := fnExactRelativeHandRow.holds Try.pinned (OpenSpec.ofChange fnExactRelativeHandSpec)

/-- ITS FALSE NEIGHBOUR: 'it returns false'. Refute it at one input. -/
def fnExactRelativeHandWrong : ChangeSpec := { name := "fnExactRelativeHand", fn := fun _ => fun
  | [d1, d2] => { results := [.lit (.bool false)], args := [d1, d2] }
  | _ => none }
def FnExactRelativeHandWrongFalsely : Prop := fnExactRelativeHandRow.holds Try.pinned (OpenSpec.ofChange fnExactRelativeHandWrong)

/-- 'laws.FnExactCountMeets': WHATEVER THE INPUT: true; the input reads as it did. -/
def fnExactCountMeetsSpec : ChangeSpec := { name := "fnExactCountMeets", fn := fun _ => fun
  | [d1, d2] => { results := [.lit (.bool true)], args := [d1, d2] }
  | _ => none }
def fnExactCountMeetsRow : OpenClaim := { program := "ytgdjnnelonnoaaa", sum := "b62dda73a1da3038317c8943cc3ca956f72a707b8524b019038ebb14e2061c17", func := "loop.example/g01241/laws.FnExactCountMeets", spec := "fnExactCountMeets", apart := false }
def FnExactCountMeetsSaid : Prop := fnExactCountMeetsRow.holds Try.pinned (OpenSpec.ofChange fnExactCountMeetsSpec)

/-- ITS FALSE NEIGHBOUR: 'it returns false'. Refute it at one input. -/
def fnExactCountMeetsWrong : ChangeSpec := { name := "fnExactCountMeets", fn := fun _ => fun
  | [d1, d2] => { results := [.lit (.bool false)], args := [d1, d2] }
  | _ => none }
def FnExactCountMeetsWrongFalsely : Prop := fnExactCountMeetsRow.holds Try.pinned (OpenSpec.ofChange fnExactCountMeetsWrong)

/-- 'laws.FnExactMeetTimes': WHATEVER THE INPUT: true; the input reads as it did. -/
def fnExactMeetTimesSpec : ChangeSpec := { name := "fnExactMeetTimes", fn := fun _ => fun
  | [d1, d2] => { results := [.lit (.bool true)], args := [d1, d2] }
  | _ => none }
def fnExactMeetTimesRow : OpenClaim := { program := "ytgdjnnelonnoaaa", sum := "b62dda73a1da3038317c8943cc3ca956f72a707b8524b019038ebb14e2061c17", func := "loop.example/g01241/laws.FnExactMeetTimes", spec := "fnExactMeetTimes", apart := false }
def FnExactMeetTimesSaid : Prop := fnExactMeetTimesRow.holds Try.pinned (OpenSpec.ofChange fnExactMeetTimesSpec)

/-- ITS FALSE NEIGHBOUR: 'it returns false'. Refute it at one input. -/
def fnExactMeetTimesWrong : ChangeSpec := { name := "fnExactMeetTimes", fn := fun _ => fun
  | [d1, d2] => { results := [.lit (.bool false)], args := [d1, d2] }
  | _ => none }
def FnExactMeetTimesWrongFalsely : Prop := fnExactMeetTimesRow.holds Try.pinned (OpenSpec.ofChange fnExactMeetTimesWrong)

/-- 'laws.FnExactAheadTimes': WHATEVER THE INPUT: true; the input reads as it did. -/
def fnExactAheadTimesSpec : ChangeSpec := { name := "fnExactAheadTimes", fn := fun _ => fun
  | [d1, d2, d3] => { results := [.lit (.bool true)], args := [d1, d2, d3] }
  | _ => none }
def fnExactAheadTimesRow : OpenClaim := { program := "ytgdjnnelonnoaaa", sum := "b62dda73a1da3038317c8943cc3ca956f72a707b8524b019038ebb14e2061c17", func := "loop.example/g01241/laws.FnExactAheadTimes", spec := "fnExactAheadTimes", apart := false }
def FnExactAheadTimesSaid : Prop := fnExactAheadTimesRow.holds Try.pinned (OpenSpec.ofChange fnExactAheadTimesSpec)

/-- ITS FALSE NEIGHBOUR: 'it returns false'. Refute it at one input. -/
def fnExactAheadTimesWrong : ChangeSpec := { name := "fnExactAheadTimes", fn := fun _ => fun
  | [d1, d2, d3] => { results := [.lit (.bool false)], args := [d1, d2, d3] }
  | _ => none }
def FnExactAheadTimesWrongFalsely : Prop := fnExactAheadTimesRow.holds Try.pinned (OpenSpec.ofChange fnExactAheadTimesWrong)

/-- 'laws.FnExactOppositeTimes': WHATEVER THE INPUT: true; the input reads as it did. -/
def fnExactOppositeTimesSpec : ChangeSpec := { name := "fnExactOppositeTimes", fn := fun _ => fun
  | [d1, d2] => { results := [.lit (.bool true)], args := [d1, d2] }
  | _ => none }
def fnExactOppositeTimesRow : OpenClaim := { program := "ytgdjnnelonnoaaa", sum := "b62dda73a1da3038317c8943cc3ca956f72a707b8524b019038ebb14e2061c17", func := "loop.example/g01241/laws.FnExactOppositeTimes", spec := "fnExactOppositeTimes", apart := false }
def FnExactOppositeTimesSaid : Prop := fnExactOppositeTimesRow.holds Try.pinned (OpenSpec.ofChange fnExactOppositeTimesSpec)

/-- ITS FALSE NEIGHBOUR: 'it returns false'. Refute it at one input. -/
def fnExactOppositeTimesWrong : ChangeSpec := { name := "fnExactOppositeTimes", fn := fun _ => fun
  | [d1, d2] => { results := [.lit (.bool false)], args := [d1, d2] }
  | _ => none }
def FnExactOppositeTimesWrongFalsely : Prop := fnExactOppositeTimesRow.holds Try.pinned (OpenSpec.ofChange fnExactOppositeTimesWrong)

/-- 'laws.FnExactFirstMeet': WHATEVER THE INPUT: true; the input reads as it did. -/
def fnExactFirstMeetSpec : ChangeSpec := { name := "fnExactFirstMeet", fn := fun _ => fun
  | [d1, d2] => { results := [.lit (.bool true)], args := [d1, d2] }
  | _ => none }
def fnExactFirstMeetRow : OpenClaim := { program := "ytgdjnnelonnoaaa", sum := "b62dda73a1da3038317c8943cc3ca956f72a707b8524b019038ebb14e2061c17", func := "loop.example/g01241/laws.FnExactFirstMeet", spec := "fnExactFirstMeet", apart := false }
def FnExactFirstMeetSaid : Prop := fnExactFirstMeetRow.holds Try.pinned (OpenSpec.ofChange fnExactFirstMeetSpec)

/-- ITS FALSE NEIGHBOUR: 'it returns false'. Refute it at one input. -/
def fnExactFirstMeetWrong : ChangeSpec := { name := "fnExactFirstMeet", fn := fun _ => fun
  | [d1, d2] => { results := [.lit (.bool false)], args := [d1, d2] }
  | _ => none }
def FnExactFirstMeetWrongFalsely : Prop := fnExactFirstMeetRow.holds Try.pinned (OpenSpec.ofChange fnExactFirstMeetWrong)

/-- 'laws.FnExactNextMeet': WHATEVER THE INPUT: true; the input reads as it did. -/
def fnExactNextMeetSpec : ChangeSpec := { name := "fnExactNextMeet", fn := fun _ => fun
  | [d1, d2, d3] => { results := [.lit (.bool true)], args := [d1, d2, d3] }
  | _ => none }
def fnExactNextMeetRow : OpenClaim := { program := "ytgdjnnelonnoaaa", sum := "b62dda73a1da3038317c8943cc3ca956f72a707b8524b019038ebb14e2061c17", func := "loop.example/g01241/laws.FnExactNextMeet", spec := "fnExactNextMeet", apart := false }
def FnExactNextMeetSaid : Prop := fnExactNextMeetRow.holds Try.pinned (OpenSpec.ofChange fnExactNextMeetSpec)

/-- ITS FALSE NEIGHBOUR: 'it returns false'. Refute it at one input. -/
def fnExactNextMeetWrong : ChangeSpec := { name := "fnExactNextMeet", fn := fun _ => fun
  | [d1, d2, d3] => { results := [.lit (.bool false)], args := [d1, d2, d3] }
  | _ => none }
def FnExactNextMeetWrongFalsely : Prop := fnExactNextMeetRow.holds Try.pinned (OpenSpec.ofChange fnExactNextMeetWrong)

/-- 'laws.FnExactMeetPlaces': WHATEVER THE INPUT: true; the input reads as it did. -/
def fnExactMeetPlacesSpec : ChangeSpec := { name := "fnExactMeetPlaces", fn := fun _ => fun
  | [d1, d2] => { results := [.lit (.bool true)], args := [d1, d2] }
  | _ => none }
def fnExactMeetPlacesRow : OpenClaim := { program := "ytgdjnnelonnoaaa", sum := "b62dda73a1da3038317c8943cc3ca956f72a707b8524b019038ebb14e2061c17", func := "loop.example/g01241/laws.FnExactMeetPlaces", spec := "fnExactMeetPlaces", unfollowed := true, recurses := true, apart := false }
def FnExactMeetPlacesSaid : Prop := fnExactMeetPlacesRow.holds Try.pinned (OpenSpec.ofChange fnExactMeetPlacesSpec)

/-- ITS FALSE NEIGHBOUR: 'it returns false'. Refute it at one input. -/
def fnExactMeetPlacesWrong : ChangeSpec := { name := "fnExactMeetPlaces", fn := fun _ => fun
  | [d1, d2] => { results := [.lit (.bool false)], args := [d1, d2] }
  | _ => none }
def FnExactMeetPlacesWrongFalsely : Prop := fnExactMeetPlacesRow.holds Try.pinned (OpenSpec.ofChange fnExactMeetPlacesWrong)

/-- 'laws.FnExactThreeMeet': WHATEVER THE INPUT: true; the input reads as it did. -/
def fnExactThreeMeetSpec : ChangeSpec := { name := "fnExactThreeMeet", fn := fun _ => fun
  | [d1, d2, d3] => { results := [.lit (.bool true)], args := [d1, d2, d3] }
  | _ => none }
def fnExactThreeMeetRow : OpenClaim := { program := "ytgdjnnelonnoaaa", sum := "b62dda73a1da3038317c8943cc3ca956f72a707b8524b019038ebb14e2061c17", func := "loop.example/g01241/laws.FnExactThreeMeet", spec := "fnExactThreeMeet", unfollowed := true, recurses := true, apart := false }
def FnExactThreeMeetSaid : Prop := fnExactThreeMeetRow.holds Try.pinned (OpenSpec.ofChange fnExactThreeMeetSpec)

/-- ITS FALSE NEIGHBOUR: 'it returns false'. Refute it at one input. -/
def fnExactThreeMeetWrong : ChangeSpec := { name := "fnExactThreeMeet", fn := fun _ => fun
  | [d1, d2, d3] => { results := [.lit (.bool false)], args := [d1, d2, d3] }
  | _ => none }
def FnExactThreeMeetWrongFalsely : Prop := fnExactThreeMeetRow.holds Try.pinned (OpenSpec.ofChange fnExactThreeMeetWrong)

/-- 'laws.FnExactTimesAtPlace': WHATEVER THE INPUT: true; the input reads as it did. -/
def fnExactTimesAtPlaceSpec : ChangeSpec := { name := "fnExactTimesAtPlace", fn := fun _ => fun
  | [d1, d2] => { results := [.lit (.bool true)], args := [d1, d2] }
  | _ => none }
def fnExactTimesAtPlaceRow : OpenClaim := { program := "ytgdjnnelonnoaaa", sum := "b62dda73a1da3038317c8943cc3ca956f72a707b8524b019038ebb14e2061c17", func := "loop.example/g01241/laws.FnExactTimesAtPlace", spec := "fnExactTimesAtPlace", apart := false }
def FnExactTimesAtPlaceSaid : Prop := fnExactTimesAtPlaceRow.holds Try.pinned (OpenSpec.ofChange fnExactTimesAtPlaceSpec)

/-- ITS FALSE NEIGHBOUR: 'it returns false'. Refute it at one input. -/
def fnExactTimesAtPlaceWrong : ChangeSpec := { name := "fnExactTimesAtPlace", fn := fun _ => fun
  | [d1, d2] => { results := [.lit (.bool false)], args := [d1, d2] }
  | _ => none }
def FnExactTimesAtPlaceWrongFalsely : Prop := fnExactTimesAtPlaceRow.holds Try.pinned (OpenSpec.ofChange fnExactTimesAtPlaceWrong)

/-- 'laws.FnExactAreSpread': WHATEVER THE INPUT: true; the input reads as it did. -/
def fnExactAreSpreadSpec : ChangeSpec := { name := "fnExactAreSpread", fn := fun _ => fun
  | [d1, d2] => { results := [.lit (.bool true)], args := [d1, d2] }
  | _ => none }
def fnExactAreSpreadRow : OpenClaim := { program := "ytgdjnnelonnoaaa", sum := "b62dda73a1da3038317c8943cc3ca956f72a707b8524b019038ebb14e2061c17", func := "loop.example/g01241/laws.FnExactAreSpread", spec := "fnExactAreSpread", unfollowed := true, recurses := true, apart := false }
def FnExactAreSpreadSaid : Prop := fnExactAreSpreadRow.holds Try.pinned (OpenSpec.ofChange fnExactAreSpreadSpec)

/-- ITS FALSE NEIGHBOUR: 'it returns false'. Refute it at one input. -/
def fnExactAreSpreadWrong : ChangeSpec := { name := "fnExactAreSpread", fn := fun _ => fun
  | [d1, d2] => { results := [.lit (.bool false)], args := [d1, d2] }
  | _ => none }
def FnExactAreSpreadWrongFalsely : Prop := fnExactAreSpreadRow.holds Try.pinned (OpenSpec.ofChange fnExactAreSpreadWrong)

/-- 'laws.FnExactGapsAt': WHATEVER THE INPUT: true; the input reads as it did. -/
def fnExactGapsAtSpec : ChangeSpec := { name := "fnExactGapsAt", fn := fun _ => fun
  | [d1, d2] => { results := [.lit (.bool true)], args := [d1, d2] }
  | _ => none }
def fnExactGapsAtRow : OpenClaim := { program := "ytgdjnnelonnoaaa", sum := "b62dda73a1da3038317c8943cc3ca956f72a707b8524b019038ebb14e2061c17", func := "loop.example/g01241/laws.FnExactGapsAt", spec := "fnExactGapsAt", unfollowed := true, recurses := true, apart := false }
def FnExactGapsAtSaid : Prop := fnExactGapsAtRow.holds Try.pinned (OpenSpec.ofChange fnExactGapsAtSpec)

/-- ITS FALSE NEIGHBOUR: 'it returns false'. Refute it at one input. -/
def fnExactGapsAtWrong : ChangeSpec := { name := "fnExactGapsAt", fn := fun _ => fun
  | [d1, d2] => { results := [.lit (.bool false)], args := [d1, d2] }
  | _ => none }
def FnExactGapsAtWrongFalsely : Prop := fnExactGapsAtRow.holds Try.pinned (OpenSpec.ofChange fnExactGapsAtWrong)

/-- 'laws.FnExactHandsOfDial': WHATEVER THE INPUT: true; the input reads as it did. -/
def fnExactHandsOfDialSpec : ChangeSpec := { name := "fnExactHandsOfDial", fn := fun _ => fun
  | [d] => { results := [.lit (.bool true)], args := [d] }
  | _ => none }
def fnExactHandsOfDialRow : OpenClaim := { program := "ytgdjnnelonnoaaa", sum := "b62dda73a1da3038317c8943cc3ca956f72a707b8524b019038ebb14e2061c17", func := "loop.example/g01241/laws.FnExactHandsOfDial", spec := "fnExactHandsOfDial", apart := false }
def FnExactHandsOfDialSaid : Prop := fnExactHandsOfDialRow.holds Try.pinned (OpenSpec.ofChange fnExactHandsOfDialSpec)

/-- ITS FALSE NEIGHBOUR: 'it returns false'. Refute it at one input. -/
def fnExactHandsOfDialWrong : ChangeSpec := { name := "fnExactHandsOfDial", fn := fun _ => fun
  | [d] => { results := [.lit (.bool false)], args := [d] }
  | _ => none }
def FnExactHandsOfDialWrongFalsely : Prop := fnExactHandsOfDialRow.holds Try.pinned (OpenSpec.ofChange fnExactHandsOfDialWrong)

/- THE SECOND FORM. 'bulk': how many values and letters a reading holds, each counted each time it is reached (what is shared counts as often as it is met; a slice's spare places count too). A statement '..UptoSaid' is the law's where the arguments, and the package variables that the reading takes, are together of bulk at most 1048576: NARROWER than '..Said'. Prove '..Said' where nothing that the law and all that it calls make is longer than what came in: it says more and counts as full. Else prove '..UptoSaid'. A law counts once. -/
mutual
def uptoBulk {H : Type} : DataW H → Nat
  | .lit (.string bytes) => bytes.length + 1
  | .lit _ => 1
  | .nil => 1
  | .ptr d => uptoBulk d + 1
  | .slice elems spare => uptoBulkAll elems + uptoBulkAll spare + 1
  | .agg parts => uptoBulkAll parts + 1
  | .iface _ d => uptoBulk d + 1
  | .map entries => uptoBulkEntries entries + 1
  | .held _ => 1
def uptoBulkAll {H : Type} : List (DataW H) → Nat
  | [] => 0
  | d :: r => uptoBulk d + uptoBulkAll r
def uptoBulkEntries {H : Type} : List (Lit × DataW H) → Nat
  | [] => 0
  | x :: r => uptoBulkEntry x + uptoBulkEntries r
def uptoBulkEntry {H : Type} : Lit × DataW H → Nat
  | (.string bytes, d) => bytes.length + uptoBulk d + 1
  | (_, d) => uptoBulk d + 1
 end
def uptoSmall : (H : Type) → List (DataW H) → Bool := fun _ ds => decide (uptoBulkAll ds ≤ 1048576)
def OpenSpec.upto (s : _root_.Go.ChangeSpec) : _root_.Go.OpenSpec := { _root_.Go.OpenSpec.ofChange s with cond := some uptoSmall }

/-- 'laws.FnExactIsHand', WHERE WHAT IT READS IS OF BULK AT MOST 1048576: true; the input reads as it did. -/
def fnExactIsHandUptoRow : OpenClaim := { program := "ytgdjnnelonnoaaa", sum := "b62dda73a1da3038317c8943cc3ca956f72a707b8524b019038ebb14e2061c17", func := "loop.example/g01241/laws.FnExactIsHand", spec := "fnExactIsHand", apart := false, narrowed := true }
def FnExactIsHandUptoSaid : Prop := fnExactIsHandUptoRow.holds Try.pinned (OpenSpec.upto fnExactIsHandSpec)

/-- 'laws.FnExactHandAt', WHERE WHAT IT READS IS OF BULK AT MOST 1048576: true; the input reads as it did. -/
def fnExactHandAtUptoRow : OpenClaim := { program := "ytgdjnnelonnoaaa", sum := "b62dda73a1da3038317c8943cc3ca956f72a707b8524b019038ebb14e2061c17", func := "loop.example/g01241/laws.FnExactHandAt", spec := "fnExactHandAt", apart := false, narrowed := true }
def FnExactHandAtUptoSaid : Prop := fnExactHandAtUptoRow.holds Try.pinned (OpenSpec.upto fnExactHandAtSpec)

/-- 'laws.FnExactAheadAt', WHERE WHAT IT READS IS OF BULK AT MOST 1048576: true; the input reads as it did. -/
def fnExactAheadAtUptoRow : OpenClaim := { program := "ytgdjnnelonnoaaa", sum := "b62dda73a1da3038317c8943cc3ca956f72a707b8524b019038ebb14e2061c17", func := "loop.example/g01241/laws.FnExactAheadAt", spec := "fnExactAheadAt", apart := false, narrowed := true }
def FnExactAheadAtUptoSaid : Prop := fnExactAheadAtUptoRow.holds Try.pinned (OpenSpec.upto fnExactAheadAtSpec)

/-- 'laws.FnExactRelativeHand', WHERE WHAT IT READS IS OF BULK AT MOST 1048576: true; the input reads as it did. -/
def fnExactRelativeHandUptoRow : OpenClaim := { program := "ytgdjnnelonnoaaa", sum := "b62dda73a1da3038317c8943cc3ca956f72a707b8524b019038ebb14e2061c17", func := "loop.example/g01241/laws.FnExactRelativeHand", spec := "fnExactRelativeHand", apart := false, narrowed := true }
def FnExactRelativeHandUptoSaid : Prop := fnExactRelativeHandUptoRow.holds Try.pinned (OpenSpec.upto fnExactRelativeHandSpec)

/-- 'laws.FnExactCountMeets', WHERE WHAT IT READS IS OF BULK AT MOST 1048576: true; the input reads as it did. -/
def fnExactCountMeetsUptoRow : OpenClaim := { program := "ytgdjnnelonnoaaa", sum := "b62dda73a1da3038317c8943cc3ca956f72a707b8524b019038ebb14e2061c17", func := "loop.example/g01241/laws.FnExactCountMeets", spec := "fnExactCountMeets", apart := false, narrowed := true }
def FnExactCountMeetsUptoSaid : Prop := fnExactCountMeetsUptoRow.holds Try.pinned (OpenSpec.upto fnExactCountMeetsSpec)

/-- 'laws.FnExactMeetTimes', WHERE WHAT IT READS IS OF BULK AT MOST 1048576: true; the input reads as it did. -/
def fnExactMeetTimesUptoRow : OpenClaim := { program := "ytgdjnnelonnoaaa", sum := "b62dda73a1da3038317c8943cc3ca956f72a707b8524b019038ebb14e2061c17", func := "loop.example/g01241/laws.FnExactMeetTimes", spec := "fnExactMeetTimes", apart := false, narrowed := true }
def FnExactMeetTimesUptoSaid : Prop := fnExactMeetTimesUptoRow.holds Try.pinned (OpenSpec.upto fnExactMeetTimesSpec)

/-- 'laws.FnExactAheadTimes', WHERE WHAT IT READS IS OF BULK AT MOST 1048576: true; the input reads as it did. -/
def fnExactAheadTimesUptoRow : OpenClaim := { program := "ytgdjnnelonnoaaa", sum := "b62dda73a1da3038317c8943cc3ca956f72a707b8524b019038ebb14e2061c17", func := "loop.example/g01241/laws.FnExactAheadTimes", spec := "fnExactAheadTimes", apart := false, narrowed := true }
def FnExactAheadTimesUptoSaid : Prop := fnExactAheadTimesUptoRow.holds Try.pinned (OpenSpec.upto fnExactAheadTimesSpec)

/-- 'laws.FnExactOppositeTimes', WHERE WHAT IT READS IS OF BULK AT MOST 1048576: true; the input reads as it did. -/
def fnExactOppositeTimesUptoRow : OpenClaim := { program := "ytgdjnnelonnoaaa", sum := "b62dda73a1da3038317c8943cc3ca956f72a707b8524b019038ebb14e2061c17", func := "loop.example/g01241/laws.FnExactOppositeTimes", spec := "fnExactOppositeTimes", apart := false, narrowed := true }
def FnExactOppositeTimesUptoSaid : Prop := fnExactOppositeTimesUptoRow.holds Try.pinned (OpenSpec.upto fnExactOppositeTimesSpec)

/-- 'laws.FnExactFirstMeet', WHERE WHAT IT READS IS OF BULK AT MOST 1048576: true; the input reads as it did. -/
def fnExactFirstMeetUptoRow : OpenClaim := { program := "ytgdjnnelonnoaaa", sum := "b62dda73a1da3038317c8943cc3ca956f72a707b8524b019038ebb14e2061c17", func := "loop.example/g01241/laws.FnExactFirstMeet", spec := "fnExactFirstMeet", apart := false, narrowed := true }
def FnExactFirstMeetUptoSaid : Prop := fnExactFirstMeetUptoRow.holds Try.pinned (OpenSpec.upto fnExactFirstMeetSpec)

/-- 'laws.FnExactNextMeet', WHERE WHAT IT READS IS OF BULK AT MOST 1048576: true; the input reads as it did. -/
def fnExactNextMeetUptoRow : OpenClaim := { program := "ytgdjnnelonnoaaa", sum := "b62dda73a1da3038317c8943cc3ca956f72a707b8524b019038ebb14e2061c17", func := "loop.example/g01241/laws.FnExactNextMeet", spec := "fnExactNextMeet", apart := false, narrowed := true }
def FnExactNextMeetUptoSaid : Prop := fnExactNextMeetUptoRow.holds Try.pinned (OpenSpec.upto fnExactNextMeetSpec)

/-- 'laws.FnExactMeetPlaces', WHERE WHAT IT READS IS OF BULK AT MOST 1048576: true; the input reads as it did. -/
def fnExactMeetPlacesUptoRow : OpenClaim := { program := "ytgdjnnelonnoaaa", sum := "b62dda73a1da3038317c8943cc3ca956f72a707b8524b019038ebb14e2061c17", func := "loop.example/g01241/laws.FnExactMeetPlaces", spec := "fnExactMeetPlaces", unfollowed := true, recurses := true, apart := false, narrowed := true }
def FnExactMeetPlacesUptoSaid : Prop := fnExactMeetPlacesUptoRow.holds Try.pinned (OpenSpec.upto fnExactMeetPlacesSpec)

/-- 'laws.FnExactThreeMeet', WHERE WHAT IT READS IS OF BULK AT MOST 1048576: true; the input reads as it did. -/
def fnExactThreeMeetUptoRow : OpenClaim := { program := "ytgdjnnelonnoaaa", sum := "b62dda73a1da3038317c8943cc3ca956f72a707b8524b019038ebb14e2061c17", func := "loop.example/g01241/laws.FnExactThreeMeet", spec := "fnExactThreeMeet", unfollowed := true, recurses := true, apart := false, narrowed := true }
def FnExactThreeMeetUptoSaid : Prop := fnExactThreeMeetUptoRow.holds Try.pinned (OpenSpec.upto fnExactThreeMeetSpec)

/-- 'laws.FnExactTimesAtPlace', WHERE WHAT IT READS IS OF BULK AT MOST 1048576: true; the input reads as it did. -/
def fnExactTimesAtPlaceUptoRow : OpenClaim := { program := "ytgdjnnelonnoaaa", sum := "b62dda73a1da3038317c8943cc3ca956f72a707b8524b019038ebb14e2061c17", func := "loop.example/g01241/laws.FnExactTimesAtPlace", spec := "fnExactTimesAtPlace", apart := false, narrowed := true }
def FnExactTimesAtPlaceUptoSaid : Prop := fnExactTimesAtPlaceUptoRow.holds Try.pinned (OpenSpec.upto fnExactTimesAtPlaceSpec)

/-- 'laws.FnExactAreSpread', WHERE WHAT IT READS IS OF BULK AT MOST 1048576: true; the input reads as it did. -/
def fnExactAreSpreadUptoRow : OpenClaim := { program := "ytgdjnnelonnoaaa", sum := "b62dda73a1da3038317c8943cc3ca956f72a707b8524b019038ebb14e2061c17", func := "loop.example/g01241/laws.FnExactAreSpread", spec := "fnExactAreSpread", unfollowed := true, recurses := true, apart := false, narrowed := true }
def FnExactAreSpreadUptoSaid : Prop := fnExactAreSpreadUptoRow.holds Try.pinned (OpenSpec.upto fnExactAreSpreadSpec)

/-- 'laws.FnExactGapsAt', WHERE WHAT IT READS IS OF BULK AT MOST 1048576: true; the input reads as it did. -/
def fnExactGapsAtUptoRow : OpenClaim := { program := "ytgdjnnelonnoaaa", sum := "b62dda73a1da3038317c8943cc3ca956f72a707b8524b019038ebb14e2061c17", func := "loop.example/g01241/laws.FnExactGapsAt", spec := "fnExactGapsAt", unfollowed := true, recurses := true, apart := false, narrowed := true }
def FnExactGapsAtUptoSaid : Prop := fnExactGapsAtUptoRow.holds Try.pinned (OpenSpec.upto fnExactGapsAtSpec)

/-- 'laws.FnExactHandsOfDial', WHERE WHAT IT READS IS OF BULK AT MOST 1048576: true; the input reads as it did. -/
def fnExactHandsOfDialUptoRow : OpenClaim := { program := "ytgdjnnelonnoaaa", sum := "b62dda73a1da3038317c8943cc3ca956f72a707b8524b019038ebb14e2061c17", func := "loop.example/g01241/laws.FnExactHandsOfDial", spec := "fnExactHandsOfDial", apart := false, narrowed := true }
def FnExactHandsOfDialUptoSaid : Prop := fnExactHandsOfDialUptoRow.holds Try.pinned (OpenSpec.upto fnExactHandsOfDialSpec)

end Rows
end Go.Proofs.Ytgdjnnelonnoaaa
