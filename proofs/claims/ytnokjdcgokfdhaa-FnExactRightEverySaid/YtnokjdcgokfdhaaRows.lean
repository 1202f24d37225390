/-
  No cell of these rows narrows 'for every input' (looked for: loops, veiled, ifaces, maps, wideKeys, modest, calm, conditions, laid).
  DERIVED. THE GIVEN ROWS OF THIS SEAT. 15 by the template 'for every input the law returns true; each argument reads behind the call as it read before'; 0 by the template 'total and deterministic' (their statements: YtnokjdcgokfdhaaTotals.lean).
  GIVEN WITH THE SEED: the statements are not yours to turn. If you find one false, say at which input.
  Laid BY PROGRAM, IN A SANDBOX (cutbox-rows.mjs): the forced cells as the released guide's own fill.sh prints them over the translation a242078b65e9eb6c… (all of the seat's roots in one cut). By AI agents, Wed Nov 11 2026. No macro, syntax, notation, axiom, sorry.
-/
import Derived.Test.YtnokjdcgokfdhaaChecked
import GoSem.Claim
import GoSem.ClaimJoined
import GoSem.ClaimMapViews
import Derived.JoinedTies
import Derived.KernelRfl
namespace Go.Proofs.Ytnokjdcgokfdhaa
/- THE CELL 'sum', in the pinned program and in every row, IS THE sha256 OF THE DUMP (.gsa) THAT YtnokjdcgokfdhaaProg.lean LOADS. Nothing in Lean hashes anything: it is a label: what it is worth is what the hold of that sum in a sandbox is worth. -/
noncomputable def Try.pinned : Pinned := { name := "ytnokjdcgokfdhaa", sum := "a242078b65e9eb6cbf6689ca736e22fa7a7626db2ade12ec8c3968f868381f68", checked := Try.checked }
namespace Rows
def none {H : Type} : Left H := { results := [], args := [] }

/-- 'laws.FnExactIsSpan': WHATEVER THE INPUT: true; the input reads as it did. -/
def fnExactIsSpanSpec : ChangeSpec := { name := "fnExactIsSpan", fn := fun _ => fun
  | [d] => { results := [.lit (.bool true)], args := [d] }
  | _ => none }
def fnExactIsSpanRow : OpenClaim := { program := "ytnokjdcgokfdhaa", sum := "a242078b65e9eb6cbf6689ca736e22fa7a7626db2ade12ec8c3968f868381f68", func := "loop.example/g01241/laws.FnExactIsSpan", spec := "fnExactIsSpan", apart := false }
def FnExactIsSpanSaid : Prop := fnExactIsSpanRow.holds Try.pinned (OpenSpec.ofChange fnExactIsSpanSpec)

/-- ITS FALSE NEIGHBOUR: 'it returns false'. Refute it at one input. -/
def fnExactIsSpanWrong : ChangeSpec := { name := "fnExactIsSpan", fn := fun _ => fun
  | [d] => { results := [.lit (.bool false)], args := [d] }
  | _ => none }
def FnExactIsSpanWrongFalsely : Prop := fnExactIsSpanRow.holds Try.pinned (OpenSpec.ofChange fnExactIsSpanWrong)

/-- 'laws.FnExactMakeSpan': WHATEVER THE INPUT: true; the input reads as it did. -/
def fnExactMakeSpanSpec : ChangeSpec := { name := "fnExactMakeSpan", fn := fun _ => fun
  | [d1, d2] => { results := [.lit (.bool true)], args := [d1, d2] }
  | _ => none }
def fnExactMakeSpanRow : OpenClaim := { program := "ytnokjdcgokfdhaa", sum := "a242078b65e9eb6cbf6689ca736e22fa7a7626db2ade12ec8c3968f868381f68", func := "loop.example/g01241/laws.FnExactMakeSpan", spec := "fnExactMakeSpan", apart := false }
def FnExactMakeSpanSaid : Prop := fnExactMakeSpanRow.holds Try.pinned (OpenSpec.ofChange fnExactMakeSpanSpec)

/-- ITS FALSE NEIGHBOUR: 'it returns false'. Refute it at one input. -/
def fnExactMakeSpanWrong : ChangeSpec := { name := "fnExactMakeSpan", fn := fun _ => fun
  | [d1, d2] => { results := [.lit (.bool false)], args := [d1, d2] }
  | _ => none }
def FnExactMakeSpanWrongFalsely : Prop := fnExactMakeSpanRow.holds Try.pinned (OpenSpec.ofChange fnExactMakeSpanWrong)

/-- 'laws.FnExactAddSpans': WHATEVER THE INPUT: true; the input reads as it did. -/
def fnExactAddSpansSpec : ChangeSpec := { name := "fnExactAddSpans", fn := fun _ => fun
  | [d1, d2] => { results := [.lit (.bool true)], args := [d1, d2] }
  | _ => none }
def fnExactAddSpansRow : OpenClaim := { program := "ytnokjdcgokfdhaa", sum := "a242078b65e9eb6cbf6689ca736e22fa7a7626db2ade12ec8c3968f868381f68", func := "loop.example/g01241/laws.FnExactAddSpans", spec := "fnExactAddSpans", unfollowed := true, recurses := true, apart := false }
def FnExactAddSpansSaid : Prop := fnExactAddSpansRow.holds Try.pinned (OpenSpec.ofChange fnExactAddSpansSpec)

/-- ITS FALSE NEIGHBOUR: 'it returns false'. Refute it at one input. -/
def fnExactAddSpansWrong : ChangeSpec := { name := "fnExactAddSpans", fn := fun _ => fun
  | [d1, d2] => { results := [.lit (.bool false)], args := [d1, d2] }
  | _ => none }
def FnExactAddSpansWrongFalsely : Prop := fnExactAddSpansRow.holds Try.pinned (OpenSpec.ofChange fnExactAddSpansWrong)

/-- 'laws.FnExactCompareSpans': WHATEVER THE INPUT: true; the input reads as it did. -/
def fnExactCompareSpansSpec : ChangeSpec := { name := "fnExactCompareSpans", fn := fun _ => fun
  | [d1, d2] => { results := [.lit (.bool true)], args := [d1, d2] }
  | _ => none }
def fnExactCompareSpansRow : OpenClaim := { program := "ytnokjdcgokfdhaa", sum := "a242078b65e9eb6cbf6689ca736e22fa7a7626db2ade12ec8c3968f868381f68", func := "loop.example/g01241/laws.FnExactCompareSpans", spec := "fnExactCompareSpans", apart := false }
def FnExactCompareSpansSaid : Prop := fnExactCompareSpansRow.holds Try.pinned (OpenSpec.ofChange fnExactCompareSpansSpec)

/-- ITS FALSE NEIGHBOUR: 'it returns false'. Refute it at one input. -/
def fnExactCompareSpansWrong : ChangeSpec := { name := "fnExactCompareSpans", fn := fun _ => fun
  | [d1, d2] => { results := [.lit (.bool false)], args := [d1, d2] }
  | _ => none }
def FnExactCompareSpansWrongFalsely : Prop := fnExactCompareSpansRow.holds Try.pinned (OpenSpec.ofChange fnExactCompareSpansWrong)

/-- 'laws.FnExactCommonSpan': WHATEVER THE INPUT: true; the input reads as it did. -/
def fnExactCommonSpanSpec : ChangeSpec := { name := "fnExactCommonSpan", fn := fun _ => fun
  | [d1, d2] => { results := [.lit (.bool true)], args := [d1, d2] }
  | _ => none }
def fnExactCommonSpanRow : OpenClaim := { program := "ytnokjdcgokfdhaa", sum := "a242078b65e9eb6cbf6689ca736e22fa7a7626db2ade12ec8c3968f868381f68", func := "loop.example/g01241/laws.FnExactCommonSpan", spec := "fnExactCommonSpan", apart := false }
def FnExactCommonSpanSaid : Prop := fnExactCommonSpanRow.holds Try.pinned (OpenSpec.ofChange fnExactCommonSpanSpec)

/-- ITS FALSE NEIGHBOUR: 'it returns false'. Refute it at one input. -/
def fnExactCommonSpanWrong : ChangeSpec := { name := "fnExactCommonSpan", fn := fun _ => fun
  | [d1, d2] => { results := [.lit (.bool false)], args := [d1, d2] }
  | _ => none }
def FnExactCommonSpanWrongFalsely : Prop := fnExactCommonSpanRow.holds Try.pinned (OpenSpec.ofChange fnExactCommonSpanWrong)

/-- 'laws.FnExactIsClock': WHATEVER THE INPUT: true; the input reads as it did. -/
def fnExactIsClockSpec : ChangeSpec := { name := "fnExactIsClock", fn := fun _ => fun
  | [d] => { results := [.lit (.bool true)], args := [d] }
  | _ => none }
def fnExactIsClockRow : OpenClaim := { program := "ytnokjdcgokfdhaa", sum := "a242078b65e9eb6cbf6689ca736e22fa7a7626db2ade12ec8c3968f868381f68", func := "loop.example/g01241/laws.FnExactIsClock", spec := "fnExactIsClock", apart := false }
def FnExactIsClockSaid : Prop := fnExactIsClockRow.holds Try.pinned (OpenSpec.ofChange fnExactIsClockSpec)

/-- ITS FALSE NEIGHBOUR: 'it returns false'. Refute it at one input. -/
def fnExactIsClockWrong : ChangeSpec := { name := "fnExactIsClock", fn := fun _ => fun
  | [d] => { results := [.lit (.bool false)], args := [d] }
  | _ => none }
def FnExactIsClockWrongFalsely : Prop := fnExactIsClockRow.holds Try.pinned (OpenSpec.ofChange fnExactIsClockWrong)

/-- 'laws.FnExactShownAfter': WHATEVER THE INPUT: true; the input reads as it did. -/
def fnExactShownAfterSpec : ChangeSpec := { name := "fnExactShownAfter", fn := fun _ => fun
  | [d1, d2] => { results := [.lit (.bool true)], args := [d1, d2] }
  | _ => none }
def fnExactShownAfterRow : OpenClaim := { program := "ytnokjdcgokfdhaa", sum := "a242078b65e9eb6cbf6689ca736e22fa7a7626db2ade12ec8c3968f868381f68", func := "loop.example/g01241/laws.FnExactShownAfter", spec := "fnExactShownAfter", unfollowed := true, recurses := true, apart := false }
def FnExactShownAfterSaid : Prop := fnExactShownAfterRow.holds Try.pinned (OpenSpec.ofChange fnExactShownAfterSpec)

/-- ITS FALSE NEIGHBOUR: 'it returns false'. Refute it at one input. -/
def fnExactShownAfterWrong : ChangeSpec := { name := "fnExactShownAfter", fn := fun _ => fun
  | [d1, d2] => { results := [.lit (.bool false)], args := [d1, d2] }
  | _ => none }
def FnExactShownAfterWrongFalsely : Prop := fnExactShownAfterRow.holds Try.pinned (OpenSpec.ofChange fnExactShownAfterWrong)

/-- 'laws.FnExactAheadAfter': WHATEVER THE INPUT: true; the input reads as it did. -/
def fnExactAheadAfterSpec : ChangeSpec := { name := "fnExactAheadAfter", fn := fun _ => fun
  | [d1, d2] => { results := [.lit (.bool true)], args := [d1, d2] }
  | _ => none }
def fnExactAheadAfterRow : OpenClaim := { program := "ytnokjdcgokfdhaa", sum := "a242078b65e9eb6cbf6689ca736e22fa7a7626db2ade12ec8c3968f868381f68", func := "loop.example/g01241/laws.FnExactAheadAfter", spec := "fnExactAheadAfter", unfollowed := true, recurses := true, apart := false }
def FnExactAheadAfterSaid : Prop := fnExactAheadAfterRow.holds Try.pinned (OpenSpec.ofChange fnExactAheadAfterSpec)

/-- ITS FALSE NEIGHBOUR: 'it returns false'. Refute it at one input. -/
def fnExactAheadAfterWrong : ChangeSpec := { name := "fnExactAheadAfter", fn := fun _ => fun
  | [d1, d2] => { results := [.lit (.bool false)], args := [d1, d2] }
  | _ => none }
def FnExactAheadAfterWrongFalsely : Prop := fnExactAheadAfterRow.holds Try.pinned (OpenSpec.ofChange fnExactAheadAfterWrong)

/-- 'laws.FnExactRightEvery': WHATEVER THE INPUT: true; the input reads as it did. -/
def fnExactRightEverySpec : ChangeSpec := { name := "fnExactRightEvery", fn := fun _ => fun
  | [d] => { results := [.lit (.bool true)], args := [d] }
  | _ => none }
def fnExactRightEveryRow : OpenClaim := { program := "ytnokjdcgokfdhaa", sum := "a242078b65e9eb6cbf6689ca736e22fa7a7626db2ade12ec8c3968f868381f68", func := "loop.example/g01241/laws.FnExactRightEvery", spec := "fnExactRightEvery", apart := false }
def FnExactRightEverySaid : Prop := fnExactRightEveryRow.holds Try.pinned (OpenSpec.ofChange fnExactRightEverySpec)

/-- ITS FALSE NEIGHBOUR: 'it returns false'. Refute it at one input. -/
def fnExactRightEveryWrong : ChangeSpec := { name := "fnExactRightEvery", fn := fun _ => fun
  | [d] => { results := [.lit (.bool false)], args := [d] }
  | _ => none }
def FnExactRightEveryWrongFalsely : Prop := fnExactRightEveryRow.holds Try.pinned (OpenSpec.ofChange fnExactRightEveryWrong)

/-- 'laws.FnExactFirstRight': WHATEVER THE INPUT: true; the input reads as it did. -/
def fnExactFirstRightSpec : ChangeSpec := { name := "fnExactFirstRight", fn := fun _ => fun
  | [d] => { results := [.lit (.bool true)], args := [d] }
  | _ => none }
def fnExactFirstRightRow : OpenClaim := { program := "ytnokjdcgokfdhaa", sum := "a242078b65e9eb6cbf6689ca736e22fa7a7626db2ade12ec8c3968f868381f68", func := "loop.example/g01241/laws.FnExactFirstRight", spec := "fnExactFirstRight", apart := false }
def FnExactFirstRightSaid : Prop := fnExactFirstRightRow.holds Try.pinned (OpenSpec.ofChange fnExactFirstRightSpec)

/-- ITS FALSE NEIGHBOUR: 'it returns false'. Refute it at one input. -/
def fnExactFirstRightWrong : ChangeSpec := { name := "fnExactFirstRight", fn := fun _ => fun
  | [d] => { results := [.lit (.bool false)], args := [d] }
  | _ => none }
def FnExactFirstRightWrongFalsely : Prop := fnExactFirstRightRow.holds Try.pinned (OpenSpec.ofChange fnExactFirstRightWrong)

/-- 'laws.FnExactFirstShown': WHATEVER THE INPUT: true; the input reads as it did. -/
def fnExactFirstShownSpec : ChangeSpec := { name := "fnExactFirstShown", fn := fun _ => fun
  | [d1, d2] => { results := [.lit (.bool true)], args := [d1, d2] }
  | _ => none }
def fnExactFirstShownRow : OpenClaim := { program := "ytnokjdcgokfdhaa", sum := "a242078b65e9eb6cbf6689ca736e22fa7a7626db2ade12ec8c3968f868381f68", func := "loop.example/g01241/laws.FnExactFirstShown", spec := "fnExactFirstShown", apart := false }
def FnExactFirstShownSaid : Prop := fnExactFirstShownRow.holds Try.pinned (OpenSpec.ofChange fnExactFirstShownSpec)

/-- ITS FALSE NEIGHBOUR: 'it returns false'. Refute it at one input. -/
def fnExactFirstShownWrong : ChangeSpec := { name := "fnExactFirstShown", fn := fun _ => fun
  | [d1, d2] => { results := [.lit (.bool false)], args := [d1, d2] }
  | _ => none }
def FnExactFirstShownWrongFalsely : Prop := fnExactFirstShownRow.holds Try.pinned (OpenSpec.ofChange fnExactFirstShownWrong)

/-- 'laws.FnExactAgreeEvery': WHATEVER THE INPUT: true; the input reads as it did. -/
def fnExactAgreeEverySpec : ChangeSpec := { name := "fnExactAgreeEvery", fn := fun _ => fun
  | [d1, d2] => { results := [.lit (.bool true)], args := [d1, d2] }
  | _ => none }
def fnExactAgreeEveryRow : OpenClaim := { program := "ytnokjdcgokfdhaa", sum := "a242078b65e9eb6cbf6689ca736e22fa7a7626db2ade12ec8c3968f868381f68", func := "loop.example/g01241/laws.FnExactAgreeEvery", spec := "fnExactAgreeEvery", apart := false }
def FnExactAgreeEverySaid : Prop := fnExactAgreeEveryRow.holds Try.pinned (OpenSpec.ofChange fnExactAgreeEverySpec)

/-- ITS FALSE NEIGHBOUR: 'it returns false'. Refute it at one input. -/
def fnExactAgreeEveryWrong : ChangeSpec := { name := "fnExactAgreeEvery", fn := fun _ => fun
  | [d1, d2] => { results := [.lit (.bool false)], args := [d1, d2] }
  | _ => none }
def FnExactAgreeEveryWrongFalsely : Prop := fnExactAgreeEveryRow.holds Try.pinned (OpenSpec.ofChange fnExactAgreeEveryWrong)

/-- 'laws.FnExactFirstAgree': WHATEVER THE INPUT: true; the input reads as it did. -/
def fnExactFirstAgreeSpec : ChangeSpec := { name := "fnExactFirstAgree", fn := fun _ => fun
  | [d1, d2] => { results := [.lit (.bool true)], args := [d1, d2] }
  | _ => none }
def fnExactFirstAgreeRow : OpenClaim := { program := "ytnokjdcgokfdhaa", sum := "a242078b65e9eb6cbf6689ca736e22fa7a7626db2ade12ec8c3968f868381f68", func := "loop.example/g01241/laws.FnExactFirstAgree", spec := "fnExactFirstAgree", apart := false }
def FnExactFirstAgreeSaid : Prop := fnExactFirstAgreeRow.holds Try.pinned (OpenSpec.ofChange fnExactFirstAgreeSpec)

/-- ITS FALSE NEIGHBOUR: 'it returns false'. Refute it at one input. -/
def fnExactFirstAgreeWrong : ChangeSpec := { name := "fnExactFirstAgree", fn := fun _ => fun
  | [d1, d2] => { results := [.lit (.bool false)], args := [d1, d2] }
  | _ => none }
def FnExactFirstAgreeWrongFalsely : Prop := fnExactFirstAgreeRow.holds Try.pinned (OpenSpec.ofChange fnExactFirstAgreeWrong)

/-- 'laws.FnExactClockOfReadings': WHATEVER THE INPUT: true; the input reads as it did. -/
def fnExactClockOfReadingsSpec : ChangeSpec := { name := "fnExactClockOfReadings", fn := fun _ => fun
  | [d1, d2, d3] => { results := [.lit (.bool true)], args := [d1, d2, d3] }
  | _ => none }
def fnExactClockOfReadingsRow : OpenClaim := { program := "ytnokjdcgokfdhaa", sum := "a242078b65e9eb6cbf6689ca736e22fa7a7626db2ade12ec8c3968f868381f68", func := "loop.example/g01241/laws.FnExactClockOfReadings", spec := "fnExactClockOfReadings", apart := false }
def FnExactClockOfReadingsSaid : Prop := fnExactClockOfReadingsRow.holds Try.pinned (OpenSpec.ofChange fnExactClockOfReadingsSpec)

/-- ITS FALSE NEIGHBOUR: 'it returns false'. Refute it at one input. -/
def fnExactClockOfReadingsWrong : ChangeSpec := { name := "fnExactClockOfReadings", fn := fun _ => fun
  | [d1, d2, d3] => { results := [.lit (.bool false)], args := [d1, d2, d3] }
  | _ => none }
def FnExactClockOfReadingsWrongFalsely : Prop := fnExactClockOfReadingsRow.holds Try.pinned (OpenSpec.ofChange fnExactClockOfReadingsWrong)

/-- 'laws.FnExactSetRight': WHATEVER THE INPUT: true; the input reads as it did. -/
def fnExactSetRightSpec : ChangeSpec := { name := "fnExactSetRight", fn := fun _ => fun
  | [d1, d2] => { results := [.lit (.bool true)], args := [d1, d2] }
  | _ => none }
def fnExactSetRightRow : OpenClaim := { program := "ytnokjdcgokfdhaa", sum := "a242078b65e9eb6cbf6689ca736e22fa7a7626db2ade12ec8c3968f868381f68", func := "loop.example/g01241/laws.FnExactSetRight", spec := "fnExactSetRight", unfollowed := true, recurses := true, apart := false }
def FnExactSetRightSaid : Prop := fnExactSetRightRow.holds Try.pinned (OpenSpec.ofChange fnExactSetRightSpec)

/-- ITS FALSE NEIGHBOUR: 'it returns false'. Refute it at one input. -/
def fnExactSetRightWrong : ChangeSpec := { name := "fnExactSetRight", fn := fun _ => fun
  | [d1, d2] => { results := [.lit (.bool false)], args := [d1, d2] }
  | _ => none }
def FnExactSetRightWrongFalsely : Prop := fnExactSetRightRow.holds Try.pinned (OpenSpec.ofChange fnExactSetRightWrong)

/- THE SECOND FORM. 'bulk': how many values and letters a reading holds, each counted each time it is reached (what is shared counts as often as it is met; a slice's spare places count too). A statement '..UptoSaid' is the law's where the arguments, and the package variables that the reading takes, are together of bulk at most 1048576: NARROWER than '..Said'. Prove '..Said' where nothing that the law and all that it calls make is longer than what came in: it says more and counts as full. Else prove '..UptoSaid'. A law counts once. -/
mutual
def uptoBulk {H : Type} : DataW H → Nat
  | .lit (.string bytes) => bytes.length + 1
  | .lit _ => 1
  | .nil => 1
  | .ptr d => uptoBulk d + 1
  | .slice elems spare => uptoBulkAll elems + uptoBulkAll spare + 1
  | .agg parts => uptoBulkAll parts + 1
  | .iface _ d => uptoBulk d + 1
  | .map entries => uptoBulkEntries entries + 1
  | .held _ => 1
def uptoBulkAll {H : Type} : List (DataW H) → Nat
  | [] => 0
  | d :: r => uptoBulk d + uptoBulkAll r
def uptoBulkEntries {H : Type} : List (Lit × DataW H) → Nat
  | [] => 0
  | x :: r => uptoBulkEntry x + uptoBulkEntries r
def uptoBulkEntry {H : Type} : Lit × DataW H → Nat
  | (.string bytes, d) => bytes.length + uptoBulk d + 1
  | (_, d) => uptoBulk d + 1
 end
def uptoSmall : (H : Type) → List (DataW H) → Bool := fun _ ds => decide (uptoBulkAll ds ≤ 1048576)
def OpenSpec.upto (s : _root_.Go.ChangeSpec) : _root_.Go.OpenSpec := { _root_.Go.OpenSpec.ofChange s with cond := some uptoSmall }

/-- 'laws.FnExactIsSpan', WHERE WHAT IT READS IS OF BULK AT MOST 1048576: true; the input reads as it did. -/
def fnExactIsSpanUptoRow : OpenClaim := { program := "ytnokjdcgokfdhaa", sum := "a242078b65e9eb6cbf6689ca736e22fa7a7626db2ade12ec8c3968f868381f68", func := "loop.example/g01241/laws.FnExactIsSpan", spec := "fnExactIsSpan", apart := false, narrowed := true }
def FnExactIsSpanUptoSaid : Prop := fnExactIsSpanUptoRow.holds Try.pinned (OpenSpec.upto fnExactIsSpanSpec)

/-- 'laws.FnExactMakeSpan', WHERE WHAT IT READS IS OF BULK AT MOST 1048576: true; the input reads as it did. -/
def fnExactMakeSpanUptoRow : OpenClaim := { program := "ytnokjdcgokfdhaa", sum := "a242078b65e9eb6cbf6689ca736e22fa7a7626db2ade12ec8c3968f868381f68", func := "loop.example/g01241/laws.FnExactMakeSpan", spec := "fnExactMakeSpan", apart := false, narrowed := true }
def FnExactMakeSpanUptoSaid : Prop := fnExactMakeSpanUptoRow.holds Try.pinned (OpenSpec.upto fnExactMakeSpanSpec)

/-- 'laws.FnExactAddSpans', WHERE WHAT IT READS IS OF BULK AT MOST 1048576: true; the input reads as it did. -/
def fnExactAddSpansUptoRow : OpenClaim := { program := "ytnokjdcgokfdhaa", sum := "a242078b65e9eb6cbf6689ca736e22fa7a7626db2ade12ec8c3968f868381f68", func := "loop.example/g01241/laws.FnExactAddSpans", spec := "fnExactAddSpans", unfollowed := true, recurses := true, apart := false, narrowed := true }
def FnExactAddSpansUptoSaid : Prop := fnExactAddSpansUptoRow.holds Try.pinned (OpenSpec.upto fnExactAddSpansSpec)

/-- 'laws.FnExactCompareSpans', WHERE WHAT IT READS IS OF BULK AT MOST 1048576: true; the input reads as it did. -/
def fnExactCompareSpansUptoRow : OpenClaim := { program := "ytnokjdcgokfdhaa", sum := "a242078b65e9eb6cbf6689ca736e22fa7a7626db2ade12ec8c3968f868381f68", func := "loop.example/g01241/laws.FnExactCompareSpans", spec := "fnExactCompareSpans", apart := false, narrowed := true }
def FnExactCompareSpansUptoSaid : Prop := fnExactCompareSpansUptoRow.holds Try.pinned (OpenSpec.upto fnExactCompareSpansSpec)

/-- 'laws.FnExactCommonSpan', WHERE WHAT IT READS IS OF BULK AT MOST 1048576: true; the input reads as it did. -/
def fnExactCommonSpanUptoRow : OpenClaim := { program := "ytnokjdcgokfdhaa", sum := "a242078b65e9eb6cbf6689ca736e22fa7a7626db2ade12ec8c3968f868381f68", func := "loop.example/g01241/laws.FnExactCommonSpan", spec := "fnExactCommonSpan", apart := false, narrowed := true }
def FnExactCommonSpanUptoSaid : Prop := fnExactCommonSpanUptoRow.holds Try.pinned (OpenSpec.upto fnExactCommonSpanSpec)

/-- 'laws.FnExactIsClock', WHERE WHAT IT READS IS OF BULK AT MOST 1048576: true; the input reads as it did. -/
def fnExactIsClockUptoRow : OpenClaim := { program := "ytnokjdcgokfdhaa", sum := "a242078b65e9eb6cbf6689ca736e22fa7a7626db2ade12ec8c3968f868381f68", func := "loop.example/g01241/laws.FnExactIsClock", spec := "fnExactIsClock", apart := false, narrowed := true }
def FnExactIsClockUptoSaid : Prop := fnExactIsClockUptoRow.holds Try.pinned (OpenSpec.upto fnExactIsClockSpec)

/-- 'laws.FnExactShownAfter', WHERE WHAT IT READS IS OF BULK AT MOST 1048576: true; the input reads as it did. -/
def fnExactShownAfterUptoRow : OpenClaim := { program := "ytnokjdcgokfdhaa", sum := "a242078b65e9eb6cbf6689ca736e22fa7a7626db2ade12ec8c3968f868381f68", func := "loop.example/g01241/laws.FnExactShownAfter", spec := "fnExactShownAfter", unfollowed := true, recurses := true, apart := false, narrowed := true }
def FnExactShownAfterUptoSaid : Prop := fnExactShownAfterUptoRow.holds Try.pinned (OpenSpec.upto fnExactShownAfterSpec)

/-- 'laws.FnExactAheadAfter', WHERE WHAT IT READS IS OF BULK AT MOST 1048576: true; the input reads as it did. -/
def fnExactAheadAfterUptoRow : OpenClaim := { program := "ytnokjdcgokfdhaa", sum := "a242078b65e9eb6cbf6689ca736e22fa7a7626db2ade12ec8c3968f868381f68", func := "loop.example/g01241/laws.FnExactAheadAfter", spec := "fnExactAheadAfter", unfollowed := true, recurses := true, apart := false, narrowed := true }
def FnExactAheadAfterUptoSaid : Prop := fnExactAheadAfterUptoRow.holds Try.pinned (OpenSpec.upto fnExactAheadAfterSpec)

/-- 'laws.FnExactRightEvery', WHERE WHAT IT READS IS OF BULK AT MOST 1048576: true; the input reads as it did. -/
def fnExactRightEveryUptoRow : OpenClaim := { program := "ytnokjdcgokfdhaa", sum := "a242078b65e9eb6cbf6689ca736e22fa7a7626db2ade12ec8c3968f868381f68", func := "loop.example/g01241/laws.FnExactRightEvery", spec := "fnExactRightEvery", apart := false, narrowed := true }
def FnExactRightEveryUptoSaid : Prop := fnExactRightEveryUptoRow.holds Try.pinned (OpenSpec.upto fnExactRightEverySpec)

/-- 'laws.FnExactFirstRight', WHERE WHAT IT READS IS OF BULK AT MOST 1048576: true; the input reads as it did. -/
def fnExactFirstRightUptoRow : OpenClaim := { program := "ytnokjdcgokfdhaa", sum := "a242078b65e9eb6cbf6689ca736e22fa7a7626db2ade12ec8c3968f868381f68", func := "loop.example/g01241/laws.FnExactFirstRight", spec := "fnExactFirstRight", apart := false, narrowed := true }
def FnExactFirstRightUptoSaid : Prop := fnExactFirstRightUptoRow.holds Try.pinned (OpenSpec.upto fnExactFirstRightSpec)

/-- 'laws.FnExactFirstShown', WHERE WHAT IT READS IS OF BULK AT MOST 1048576: true; the input reads as it did. -/
def fnExactFirstShownUptoRow : OpenClaim := { program := "ytnokjdcgokfdhaa", sum := "a242078b65e9eb6cbf6689ca736e22fa7a7626db2ade12ec8c3968f868381f68", func := "loop.example/g01241/laws.FnExactFirstShown", spec := "fnExactFirstShown", apart := false, narrowed := true }
def FnExactFirstShownUptoSaid : Prop := fnExactFirstShownUptoRow.holds Try.pinned (OpenSpec.upto fnExactFirstShownSpec)

/-- 'laws.FnExactAgreeEvery', WHERE WHAT IT READS IS OF BULK AT MOST 1048576: true; the input reads as it did. -/
def fnExactAgreeEveryUptoRow : OpenClaim := { program := "ytnokjdcgokfdhaa", sum := "a242078b65e9eb6cbf6689ca736e22fa7a7626db2ade12ec8c3968f868381f68", func := "loop.example/g01241/laws.FnExactAgreeEvery", spec := "fnExactAgreeEvery", apart := false, narrowed := true }
def FnExactAgreeEveryUptoSaid : Prop := fnExactAgreeEveryUptoRow.holds Try.pinned (OpenSpec.upto fnExactAgreeEverySpec)

/-- 'laws.FnExactFirstAgree', WHERE WHAT IT READS IS OF BULK AT MOST 1048576: true; the input reads as it did. -/
def fnExactFirstAgreeUptoRow : OpenClaim := { program := "ytnokjdcgokfdhaa", sum := "a242078b65e9eb6cbf6689ca736e22fa7a7626db2ade12ec8c3968f868381f68", func := "loop.example/g01241/laws.FnExactFirstAgree", spec := "fnExactFirstAgree", apart := false, narrowed := true }
def FnExactFirstAgreeUptoSaid : Prop := fnExactFirstAgreeUptoRow.holds Try.pinned (OpenSpec.upto fnExactFirstAgreeSpec)

/-- 'laws.FnExactClockOfReadings', WHERE WHAT IT READS IS OF BULK AT MOST 1048576: true; the input reads as it did. -/
def fnExactClockOfReadingsUptoRow : OpenClaim := { program := "ytnokjdcgokfdhaa", sum := "a242078b65e9eb6cbf6689ca736e22fa7a7626db2ade12ec8c3968f868381f68", func := "loop.example/g01241/laws.FnExactClockOfReadings", spec := "fnExactClockOfReadings", apart := false, narrowed := true }
def FnExactClockOfReadingsUptoSaid : Prop := fnExactClockOfReadingsUptoRow.holds Try.pinned (OpenSpec.upto fnExactClockOfReadingsSpec)

/-- 'laws.FnExactSetRight', WHERE WHAT IT READS IS OF BULK AT MOST 1048576: true; the input reads as it did. -/
def fnExactSetRightUptoRow : OpenClaim := { program := "ytnokjdcgokfdhaa", sum := "a242078b65e9eb6cbf6689ca736e22fa7a7626db2ade12ec8c3968f868381f68", func := "loop.example/g01241/laws.FnExactSetRight", spec := "fnExactSetRight", unfollowed := true, recurses := true, apart := false, narrowed := true }
def FnExactSetRightUptoSaid : Prop := fnExactSetRightUptoRow.holds Try.pinned (OpenSpec.upto fnExactSetRightSpec)

end Rows
end Go.Proofs.Ytnokjdcgokfdhaa
