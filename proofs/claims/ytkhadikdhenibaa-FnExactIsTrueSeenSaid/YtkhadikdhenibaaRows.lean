/-
  No cell of these rows narrows 'for every input' (looked for: loops, veiled, ifaces, maps, wideKeys, modest, calm, conditions, laid).
  DERIVED. THE GIVEN ROWS OF THIS SEAT. 16 by the template 'for every input the law returns true; each argument reads behind the call as it read before'; 0 by the template 'total and deterministic' (their statements: YtkhadikdhenibaaTotals.lean).
  GIVEN WITH THE SEED: the statements are not yours to turn. If you find one false, say at which input.
  Laid BY PROGRAM, IN A SANDBOX (cutbox-rows.mjs): the forced cells as the released guide's own fill.sh prints them over the translation 5c6e761c2c22ebbf… (all of the seat's roots in one cut). By AI agents, Wed Nov 11 2026. No macro, syntax, notation, axiom, sorry.
-/
import Derived.Test.YtkhadikdhenibaaChecked
import GoSem.Claim
import GoSem.ClaimJoined
import GoSem.ClaimMapViews
import Derived.JoinedTies
import Derived.KernelRfl
namespace Go.Proofs.Ytkhadikdhenibaa
/- THE CELL 'sum', in the pinned program and in every row, IS THE sha256 OF THE DUMP (.gsa) THAT YtkhadikdhenibaaProg.lean LOADS. Nothing in Lean hashes anything: it is a label: what it is worth is what the hold of that sum in a sandbox is worth. -/
noncomputable def Try.pinned : Pinned := { name := "ytkhadikdhenibaa", sum := "5c6e761c2c22ebbfa612d533650eb890200710bd253e37811fd37073fad67a88", checked := Try.checked }
namespace Rows
def none {H : Type} : Left H := { results := [], args := [] }

/-- 'laws.FnExactIsSeen': WHATEVER THE INPUT: true; the input reads as it did. -/
def fnExactIsSeenSpec : ChangeSpec := { name := "fnExactIsSeen", fn := fun _ => fun
  | [d] => { results := [.lit (.bool true)], args := [d] }
  | _ => none }
def fnExactIsSeenRow : OpenClaim := { program := "ytkhadikdhenibaa", sum := "5c6e761c2c22ebbfa612d533650eb890200710bd253e37811fd37073fad67a88", func := "loop.example/g01241/laws.FnExactIsSeen", spec := "fnExactIsSeen", apart := false }
def FnExactIsSeenSaid : Prop := fnExactIsSeenRow.holds Try.pinned (OpenSpec.ofChange fnExactIsSeenSpec)

/-- ITS FALSE NEIGHBOUR: 'it returns false'. Refute it at one input. -/
def fnExactIsSeenWrong : ChangeSpec := { name := "fnExactIsSeen", fn := fun _ => fun
  | [d] => { results := [.lit (.bool false)], args := [d] }
  | _ => none }
def FnExactIsSeenWrongFalsely : Prop := fnExactIsSeenRow.holds Try.pinned (OpenSpec.ofChange fnExactIsSeenWrong)

/-- 'laws.FnExactSeenOf': WHATEVER THE INPUT: true; the input reads as it did. -/
def fnExactSeenOfSpec : ChangeSpec := { name := "fnExactSeenOf", fn := fun _ => fun
  | [d1, d2] => { results := [.lit (.bool true)], args := [d1, d2] }
  | _ => none }
def fnExactSeenOfRow : OpenClaim := { program := "ytkhadikdhenibaa", sum := "5c6e761c2c22ebbfa612d533650eb890200710bd253e37811fd37073fad67a88", func := "loop.example/g01241/laws.FnExactSeenOf", spec := "fnExactSeenOf", apart := false }
def FnExactSeenOfSaid : Prop := fnExactSeenOfRow.holds Try.pinned (OpenSpec.ofChange fnExactSeenOfSpec)

/-- ITS FALSE NEIGHBOUR: 'it returns false'. Refute it at one input. -/
def fnExactSeenOfWrong : ChangeSpec := { name := "fnExactSeenOf", fn := fun _ => fun
  | [d1, d2] => { results := [.lit (.bool false)], args := [d1, d2] }
  | _ => none }
def FnExactSeenOfWrongFalsely : Prop := fnExactSeenOfRow.holds Try.pinned (OpenSpec.ofChange fnExactSeenOfWrong)

/-- 'laws.FnExactTimeSeen': WHATEVER THE INPUT: true; the input reads as it did. -/
def fnExactTimeSeenSpec : ChangeSpec := { name := "fnExactTimeSeen", fn := fun _ => fun
  | [d1, d2] => { results := [.lit (.bool true)], args := [d1, d2] }
  | _ => none }
def fnExactTimeSeenRow : OpenClaim := { program := "ytkhadikdhenibaa", sum := "5c6e761c2c22ebbfa612d533650eb890200710bd253e37811fd37073fad67a88", func := "loop.example/g01241/laws.FnExactTimeSeen", spec := "fnExactTimeSeen", apart := false }
def FnExactTimeSeenSaid : Prop := fnExactTimeSeenRow.holds Try.pinned (OpenSpec.ofChange fnExactTimeSeenSpec)

/-- ITS FALSE NEIGHBOUR: 'it returns false'. Refute it at one input. -/
def fnExactTimeSeenWrong : ChangeSpec := { name := "fnExactTimeSeen", fn := fun _ => fun
  | [d1, d2] => { results := [.lit (.bool false)], args := [d1, d2] }
  | _ => none }
def FnExactTimeSeenWrongFalsely : Prop := fnExactTimeSeenRow.holds Try.pinned (OpenSpec.ofChange fnExactTimeSeenWrong)

/-- 'laws.FnExactIsTrueSeen': WHATEVER THE INPUT: true; the input reads as it did. -/
def fnExactIsTrueSeenSpec : ChangeSpec := { name := "fnExactIsTrueSeen", fn := fun _ => fun
  | [d1, d2] => { results := [.lit (.bool true)], args := [d1, d2] }
  | _ => none }
def fnExactIsTrueSeenRow : OpenClaim := { program := "ytkhadikdhenibaa", sum := "5c6e761c2c22ebbfa612d533650eb890200710bd253e37811fd37073fad67a88", func := "loop.example/g01241/laws.FnExactIsTrueSeen", spec := "fnExactIsTrueSeen", apart := false }
def FnExactIsTrueSeenSaid : Prop := fnExactIsTrueSeenRow.holds Try.pinned (OpenSpec.ofChange fnExactIsTrueSeenSpec)

/-- ITS FALSE NEIGHBOUR: 'it returns false'. Refute it at one input. -/
def fnExactIsTrueSeenWrong : ChangeSpec := { name := "fnExactIsTrueSeen", fn := fun _ => fun
  | [d1, d2] => { results := [.lit (.bool false)], args := [d1, d2] }
  | _ => none }
def FnExactIsTrueSeenWrongFalsely : Prop := fnExactIsTrueSeenRow.holds Try.pinned (OpenSpec.ofChange fnExactIsTrueSeenWrong)

/-- 'laws.FnExactExchangeSeen': WHATEVER THE INPUT: true; the input reads as it did. -/
def fnExactExchangeSeenSpec : ChangeSpec := { name := "fnExactExchangeSeen", fn := fun _ => fun
  | [d] => { results := [.lit (.bool true)], args := [d] }
  | _ => none }
def fnExactExchangeSeenRow : OpenClaim := { program := "ytkhadikdhenibaa", sum := "5c6e761c2c22ebbfa612d533650eb890200710bd253e37811fd37073fad67a88", func := "loop.example/g01241/laws.FnExactExchangeSeen", spec := "fnExactExchangeSeen", apart := false }
def FnExactExchangeSeenSaid : Prop := fnExactExchangeSeenRow.holds Try.pinned (OpenSpec.ofChange fnExactExchangeSeenSpec)

/-- ITS FALSE NEIGHBOUR: 'it returns false'. Refute it at one input. -/
def fnExactExchangeSeenWrong : ChangeSpec := { name := "fnExactExchangeSeen", fn := fun _ => fun
  | [d] => { results := [.lit (.bool false)], args := [d] }
  | _ => none }
def FnExactExchangeSeenWrongFalsely : Prop := fnExactExchangeSeenRow.holds Try.pinned (OpenSpec.ofChange fnExactExchangeSeenWrong)

/-- 'laws.FnExactExchangedTime': WHATEVER THE INPUT: true; the input reads as it did. -/
def fnExactExchangedTimeSpec : ChangeSpec := { name := "fnExactExchangedTime", fn := fun _ => fun
  | [d1, d2] => { results := [.lit (.bool true)], args := [d1, d2] }
  | _ => none }
def fnExactExchangedTimeRow : OpenClaim := { program := "ytkhadikdhenibaa", sum := "5c6e761c2c22ebbfa612d533650eb890200710bd253e37811fd37073fad67a88", func := "loop.example/g01241/laws.FnExactExchangedTime", spec := "fnExactExchangedTime", apart := false }
def FnExactExchangedTimeSaid : Prop := fnExactExchangedTimeRow.holds Try.pinned (OpenSpec.ofChange fnExactExchangedTimeSpec)

/-- ITS FALSE NEIGHBOUR: 'it returns false'. Refute it at one input. -/
def fnExactExchangedTimeWrong : ChangeSpec := { name := "fnExactExchangedTime", fn := fun _ => fun
  | [d1, d2] => { results := [.lit (.bool false)], args := [d1, d2] }
  | _ => none }
def FnExactExchangedTimeWrongFalsely : Prop := fnExactExchangedTimeRow.holds Try.pinned (OpenSpec.ofChange fnExactExchangedTimeWrong)

/-- 'laws.FnExactAllExchanged': WHATEVER THE INPUT: true; the input reads as it did. -/
def fnExactAllExchangedSpec : ChangeSpec := { name := "fnExactAllExchanged", fn := fun _ => fun
  | [d] => { results := [.lit (.bool true)], args := [d] }
  | _ => none }
def fnExactAllExchangedRow : OpenClaim := { program := "ytkhadikdhenibaa", sum := "5c6e761c2c22ebbfa612d533650eb890200710bd253e37811fd37073fad67a88", func := "loop.example/g01241/laws.FnExactAllExchanged", spec := "fnExactAllExchanged", apart := false }
def FnExactAllExchangedSaid : Prop := fnExactAllExchangedRow.holds Try.pinned (OpenSpec.ofChange fnExactAllExchangedSpec)

/-- ITS FALSE NEIGHBOUR: 'it returns false'. Refute it at one input. -/
def fnExactAllExchangedWrong : ChangeSpec := { name := "fnExactAllExchanged", fn := fun _ => fun
  | [d] => { results := [.lit (.bool false)], args := [d] }
  | _ => none }
def FnExactAllExchangedWrongFalsely : Prop := fnExactAllExchangedRow.holds Try.pinned (OpenSpec.ofChange fnExactAllExchangedWrong)

/-- 'laws.FnExactCountUnsure': WHATEVER THE INPUT: true; the input reads as it did. -/
def fnExactCountUnsureSpec : ChangeSpec := { name := "fnExactCountUnsure", fn := fun _ => fun
  | [d] => { results := [.lit (.bool true)], args := [d] }
  | _ => none }
def fnExactCountUnsureRow : OpenClaim := { program := "ytkhadikdhenibaa", sum := "5c6e761c2c22ebbfa612d533650eb890200710bd253e37811fd37073fad67a88", func := "loop.example/g01241/laws.FnExactCountUnsure", spec := "fnExactCountUnsure", apart := false }
def FnExactCountUnsureSaid : Prop := fnExactCountUnsureRow.holds Try.pinned (OpenSpec.ofChange fnExactCountUnsureSpec)

/-- ITS FALSE NEIGHBOUR: 'it returns false'. Refute it at one input. -/
def fnExactCountUnsureWrong : ChangeSpec := { name := "fnExactCountUnsure", fn := fun _ => fun
  | [d] => { results := [.lit (.bool false)], args := [d] }
  | _ => none }
def FnExactCountUnsureWrongFalsely : Prop := fnExactCountUnsureRow.holds Try.pinned (OpenSpec.ofChange fnExactCountUnsureWrong)

/-- 'laws.FnExactTimesAlike': WHATEVER THE INPUT: true; the input reads as it did. -/
def fnExactTimesAlikeSpec : ChangeSpec := { name := "fnExactTimesAlike", fn := fun _ => fun
  | [d1, d2] => { results := [.lit (.bool true)], args := [d1, d2] }
  | _ => none }
def fnExactTimesAlikeRow : OpenClaim := { program := "ytkhadikdhenibaa", sum := "5c6e761c2c22ebbfa612d533650eb890200710bd253e37811fd37073fad67a88", func := "loop.example/g01241/laws.FnExactTimesAlike", spec := "fnExactTimesAlike", unfollowed := true, recurses := true, apart := false }
def FnExactTimesAlikeSaid : Prop := fnExactTimesAlikeRow.holds Try.pinned (OpenSpec.ofChange fnExactTimesAlikeSpec)

/-- ITS FALSE NEIGHBOUR: 'it returns false'. Refute it at one input. -/
def fnExactTimesAlikeWrong : ChangeSpec := { name := "fnExactTimesAlike", fn := fun _ => fun
  | [d1, d2] => { results := [.lit (.bool false)], args := [d1, d2] }
  | _ => none }
def FnExactTimesAlikeWrongFalsely : Prop := fnExactTimesAlikeRow.holds Try.pinned (OpenSpec.ofChange fnExactTimesAlikeWrong)

/-- 'laws.FnExactMirrorSeen': WHATEVER THE INPUT: true; the input reads as it did. -/
def fnExactMirrorSeenSpec : ChangeSpec := { name := "fnExactMirrorSeen", fn := fun _ => fun
  | [d] => { results := [.lit (.bool true)], args := [d] }
  | _ => none }
def fnExactMirrorSeenRow : OpenClaim := { program := "ytkhadikdhenibaa", sum := "5c6e761c2c22ebbfa612d533650eb890200710bd253e37811fd37073fad67a88", func := "loop.example/g01241/laws.FnExactMirrorSeen", spec := "fnExactMirrorSeen", apart := false }
def FnExactMirrorSeenSaid : Prop := fnExactMirrorSeenRow.holds Try.pinned (OpenSpec.ofChange fnExactMirrorSeenSpec)

/-- ITS FALSE NEIGHBOUR: 'it returns false'. Refute it at one input. -/
def fnExactMirrorSeenWrong : ChangeSpec := { name := "fnExactMirrorSeen", fn := fun _ => fun
  | [d] => { results := [.lit (.bool false)], args := [d] }
  | _ => none }
def FnExactMirrorSeenWrongFalsely : Prop := fnExactMirrorSeenRow.holds Try.pinned (OpenSpec.ofChange fnExactMirrorSeenWrong)

/-- 'laws.FnExactTurnSeen': WHATEVER THE INPUT: true; the input reads as it did. -/
def fnExactTurnSeenSpec : ChangeSpec := { name := "fnExactTurnSeen", fn := fun _ => fun
  | [d1, d2] => { results := [.lit (.bool true)], args := [d1, d2] }
  | _ => none }
def fnExactTurnSeenRow : OpenClaim := { program := "ytkhadikdhenibaa", sum := "5c6e761c2c22ebbfa612d533650eb890200710bd253e37811fd37073fad67a88", func := "loop.example/g01241/laws.FnExactTurnSeen", spec := "fnExactTurnSeen", apart := false }
def FnExactTurnSeenSaid : Prop := fnExactTurnSeenRow.holds Try.pinned (OpenSpec.ofChange fnExactTurnSeenSpec)

/-- ITS FALSE NEIGHBOUR: 'it returns false'. Refute it at one input. -/
def fnExactTurnSeenWrong : ChangeSpec := { name := "fnExactTurnSeen", fn := fun _ => fun
  | [d1, d2] => { results := [.lit (.bool false)], args := [d1, d2] }
  | _ => none }
def FnExactTurnSeenWrongFalsely : Prop := fnExactTurnSeenRow.holds Try.pinned (OpenSpec.ofChange fnExactTurnSeenWrong)

/-- 'laws.FnExactTimesTurned': WHATEVER THE INPUT: true; the input reads as it did. -/
def fnExactTimesTurnedSpec : ChangeSpec := { name := "fnExactTimesTurned", fn := fun _ => fun
  | [d1, d2] => { results := [.lit (.bool true)], args := [d1, d2] }
  | _ => none }
def fnExactTimesTurnedRow : OpenClaim := { program := "ytkhadikdhenibaa", sum := "5c6e761c2c22ebbfa612d533650eb890200710bd253e37811fd37073fad67a88", func := "loop.example/g01241/laws.FnExactTimesTurned", spec := "fnExactTimesTurned", apart := false }
def FnExactTimesTurnedSaid : Prop := fnExactTimesTurnedRow.holds Try.pinned (OpenSpec.ofChange fnExactTimesTurnedSpec)

/-- ITS FALSE NEIGHBOUR: 'it returns false'. Refute it at one input. -/
def fnExactTimesTurnedWrong : ChangeSpec := { name := "fnExactTimesTurned", fn := fun _ => fun
  | [d1, d2] => { results := [.lit (.bool false)], args := [d1, d2] }
  | _ => none }
def FnExactTimesTurnedWrongFalsely : Prop := fnExactTimesTurnedRow.holds Try.pinned (OpenSpec.ofChange fnExactTimesTurnedWrong)

/-- 'laws.FnExactTurnsOfDial': WHATEVER THE INPUT: true; the input reads as it did. -/
def fnExactTurnsOfDialSpec : ChangeSpec := { name := "fnExactTurnsOfDial", fn := fun _ => fun
  | [d1, d2] => { results := [.lit (.bool true)], args := [d1, d2] }
  | _ => none }
def fnExactTurnsOfDialRow : OpenClaim := { program := "ytkhadikdhenibaa", sum := "5c6e761c2c22ebbfa612d533650eb890200710bd253e37811fd37073fad67a88", func := "loop.example/g01241/laws.FnExactTurnsOfDial", spec := "fnExactTurnsOfDial", apart := false }
def FnExactTurnsOfDialSaid : Prop := fnExactTurnsOfDialRow.holds Try.pinned (OpenSpec.ofChange fnExactTurnsOfDialSpec)

/-- ITS FALSE NEIGHBOUR: 'it returns false'. Refute it at one input. -/
def fnExactTurnsOfDialWrong : ChangeSpec := { name := "fnExactTurnsOfDial", fn := fun _ => fun
  | [d1, d2] => { results := [.lit (.bool false)], args := [d1, d2] }
  | _ => none }
def FnExactTurnsOfDialWrongFalsely : Prop := fnExactTurnsOfDialRow.holds Try.pinned (OpenSpec.ofChange fnExactTurnsOfDialWrong)

/-- 'laws.FnExactTimesWithAngle': WHATEVER THE INPUT: true; the input reads as it did. -/
def fnExactTimesWithAngleSpec : ChangeSpec := { name := "fnExactTimesWithAngle", fn := fun _ => fun
  | [d1, d2] => { results := [.lit (.bool true)], args := [d1, d2] }
  | _ => none }
def fnExactTimesWithAngleRow : OpenClaim := { program := "ytkhadikdhenibaa", sum := "5c6e761c2c22ebbfa612d533650eb890200710bd253e37811fd37073fad67a88", func := "loop.example/g01241/laws.FnExactTimesWithAngle", spec := "fnExactTimesWithAngle", apart := false }
def FnExactTimesWithAngleSaid : Prop := fnExactTimesWithAngleRow.holds Try.pinned (OpenSpec.ofChange fnExactTimesWithAngleSpec)

/-- ITS FALSE NEIGHBOUR: 'it returns false'. Refute it at one input. -/
def fnExactTimesWithAngleWrong : ChangeSpec := { name := "fnExactTimesWithAngle", fn := fun _ => fun
  | [d1, d2] => { results := [.lit (.bool false)], args := [d1, d2] }
  | _ => none }
def FnExactTimesWithAngleWrongFalsely : Prop := fnExactTimesWithAngleRow.holds Try.pinned (OpenSpec.ofChange fnExactTimesWithAngleWrong)

/-- 'laws.FnExactOwnMirrors': WHATEVER THE INPUT: true; the input reads as it did. -/
def fnExactOwnMirrorsSpec : ChangeSpec := { name := "fnExactOwnMirrors", fn := fun _ => fun
  | [d] => { results := [.lit (.bool true)], args := [d] }
  | _ => none }
def fnExactOwnMirrorsRow : OpenClaim := { program := "ytkhadikdhenibaa", sum := "5c6e761c2c22ebbfa612d533650eb890200710bd253e37811fd37073fad67a88", func := "loop.example/g01241/laws.FnExactOwnMirrors", spec := "fnExactOwnMirrors", apart := false }
def FnExactOwnMirrorsSaid : Prop := fnExactOwnMirrorsRow.holds Try.pinned (OpenSpec.ofChange fnExactOwnMirrorsSpec)

/-- ITS FALSE NEIGHBOUR: 'it returns false'. Refute it at one input. -/
def fnExactOwnMirrorsWrong : ChangeSpec := { name := "fnExactOwnMirrors", fn := fun _ => fun
  | [d] => { results := [.lit (.bool false)], args := [d] }
  | _ => none }
def FnExactOwnMirrorsWrongFalsely : Prop := fnExactOwnMirrorsRow.holds Try.pinned (OpenSpec.ofChange fnExactOwnMirrorsWrong)

/-- 'laws.FnExactTimesInGlass': WHATEVER THE INPUT: true; the input reads as it did. -/
def fnExactTimesInGlassSpec : ChangeSpec := { name := "fnExactTimesInGlass", fn := fun _ => fun
  | [d1, d2] => { results := [.lit (.bool true)], args := [d1, d2] }
  | _ => none }
def fnExactTimesInGlassRow : OpenClaim := { program := "ytkhadikdhenibaa", sum := "5c6e761c2c22ebbfa612d533650eb890200710bd253e37811fd37073fad67a88", func := "loop.example/g01241/laws.FnExactTimesInGlass", spec := "fnExactTimesInGlass", unfollowed := true, recurses := true, apart := false }
def FnExactTimesInGlassSaid : Prop := fnExactTimesInGlassRow.holds Try.pinned (OpenSpec.ofChange fnExactTimesInGlassSpec)

/-- ITS FALSE NEIGHBOUR: 'it returns false'. Refute it at one input. -/
def fnExactTimesInGlassWrong : ChangeSpec := { name := "fnExactTimesInGlass", fn := fun _ => fun
  | [d1, d2] => { results := [.lit (.bool false)], args := [d1, d2] }
  | _ => none }
def FnExactTimesInGlassWrongFalsely : Prop := fnExactTimesInGlassRow.holds Try.pinned (OpenSpec.ofChange fnExactTimesInGlassWrong)

/- THE SECOND FORM. 'bulk': how many values and letters a reading holds, each counted each time it is reached (what is shared counts as often as it is met; a slice's spare places count too). A statement '..UptoSaid' is the law's where the arguments, and the package variables that the reading takes, are together of bulk at most 1048576: NARROWER than '..Said'. Prove '..Said' where nothing that the law and all that it calls make is longer than what came in: it says more and counts as full. Else prove '..UptoSaid'. A law counts once. -/
mutual
def uptoBulk {H : Type} : DataW H → Nat
  | .lit (.string bytes) => bytes.length + 1
  | .lit _ => 1
  | .nil => 1
  | .ptr d => uptoBulk d + 1
  | .slice elems spare => uptoBulkAll elems + uptoBulkAll spare + 1
  | .agg parts => uptoBulkAll parts + 1
  | .iface _ d => uptoBulk d + 1
  | .map entries => uptoBulkEntries entries + 1
  | .held _ => 1
def uptoBulkAll {H : Type} : List (DataW H) → Nat
  | [] => 0
  | d :: r => uptoBulk d + uptoBulkAll r
def uptoBulkEntries {H : Type} : List (Lit × DataW H) → Nat
  | [] => 0
  | x :: r => uptoBulkEntry x + uptoBulkEntries r
def uptoBulkEntry {H : Type} : Lit × DataW H → Nat
  | (.string bytes, d) => bytes.length + uptoBulk d + 1
  | (_, d) => uptoBulk d + 1
 end
def uptoSmall : (H : Type) → List (DataW H) → Bool := fun _ ds => decide (uptoBulkAll ds ≤ 1048576)
def OpenSpec.upto (s : _root_.Go.ChangeSpec) : _root_.Go.OpenSpec := { _root_.Go.OpenSpec.ofChange s with cond := some uptoSmall }

/-- 'laws.FnExactIsSeen', WHERE WHAT IT READS IS OF BULK AT MOST 1048576: true; the input reads as it did. -/
def fnExactIsSeenUptoRow : OpenClaim := { program := "ytkhadikdhenibaa", sum := "5c6e761c2c22ebbfa612d533650eb890200710bd253e37811fd37073fad67a88", func := "loop.example/g01241/laws.FnExactIsSeen", spec := "fnExactIsSeen", apart := false, narrowed := true }
def FnExactIsSeenUptoSaid : Prop := fnExactIsSeenUptoRow.holds Try.pinned (OpenSpec.upto fnExactIsSeenSpec)

/-- 'laws.FnExactSeenOf', WHERE WHAT IT READS IS OF BULK AT MOST 1048576: true; the input reads as it did. -/
def fnExactSeenOfUptoRow : OpenClaim := { program := "ytkhadikdhenibaa", sum := "5c6e761c2c22ebbfa612d533650eb890200710bd253e37811fd37073fad67a88", func := "loop.example/g01241/laws.FnExactSeenOf", spec := "fnExactSeenOf", apart := false, narrowed := true }
def FnExactSeenOfUptoSaid : Prop := fnExactSeenOfUptoRow.holds Try.pinned (OpenSpec.upto fnExactSeenOfSpec)

/-- 'laws.FnExactTimeSeen', WHERE WHAT IT READS IS OF BULK AT MOST 1048576: true; the input reads as it did. -/
def fnExactTimeSeenUptoRow : OpenClaim := { program := "ytkhadikdhenibaa", sum := "5c6e761c2c22ebbfa612d533650eb890200710bd253e37811fd37073fad67a88", func := "loop.example/g01241/laws.FnExactTimeSeen", spec := "fnExactTimeSeen", apart := false, narrowed := true }
def FnExactTimeSeenUptoSaid : Prop := fnExactTimeSeenUptoRow.holds Try.pinned (OpenSpec.upto fnExactTimeSeenSpec)

/-- 'laws.FnExactIsTrueSeen', WHERE WHAT IT READS IS OF BULK AT MOST 1048576: true; the input reads as it did. -/
def fnExactIsTrueSeenUptoRow : OpenClaim := { program := "ytkhadikdhenibaa", sum := "5c6e761c2c22ebbfa612d533650eb890200710bd253e37811fd37073fad67a88", func := "loop.example/g01241/laws.FnExactIsTrueSeen", spec := "fnExactIsTrueSeen", apart := false, narrowed := true }
def FnExactIsTrueSeenUptoSaid : Prop := fnExactIsTrueSeenUptoRow.holds Try.pinned (OpenSpec.upto fnExactIsTrueSeenSpec)

/-- 'laws.FnExactExchangeSeen', WHERE WHAT IT READS IS OF BULK AT MOST 1048576: true; the input reads as it did. -/
def fnExactExchangeSeenUptoRow : OpenClaim := { program := "ytkhadikdhenibaa", sum := "5c6e761c2c22ebbfa612d533650eb890200710bd253e37811fd37073fad67a88", func := "loop.example/g01241/laws.FnExactExchangeSeen", spec := "fnExactExchangeSeen", apart := false, narrowed := true }
def FnExactExchangeSeenUptoSaid : Prop := fnExactExchangeSeenUptoRow.holds Try.pinned (OpenSpec.upto fnExactExchangeSeenSpec)

/-- 'laws.FnExactExchangedTime', WHERE WHAT IT READS IS OF BULK AT MOST 1048576: true; the input reads as it did. -/
def fnExactExchangedTimeUptoRow : OpenClaim := { program := "ytkhadikdhenibaa", sum := "5c6e761c2c22ebbfa612d533650eb890200710bd253e37811fd37073fad67a88", func := "loop.example/g01241/laws.FnExactExchangedTime", spec := "fnExactExchangedTime", apart := false, narrowed := true }
def FnExactExchangedTimeUptoSaid : Prop := fnExactExchangedTimeUptoRow.holds Try.pinned (OpenSpec.upto fnExactExchangedTimeSpec)

/-- 'laws.FnExactAllExchanged', WHERE WHAT IT READS IS OF BULK AT MOST 1048576: true; the input reads as it did. -/
def fnExactAllExchangedUptoRow : OpenClaim := { program := "ytkhadikdhenibaa", sum := "5c6e761c2c22ebbfa612d533650eb890200710bd253e37811fd37073fad67a88", func := "loop.example/g01241/laws.FnExactAllExchanged", spec := "fnExactAllExchanged", apart := false, narrowed := true }
def FnExactAllExchangedUptoSaid : Prop := fnExactAllExchangedUptoRow.holds Try.pinned (OpenSpec.upto fnExactAllExchangedSpec)

/-- 'laws.FnExactCountUnsure', WHERE WHAT IT READS IS OF BULK AT MOST 1048576: true; the input reads as it did. -/
def fnExactCountUnsureUptoRow : OpenClaim := { program := "ytkhadikdhenibaa", sum := "5c6e761c2c22ebbfa612d533650eb890200710bd253e37811fd37073fad67a88", func := "loop.example/g01241/laws.FnExactCountUnsure", spec := "fnExactCountUnsure", apart := false, narrowed := true }
def FnExactCountUnsureUptoSaid : Prop := fnExactCountUnsureUptoRow.holds Try.pinned (OpenSpec.upto fnExactCountUnsureSpec)

/-- 'laws.FnExactTimesAlike', WHERE WHAT IT READS IS OF BULK AT MOST 1048576: true; the input reads as it did. -/
def fnExactTimesAlikeUptoRow : OpenClaim := { program := "ytkhadikdhenibaa", sum := "5c6e761c2c22ebbfa612d533650eb890200710bd253e37811fd37073fad67a88", func := "loop.example/g01241/laws.FnExactTimesAlike", spec := "fnExactTimesAlike", unfollowed := true, recurses := true, apart := false, narrowed := true }
def FnExactTimesAlikeUptoSaid : Prop := fnExactTimesAlikeUptoRow.holds Try.pinned (OpenSpec.upto fnExactTimesAlikeSpec)

/-- 'laws.FnExactMirrorSeen', WHERE WHAT IT READS IS OF BULK AT MOST 1048576: true; the input reads as it did. -/
def fnExactMirrorSeenUptoRow : OpenClaim := { program := "ytkhadikdhenibaa", sum := "5c6e761c2c22ebbfa612d533650eb890200710bd253e37811fd37073fad67a88", func := "loop.example/g01241/laws.FnExactMirrorSeen", spec := "fnExactMirrorSeen", apart := false, narrowed := true }
def FnExactMirrorSeenUptoSaid : Prop := fnExactMirrorSeenUptoRow.holds Try.pinned (OpenSpec.upto fnExactMirrorSeenSpec)

/-- 'laws.FnExactTurnSeen', WHERE WHAT IT READS IS OF BULK AT MOST 1048576: true; the input reads as it did. -/
def fnExactTurnSeenUptoRow : OpenClaim := { program := "ytkhadikdhenibaa", sum := "5c6e761c2c22ebbfa612d533650eb890200710bd253e37811fd37073fad67a88", func := "loop.example/g01241/laws.FnExactTurnSeen", spec := "fnExactTurnSeen", apart := false, narrowed := true }
def FnExactTurnSeenUptoSaid : Prop := fnExactTurnSeenUptoRow.holds Try.pinned (OpenSpec.upto fnExactTurnSeenSpec)

/-- 'laws.FnExactTimesTurned', WHERE WHAT IT READS IS OF BULK AT MOST 1048576: true; the input reads as it did. -/
def fnExactTimesTurnedUptoRow : OpenClaim := { program := "ytkhadikdhenibaa", sum := "5c6e761c2c22ebbfa612d533650eb890200710bd253e37811fd37073fad67a88", func := "loop.example/g01241/laws.FnExactTimesTurned", spec := "fnExactTimesTurned", apart := false, narrowed := true }
def FnExactTimesTurnedUptoSaid : Prop := fnExactTimesTurnedUptoRow.holds Try.pinned (OpenSpec.upto fnExactTimesTurnedSpec)

/-- 'laws.FnExactTurnsOfDial', WHERE WHAT IT READS IS OF BULK AT MOST 1048576: true; the input reads as it did. -/
def fnExactTurnsOfDialUptoRow : OpenClaim := { program := "ytkhadikdhenibaa", sum := "5c6e761c2c22ebbfa612d533650eb890200710bd253e37811fd37073fad67a88", func := "loop.example/g01241/laws.FnExactTurnsOfDial", spec := "fnExactTurnsOfDial", apart := false, narrowed := true }
def FnExactTurnsOfDialUptoSaid : Prop := fnExactTurnsOfDialUptoRow.holds Try.pinned (OpenSpec.upto fnExactTurnsOfDialSpec)

/-- 'laws.FnExactTimesWithAngle', WHERE WHAT IT READS IS OF BULK AT MOST 1048576: true; the input reads as it did. -/
def fnExactTimesWithAngleUptoRow : OpenClaim := { program := "ytkhadikdhenibaa", sum := "5c6e761c2c22ebbfa612d533650eb890200710bd253e37811fd37073fad67a88", func := "loop.example/g01241/laws.FnExactTimesWithAngle", spec := "fnExactTimesWithAngle", apart := false, narrowed := true }
def FnExactTimesWithAngleUptoSaid : Prop := fnExactTimesWithAngleUptoRow.holds Try.pinned (OpenSpec.upto fnExactTimesWithAngleSpec)

/-- 'laws.FnExactOwnMirrors', WHERE WHAT IT READS IS OF BULK AT MOST 1048576: true; the input reads as it did. -/
def fnExactOwnMirrorsUptoRow : OpenClaim := { program := "ytkhadikdhenibaa", sum := "5c6e761c2c22ebbfa612d533650eb890200710bd253e37811fd37073fad67a88", func := "loop.example/g01241/laws.FnExactOwnMirrors", spec := "fnExactOwnMirrors", apart := false, narrowed := true }
def FnExactOwnMirrorsUptoSaid : Prop := fnExactOwnMirrorsUptoRow.holds Try.pinned (OpenSpec.upto fnExactOwnMirrorsSpec)

/-- 'laws.FnExactTimesInGlass', WHERE WHAT IT READS IS OF BULK AT MOST 1048576: true; the input reads as it did. -/
def fnExactTimesInGlassUptoRow : OpenClaim := { program := "ytkhadikdhenibaa", sum := "5c6e761c2c22ebbfa612d533650eb890200710bd253e37811fd37073fad67a88", func := "loop.example/g01241/laws.FnExactTimesInGlass", spec := "fnExactTimesInGlass", unfollowed := true, recurses := true, apart := false, narrowed := true }
def FnExactTimesInGlassUptoSaid : Prop := fnExactTimesInGlassUptoRow.holds Try.pinned (OpenSpec.upto fnExactTimesInGlassSpec)

end Rows
end Go.Proofs.Ytkhadikdhenibaa
