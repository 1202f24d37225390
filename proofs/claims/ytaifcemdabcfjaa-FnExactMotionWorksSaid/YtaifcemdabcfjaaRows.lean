/-
  No cell of these rows narrows 'for every input' (looked for: loops, veiled, ifaces, maps, wideKeys, modest, calm, conditions, laid).
  DERIVED. THE GIVEN ROWS OF THIS SEAT. 16 by the template 'for every input the law returns true; each argument reads behind the call as it read before'; 0 by the template 'total and deterministic' (their statements: YtaifcemdabcfjaaTotals.lean).
  GIVEN WITH THE SEED: the statements are not yours to turn. If you find one false, say at which input.
  Laid BY PROGRAM, IN A SANDBOX (cutbox-rows.mjs): the forced cells as the released guide's own fill.sh prints them over the translation 00619f03b535dd2e… (all of the seat's roots in one cut). By AI agents, Wed Nov 11 2026. No macro, syntax, notation, axiom, sorry.
-/
import Derived.Test.YtaifcemdabcfjaaChecked
import GoSem.Claim
import GoSem.ClaimJoined
import GoSem.ClaimMapViews
import Derived.JoinedTies
import Derived.KernelRfl
namespace Go.Proofs.Ytaifcemdabcfjaa
/- THE CELL 'sum', in the pinned program and in every row, IS THE sha256 OF THE DUMP (.gsa) THAT YtaifcemdabcfjaaProg.lean LOADS. Nothing in Lean hashes anything: it is a label: what it is worth is what the hold of that sum in a sandbox is worth. -/
noncomputable def Try.pinned : Pinned := { name := "ytaifcemdabcfjaa", sum := "00619f03b535dd2e813d07e15fb9bcba5f4a2836915dc391b2980d15a4705d7a", checked := Try.checked }
namespace Rows
def none {H : Type} : Left H := { results := [], args := [] }

/-- 'laws.FnExactIsPair': WHATEVER THE INPUT: true; the input reads as it did. -/
def fnExactIsPairSpec : ChangeSpec := { name := "fnExactIsPair", fn := fun _ => fun
  | [d] => { results := [.lit (.bool true)], args := [d] }
  | _ => none }
def fnExactIsPairRow : OpenClaim := { program := "ytaifcemdabcfjaa", sum := "00619f03b535dd2e813d07e15fb9bcba5f4a2836915dc391b2980d15a4705d7a", func := "loop.example/g01241/laws.FnExactIsPair", spec := "fnExactIsPair", apart := false }
def FnExactIsPairSaid : Prop := fnExactIsPairRow.holds Try.pinned (OpenSpec.ofChange fnExactIsPairSpec)

/-- ITS FALSE NEIGHBOUR: 'it returns false'. Refute it at one input. -/
def fnExactIsPairWrong : ChangeSpec := { name := "fnExactIsPair", fn := fun _ => fun
  | [d] => { results := [.lit (.bool false)], args := [d] }
  | _ => none }
def FnExactIsPairWrongFalsely : Prop := fnExactIsPairRow.holds Try.pinned (OpenSpec.ofChange fnExactIsPairWrong)

/-- 'laws.FnExactIsTrain': WHATEVER THE INPUT: true; the input reads as it did. -/
def fnExactIsTrainSpec : ChangeSpec := { name := "fnExactIsTrain", fn := fun _ => fun
  | [d] => { results := [.lit (.bool true)], args := [d] }
  | _ => none }
def fnExactIsTrainRow : OpenClaim := { program := "ytaifcemdabcfjaa", sum := "00619f03b535dd2e813d07e15fb9bcba5f4a2836915dc391b2980d15a4705d7a", func := "loop.example/g01241/laws.FnExactIsTrain", spec := "fnExactIsTrain", apart := false }
def FnExactIsTrainSaid : Prop := fnExactIsTrainRow.holds Try.pinned (OpenSpec.ofChange fnExactIsTrainSpec)

/-- ITS FALSE NEIGHBOUR: 'it returns false'. Refute it at one input. -/
def fnExactIsTrainWrong : ChangeSpec := { name := "fnExactIsTrain", fn := fun _ => fun
  | [d] => { results := [.lit (.bool false)], args := [d] }
  | _ => none }
def FnExactIsTrainWrongFalsely : Prop := fnExactIsTrainRow.holds Try.pinned (OpenSpec.ofChange fnExactIsTrainWrong)

/-- 'laws.FnExactRatioOf': WHATEVER THE INPUT: true; the input reads as it did. -/
def fnExactRatioOfSpec : ChangeSpec := { name := "fnExactRatioOf", fn := fun _ => fun
  | [d] => { results := [.lit (.bool true)], args := [d] }
  | _ => none }
def fnExactRatioOfRow : OpenClaim := { program := "ytaifcemdabcfjaa", sum := "00619f03b535dd2e813d07e15fb9bcba5f4a2836915dc391b2980d15a4705d7a", func := "loop.example/g01241/laws.FnExactRatioOf", spec := "fnExactRatioOf", unfollowed := true, recurses := true, apart := false }
def FnExactRatioOfSaid : Prop := fnExactRatioOfRow.holds Try.pinned (OpenSpec.ofChange fnExactRatioOfSpec)

/-- ITS FALSE NEIGHBOUR: 'it returns false'. Refute it at one input. -/
def fnExactRatioOfWrong : ChangeSpec := { name := "fnExactRatioOf", fn := fun _ => fun
  | [d] => { results := [.lit (.bool false)], args := [d] }
  | _ => none }
def FnExactRatioOfWrongFalsely : Prop := fnExactRatioOfRow.holds Try.pinned (OpenSpec.ofChange fnExactRatioOfWrong)

/-- 'laws.FnExactTurnsOfLast': WHATEVER THE INPUT: true; the input reads as it did. -/
def fnExactTurnsOfLastSpec : ChangeSpec := { name := "fnExactTurnsOfLast", fn := fun _ => fun
  | [d1, d2] => { results := [.lit (.bool true)], args := [d1, d2] }
  | _ => none }
def fnExactTurnsOfLastRow : OpenClaim := { program := "ytaifcemdabcfjaa", sum := "00619f03b535dd2e813d07e15fb9bcba5f4a2836915dc391b2980d15a4705d7a", func := "loop.example/g01241/laws.FnExactTurnsOfLast", spec := "fnExactTurnsOfLast", unfollowed := true, recurses := true, apart := false }
def FnExactTurnsOfLastSaid : Prop := fnExactTurnsOfLastRow.holds Try.pinned (OpenSpec.ofChange fnExactTurnsOfLastSpec)

/-- ITS FALSE NEIGHBOUR: 'it returns false'. Refute it at one input. -/
def fnExactTurnsOfLastWrong : ChangeSpec := { name := "fnExactTurnsOfLast", fn := fun _ => fun
  | [d1, d2] => { results := [.lit (.bool false)], args := [d1, d2] }
  | _ => none }
def FnExactTurnsOfLastWrongFalsely : Prop := fnExactTurnsOfLastRow.holds Try.pinned (OpenSpec.ofChange fnExactTurnsOfLastWrong)

/-- 'laws.FnExactDirectionOf': WHATEVER THE INPUT: true; the input reads as it did. -/
def fnExactDirectionOfSpec : ChangeSpec := { name := "fnExactDirectionOf", fn := fun _ => fun
  | [d] => { results := [.lit (.bool true)], args := [d] }
  | _ => none }
def fnExactDirectionOfRow : OpenClaim := { program := "ytaifcemdabcfjaa", sum := "00619f03b535dd2e813d07e15fb9bcba5f4a2836915dc391b2980d15a4705d7a", func := "loop.example/g01241/laws.FnExactDirectionOf", spec := "fnExactDirectionOf", apart := false }
def FnExactDirectionOfSaid : Prop := fnExactDirectionOfRow.holds Try.pinned (OpenSpec.ofChange fnExactDirectionOfSpec)

/-- ITS FALSE NEIGHBOUR: 'it returns false'. Refute it at one input. -/
def fnExactDirectionOfWrong : ChangeSpec := { name := "fnExactDirectionOf", fn := fun _ => fun
  | [d] => { results := [.lit (.bool false)], args := [d] }
  | _ => none }
def FnExactDirectionOfWrongFalsely : Prop := fnExactDirectionOfRow.holds Try.pinned (OpenSpec.ofChange fnExactDirectionOfWrong)

/-- 'laws.FnExactBackTrain': WHATEVER THE INPUT: true; the input reads as it did. -/
def fnExactBackTrainSpec : ChangeSpec := { name := "fnExactBackTrain", fn := fun _ => fun
  | [d] => { results := [.lit (.bool true)], args := [d] }
  | _ => none }
def fnExactBackTrainRow : OpenClaim := { program := "ytaifcemdabcfjaa", sum := "00619f03b535dd2e813d07e15fb9bcba5f4a2836915dc391b2980d15a4705d7a", func := "loop.example/g01241/laws.FnExactBackTrain", spec := "fnExactBackTrain", unfollowed := true, recurses := true, apart := false }
def FnExactBackTrainSaid : Prop := fnExactBackTrainRow.holds Try.pinned (OpenSpec.ofChange fnExactBackTrainSpec)

/-- ITS FALSE NEIGHBOUR: 'it returns false'. Refute it at one input. -/
def fnExactBackTrainWrong : ChangeSpec := { name := "fnExactBackTrain", fn := fun _ => fun
  | [d] => { results := [.lit (.bool false)], args := [d] }
  | _ => none }
def FnExactBackTrainWrongFalsely : Prop := fnExactBackTrainRow.holds Try.pinned (OpenSpec.ofChange fnExactBackTrainWrong)

/-- 'laws.FnExactMeshesUntilSame': WHATEVER THE INPUT: true; the input reads as it did. -/
def fnExactMeshesUntilSameSpec : ChangeSpec := { name := "fnExactMeshesUntilSame", fn := fun _ => fun
  | [d] => { results := [.lit (.bool true)], args := [d] }
  | _ => none }
def fnExactMeshesUntilSameRow : OpenClaim := { program := "ytaifcemdabcfjaa", sum := "00619f03b535dd2e813d07e15fb9bcba5f4a2836915dc391b2980d15a4705d7a", func := "loop.example/g01241/laws.FnExactMeshesUntilSame", spec := "fnExactMeshesUntilSame", unfollowed := true, recurses := true, apart := false }
def FnExactMeshesUntilSameSaid : Prop := fnExactMeshesUntilSameRow.holds Try.pinned (OpenSpec.ofChange fnExactMeshesUntilSameSpec)

/-- ITS FALSE NEIGHBOUR: 'it returns false'. Refute it at one input. -/
def fnExactMeshesUntilSameWrong : ChangeSpec := { name := "fnExactMeshesUntilSame", fn := fun _ => fun
  | [d] => { results := [.lit (.bool false)], args := [d] }
  | _ => none }
def FnExactMeshesUntilSameWrongFalsely : Prop := fnExactMeshesUntilSameRow.holds Try.pinned (OpenSpec.ofChange fnExactMeshesUntilSameWrong)

/-- 'laws.FnExactTurnsUntilSame': WHATEVER THE INPUT: true; the input reads as it did. -/
def fnExactTurnsUntilSameSpec : ChangeSpec := { name := "fnExactTurnsUntilSame", fn := fun _ => fun
  | [d] => { results := [.lit (.bool true)], args := [d] }
  | _ => none }
def fnExactTurnsUntilSameRow : OpenClaim := { program := "ytaifcemdabcfjaa", sum := "00619f03b535dd2e813d07e15fb9bcba5f4a2836915dc391b2980d15a4705d7a", func := "loop.example/g01241/laws.FnExactTurnsUntilSame", spec := "fnExactTurnsUntilSame", unfollowed := true, recurses := true, apart := false }
def FnExactTurnsUntilSameSaid : Prop := fnExactTurnsUntilSameRow.holds Try.pinned (OpenSpec.ofChange fnExactTurnsUntilSameSpec)

/-- ITS FALSE NEIGHBOUR: 'it returns false'. Refute it at one input. -/
def fnExactTurnsUntilSameWrong : ChangeSpec := { name := "fnExactTurnsUntilSame", fn := fun _ => fun
  | [d] => { results := [.lit (.bool false)], args := [d] }
  | _ => none }
def FnExactTurnsUntilSameWrongFalsely : Prop := fnExactTurnsUntilSameRow.holds Try.pinned (OpenSpec.ofChange fnExactTurnsUntilSameWrong)

/-- 'laws.FnExactFirstPair': WHATEVER THE INPUT: true; the input reads as it did. -/
def fnExactFirstPairSpec : ChangeSpec := { name := "fnExactFirstPair", fn := fun _ => fun
  | [d1, d2, d3] => { results := [.lit (.bool true)], args := [d1, d2, d3] }
  | _ => none }
def fnExactFirstPairRow : OpenClaim := { program := "ytaifcemdabcfjaa", sum := "00619f03b535dd2e813d07e15fb9bcba5f4a2836915dc391b2980d15a4705d7a", func := "loop.example/g01241/laws.FnExactFirstPair", spec := "fnExactFirstPair", unfollowed := true, recurses := true, apart := false }
def FnExactFirstPairSaid : Prop := fnExactFirstPairRow.holds Try.pinned (OpenSpec.ofChange fnExactFirstPairSpec)

/-- ITS FALSE NEIGHBOUR: 'it returns false'. Refute it at one input. -/
def fnExactFirstPairWrong : ChangeSpec := { name := "fnExactFirstPair", fn := fun _ => fun
  | [d1, d2, d3] => { results := [.lit (.bool false)], args := [d1, d2, d3] }
  | _ => none }
def FnExactFirstPairWrongFalsely : Prop := fnExactFirstPairRow.holds Try.pinned (OpenSpec.ofChange fnExactFirstPairWrong)

/-- 'laws.FnExactFirstTrain': WHATEVER THE INPUT: true; the input reads as it did. -/
def fnExactFirstTrainSpec : ChangeSpec := { name := "fnExactFirstTrain", fn := fun _ => fun
  | [d1, d2, d3] => { results := [.lit (.bool true)], args := [d1, d2, d3] }
  | _ => none }
def fnExactFirstTrainRow : OpenClaim := { program := "ytaifcemdabcfjaa", sum := "00619f03b535dd2e813d07e15fb9bcba5f4a2836915dc391b2980d15a4705d7a", func := "loop.example/g01241/laws.FnExactFirstTrain", spec := "fnExactFirstTrain", unfollowed := true, recurses := true, apart := false }
def FnExactFirstTrainSaid : Prop := fnExactFirstTrainRow.holds Try.pinned (OpenSpec.ofChange fnExactFirstTrainSpec)

/-- ITS FALSE NEIGHBOUR: 'it returns false'. Refute it at one input. -/
def fnExactFirstTrainWrong : ChangeSpec := { name := "fnExactFirstTrain", fn := fun _ => fun
  | [d1, d2, d3] => { results := [.lit (.bool false)], args := [d1, d2, d3] }
  | _ => none }
def FnExactFirstTrainWrongFalsely : Prop := fnExactFirstTrainRow.holds Try.pinned (OpenSpec.ofChange fnExactFirstTrainWrong)

/-- 'laws.FnExactFewestTeeth': WHATEVER THE INPUT: true; the input reads as it did. -/
def fnExactFewestTeethSpec : ChangeSpec := { name := "fnExactFewestTeeth", fn := fun _ => fun
  | [d1, d2, d3] => { results := [.lit (.bool true)], args := [d1, d2, d3] }
  | _ => none }
def fnExactFewestTeethRow : OpenClaim := { program := "ytaifcemdabcfjaa", sum := "00619f03b535dd2e813d07e15fb9bcba5f4a2836915dc391b2980d15a4705d7a", func := "loop.example/g01241/laws.FnExactFewestTeeth", spec := "fnExactFewestTeeth", unfollowed := true, recurses := true, apart := false }
def FnExactFewestTeethSaid : Prop := fnExactFewestTeethRow.holds Try.pinned (OpenSpec.ofChange fnExactFewestTeethSpec)

/-- ITS FALSE NEIGHBOUR: 'it returns false'. Refute it at one input. -/
def fnExactFewestTeethWrong : ChangeSpec := { name := "fnExactFewestTeeth", fn := fun _ => fun
  | [d1, d2, d3] => { results := [.lit (.bool false)], args := [d1, d2, d3] }
  | _ => none }
def FnExactFewestTeethWrongFalsely : Prop := fnExactFewestTeethRow.holds Try.pinned (OpenSpec.ofChange fnExactFewestTeethWrong)

/-- 'laws.FnExactNearestPair': WHATEVER THE INPUT: true; the input reads as it did. -/
def fnExactNearestPairSpec : ChangeSpec := { name := "fnExactNearestPair", fn := fun _ => fun
  | [d1, d2, d3] => { results := [.lit (.bool true)], args := [d1, d2, d3] }
  | _ => none }
def fnExactNearestPairRow : OpenClaim := { program := "ytaifcemdabcfjaa", sum := "00619f03b535dd2e813d07e15fb9bcba5f4a2836915dc391b2980d15a4705d7a", func := "loop.example/g01241/laws.FnExactNearestPair", spec := "fnExactNearestPair", unfollowed := true, recurses := true, apart := false }
def FnExactNearestPairSaid : Prop := fnExactNearestPairRow.holds Try.pinned (OpenSpec.ofChange fnExactNearestPairSpec)

/-- ITS FALSE NEIGHBOUR: 'it returns false'. Refute it at one input. -/
def fnExactNearestPairWrong : ChangeSpec := { name := "fnExactNearestPair", fn := fun _ => fun
  | [d1, d2, d3] => { results := [.lit (.bool false)], args := [d1, d2, d3] }
  | _ => none }
def FnExactNearestPairWrongFalsely : Prop := fnExactNearestPairRow.holds Try.pinned (OpenSpec.ofChange fnExactNearestPairWrong)

/-- 'laws.FnExactMotionWorks': WHATEVER THE INPUT: true; the input reads as it did. -/
def fnExactMotionWorksSpec : ChangeSpec := { name := "fnExactMotionWorks", fn := fun _ => fun
  | [d1, d2] => { results := [.lit (.bool true)], args := [d1, d2] }
  | _ => none }
def fnExactMotionWorksRow : OpenClaim := { program := "ytaifcemdabcfjaa", sum := "00619f03b535dd2e813d07e15fb9bcba5f4a2836915dc391b2980d15a4705d7a", func := "loop.example/g01241/laws.FnExactMotionWorks", spec := "fnExactMotionWorks", unfollowed := true, recurses := true, apart := false }
def FnExactMotionWorksSaid : Prop := fnExactMotionWorksRow.holds Try.pinned (OpenSpec.ofChange fnExactMotionWorksSpec)

/-- ITS FALSE NEIGHBOUR: 'it returns false'. Refute it at one input. -/
def fnExactMotionWorksWrong : ChangeSpec := { name := "fnExactMotionWorks", fn := fun _ => fun
  | [d1, d2] => { results := [.lit (.bool false)], args := [d1, d2] }
  | _ => none }
def FnExactMotionWorksWrongFalsely : Prop := fnExactMotionWorksRow.holds Try.pinned (OpenSpec.ofChange fnExactMotionWorksWrong)

/-- 'laws.FnExactFirstMotionWork': WHATEVER THE INPUT: true; the input reads as it did. -/
def fnExactFirstMotionWorkSpec : ChangeSpec := { name := "fnExactFirstMotionWork", fn := fun _ => fun
  | [d1, d2] => { results := [.lit (.bool true)], args := [d1, d2] }
  | _ => none }
def fnExactFirstMotionWorkRow : OpenClaim := { program := "ytaifcemdabcfjaa", sum := "00619f03b535dd2e813d07e15fb9bcba5f4a2836915dc391b2980d15a4705d7a", func := "loop.example/g01241/laws.FnExactFirstMotionWork", spec := "fnExactFirstMotionWork", unfollowed := true, recurses := true, apart := false }
def FnExactFirstMotionWorkSaid : Prop := fnExactFirstMotionWorkRow.holds Try.pinned (OpenSpec.ofChange fnExactFirstMotionWorkSpec)

/-- ITS FALSE NEIGHBOUR: 'it returns false'. Refute it at one input. -/
def fnExactFirstMotionWorkWrong : ChangeSpec := { name := "fnExactFirstMotionWork", fn := fun _ => fun
  | [d1, d2] => { results := [.lit (.bool false)], args := [d1, d2] }
  | _ => none }
def FnExactFirstMotionWorkWrongFalsely : Prop := fnExactFirstMotionWorkRow.holds Try.pinned (OpenSpec.ofChange fnExactFirstMotionWorkWrong)

/-- 'laws.FnExactTeethOf': WHATEVER THE INPUT: true; the input reads as it did. -/
def fnExactTeethOfSpec : ChangeSpec := { name := "fnExactTeethOf", fn := fun _ => fun
  | [d] => { results := [.lit (.bool true)], args := [d] }
  | _ => none }
def fnExactTeethOfRow : OpenClaim := { program := "ytaifcemdabcfjaa", sum := "00619f03b535dd2e813d07e15fb9bcba5f4a2836915dc391b2980d15a4705d7a", func := "loop.example/g01241/laws.FnExactTeethOf", spec := "fnExactTeethOf", apart := false }
def FnExactTeethOfSaid : Prop := fnExactTeethOfRow.holds Try.pinned (OpenSpec.ofChange fnExactTeethOfSpec)

/-- ITS FALSE NEIGHBOUR: 'it returns false'. Refute it at one input. -/
def fnExactTeethOfWrong : ChangeSpec := { name := "fnExactTeethOf", fn := fun _ => fun
  | [d] => { results := [.lit (.bool false)], args := [d] }
  | _ => none }
def FnExactTeethOfWrongFalsely : Prop := fnExactTeethOfRow.holds Try.pinned (OpenSpec.ofChange fnExactTeethOfWrong)

/-- 'laws.FnExactCompareRatios': WHATEVER THE INPUT: true; the input reads as it did. -/
def fnExactCompareRatiosSpec : ChangeSpec := { name := "fnExactCompareRatios", fn := fun _ => fun
  | [d1, d2] => { results := [.lit (.bool true)], args := [d1, d2] }
  | _ => none }
def fnExactCompareRatiosRow : OpenClaim := { program := "ytaifcemdabcfjaa", sum := "00619f03b535dd2e813d07e15fb9bcba5f4a2836915dc391b2980d15a4705d7a", func := "loop.example/g01241/laws.FnExactCompareRatios", spec := "fnExactCompareRatios", unfollowed := true, recurses := true, apart := false }
def FnExactCompareRatiosSaid : Prop := fnExactCompareRatiosRow.holds Try.pinned (OpenSpec.ofChange fnExactCompareRatiosSpec)

/-- ITS FALSE NEIGHBOUR: 'it returns false'. Refute it at one input. -/
def fnExactCompareRatiosWrong : ChangeSpec := { name := "fnExactCompareRatios", fn := fun _ => fun
  | [d1, d2] => { results := [.lit (.bool false)], args := [d1, d2] }
  | _ => none }
def FnExactCompareRatiosWrongFalsely : Prop := fnExactCompareRatiosRow.holds Try.pinned (OpenSpec.ofChange fnExactCompareRatiosWrong)

/- THE SECOND FORM. 'bulk': how many values and letters a reading holds, each counted each time it is reached (what is shared counts as often as it is met; a slice's spare places count too). A statement '..UptoSaid' is the law's where the arguments, and the package variables that the reading takes, are together of bulk at most 1048576: NARROWER than '..Said'. Prove '..Said' where nothing that the law and all that it calls make is longer than what came in: it says more and counts as full. Else prove '..UptoSaid'. A law counts once. -/
mutual
def uptoBulk {H : Type} : DataW H → Nat
  | .lit (.string bytes) => bytes.length + 1
  | .lit _ => 1
  | .nil => 1
  | .ptr d => uptoBulk d + 1
  | .slice elems spare => uptoBulkAll elems + uptoBulkAll spare + 1
  | .agg parts => uptoBulkAll parts + 1
  | .iface _ d => uptoBulk d + 1
  | .map entries => uptoBulkEntries entries + 1
  | .held _ => 1
def uptoBulkAll {H : Type} : List (DataW H) → Nat
  | [] => 0
  | d :: r => uptoBulk d + uptoBulkAll r
def uptoBulkEntries {H : Type} : List (Lit × DataW H) → Nat
  | [] => 0
  | x :: r => uptoBulkEntry x + uptoBulkEntries r
def uptoBulkEntry {H : Type} : Lit × DataW H → Nat
  | (.string bytes, d) => bytes.length + uptoBulk d + 1
  | (_, d) => uptoBulk d + 1
 end
def uptoSmall : (H : Type) → List (DataW H) → Bool := fun _ ds => decide (uptoBulkAll ds ≤ 1048576)
def OpenSpec.upto (s : _root_.Go.ChangeSpec) : _root_.Go.OpenSpec := { _root_.Go.OpenSpec.ofChange s with cond := some uptoSmall }

/-- 'laws.FnExactIsPair', WHERE WHAT IT READS IS OF BULK AT MOST 1048576: true; the input reads as it did. -/
def fnExactIsPairUptoRow : OpenClaim := { program := "ytaifcemdabcfjaa", sum := "00619f03b535dd2e813d07e15fb9bcba5f4a2836915dc391b2980d15a4705d7a", func := "loop.example/g01241/laws.FnExactIsPair", spec := "fnExactIsPair", apart := false, narrowed := true }
def FnExactIsPairUptoSaid : Prop := fnExactIsPairUptoRow.holds Try.pinned (OpenSpec.upto fnExactIsPairSpec)

/-- 'laws.FnExactIsTrain', WHERE WHAT IT READS IS OF BULK AT MOST 1048576: true; the input reads as it did. -/
def fnExactIsTrainUptoRow : OpenClaim := { program := "ytaifcemdabcfjaa", sum := "00619f03b535dd2e813d07e15fb9bcba5f4a2836915dc391b2980d15a4705d7a", func := "loop.example/g01241/laws.FnExactIsTrain", spec := "fnExactIsTrain", apart := false, narrowed := true }
def FnExactIsTrainUptoSaid : Prop := fnExactIsTrainUptoRow.holds Try.pinned (OpenSpec.upto fnExactIsTrainSpec)

/-- 'laws.FnExactRatioOf', WHERE WHAT IT READS IS OF BULK AT MOST 1048576: true; the input reads as it did. -/
def fnExactRatioOfUptoRow : OpenClaim := { program := "ytaifcemdabcfjaa", sum := "00619f03b535dd2e813d07e15fb9bcba5f4a2836915dc391b2980d15a4705d7a", func := "loop.example/g01241/laws.FnExactRatioOf", spec := "fnExactRatioOf", unfollowed := true, recurses := true, apart := false, narrowed := true }
def FnExactRatioOfUptoSaid : Prop := fnExactRatioOfUptoRow.holds Try.pinned (OpenSpec.upto fnExactRatioOfSpec)

/-- 'laws.FnExactTurnsOfLast', WHERE WHAT IT READS IS OF BULK AT MOST 1048576: true; the input reads as it did. -/
def fnExactTurnsOfLastUptoRow : OpenClaim := { program := "ytaifcemdabcfjaa", sum := "00619f03b535dd2e813d07e15fb9bcba5f4a2836915dc391b2980d15a4705d7a", func := "loop.example/g01241/laws.FnExactTurnsOfLast", spec := "fnExactTurnsOfLast", unfollowed := true, recurses := true, apart := false, narrowed := true }
def FnExactTurnsOfLastUptoSaid : Prop := fnExactTurnsOfLastUptoRow.holds Try.pinned (OpenSpec.upto fnExactTurnsOfLastSpec)

/-- 'laws.FnExactDirectionOf', WHERE WHAT IT READS IS OF BULK AT MOST 1048576: true; the input reads as it did. -/
def fnExactDirectionOfUptoRow : OpenClaim := { program := "ytaifcemdabcfjaa", sum := "00619f03b535dd2e813d07e15fb9bcba5f4a2836915dc391b2980d15a4705d7a", func := "loop.example/g01241/laws.FnExactDirectionOf", spec := "fnExactDirectionOf", apart := false, narrowed := true }
def FnExactDirectionOfUptoSaid : Prop := fnExactDirectionOfUptoRow.holds Try.pinned (OpenSpec.upto fnExactDirectionOfSpec)

/-- 'laws.FnExactBackTrain', WHERE WHAT IT READS IS OF BULK AT MOST 1048576: true; the input reads as it did. -/
def fnExactBackTrainUptoRow : OpenClaim := { program := "ytaifcemdabcfjaa", sum := "00619f03b535dd2e813d07e15fb9bcba5f4a2836915dc391b2980d15a4705d7a", func := "loop.example/g01241/laws.FnExactBackTrain", spec := "fnExactBackTrain", unfollowed := true, recurses := true, apart := false, narrowed := true }
def FnExactBackTrainUptoSaid : Prop := fnExactBackTrainUptoRow.holds Try.pinned (OpenSpec.upto fnExactBackTrainSpec)

/-- 'laws.FnExactMeshesUntilSame', WHERE WHAT IT READS IS OF BULK AT MOST 1048576: true; the input reads as it did. -/
def fnExactMeshesUntilSameUptoRow : OpenClaim := { program := "ytaifcemdabcfjaa", sum := "00619f03b535dd2e813d07e15fb9bcba5f4a2836915dc391b2980d15a4705d7a", func := "loop.example/g01241/laws.FnExactMeshesUntilSame", spec := "fnExactMeshesUntilSame", unfollowed := true, recurses := true, apart := false, narrowed := true }
def FnExactMeshesUntilSameUptoSaid : Prop := fnExactMeshesUntilSameUptoRow.holds Try.pinned (OpenSpec.upto fnExactMeshesUntilSameSpec)

/-- 'laws.FnExactTurnsUntilSame', WHERE WHAT IT READS IS OF BULK AT MOST 1048576: true; the input reads as it did. -/
def fnExactTurnsUntilSameUptoRow : OpenClaim := { program := "ytaifcemdabcfjaa", sum := "00619f03b535dd2e813d07e15fb9bcba5f4a2836915dc391b2980d15a4705d7a", func := "loop.example/g01241/laws.FnExactTurnsUntilSame", spec := "fnExactTurnsUntilSame", unfollowed := true, recurses := true, apart := false, narrowed := true }
def FnExactTurnsUntilSameUptoSaid : Prop := fnExactTurnsUntilSameUptoRow.holds Try.pinned (OpenSpec.upto fnExactTurnsUntilSameSpec)

/-- 'laws.FnExactFirstPair', WHERE WHAT IT READS IS OF BULK AT MOST 1048576: true; the input reads as it did. -/
def fnExactFirstPairUptoRow : OpenClaim := { program := "ytaifcemdabcfjaa", sum := "00619f03b535dd2e813d07e15fb9bcba5f4a2836915dc391b2980d15a4705d7a", func := "loop.example/g01241/laws.FnExactFirstPair", spec := "fnExactFirstPair", unfollowed := true, recurses := true, apart := false, narrowed := true }
def FnExactFirstPairUptoSaid : Prop := fnExactFirstPairUptoRow.holds Try.pinned (OpenSpec.upto fnExactFirstPairSpec)

/-- 'laws.FnExactFirstTrain', WHERE WHAT IT READS IS OF BULK AT MOST 1048576: true; the input reads as it did. -/
def fnExactFirstTrainUptoRow : OpenClaim := { program := "ytaifcemdabcfjaa", sum := "00619f03b535dd2e813d07e15fb9bcba5f4a2836915dc391b2980d15a4705d7a", func := "loop.example/g01241/laws.FnExactFirstTrain", spec := "fnExactFirstTrain", unfollowed := true, recurses := true, apart := false, narrowed := true }
def FnExactFirstTrainUptoSaid : Prop := fnExactFirstTrainUptoRow.holds Try.pinned (OpenSpec.upto fnExactFirstTrainSpec)

/-- 'laws.FnExactFewestTeeth', WHERE WHAT IT READS IS OF BULK AT MOST 1048576: true; the input reads as it did. -/
def fnExactFewestTeethUptoRow : OpenClaim := { program := "ytaifcemdabcfjaa", sum := "00619f03b535dd2e813d07e15fb9bcba5f4a2836915dc391b2980d15a4705d7a", func := "loop.example/g01241/laws.FnExactFewestTeeth", spec := "fnExactFewestTeeth", unfollowed := true, recurses := true, apart := false, narrowed := true }
def FnExactFewestTeethUptoSaid : Prop := fnExactFewestTeethUptoRow.holds Try.pinned (OpenSpec.upto fnExactFewestTeethSpec)

/-- 'laws.FnExactNearestPair', WHERE WHAT IT READS IS OF BULK AT MOST 1048576: true; the input reads as it did. -/
def fnExactNearestPairUptoRow : OpenClaim := { program := "ytaifcemdabcfjaa", sum := "00619f03b535dd2e813d07e15fb9bcba5f4a2836915dc391b2980d15a4705d7a", func := "loop.example/g01241/laws.FnExactNearestPair", spec := "fnExactNearestPair", unfollowed := true, recurses := true, apart := false, narrowed := true }
def FnExactNearestPairUptoSaid : Prop := fnExactNearestPairUptoRow.holds Try.pinned (OpenSpec.upto fnExactNearestPairSpec)

/-- 'laws.FnExactMotionWorks', WHERE WHAT IT READS IS OF BULK AT MOST 1048576: true; the input reads as it did. -/
def fnExactMotionWorksUptoRow : OpenClaim := { program := "ytaifcemdabcfjaa", sum := "00619f03b535dd2e813d07e15fb9bcba5f4a2836915dc391b2980d15a4705d7a", func := "loop.example/g01241/laws.FnExactMotionWorks", spec := "fnExactMotionWorks", unfollowed := true, recurses := true, apart := false, narrowed := true }
def FnExactMotionWorksUptoSaid : Prop := fnExactMotionWorksUptoRow.holds Try.pinned (OpenSpec.upto fnExactMotionWorksSpec)

/-- 'laws.FnExactFirstMotionWork', WHERE WHAT IT READS IS OF BULK AT MOST 1048576: true; the input reads as it did. -/
def fnExactFirstMotionWorkUptoRow : OpenClaim := { program := "ytaifcemdabcfjaa", sum := "00619f03b535dd2e813d07e15fb9bcba5f4a2836915dc391b2980d15a4705d7a", func := "loop.example/g01241/laws.FnExactFirstMotionWork", spec := "fnExactFirstMotionWork", unfollowed := true, recurses := true, apart := false, narrowed := true }
def FnExactFirstMotionWorkUptoSaid : Prop := fnExactFirstMotionWorkUptoRow.holds Try.pinned (OpenSpec.upto fnExactFirstMotionWorkSpec)

/-- 'laws.FnExactTeethOf', WHERE WHAT IT READS IS OF BULK AT MOST 1048576: true; the input reads as it did. -/
def fnExactTeethOfUptoRow : OpenClaim := { program := "ytaifcemdabcfjaa", sum := "00619f03b535dd2e813d07e15fb9bcba5f4a2836915dc391b2980d15a4705d7a", func := "loop.example/g01241/laws.FnExactTeethOf", spec := "fnExactTeethOf", apart := false, narrowed := true }
def FnExactTeethOfUptoSaid : Prop := fnExactTeethOfUptoRow.holds Try.pinned (OpenSpec.upto fnExactTeethOfSpec)

/-- 'laws.FnExactCompareRatios', WHERE WHAT IT READS IS OF BULK AT MOST 1048576: true; the input reads as it did. -/
def fnExactCompareRatiosUptoRow : OpenClaim := { program := "ytaifcemdabcfjaa", sum := "00619f03b535dd2e813d07e15fb9bcba5f4a2836915dc391b2980d15a4705d7a", func := "loop.example/g01241/laws.FnExactCompareRatios", spec := "fnExactCompareRatios", unfollowed := true, recurses := true, apart := false, narrowed := true }
def FnExactCompareRatiosUptoSaid : Prop := fnExactCompareRatiosUptoRow.holds Try.pinned (OpenSpec.upto fnExactCompareRatiosSpec)

end Rows
end Go.Proofs.Ytaifcemdabcfjaa
