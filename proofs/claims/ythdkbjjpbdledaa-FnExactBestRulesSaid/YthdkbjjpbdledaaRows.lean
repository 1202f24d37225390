/-
  No cell of these rows narrows 'for every input' (looked for: loops, veiled, ifaces, maps, wideKeys, modest, calm, conditions, laid).
  DERIVED. THE GIVEN ROWS OF THIS SEAT. 17 by the template 'for every input the law returns true; each argument reads behind the call as it read before'; 0 by the template 'total and deterministic' (their statements: YthdkbjjpbdledaaTotals.lean).
  GIVEN WITH THE SEED: the statements are not yours to turn. If you find one false, say at which input.
  Laid BY PROGRAM, IN A SANDBOX (cutbox-rows.mjs): the forced cells as the released guide's own fill.sh prints them over the translation f6cb82f9e48f9be7… (all of the seat's roots in one cut). By AI agents, Wed Nov 11 2026. No macro, syntax, notation, axiom, sorry.
-/
import Derived.Test.YthdkbjjpbdledaaChecked
import GoSem.Claim
import GoSem.ClaimJoined
import GoSem.ClaimMapViews
import Derived.JoinedTies
import Derived.KernelRfl
namespace Go.Proofs.Ythdkbjjpbdledaa
/- THE CELL 'sum', in the pinned program and in every row, IS THE sha256 OF THE DUMP (.gsa) THAT YthdkbjjpbdledaaProg.lean LOADS. Nothing in Lean hashes anything: it is a label: what it is worth is what the hold of that sum in a sandbox is worth. -/
noncomputable def Try.pinned : Pinned := { name := "ythdkbjjpbdledaa", sum := "f6cb82f9e48f9be7521d64b2324b3afaaf2ff6e0708b0107f365f9114f9b2b98", checked := Try.checked }
namespace Rows
def none {H : Type} : Left H := { results := [], args := [] }

/-- 'laws.FnExactSameLook': WHATEVER THE INPUT: true; the input reads as it did. -/
def fnExactSameLookSpec : ChangeSpec := { name := "fnExactSameLook", fn := fun _ => fun
  | [d1, d2] => { results := [.lit (.bool true)], args := [d1, d2] }
  | _ => none }
def fnExactSameLookRow : OpenClaim := { program := "ythdkbjjpbdledaa", sum := "f6cb82f9e48f9be7521d64b2324b3afaaf2ff6e0708b0107f365f9114f9b2b98", func := "loop.example/g01241/laws.FnExactSameLook", spec := "fnExactSameLook", apart := false }
def FnExactSameLookSaid : Prop := fnExactSameLookRow.holds Try.pinned (OpenSpec.ofChange fnExactSameLookSpec)

/-- ITS FALSE NEIGHBOUR: 'it returns false'. Refute it at one input. -/
def fnExactSameLookWrong : ChangeSpec := { name := "fnExactSameLook", fn := fun _ => fun
  | [d1, d2] => { results := [.lit (.bool false)], args := [d1, d2] }
  | _ => none }
def FnExactSameLookWrongFalsely : Prop := fnExactSameLookRow.holds Try.pinned (OpenSpec.ofChange fnExactSameLookWrong)

/-- 'laws.FnExactIsLeapRule': WHATEVER THE INPUT: true; the input reads as it did. -/
def fnExactIsLeapRuleSpec : ChangeSpec := { name := "fnExactIsLeapRule", fn := fun _ => fun
  | [d] => { results := [.lit (.bool true)], args := [d] }
  | _ => none }
def fnExactIsLeapRuleRow : OpenClaim := { program := "ythdkbjjpbdledaa", sum := "f6cb82f9e48f9be7521d64b2324b3afaaf2ff6e0708b0107f365f9114f9b2b98", func := "loop.example/g01241/laws.FnExactIsLeapRule", spec := "fnExactIsLeapRule", apart := false }
def FnExactIsLeapRuleSaid : Prop := fnExactIsLeapRuleRow.holds Try.pinned (OpenSpec.ofChange fnExactIsLeapRuleSpec)

/-- ITS FALSE NEIGHBOUR: 'it returns false'. Refute it at one input. -/
def fnExactIsLeapRuleWrong : ChangeSpec := { name := "fnExactIsLeapRule", fn := fun _ => fun
  | [d] => { results := [.lit (.bool false)], args := [d] }
  | _ => none }
def FnExactIsLeapRuleWrongFalsely : Prop := fnExactIsLeapRuleRow.holds Try.pinned (OpenSpec.ofChange fnExactIsLeapRuleWrong)

/-- 'laws.FnExactIsLeapYear': WHATEVER THE INPUT: true; the input reads as it did. -/
def fnExactIsLeapYearSpec : ChangeSpec := { name := "fnExactIsLeapYear", fn := fun _ => fun
  | [d1, d2] => { results := [.lit (.bool true)], args := [d1, d2] }
  | _ => none }
def fnExactIsLeapYearRow : OpenClaim := { program := "ythdkbjjpbdledaa", sum := "f6cb82f9e48f9be7521d64b2324b3afaaf2ff6e0708b0107f365f9114f9b2b98", func := "loop.example/g01241/laws.FnExactIsLeapYear", spec := "fnExactIsLeapYear", apart := false }
def FnExactIsLeapYearSaid : Prop := fnExactIsLeapYearRow.holds Try.pinned (OpenSpec.ofChange fnExactIsLeapYearSpec)

/-- ITS FALSE NEIGHBOUR: 'it returns false'. Refute it at one input. -/
def fnExactIsLeapYearWrong : ChangeSpec := { name := "fnExactIsLeapYear", fn := fun _ => fun
  | [d1, d2] => { results := [.lit (.bool false)], args := [d1, d2] }
  | _ => none }
def FnExactIsLeapYearWrongFalsely : Prop := fnExactIsLeapYearRow.holds Try.pinned (OpenSpec.ofChange fnExactIsLeapYearWrong)

/-- 'laws.FnExactCountLeaps': WHATEVER THE INPUT: true; the input reads as it did. -/
def fnExactCountLeapsSpec : ChangeSpec := { name := "fnExactCountLeaps", fn := fun _ => fun
  | [d1, d2, d3] => { results := [.lit (.bool true)], args := [d1, d2, d3] }
  | _ => none }
def fnExactCountLeapsRow : OpenClaim := { program := "ythdkbjjpbdledaa", sum := "f6cb82f9e48f9be7521d64b2324b3afaaf2ff6e0708b0107f365f9114f9b2b98", func := "loop.example/g01241/laws.FnExactCountLeaps", spec := "fnExactCountLeaps", apart := false }
def FnExactCountLeapsSaid : Prop := fnExactCountLeapsRow.holds Try.pinned (OpenSpec.ofChange fnExactCountLeapsSpec)

/-- ITS FALSE NEIGHBOUR: 'it returns false'. Refute it at one input. -/
def fnExactCountLeapsWrong : ChangeSpec := { name := "fnExactCountLeaps", fn := fun _ => fun
  | [d1, d2, d3] => { results := [.lit (.bool false)], args := [d1, d2, d3] }
  | _ => none }
def FnExactCountLeapsWrongFalsely : Prop := fnExactCountLeapsRow.holds Try.pinned (OpenSpec.ofChange fnExactCountLeapsWrong)

/-- 'laws.FnExactLeapsOfCycle': WHATEVER THE INPUT: true; the input reads as it did. -/
def fnExactLeapsOfCycleSpec : ChangeSpec := { name := "fnExactLeapsOfCycle", fn := fun _ => fun
  | [d] => { results := [.lit (.bool true)], args := [d] }
  | _ => none }
def fnExactLeapsOfCycleRow : OpenClaim := { program := "ythdkbjjpbdledaa", sum := "f6cb82f9e48f9be7521d64b2324b3afaaf2ff6e0708b0107f365f9114f9b2b98", func := "loop.example/g01241/laws.FnExactLeapsOfCycle", spec := "fnExactLeapsOfCycle", apart := false }
def FnExactLeapsOfCycleSaid : Prop := fnExactLeapsOfCycleRow.holds Try.pinned (OpenSpec.ofChange fnExactLeapsOfCycleSpec)

/-- ITS FALSE NEIGHBOUR: 'it returns false'. Refute it at one input. -/
def fnExactLeapsOfCycleWrong : ChangeSpec := { name := "fnExactLeapsOfCycle", fn := fun _ => fun
  | [d] => { results := [.lit (.bool false)], args := [d] }
  | _ => none }
def FnExactLeapsOfCycleWrongFalsely : Prop := fnExactLeapsOfCycleRow.holds Try.pinned (OpenSpec.ofChange fnExactLeapsOfCycleWrong)

/-- 'laws.FnExactDaysUpTo': WHATEVER THE INPUT: true; the input reads as it did. -/
def fnExactDaysUpToSpec : ChangeSpec := { name := "fnExactDaysUpTo", fn := fun _ => fun
  | [d1, d2] => { results := [.lit (.bool true)], args := [d1, d2] }
  | _ => none }
def fnExactDaysUpToRow : OpenClaim := { program := "ythdkbjjpbdledaa", sum := "f6cb82f9e48f9be7521d64b2324b3afaaf2ff6e0708b0107f365f9114f9b2b98", func := "loop.example/g01241/laws.FnExactDaysUpTo", spec := "fnExactDaysUpTo", apart := false }
def FnExactDaysUpToSaid : Prop := fnExactDaysUpToRow.holds Try.pinned (OpenSpec.ofChange fnExactDaysUpToSpec)

/-- ITS FALSE NEIGHBOUR: 'it returns false'. Refute it at one input. -/
def fnExactDaysUpToWrong : ChangeSpec := { name := "fnExactDaysUpTo", fn := fun _ => fun
  | [d1, d2] => { results := [.lit (.bool false)], args := [d1, d2] }
  | _ => none }
def FnExactDaysUpToWrongFalsely : Prop := fnExactDaysUpToRow.holds Try.pinned (OpenSpec.ofChange fnExactDaysUpToWrong)

/-- 'laws.FnExactYearOfDay': WHATEVER THE INPUT: true; the input reads as it did. -/
def fnExactYearOfDaySpec : ChangeSpec := { name := "fnExactYearOfDay", fn := fun _ => fun
  | [d1, d2] => { results := [.lit (.bool true)], args := [d1, d2] }
  | _ => none }
def fnExactYearOfDayRow : OpenClaim := { program := "ythdkbjjpbdledaa", sum := "f6cb82f9e48f9be7521d64b2324b3afaaf2ff6e0708b0107f365f9114f9b2b98", func := "loop.example/g01241/laws.FnExactYearOfDay", spec := "fnExactYearOfDay", unfollowed := true, recurses := true, leaving := true, apart := false }
def FnExactYearOfDaySaid : Prop := fnExactYearOfDayRow.holds Try.pinned (OpenSpec.ofChange fnExactYearOfDaySpec)

/-- ITS FALSE NEIGHBOUR: 'it returns false'. Refute it at one input. -/
def fnExactYearOfDayWrong : ChangeSpec := { name := "fnExactYearOfDay", fn := fun _ => fun
  | [d1, d2] => { results := [.lit (.bool false)], args := [d1, d2] }
  | _ => none }
def FnExactYearOfDayWrongFalsely : Prop := fnExactYearOfDayRow.holds Try.pinned (OpenSpec.ofChange fnExactYearOfDayWrong)

/-- 'laws.FnExactWeekdayOf': WHATEVER THE INPUT: true; the input reads as it did. -/
def fnExactWeekdayOfSpec : ChangeSpec := { name := "fnExactWeekdayOf", fn := fun _ => fun
  | [d1, d2] => { results := [.lit (.bool true)], args := [d1, d2] }
  | _ => none }
def fnExactWeekdayOfRow : OpenClaim := { program := "ythdkbjjpbdledaa", sum := "f6cb82f9e48f9be7521d64b2324b3afaaf2ff6e0708b0107f365f9114f9b2b98", func := "loop.example/g01241/laws.FnExactWeekdayOf", spec := "fnExactWeekdayOf", apart := false }
def FnExactWeekdayOfSaid : Prop := fnExactWeekdayOfRow.holds Try.pinned (OpenSpec.ofChange fnExactWeekdayOfSpec)

/-- ITS FALSE NEIGHBOUR: 'it returns false'. Refute it at one input. -/
def fnExactWeekdayOfWrong : ChangeSpec := { name := "fnExactWeekdayOf", fn := fun _ => fun
  | [d1, d2] => { results := [.lit (.bool false)], args := [d1, d2] }
  | _ => none }
def FnExactWeekdayOfWrongFalsely : Prop := fnExactWeekdayOfRow.holds Try.pinned (OpenSpec.ofChange fnExactWeekdayOfWrong)

/-- 'laws.FnExactWeekCycle': WHATEVER THE INPUT: true; the input reads as it did. -/
def fnExactWeekCycleSpec : ChangeSpec := { name := "fnExactWeekCycle", fn := fun _ => fun
  | [d] => { results := [.lit (.bool true)], args := [d] }
  | _ => none }
def fnExactWeekCycleRow : OpenClaim := { program := "ythdkbjjpbdledaa", sum := "f6cb82f9e48f9be7521d64b2324b3afaaf2ff6e0708b0107f365f9114f9b2b98", func := "loop.example/g01241/laws.FnExactWeekCycle", spec := "fnExactWeekCycle", unfollowed := true, recurses := true, leaving := true, apart := false }
def FnExactWeekCycleSaid : Prop := fnExactWeekCycleRow.holds Try.pinned (OpenSpec.ofChange fnExactWeekCycleSpec)

/-- ITS FALSE NEIGHBOUR: 'it returns false'. Refute it at one input. -/
def fnExactWeekCycleWrong : ChangeSpec := { name := "fnExactWeekCycle", fn := fun _ => fun
  | [d] => { results := [.lit (.bool false)], args := [d] }
  | _ => none }
def FnExactWeekCycleWrongFalsely : Prop := fnExactWeekCycleRow.holds Try.pinned (OpenSpec.ofChange fnExactWeekCycleWrong)

/-- 'laws.FnExactOffBy': WHATEVER THE INPUT: true; the input reads as it did. -/
def fnExactOffBySpec : ChangeSpec := { name := "fnExactOffBy", fn := fun _ => fun
  | [d1, d2, d3] => { results := [.lit (.bool true)], args := [d1, d2, d3] }
  | _ => none }
def fnExactOffByRow : OpenClaim := { program := "ythdkbjjpbdledaa", sum := "f6cb82f9e48f9be7521d64b2324b3afaaf2ff6e0708b0107f365f9114f9b2b98", func := "loop.example/g01241/laws.FnExactOffBy", spec := "fnExactOffBy", apart := false }
def FnExactOffBySaid : Prop := fnExactOffByRow.holds Try.pinned (OpenSpec.ofChange fnExactOffBySpec)

/-- ITS FALSE NEIGHBOUR: 'it returns false'. Refute it at one input. -/
def fnExactOffByWrong : ChangeSpec := { name := "fnExactOffBy", fn := fun _ => fun
  | [d1, d2, d3] => { results := [.lit (.bool false)], args := [d1, d2, d3] }
  | _ => none }
def FnExactOffByWrongFalsely : Prop := fnExactOffByRow.holds Try.pinned (OpenSpec.ofChange fnExactOffByWrong)

/-- 'laws.FnExactYearsForDay': WHATEVER THE INPUT: true; the input reads as it did. -/
def fnExactYearsForDaySpec : ChangeSpec := { name := "fnExactYearsForDay", fn := fun _ => fun
  | [d1, d2, d3] => { results := [.lit (.bool true)], args := [d1, d2, d3] }
  | _ => none }
def fnExactYearsForDayRow : OpenClaim := { program := "ythdkbjjpbdledaa", sum := "f6cb82f9e48f9be7521d64b2324b3afaaf2ff6e0708b0107f365f9114f9b2b98", func := "loop.example/g01241/laws.FnExactYearsForDay", spec := "fnExactYearsForDay", apart := false }
def FnExactYearsForDaySaid : Prop := fnExactYearsForDayRow.holds Try.pinned (OpenSpec.ofChange fnExactYearsForDaySpec)

/-- ITS FALSE NEIGHBOUR: 'it returns false'. Refute it at one input. -/
def fnExactYearsForDayWrong : ChangeSpec := { name := "fnExactYearsForDay", fn := fun _ => fun
  | [d1, d2, d3] => { results := [.lit (.bool false)], args := [d1, d2, d3] }
  | _ => none }
def FnExactYearsForDayWrongFalsely : Prop := fnExactYearsForDayRow.holds Try.pinned (OpenSpec.ofChange fnExactYearsForDayWrong)

/-- 'laws.FnExactBestRules': WHATEVER THE INPUT: true; the input reads as it did. -/
def fnExactBestRulesSpec : ChangeSpec := { name := "fnExactBestRules", fn := fun _ => fun
  | [d1, d2, d3] => { results := [.lit (.bool true)], args := [d1, d2, d3] }
  | _ => none }
def fnExactBestRulesRow : OpenClaim := { program := "ythdkbjjpbdledaa", sum := "f6cb82f9e48f9be7521d64b2324b3afaaf2ff6e0708b0107f365f9114f9b2b98", func := "loop.example/g01241/laws.FnExactBestRules", spec := "fnExactBestRules", apart := false }
def FnExactBestRulesSaid : Prop := fnExactBestRulesRow.holds Try.pinned (OpenSpec.ofChange fnExactBestRulesSpec)

/-- ITS FALSE NEIGHBOUR: 'it returns false'. Refute it at one input. -/
def fnExactBestRulesWrong : ChangeSpec := { name := "fnExactBestRules", fn := fun _ => fun
  | [d1, d2, d3] => { results := [.lit (.bool false)], args := [d1, d2, d3] }
  | _ => none }
def FnExactBestRulesWrongFalsely : Prop := fnExactBestRulesRow.holds Try.pinned (OpenSpec.ofChange fnExactBestRulesWrong)

/-- 'laws.FnExactMonthsOf': WHATEVER THE INPUT: true; the input reads as it did. -/
def fnExactMonthsOfSpec : ChangeSpec := { name := "fnExactMonthsOf", fn := fun _ => fun
  | [d1, d2, d3] => { results := [.lit (.bool true)], args := [d1, d2, d3] }
  | _ => none }
def fnExactMonthsOfRow : OpenClaim := { program := "ythdkbjjpbdledaa", sum := "f6cb82f9e48f9be7521d64b2324b3afaaf2ff6e0708b0107f365f9114f9b2b98", func := "loop.example/g01241/laws.FnExactMonthsOf", spec := "fnExactMonthsOf", apart := false }
def FnExactMonthsOfSaid : Prop := fnExactMonthsOfRow.holds Try.pinned (OpenSpec.ofChange fnExactMonthsOfSpec)

/-- ITS FALSE NEIGHBOUR: 'it returns false'. Refute it at one input. -/
def fnExactMonthsOfWrong : ChangeSpec := { name := "fnExactMonthsOf", fn := fun _ => fun
  | [d1, d2, d3] => { results := [.lit (.bool false)], args := [d1, d2, d3] }
  | _ => none }
def FnExactMonthsOfWrongFalsely : Prop := fnExactMonthsOfRow.holds Try.pinned (OpenSpec.ofChange fnExactMonthsOfWrong)

/-- 'laws.FnExactSpreadLeaps': WHATEVER THE INPUT: true; the input reads as it did. -/
def fnExactSpreadLeapsSpec : ChangeSpec := { name := "fnExactSpreadLeaps", fn := fun _ => fun
  | [d1, d2] => { results := [.lit (.bool true)], args := [d1, d2] }
  | _ => none }
def fnExactSpreadLeapsRow : OpenClaim := { program := "ythdkbjjpbdledaa", sum := "f6cb82f9e48f9be7521d64b2324b3afaaf2ff6e0708b0107f365f9114f9b2b98", func := "loop.example/g01241/laws.FnExactSpreadLeaps", spec := "fnExactSpreadLeaps", apart := false }
def FnExactSpreadLeapsSaid : Prop := fnExactSpreadLeapsRow.holds Try.pinned (OpenSpec.ofChange fnExactSpreadLeapsSpec)

/-- ITS FALSE NEIGHBOUR: 'it returns false'. Refute it at one input. -/
def fnExactSpreadLeapsWrong : ChangeSpec := { name := "fnExactSpreadLeaps", fn := fun _ => fun
  | [d1, d2] => { results := [.lit (.bool false)], args := [d1, d2] }
  | _ => none }
def FnExactSpreadLeapsWrongFalsely : Prop := fnExactSpreadLeapsRow.holds Try.pinned (OpenSpec.ofChange fnExactSpreadLeapsWrong)

/-- 'laws.FnExactNextLeap': WHATEVER THE INPUT: true; the input reads as it did. -/
def fnExactNextLeapSpec : ChangeSpec := { name := "fnExactNextLeap", fn := fun _ => fun
  | [d1, d2] => { results := [.lit (.bool true)], args := [d1, d2] }
  | _ => none }
def fnExactNextLeapRow : OpenClaim := { program := "ythdkbjjpbdledaa", sum := "f6cb82f9e48f9be7521d64b2324b3afaaf2ff6e0708b0107f365f9114f9b2b98", func := "loop.example/g01241/laws.FnExactNextLeap", spec := "fnExactNextLeap", apart := false }
def FnExactNextLeapSaid : Prop := fnExactNextLeapRow.holds Try.pinned (OpenSpec.ofChange fnExactNextLeapSpec)

/-- ITS FALSE NEIGHBOUR: 'it returns false'. Refute it at one input. -/
def fnExactNextLeapWrong : ChangeSpec := { name := "fnExactNextLeap", fn := fun _ => fun
  | [d1, d2] => { results := [.lit (.bool false)], args := [d1, d2] }
  | _ => none }
def FnExactNextLeapWrongFalsely : Prop := fnExactNextLeapRow.holds Try.pinned (OpenSpec.ofChange fnExactNextLeapWrong)

/-- 'laws.FnLeapsCounted': WHATEVER THE INPUT: true; the input reads as it did. -/
def fnLeapsCountedSpec : ChangeSpec := { name := "fnLeapsCounted", fn := fun _ => fun
  | [d1, d2] => { results := [.lit (.bool true)], args := [d1, d2] }
  | _ => none }
def fnLeapsCountedRow : OpenClaim := { program := "ythdkbjjpbdledaa", sum := "f6cb82f9e48f9be7521d64b2324b3afaaf2ff6e0708b0107f365f9114f9b2b98", func := "loop.example/g01241/laws.FnLeapsCounted", spec := "fnLeapsCounted", unfollowed := true, recurses := true, leaving := true, apart := false }
def FnLeapsCountedSaid : Prop := fnLeapsCountedRow.holds Try.pinned (OpenSpec.ofChange fnLeapsCountedSpec)

/-- ITS FALSE NEIGHBOUR: 'it returns false'. Refute it at one input. -/
def fnLeapsCountedWrong : ChangeSpec := { name := "fnLeapsCounted", fn := fun _ => fun
  | [d1, d2] => { results := [.lit (.bool false)], args := [d1, d2] }
  | _ => none }
def FnLeapsCountedWrongFalsely : Prop := fnLeapsCountedRow.holds Try.pinned (OpenSpec.ofChange fnLeapsCountedWrong)

/-- 'laws.FnLeapsCountedOfAll': WHATEVER THE INPUT: true; the input reads as it did. -/
def fnLeapsCountedOfAllSpec : ChangeSpec := { name := "fnLeapsCountedOfAll", fn := fun _ => fun
  | [d1, d2, d3, d4, d5, d6, d7, d8] => { results := [.lit (.bool true)], args := [d1, d2, d3, d4, d5, d6, d7, d8] }
  | _ => none }
def fnLeapsCountedOfAllRow : OpenClaim := { program := "ythdkbjjpbdledaa", sum := "f6cb82f9e48f9be7521d64b2324b3afaaf2ff6e0708b0107f365f9114f9b2b98", func := "loop.example/g01241/laws.FnLeapsCountedOfAll", spec := "fnLeapsCountedOfAll", unfollowed := true, recurses := true, leaving := true, apart := false }
def FnLeapsCountedOfAllSaid : Prop := fnLeapsCountedOfAllRow.holds Try.pinned (OpenSpec.ofChange fnLeapsCountedOfAllSpec)

/-- ITS FALSE NEIGHBOUR: 'it returns false'. Refute it at one input. -/
def fnLeapsCountedOfAllWrong : ChangeSpec := { name := "fnLeapsCountedOfAll", fn := fun _ => fun
  | [d1, d2, d3, d4, d5, d6, d7, d8] => { results := [.lit (.bool false)], args := [d1, d2, d3, d4, d5, d6, d7, d8] }
  | _ => none }
def FnLeapsCountedOfAllWrongFalsely : Prop := fnLeapsCountedOfAllRow.holds Try.pinned (OpenSpec.ofChange fnLeapsCountedOfAllWrong)

/- THE SECOND FORM. 'bulk': how many values and letters a reading holds, each counted each time it is reached (what is shared counts as often as it is met; a slice's spare places count too). A statement '..UptoSaid' is the law's where the arguments, and the package variables that the reading takes, are together of bulk at most 1048576: NARROWER than '..Said'. Prove '..Said' where nothing that the law and all that it calls make is longer than what came in: it says more and counts as full. Else prove '..UptoSaid'. A law counts once. -/
mutual
def uptoBulk {H : Type} : DataW H → Nat
  | .lit (.string bytes) => bytes.length + 1
  | .lit _ => 1
  | .nil => 1
  | .ptr d => uptoBulk d + 1
  | .slice elems spare => uptoBulkAll elems + uptoBulkAll spare + 1
  | .agg parts => uptoBulkAll parts + 1
  | .iface _ d => uptoBulk d + 1
  | .map entries => uptoBulkEntries entries + 1
  | .held _ => 1
def uptoBulkAll {H : Type} : List (DataW H) → Nat
  | [] => 0
  | d :: r => uptoBulk d + uptoBulkAll r
def uptoBulkEntries {H : Type} : List (Lit × DataW H) → Nat
  | [] => 0
  | x :: r => uptoBulkEntry x + uptoBulkEntries r
def uptoBulkEntry {H : Type} : Lit × DataW H → Nat
  | (.string bytes, d) => bytes.length + uptoBulk d + 1
  | (_, d) => uptoBulk d + 1
 end
def uptoSmall : (H : Type) → List (DataW H) → Bool := fun _ ds => decide (uptoBulkAll ds ≤ 1048576)
def OpenSpec.upto (s : _root_.Go.ChangeSpec) : _root_.Go.OpenSpec := { _root_.Go.OpenSpec.ofChange s with cond := some uptoSmall }

/-- 'laws.FnExactSameLook', WHERE WHAT IT READS IS OF BULK AT MOST 1048576: true; the input reads as it did. -/
def fnExactSameLookUptoRow : OpenClaim := { program := "ythdkbjjpbdledaa", sum := "f6cb82f9e48f9be7521d64b2324b3afaaf2ff6e0708b0107f365f9114f9b2b98", func := "loop.example/g01241/laws.FnExactSameLook", spec := "fnExactSameLook", apart := false, narrowed := true }
def FnExactSameLookUptoSaid : Prop := fnExactSameLookUptoRow.holds Try.pinned (OpenSpec.upto fnExactSameLookSpec)

/-- 'laws.FnExactIsLeapRule', WHERE WHAT IT READS IS OF BULK AT MOST 1048576: true; the input reads as it did. -/
def fnExactIsLeapRuleUptoRow : OpenClaim := { program := "ythdkbjjpbdledaa", sum := "f6cb82f9e48f9be7521d64b2324b3afaaf2ff6e0708b0107f365f9114f9b2b98", func := "loop.example/g01241/laws.FnExactIsLeapRule", spec := "fnExactIsLeapRule", apart := false, narrowed := true }
def FnExactIsLeapRuleUptoSaid : Prop := fnExactIsLeapRuleUptoRow.holds Try.pinned (OpenSpec.upto fnExactIsLeapRuleSpec)

/-- 'laws.FnExactIsLeapYear', WHERE WHAT IT READS IS OF BULK AT MOST 1048576: true; the input reads as it did. -/
def fnExactIsLeapYearUptoRow : OpenClaim := { program := "ythdkbjjpbdledaa", sum := "f6cb82f9e48f9be7521d64b2324b3afaaf2ff6e0708b0107f365f9114f9b2b98", func := "loop.example/g01241/laws.FnExactIsLeapYear", spec := "fnExactIsLeapYear", apart := false, narrowed := true }
def FnExactIsLeapYearUptoSaid : Prop := fnExactIsLeapYearUptoRow.holds Try.pinned (OpenSpec.upto fnExactIsLeapYearSpec)

/-- 'laws.FnExactCountLeaps', WHERE WHAT IT READS IS OF BULK AT MOST 1048576: true; the input reads as it did. -/
def fnExactCountLeapsUptoRow : OpenClaim := { program := "ythdkbjjpbdledaa", sum := "f6cb82f9e48f9be7521d64b2324b3afaaf2ff6e0708b0107f365f9114f9b2b98", func := "loop.example/g01241/laws.FnExactCountLeaps", spec := "fnExactCountLeaps", apart := false, narrowed := true }
def FnExactCountLeapsUptoSaid : Prop := fnExactCountLeapsUptoRow.holds Try.pinned (OpenSpec.upto fnExactCountLeapsSpec)

/-- 'laws.FnExactLeapsOfCycle', WHERE WHAT IT READS IS OF BULK AT MOST 1048576: true; the input reads as it did. -/
def fnExactLeapsOfCycleUptoRow : OpenClaim := { program := "ythdkbjjpbdledaa", sum := "f6cb82f9e48f9be7521d64b2324b3afaaf2ff6e0708b0107f365f9114f9b2b98", func := "loop.example/g01241/laws.FnExactLeapsOfCycle", spec := "fnExactLeapsOfCycle", apart := false, narrowed := true }
def FnExactLeapsOfCycleUptoSaid : Prop := fnExactLeapsOfCycleUptoRow.holds Try.pinned (OpenSpec.upto fnExactLeapsOfCycleSpec)

/-- 'laws.FnExactDaysUpTo', WHERE WHAT IT READS IS OF BULK AT MOST 1048576: true; the input reads as it did. -/
def fnExactDaysUpToUptoRow : OpenClaim := { program := "ythdkbjjpbdledaa", sum := "f6cb82f9e48f9be7521d64b2324b3afaaf2ff6e0708b0107f365f9114f9b2b98", func := "loop.example/g01241/laws.FnExactDaysUpTo", spec := "fnExactDaysUpTo", apart := false, narrowed := true }
def FnExactDaysUpToUptoSaid : Prop := fnExactDaysUpToUptoRow.holds Try.pinned (OpenSpec.upto fnExactDaysUpToSpec)

/-- 'laws.FnExactYearOfDay', WHERE WHAT IT READS IS OF BULK AT MOST 1048576: true; the input reads as it did. -/
def fnExactYearOfDayUptoRow : OpenClaim := { program := "ythdkbjjpbdledaa", sum := "f6cb82f9e48f9be7521d64b2324b3afaaf2ff6e0708b0107f365f9114f9b2b98", func := "loop.example/g01241/laws.FnExactYearOfDay", spec := "fnExactYearOfDay", unfollowed := true, recurses := true, leaving := true, apart := false, narrowed := true }
def FnExactYearOfDayUptoSaid : Prop := fnExactYearOfDayUptoRow.holds Try.pinned (OpenSpec.upto fnExactYearOfDaySpec)

/-- 'laws.FnExactWeekdayOf', WHERE WHAT IT READS IS OF BULK AT MOST 1048576: true; the input reads as it did. -/
def fnExactWeekdayOfUptoRow : OpenClaim := { program := "ythdkbjjpbdledaa", sum := "f6cb82f9e48f9be7521d64b2324b3afaaf2ff6e0708b0107f365f9114f9b2b98", func := "loop.example/g01241/laws.FnExactWeekdayOf", spec := "fnExactWeekdayOf", apart := false, narrowed := true }
def FnExactWeekdayOfUptoSaid : Prop := fnExactWeekdayOfUptoRow.holds Try.pinned (OpenSpec.upto fnExactWeekdayOfSpec)

/-- 'laws.FnExactWeekCycle', WHERE WHAT IT READS IS OF BULK AT MOST 1048576: true; the input reads as it did. -/
def fnExactWeekCycleUptoRow : OpenClaim := { program := "ythdkbjjpbdledaa", sum := "f6cb82f9e48f9be7521d64b2324b3afaaf2ff6e0708b0107f365f9114f9b2b98", func := "loop.example/g01241/laws.FnExactWeekCycle", spec := "fnExactWeekCycle", unfollowed := true, recurses := true, leaving := true, apart := false, narrowed := true }
def FnExactWeekCycleUptoSaid : Prop := fnExactWeekCycleUptoRow.holds Try.pinned (OpenSpec.upto fnExactWeekCycleSpec)

/-- 'laws.FnExactOffBy', WHERE WHAT IT READS IS OF BULK AT MOST 1048576: true; the input reads as it did. -/
def fnExactOffByUptoRow : OpenClaim := { program := "ythdkbjjpbdledaa", sum := "f6cb82f9e48f9be7521d64b2324b3afaaf2ff6e0708b0107f365f9114f9b2b98", func := "loop.example/g01241/laws.FnExactOffBy", spec := "fnExactOffBy", apart := false, narrowed := true }
def FnExactOffByUptoSaid : Prop := fnExactOffByUptoRow.holds Try.pinned (OpenSpec.upto fnExactOffBySpec)

/-- 'laws.FnExactYearsForDay', WHERE WHAT IT READS IS OF BULK AT MOST 1048576: true; the input reads as it did. -/
def fnExactYearsForDayUptoRow : OpenClaim := { program := "ythdkbjjpbdledaa", sum := "f6cb82f9e48f9be7521d64b2324b3afaaf2ff6e0708b0107f365f9114f9b2b98", func := "loop.example/g01241/laws.FnExactYearsForDay", spec := "fnExactYearsForDay", apart := false, narrowed := true }
def FnExactYearsForDayUptoSaid : Prop := fnExactYearsForDayUptoRow.holds Try.pinned (OpenSpec.upto fnExactYearsForDaySpec)

/-- 'laws.FnExactBestRules', WHERE WHAT IT READS IS OF BULK AT MOST 1048576: true; the input reads as it did. -/
def fnExactBestRulesUptoRow : OpenClaim := { program := "ythdkbjjpbdledaa", sum := "f6cb82f9e48f9be7521d64b2324b3afaaf2ff6e0708b0107f365f9114f9b2b98", func := "loop.example/g01241/laws.FnExactBestRules", spec := "fnExactBestRules", apart := false, narrowed := true }
def FnExactBestRulesUptoSaid : Prop := fnExactBestRulesUptoRow.holds Try.pinned (OpenSpec.upto fnExactBestRulesSpec)

/-- 'laws.FnExactMonthsOf', WHERE WHAT IT READS IS OF BULK AT MOST 1048576: true; the input reads as it did. -/
def fnExactMonthsOfUptoRow : OpenClaim := { program := "ythdkbjjpbdledaa", sum := "f6cb82f9e48f9be7521d64b2324b3afaaf2ff6e0708b0107f365f9114f9b2b98", func := "loop.example/g01241/laws.FnExactMonthsOf", spec := "fnExactMonthsOf", apart := false, narrowed := true }
def FnExactMonthsOfUptoSaid : Prop := fnExactMonthsOfUptoRow.holds Try.pinned (OpenSpec.upto fnExactMonthsOfSpec)

/-- 'laws.FnExactSpreadLeaps', WHERE WHAT IT READS IS OF BULK AT MOST 1048576: true; the input reads as it did. -/
def fnExactSpreadLeapsUptoRow : OpenClaim := { program := "ythdkbjjpbdledaa", sum := "f6cb82f9e48f9be7521d64b2324b3afaaf2ff6e0708b0107f365f9114f9b2b98", func := "loop.example/g01241/laws.FnExactSpreadLeaps", spec := "fnExactSpreadLeaps", apart := false, narrowed := true }
def FnExactSpreadLeapsUptoSaid : Prop := fnExactSpreadLeapsUptoRow.holds Try.pinned (OpenSpec.upto fnExactSpreadLeapsSpec)

/-- 'laws.FnExactNextLeap', WHERE WHAT IT READS IS OF BULK AT MOST 1048576: true; the input reads as it did. -/
def fnExactNextLeapUptoRow : OpenClaim := { program := "ythdkbjjpbdledaa", sum := "f6cb82f9e48f9be7521d64b2324b3afaaf2ff6e0708b0107f365f9114f9b2b98", func := "loop.example/g01241/laws.FnExactNextLeap", spec := "fnExactNextLeap", apart := false, narrowed := true }
def FnExactNextLeapUptoSaid : Prop := fnExactNextLeapUptoRow.holds Try.pinned (OpenSpec.upto fnExactNextLeapSpec)

/-- 'laws.FnLeapsCounted', WHERE WHAT IT READS IS OF BULK AT MOST 1048576: true; the input reads as it did. -/
def fnLeapsCountedUptoRow : OpenClaim := { program := "ythdkbjjpbdledaa", sum := "f6cb82f9e48f9be7521d64b2324b3afaaf2ff6e0708b0107f365f9114f9b2b98", func := "loop.example/g01241/laws.FnLeapsCounted", spec := "fnLeapsCounted", unfollowed := true, recurses := true, leaving := true, apart := false, narrowed := true }
def FnLeapsCountedUptoSaid : Prop := fnLeapsCountedUptoRow.holds Try.pinned (OpenSpec.upto fnLeapsCountedSpec)

/-- 'laws.FnLeapsCountedOfAll', WHERE WHAT IT READS IS OF BULK AT MOST 1048576: true; the input reads as it did. -/
def fnLeapsCountedOfAllUptoRow : OpenClaim := { program := "ythdkbjjpbdledaa", sum := "f6cb82f9e48f9be7521d64b2324b3afaaf2ff6e0708b0107f365f9114f9b2b98", func := "loop.example/g01241/laws.FnLeapsCountedOfAll", spec := "fnLeapsCountedOfAll", unfollowed := true, recurses := true, leaving := true, apart := false, narrowed := true }
def FnLeapsCountedOfAllUptoSaid : Prop := fnLeapsCountedOfAllUptoRow.holds Try.pinned (OpenSpec.upto fnLeapsCountedOfAllSpec)

end Rows
end Go.Proofs.Ythdkbjjpbdledaa
