/-
  No cell of these rows narrows 'for every input' (looked for: loops, veiled, ifaces, maps, wideKeys, modest, calm, conditions, laid).
  DERIVED. THE GIVEN ROWS OF THIS SEAT. 4 by the template 'for every input the law returns true; each argument reads behind the call as it read before'; 0 by the template 'total and deterministic' (their statements: YtcfiaacpofpioaaTotals.lean).
  GIVEN WITH THE SEED: the statements are not yours to turn. If you find one false, say at which input.
  Laid BY PROGRAM, IN A SANDBOX (cutbox-rows.mjs): the forced cells as the released guide's own fill.sh prints them over the translation 15d7f89298fbe169… (all of the seat's roots in one cut). By AI agents, Wed Nov 11 2026. No macro, syntax, notation, axiom, sorry.
-/
import Derived.Test.YtcfiaacpofpioaaChecked
import GoSem.Claim
import GoSem.ClaimJoined
import GoSem.ClaimMapViews
import Derived.JoinedTies
import Derived.KernelRfl
namespace Go.Proofs.Ytcfiaacpofpioaa
/- THE CELL 'sum', in the pinned program and in every row, IS THE sha256 OF THE DUMP (.gsa) THAT YtcfiaacpofpioaaProg.lean LOADS. Nothing in Lean hashes anything: it is a label: what it is worth is what the hold of that sum in a sandbox is worth. -/
noncomputable def Try.pinned : Pinned := { name := "ytcfiaacpofpioaa", sum := "15d7f89298fbe1698828620ad04c378f9bbbfeb6437d0e29e3af008046c3eff6", checked := Try.checked }
namespace Rows
def none {H : Type} : Left H := { results := [], args := [] }

/-- 'laws.FnHandsMeet': WHATEVER THE INPUT: true; the input reads as it did. -/
def fnHandsMeetSpec : ChangeSpec := { name := "fnHandsMeet", fn := fun _ => fun
  | [d1, d2] => { results := [.lit (.bool true)], args := [d1, d2] }
  | _ => none }
def fnHandsMeetRow : OpenClaim := { program := "ytcfiaacpofpioaa", sum := "15d7f89298fbe1698828620ad04c378f9bbbfeb6437d0e29e3af008046c3eff6", func := "loop.example/g01241/laws.FnHandsMeet", spec := "fnHandsMeet", unfollowed := true, recurses := true, apart := false }
def FnHandsMeetSaid : Prop := fnHandsMeetRow.holds Try.pinned (OpenSpec.ofChange fnHandsMeetSpec)

/-- ITS FALSE NEIGHBOUR: 'it returns false'. Refute it at one input. -/
def fnHandsMeetWrong : ChangeSpec := { name := "fnHandsMeet", fn := fun _ => fun
  | [d1, d2] => { results := [.lit (.bool false)], args := [d1, d2] }
  | _ => none }
def FnHandsMeetWrongFalsely : Prop := fnHandsMeetRow.holds Try.pinned (OpenSpec.ofChange fnHandsMeetWrong)

/-- 'laws.FnHandsMeetOfAll': WHATEVER THE INPUT: true; the input reads as it did. -/
def fnHandsMeetOfAllSpec : ChangeSpec := { name := "fnHandsMeetOfAll", fn := fun _ => fun
  | [d1, d2, d3, d4, d5] => { results := [.lit (.bool true)], args := [d1, d2, d3, d4, d5] }
  | _ => none }
def fnHandsMeetOfAllRow : OpenClaim := { program := "ytcfiaacpofpioaa", sum := "15d7f89298fbe1698828620ad04c378f9bbbfeb6437d0e29e3af008046c3eff6", func := "loop.example/g01241/laws.FnHandsMeetOfAll", spec := "fnHandsMeetOfAll", unfollowed := true, recurses := true, apart := false }
def FnHandsMeetOfAllSaid : Prop := fnHandsMeetOfAllRow.holds Try.pinned (OpenSpec.ofChange fnHandsMeetOfAllSpec)

/-- ITS FALSE NEIGHBOUR: 'it returns false'. Refute it at one input. -/
def fnHandsMeetOfAllWrong : ChangeSpec := { name := "fnHandsMeetOfAll", fn := fun _ => fun
  | [d1, d2, d3, d4, d5] => { results := [.lit (.bool false)], args := [d1, d2, d3, d4, d5] }
  | _ => none }
def FnHandsMeetOfAllWrongFalsely : Prop := fnHandsMeetOfAllRow.holds Try.pinned (OpenSpec.ofChange fnHandsMeetOfAllWrong)

/-- 'laws.FnHandsAhead': WHATEVER THE INPUT: true; the input reads as it did. -/
def fnHandsAheadSpec : ChangeSpec := { name := "fnHandsAhead", fn := fun _ => fun
  | [d1, d2] => { results := [.lit (.bool true)], args := [d1, d2] }
  | _ => none }
def fnHandsAheadRow : OpenClaim := { program := "ytcfiaacpofpioaa", sum := "15d7f89298fbe1698828620ad04c378f9bbbfeb6437d0e29e3af008046c3eff6", func := "loop.example/g01241/laws.FnHandsAhead", spec := "fnHandsAhead", unfollowed := true, recurses := true, apart := false }
def FnHandsAheadSaid : Prop := fnHandsAheadRow.holds Try.pinned (OpenSpec.ofChange fnHandsAheadSpec)

/-- ITS FALSE NEIGHBOUR: 'it returns false'. Refute it at one input. -/
def fnHandsAheadWrong : ChangeSpec := { name := "fnHandsAhead", fn := fun _ => fun
  | [d1, d2] => { results := [.lit (.bool false)], args := [d1, d2] }
  | _ => none }
def FnHandsAheadWrongFalsely : Prop := fnHandsAheadRow.holds Try.pinned (OpenSpec.ofChange fnHandsAheadWrong)

/-- 'laws.FnHandsAheadOfAll': WHATEVER THE INPUT: true; the input reads as it did. -/
def fnHandsAheadOfAllSpec : ChangeSpec := { name := "fnHandsAheadOfAll", fn := fun _ => fun
  | [d1, d2, d3, d4, d5, d6, d7, d8] => { results := [.lit (.bool true)], args := [d1, d2, d3, d4, d5, d6, d7, d8] }
  | _ => none }
def fnHandsAheadOfAllRow : OpenClaim := { program := "ytcfiaacpofpioaa", sum := "15d7f89298fbe1698828620ad04c378f9bbbfeb6437d0e29e3af008046c3eff6", func := "loop.example/g01241/laws.FnHandsAheadOfAll", spec := "fnHandsAheadOfAll", unfollowed := true, recurses := true, apart := false }
def FnHandsAheadOfAllSaid : Prop := fnHandsAheadOfAllRow.holds Try.pinned (OpenSpec.ofChange fnHandsAheadOfAllSpec)

/-- ITS FALSE NEIGHBOUR: 'it returns false'. Refute it at one input. -/
def fnHandsAheadOfAllWrong : ChangeSpec := { name := "fnHandsAheadOfAll", fn := fun _ => fun
  | [d1, d2, d3, d4, d5, d6, d7, d8] => { results := [.lit (.bool false)], args := [d1, d2, d3, d4, d5, d6, d7, d8] }
  | _ => none }
def FnHandsAheadOfAllWrongFalsely : Prop := fnHandsAheadOfAllRow.holds Try.pinned (OpenSpec.ofChange fnHandsAheadOfAllWrong)

/- THE SECOND FORM. 'bulk': how many values and letters a reading holds, each counted each time it is reached (what is shared counts as often as it is met; a slice's spare places count too). A statement '..UptoSaid' is the law's where the arguments, and the package variables that the reading takes, are together of bulk at most 1048576: NARROWER than '..Said'. Prove '..Said' where nothing that the law and all that it calls make is longer than what came in: it says more and counts as full. Else prove '..UptoSaid'. A law counts once. -/
mutual
def uptoBulk {H : Type} : DataW H → Nat
  | .lit (.string bytes) => bytes.length + 1
  | .lit _ => 1
  | .nil => 1
  | .ptr d => uptoBulk d + 1
  | .slice elems spare => uptoBulkAll elems + uptoBulkAll spare + 1
  | .agg parts => uptoBulkAll parts + 1
  | .iface _ d => uptoBulk d + 1
  | .map entries => uptoBulkEntries entries + 1
  | .held _ => 1
def uptoBulkAll {H : Type} : List (DataW H) → Nat
  | [] => 0
  | d :: r => uptoBulk d + uptoBulkAll r
def uptoBulkEntries {H : Type} : List (Lit × DataW H) → Nat
  | [] => 0
  | x :: r => uptoBulkEntry x + uptoBulkEntries r
def uptoBulkEntry {H : Type} : Lit × DataW H → Nat
  | (.string bytes, d) => bytes.length + uptoBulk d + 1
  | (_, d) => uptoBulk d + 1
 end
def uptoSmall : (H : Type) → List (DataW H) → Bool := fun _ ds => decide (uptoBulkAll ds ≤ 1048576)
def OpenSpec.upto (s : _root_.Go.ChangeSpec) : _root_.Go.OpenSpec := { _root_.Go.OpenSpec.ofChange s with cond := some uptoSmall }

/-- 'laws.FnHandsMeet', WHERE WHAT IT READS IS OF BULK AT MOST 1048576: true; the input reads as it did. -/
def fnHandsMeetUptoRow : OpenClaim := { program := "ytcfiaacpofpioaa", sum := "15d7f89298fbe1698828620ad04c378f9bbbfeb6437d0e29e3af008046c3eff6", func := "loop.example/g01241/laws.FnHandsMeet", spec := "fnHandsMeet", unfollowed := true, recurses := true, apart := false, narrowed := true }
def FnHandsMeetUptoSaid : Prop := fnHandsMeetUptoRow.holds Try.pinned (OpenSpec.upto fnHandsMeetSpec)

/-- 'laws.FnHandsMeetOfAll', WHERE WHAT IT READS IS OF BULK AT MOST 1048576: true; the input reads as it did. -/
def fnHandsMeetOfAllUptoRow : OpenClaim := { program := "ytcfiaacpofpioaa", sum := "15d7f89298fbe1698828620ad04c378f9bbbfeb6437d0e29e3af008046c3eff6", func := "loop.example/g01241/laws.FnHandsMeetOfAll", spec := "fnHandsMeetOfAll", unfollowed := true, recurses := true, apart := false, narrowed := true }
def FnHandsMeetOfAllUptoSaid : Prop := fnHandsMeetOfAllUptoRow.holds Try.pinned (OpenSpec.upto fnHandsMeetOfAllSpec)

/-- 'laws.FnHandsAhead', WHERE WHAT IT READS IS OF BULK AT MOST 1048576: true; the input reads as it did. -/
def fnHandsAheadUptoRow : OpenClaim := { program := "ytcfiaacpofpioaa", sum := "15d7f89298fbe1698828620ad04c378f9bbbfeb6437d0e29e3af008046c3eff6", func := "loop.example/g01241/laws.FnHandsAhead", spec := "fnHandsAhead", unfollowed := true, recurses := true, apart := false, narrowed := true }
def FnHandsAheadUptoSaid : Prop := fnHandsAheadUptoRow.holds Try.pinned (OpenSpec.upto fnHandsAheadSpec)

/-- 'laws.FnHandsAheadOfAll', WHERE WHAT IT READS IS OF BULK AT MOST 1048576: true; the input reads as it did. -/
def fnHandsAheadOfAllUptoRow : OpenClaim := { program := "ytcfiaacpofpioaa", sum := "15d7f89298fbe1698828620ad04c378f9bbbfeb6437d0e29e3af008046c3eff6", func := "loop.example/g01241/laws.FnHandsAheadOfAll", spec := "fnHandsAheadOfAll", unfollowed := true, recurses := true, apart := false, narrowed := true }
def FnHandsAheadOfAllUptoSaid : Prop := fnHandsAheadOfAllUptoRow.holds Try.pinned (OpenSpec.upto fnHandsAheadOfAllSpec)

end Rows
end Go.Proofs.Ytcfiaacpofpioaa
