/-
  No cell of these rows narrows 'for every input' (looked for: loops, veiled, ifaces, maps, wideKeys, modest, calm, conditions, laid).
  DERIVED. THE GIVEN ROWS OF THIS SEAT. 2 by the template 'for every input the law returns true; each argument reads behind the call as it read before'; 0 by the template 'total and deterministic' (their statements: YtjdjomoeeecdkaaTotals.lean).
  GIVEN WITH THE SEED: the statements are not yours to turn. If you find one false, say at which input.
  Laid BY PROGRAM, IN A SANDBOX (cutbox-rows.mjs): the forced cells as the released guide's own fill.sh prints them over the translation d7cc8748b1949978… (all of the seat's roots in one cut). By AI agents, Wed Nov 11 2026. No macro, syntax, notation, axiom, sorry.
-/
import Derived.Test.YtjdjomoeeecdkaaChecked
import GoSem.Claim
import GoSem.ClaimJoined
import GoSem.ClaimMapViews
import Derived.JoinedTies
import Derived.KernelRfl
namespace Go.Proofs.Ytjdjomoeeecdkaa
/- THE CELL 'sum', in the pinned program and in every row, IS THE sha256 OF THE DUMP (.gsa) THAT YtjdjomoeeecdkaaProg.lean LOADS. Nothing in Lean hashes anything: it is a label: what it is worth is what the hold of that sum in a sandbox is worth. -/
noncomputable def Try.pinned : Pinned := { name := "ytjdjomoeeecdkaa", sum := "d7cc8748b19499788774de8b92555d3f00e44a4ffaa4d1083c52ba8f583b6a69", checked := Try.checked }
namespace Rows
def none {H : Type} : Left H := { results := [], args := [] }

/-- 'laws.FnTurnsAdded': WHATEVER THE INPUT: true; the input reads as it did. -/
def fnTurnsAddedSpec : ChangeSpec := { name := "fnTurnsAdded", fn := fun _ => fun
  | [d1, d2] => { results := [.lit (.bool true)], args := [d1, d2] }
  | _ => none }
def fnTurnsAddedRow : OpenClaim := { program := "ytjdjomoeeecdkaa", sum := "d7cc8748b19499788774de8b92555d3f00e44a4ffaa4d1083c52ba8f583b6a69", func := "loop.example/g01241/laws.FnTurnsAdded", spec := "fnTurnsAdded", apart := false }
def FnTurnsAddedSaid : Prop := fnTurnsAddedRow.holds Try.pinned (OpenSpec.ofChange fnTurnsAddedSpec)

/-- ITS FALSE NEIGHBOUR: 'it returns false'. Refute it at one input. -/
def fnTurnsAddedWrong : ChangeSpec := { name := "fnTurnsAdded", fn := fun _ => fun
  | [d1, d2] => { results := [.lit (.bool false)], args := [d1, d2] }
  | _ => none }
def FnTurnsAddedWrongFalsely : Prop := fnTurnsAddedRow.holds Try.pinned (OpenSpec.ofChange fnTurnsAddedWrong)

/-- 'laws.FnTurnsAddedOfAll': WHATEVER THE INPUT: true; the input reads as it did. -/
def fnTurnsAddedOfAllSpec : ChangeSpec := { name := "fnTurnsAddedOfAll", fn := fun _ => fun
  | [d1, d2, d3, d4, d5, d6] => { results := [.lit (.bool true)], args := [d1, d2, d3, d4, d5, d6] }
  | _ => none }
def fnTurnsAddedOfAllRow : OpenClaim := { program := "ytjdjomoeeecdkaa", sum := "d7cc8748b19499788774de8b92555d3f00e44a4ffaa4d1083c52ba8f583b6a69", func := "loop.example/g01241/laws.FnTurnsAddedOfAll", spec := "fnTurnsAddedOfAll", apart := false }
def FnTurnsAddedOfAllSaid : Prop := fnTurnsAddedOfAllRow.holds Try.pinned (OpenSpec.ofChange fnTurnsAddedOfAllSpec)

/-- ITS FALSE NEIGHBOUR: 'it returns false'. Refute it at one input. -/
def fnTurnsAddedOfAllWrong : ChangeSpec := { name := "fnTurnsAddedOfAll", fn := fun _ => fun
  | [d1, d2, d3, d4, d5, d6] => { results := [.lit (.bool false)], args := [d1, d2, d3, d4, d5, d6] }
  | _ => none }
def FnTurnsAddedOfAllWrongFalsely : Prop := fnTurnsAddedOfAllRow.holds Try.pinned (OpenSpec.ofChange fnTurnsAddedOfAllWrong)

/- THE SECOND FORM. 'bulk': how many values and letters a reading holds, each counted each time it is reached (what is shared counts as often as it is met; a slice's spare places count too). A statement '..UptoSaid' is the law's where the arguments, and the package variables that the reading takes, are together of bulk at most 1048576: NARROWER than '..Said'. Prove '..Said' where nothing that the law and all that it calls make is longer than what came in: it says more and counts as full. Else prove '..UptoSaid'. A law counts once. -/
mutual
def uptoBulk {H : Type} : DataW H → Nat
  | .lit (.string bytes) => bytes.length + 1
  | .lit _ => 1
  | .nil => 1
  | .ptr d => uptoBulk d + 1
  | .slice elems spare => uptoBulkAll elems + uptoBulkAll spare + 1
  | .agg parts => uptoBulkAll parts + 1
  | .iface _ d => uptoBulk d + 1
  | .map entries => uptoBulkEntries entries + 1
  | .held _ => 1
def uptoBulkAll {H : Type} : List (DataW H) → Nat
  | [] => 0
  | d :: r => uptoBulk d + uptoBulkAll r
def uptoBulkEntries {H : Type} : List (Lit × DataW H) → Nat
  | [] => 0
  | x :: r => uptoBulkEntry x + uptoBulkEntries r
def uptoBulkEntry {H : Type} : Lit × DataW H → Nat
  | (.string bytes, d) => bytes.length + uptoBulk d + 1
  | (_, d) => uptoBulk d + 1
 end
def uptoSmall : (H : Type) → List (DataW H) → Bool := fun _ ds => decide (uptoBulkAll ds ≤ 1048576)
def OpenSpec.upto (s : _root_.Go.ChangeSpec) : _root_.Go.OpenSpec := { _root_.Go.OpenSpec.ofChange s with cond := some uptoSmall }

/-- 'laws.FnTurnsAdded', WHERE WHAT IT READS IS OF BULK AT MOST 1048576: true; the input reads as it did. -/
def fnTurnsAddedUptoRow : OpenClaim := { program := "ytjdjomoeeecdkaa", sum := "d7cc8748b19499788774de8b92555d3f00e44a4ffaa4d1083c52ba8f583b6a69", func := "loop.example/g01241/laws.FnTurnsAdded", spec := "fnTurnsAdded", apart := false, narrowed := true }
def FnTurnsAddedUptoSaid : Prop := fnTurnsAddedUptoRow.holds Try.pinned (OpenSpec.upto fnTurnsAddedSpec)

/-- 'laws.FnTurnsAddedOfAll', WHERE WHAT IT READS IS OF BULK AT MOST 1048576: true; the input reads as it did. -/
def fnTurnsAddedOfAllUptoRow : OpenClaim := { program := "ytjdjomoeeecdkaa", sum := "d7cc8748b19499788774de8b92555d3f00e44a4ffaa4d1083c52ba8f583b6a69", func := "loop.example/g01241/laws.FnTurnsAddedOfAll", spec := "fnTurnsAddedOfAll", apart := false, narrowed := true }
def FnTurnsAddedOfAllUptoSaid : Prop := fnTurnsAddedOfAllUptoRow.holds Try.pinned (OpenSpec.upto fnTurnsAddedOfAllSpec)

end Rows
end Go.Proofs.Ytjdjomoeeecdkaa
