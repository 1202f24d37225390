/-
  No cell of these rows narrows 'for every input' (looked for: loops, veiled, ifaces, maps, wideKeys, modest, calm, conditions, laid).
  DERIVED. THE GIVEN ROWS OF THIS SEAT. 3 by the template 'for every input the law returns true; each argument reads behind the call as it read before'; 0 by the template 'total and deterministic' (their statements: YticdmochedadbaaTotals.lean).
  GIVEN WITH THE SEED: the statements are not yours to turn. If you find one false, say at which input.
  Laid BY PROGRAM, IN A SANDBOX (cutbox-rows.mjs): the forced cells as the released guide's own fill.sh prints them over the translation 02f53a0f8b60b137… (all of the seat's roots in one cut). By AI agents, Wed Nov 11 2026. No macro, syntax, notation, axiom, sorry.
-/
import Derived.Test.YticdmochedadbaaChecked
import GoSem.Claim
import GoSem.ClaimJoined
import GoSem.ClaimMapViews
import Derived.JoinedTies
import Derived.KernelRfl
namespace Go.Proofs.Yticdmochedadbaa
/- THE CELL 'sum', in the pinned program and in every row, IS THE sha256 OF THE DUMP (.gsa) THAT YticdmochedadbaaProg.lean LOADS. Nothing in Lean hashes anything: it is a label: what it is worth is what the hold of that sum in a sandbox is worth. -/
noncomputable def Try.pinned : Pinned := { name := "yticdmochedadbaa", sum := "02f53a0f8b60b137b5d784d980033fd9494c8f6bf087c80471a728aafe4bba6b", checked := Try.checked }
namespace Rows
def none {H : Type} : Left H := { results := [], args := [] }

/-- 'laws.FnSeenTrue': WHATEVER THE INPUT: true; the input reads as it did. -/
def fnSeenTrueSpec : ChangeSpec := { name := "fnSeenTrue", fn := fun _ => fun
  | [d1, d2] => { results := [.lit (.bool true)], args := [d1, d2] }
  | _ => none }
def fnSeenTrueRow : OpenClaim := { program := "yticdmochedadbaa", sum := "02f53a0f8b60b137b5d784d980033fd9494c8f6bf087c80471a728aafe4bba6b", func := "loop.example/g01241/laws.FnSeenTrue", spec := "fnSeenTrue", unfollowed := true, recurses := true, apart := false }
def FnSeenTrueSaid : Prop := fnSeenTrueRow.holds Try.pinned (OpenSpec.ofChange fnSeenTrueSpec)

/-- ITS FALSE NEIGHBOUR: 'it returns false'. Refute it at one input. -/
def fnSeenTrueWrong : ChangeSpec := { name := "fnSeenTrue", fn := fun _ => fun
  | [d1, d2] => { results := [.lit (.bool false)], args := [d1, d2] }
  | _ => none }
def FnSeenTrueWrongFalsely : Prop := fnSeenTrueRow.holds Try.pinned (OpenSpec.ofChange fnSeenTrueWrong)

/-- 'laws.FnSeenTrueOfAll': WHATEVER THE INPUT: true; the input reads as it did. -/
def fnSeenTrueOfAllSpec : ChangeSpec := { name := "fnSeenTrueOfAll", fn := fun _ => fun
  | [d1, d2, d3, d4, d5, d6] => { results := [.lit (.bool true)], args := [d1, d2, d3, d4, d5, d6] }
  | _ => none }
def fnSeenTrueOfAllRow : OpenClaim := { program := "yticdmochedadbaa", sum := "02f53a0f8b60b137b5d784d980033fd9494c8f6bf087c80471a728aafe4bba6b", func := "loop.example/g01241/laws.FnSeenTrueOfAll", spec := "fnSeenTrueOfAll", unfollowed := true, recurses := true, apart := false }
def FnSeenTrueOfAllSaid : Prop := fnSeenTrueOfAllRow.holds Try.pinned (OpenSpec.ofChange fnSeenTrueOfAllSpec)

/-- ITS FALSE NEIGHBOUR: 'it returns false'. Refute it at one input. -/
def fnSeenTrueOfAllWrong : ChangeSpec := { name := "fnSeenTrueOfAll", fn := fun _ => fun
  | [d1, d2, d3, d4, d5, d6] => { results := [.lit (.bool false)], args := [d1, d2, d3, d4, d5, d6] }
  | _ => none }
def FnSeenTrueOfAllWrongFalsely : Prop := fnSeenTrueOfAllRow.holds Try.pinned (OpenSpec.ofChange fnSeenTrueOfAllWrong)

/-- 'laws.FnDialsTurnedOfAll': WHATEVER THE INPUT: true; the input reads as it did. -/
def fnDialsTurnedOfAllSpec : ChangeSpec := { name := "fnDialsTurnedOfAll", fn := fun _ => fun
  | [d1, d2, d3, d4, d5, d6, d7, d8, d9] => { results := [.lit (.bool true)], args := [d1, d2, d3, d4, d5, d6, d7, d8, d9] }
  | _ => none }
def fnDialsTurnedOfAllRow : OpenClaim := { program := "yticdmochedadbaa", sum := "02f53a0f8b60b137b5d784d980033fd9494c8f6bf087c80471a728aafe4bba6b", func := "loop.example/g01241/laws.FnDialsTurnedOfAll", spec := "fnDialsTurnedOfAll", unfollowed := true, recurses := true, apart := false }
def FnDialsTurnedOfAllSaid : Prop := fnDialsTurnedOfAllRow.holds Try.pinned (OpenSpec.ofChange fnDialsTurnedOfAllSpec)

/-- ITS FALSE NEIGHBOUR: 'it returns false'. Refute it at one input. -/
def fnDialsTurnedOfAllWrong : ChangeSpec := { name := "fnDialsTurnedOfAll", fn := fun _ => fun
  | [d1, d2, d3, d4, d5, d6, d7, d8, d9] => { results := [.lit (.bool false)], args := [d1, d2, d3, d4, d5, d6, d7, d8, d9] }
  | _ => none }
def FnDialsTurnedOfAllWrongFalsely : Prop := fnDialsTurnedOfAllRow.holds Try.pinned (OpenSpec.ofChange fnDialsTurnedOfAllWrong)

/- THE SECOND FORM. 'bulk': how many values and letters a reading holds, each counted each time it is reached (what is shared counts as often as it is met; a slice's spare places count too). A statement '..UptoSaid' is the law's where the arguments, and the package variables that the reading takes, are together of bulk at most 1048576: NARROWER than '..Said'. Prove '..Said' where nothing that the law and all that it calls make is longer than what came in: it says more and counts as full. Else prove '..UptoSaid'. A law counts once. -/
mutual
def uptoBulk {H : Type} : DataW H → Nat
  | .lit (.string bytes) => bytes.length + 1
  | .lit _ => 1
  | .nil => 1
  | .ptr d => uptoBulk d + 1
  | .slice elems spare => uptoBulkAll elems + uptoBulkAll spare + 1
  | .agg parts => uptoBulkAll parts + 1
  | .iface _ d => uptoBulk d + 1
  | .map entries => uptoBulkEntries entries + 1
  | .held _ => 1
def uptoBulkAll {H : Type} : List (DataW H) → Nat
  | [] => 0
  | d :: r => uptoBulk d + uptoBulkAll r
def uptoBulkEntries {H : Type} : List (Lit × DataW H) → Nat
  | [] => 0
  | x :: r => uptoBulkEntry x + uptoBulkEntries r
def uptoBulkEntry {H : Type} : Lit × DataW H → Nat
  | (.string bytes, d) => bytes.length + uptoBulk d + 1
  | (_, d) => uptoBulk d + 1
 end
def uptoSmall : (H : Type) → List (DataW H) → Bool := fun _ ds => decide (uptoBulkAll ds ≤ 1048576)
def OpenSpec.upto (s : _root_.Go.ChangeSpec) : _root_.Go.OpenSpec := { _root_.Go.OpenSpec.ofChange s with cond := some uptoSmall }

/-- 'laws.FnSeenTrue', WHERE WHAT IT READS IS OF BULK AT MOST 1048576: true; the input reads as it did. -/
def fnSeenTrueUptoRow : OpenClaim := { program := "yticdmochedadbaa", sum := "02f53a0f8b60b137b5d784d980033fd9494c8f6bf087c80471a728aafe4bba6b", func := "loop.example/g01241/laws.FnSeenTrue", spec := "fnSeenTrue", unfollowed := true, recurses := true, apart := false, narrowed := true }
def FnSeenTrueUptoSaid : Prop := fnSeenTrueUptoRow.holds Try.pinned (OpenSpec.upto fnSeenTrueSpec)

/-- 'laws.FnSeenTrueOfAll', WHERE WHAT IT READS IS OF BULK AT MOST 1048576: true; the input reads as it did. -/
def fnSeenTrueOfAllUptoRow : OpenClaim := { program := "yticdmochedadbaa", sum := "02f53a0f8b60b137b5d784d980033fd9494c8f6bf087c80471a728aafe4bba6b", func := "loop.example/g01241/laws.FnSeenTrueOfAll", spec := "fnSeenTrueOfAll", unfollowed := true, recurses := true, apart := false, narrowed := true }
def FnSeenTrueOfAllUptoSaid : Prop := fnSeenTrueOfAllUptoRow.holds Try.pinned (OpenSpec.upto fnSeenTrueOfAllSpec)

/-- 'laws.FnDialsTurnedOfAll', WHERE WHAT IT READS IS OF BULK AT MOST 1048576: true; the input reads as it did. -/
def fnDialsTurnedOfAllUptoRow : OpenClaim := { program := "yticdmochedadbaa", sum := "02f53a0f8b60b137b5d784d980033fd9494c8f6bf087c80471a728aafe4bba6b", func := "loop.example/g01241/laws.FnDialsTurnedOfAll", spec := "fnDialsTurnedOfAll", unfollowed := true, recurses := true, apart := false, narrowed := true }
def FnDialsTurnedOfAllUptoSaid : Prop := fnDialsTurnedOfAllUptoRow.holds Try.pinned (OpenSpec.upto fnDialsTurnedOfAllSpec)

end Rows
end Go.Proofs.Yticdmochedadbaa
