/-
  DERIVED. GIVEN WITH THE SEED: THE CARDS: each row of YtnokjdcgokfdhaaDoorRows.lean that lists a variable, with what it lists TIED to the program's text (the seventh form; the later family's looks); each row that meets fmt, with fmt's text TOLD by the authors' own Lean function (tested against real Go, not proved from fmt's source: count such statements apart). THE CARD IS WHAT COUNTS. Prove the row's statement (the work); the ties are given (YtnokjdcgokfdhaaDoorTie.lean); close each card by the builder's one call (the guide's Derived/Test/ToyasCard.lean, 'card_holds'). Laid BY PROGRAM, IN A SANDBOX (cutbox-door.mjs). By AI agents, Wed Nov 11 2026. No macro, syntax, notation, axiom, sorry.
-/
import Derived.Test.YtnokjdcgokfdhaaDoorRows
import GoSem.ClaimSeven
namespace Go.Proofs.YtnokjdcgokfdhaaDoor
namespace Rows

/-- THE TIED CARD OF 'laws.FnExactSpanText'. -/
def fnExactSpanTextCard : Claim7 := { stood := { row := fnExactSpanTextRow, standIns := [], harness := (true, "7410d86f89849eb1f3a5401dc679c5b14c7c4afc3c575e1799de5492560bbe11"), looks := true }, kinds := [], alts := [], laidByText := true, laidKinds := [.data, .data, .data], laidTests := true, laidLooks := .later }
def FnExactSpanTextCardSaid : Prop := Claim7.holds Tryd.pinned (.plain (OpenSpec.ofChange fnExactSpanTextSpec)) fnExactSpanTextCard

/-- THE TIED CARD OF 'laws.FnExactParseSpan'. -/
def fnExactParseSpanCard : Claim7 := { stood := { row := fnExactParseSpanRow, standIns := [], harness := (true, "7410d86f89849eb1f3a5401dc679c5b14c7c4afc3c575e1799de5492560bbe11"), looks := true }, kinds := [], alts := [], laidByText := true, laidKinds := [.data, .data, .data, .sentinel, .sentinel], laidTests := true, laidLooks := .later }
def FnExactParseSpanCardSaid : Prop := Claim7.holds Tryd.pinned (.plain (OpenSpec.ofChange fnExactParseSpanSpec)) fnExactParseSpanCard

/-- THE SECOND FORM's CARD OF 'laws.FnExactSpanText'. -/
def fnExactSpanTextUptoCard : Claim7 := { stood := { row := fnExactSpanTextUptoRow, standIns := [], harness := (true, "7410d86f89849eb1f3a5401dc679c5b14c7c4afc3c575e1799de5492560bbe11"), looks := true }, kinds := [], alts := [], laidByText := true, laidKinds := [.data, .data, .data], laidTests := true, laidLooks := .later }
def FnExactSpanTextUptoCardSaid : Prop := Claim7.holds Tryd.pinned (.plain (OpenSpec.upto fnExactSpanTextSpec)) fnExactSpanTextUptoCard

/-- THE SECOND FORM's CARD OF 'laws.FnExactParseSpan'. -/
def fnExactParseSpanUptoCard : Claim7 := { stood := { row := fnExactParseSpanUptoRow, standIns := [], harness := (true, "7410d86f89849eb1f3a5401dc679c5b14c7c4afc3c575e1799de5492560bbe11"), looks := true }, kinds := [], alts := [], laidByText := true, laidKinds := [.data, .data, .data, .sentinel, .sentinel], laidTests := true, laidLooks := .later }
def FnExactParseSpanUptoCardSaid : Prop := Claim7.holds Tryd.pinned (.plain (OpenSpec.upto fnExactParseSpanSpec)) fnExactParseSpanUptoCard
end Rows
end Go.Proofs.YtnokjdcgokfdhaaDoor
