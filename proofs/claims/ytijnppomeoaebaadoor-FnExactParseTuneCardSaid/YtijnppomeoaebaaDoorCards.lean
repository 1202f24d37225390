/-
  DERIVED. GIVEN WITH THE SEED: THE CARDS: each row of YtijnppomeoaebaaDoorRows.lean that lists a variable, with what it lists TIED to the program's text (the seventh form; the later family's looks); each row that meets fmt, with fmt's text TOLD by the authors' own Lean function (tested against real Go, not proved from fmt's source: count such statements apart). THE CARD IS WHAT COUNTS. Prove the row's statement (the work); the ties are given (YtijnppomeoaebaaDoorTie.lean); close each card by the builder's one call (the guide's Derived/Test/ToyasCard.lean, 'card_holds'). Laid BY PROGRAM, IN A SANDBOX (cutbox-door.mjs). By AI agents, Wed Nov 11 2026. No macro, syntax, notation, axiom, sorry.
-/
import Derived.Test.YtijnppomeoaebaaDoorRows
import GoSem.ClaimSeven
namespace Go.Proofs.YtijnppomeoaebaaDoor
namespace Rows

/-- THE TIED CARD OF 'laws.FnExactBellUpTo'. -/
def fnExactBellUpToCard : Claim7 := { stood := { row := fnExactBellUpToRow, standIns := [], harness := (true, "515a105157c4360cc62ac9c686dd0eb90ad965f6a91d5ce2dfc7511ff3cfc021"), looks := false }, kinds := [], alts := [], laidByText := true, laidKinds := [.data, .data, .data], laidTests := true, laidLooks := .later }
def FnExactBellUpToCardSaid : Prop := Claim7.holds Tryd.pinned (.plain (OpenSpec.ofChange fnExactBellUpToSpec)) fnExactBellUpToCard

/-- THE TIED CARD OF 'laws.FnExactNextQuarterWith'. -/
def fnExactNextQuarterWithCard : Claim7 := { stood := { row := fnExactNextQuarterWithRow, standIns := [], harness := (true, "515a105157c4360cc62ac9c686dd0eb90ad965f6a91d5ce2dfc7511ff3cfc021"), looks := false }, kinds := [], alts := [], laidByText := true, laidKinds := [.data, .data, .data], laidTests := true, laidLooks := .later }
def FnExactNextQuarterWithCardSaid : Prop := Claim7.holds Tryd.pinned (.plain (OpenSpec.ofChange fnExactNextQuarterWithSpec)) fnExactNextQuarterWithCard

/-- THE TIED CARD OF 'laws.FnExactMirrorTune'. -/
def fnExactMirrorTuneCard : Claim7 := { stood := { row := fnExactMirrorTuneRow, standIns := [], harness := (true, "515a105157c4360cc62ac9c686dd0eb90ad965f6a91d5ce2dfc7511ff3cfc021"), looks := false }, kinds := [], alts := [], laidByText := true, laidKinds := [.data, .pinned], laidTests := true, laidLooks := .later }
def FnExactMirrorTuneCardSaid : Prop := Claim7.holds Tryd.pinned (.plain (OpenSpec.ofChange fnExactMirrorTuneSpec)) fnExactMirrorTuneCard

/-- THE TIED CARD OF 'laws.FnExactParseTune'. -/
def fnExactParseTuneCard : Claim7 := { stood := { row := fnExactParseTuneRow, standIns := [], harness := (true, "515a105157c4360cc62ac9c686dd0eb90ad965f6a91d5ce2dfc7511ff3cfc021"), looks := false }, kinds := [], alts := [], laidByText := true, laidKinds := [.data, .pinned], laidTests := true, laidLooks := .later }
def FnExactParseTuneCardSaid : Prop := Claim7.holds Tryd.pinned (.plain (OpenSpec.ofChange fnExactParseTuneSpec)) fnExactParseTuneCard

/-- THE SECOND FORM's CARD OF 'laws.FnExactBellUpTo'. -/
def fnExactBellUpToUptoCard : Claim7 := { stood := { row := fnExactBellUpToUptoRow, standIns := [], harness := (true, "515a105157c4360cc62ac9c686dd0eb90ad965f6a91d5ce2dfc7511ff3cfc021"), looks := false }, kinds := [], alts := [], laidByText := true, laidKinds := [.data, .data, .data], laidTests := true, laidLooks := .later }
def FnExactBellUpToUptoCardSaid : Prop := Claim7.holds Tryd.pinned (.plain (OpenSpec.upto fnExactBellUpToSpec)) fnExactBellUpToUptoCard

/-- THE SECOND FORM's CARD OF 'laws.FnExactNextQuarterWith'. -/
def fnExactNextQuarterWithUptoCard : Claim7 := { stood := { row := fnExactNextQuarterWithUptoRow, standIns := [], harness := (true, "515a105157c4360cc62ac9c686dd0eb90ad965f6a91d5ce2dfc7511ff3cfc021"), looks := false }, kinds := [], alts := [], laidByText := true, laidKinds := [.data, .data, .data], laidTests := true, laidLooks := .later }
def FnExactNextQuarterWithUptoCardSaid : Prop := Claim7.holds Tryd.pinned (.plain (OpenSpec.upto fnExactNextQuarterWithSpec)) fnExactNextQuarterWithUptoCard

/-- THE SECOND FORM's CARD OF 'laws.FnExactMirrorTune'. -/
def fnExactMirrorTuneUptoCard : Claim7 := { stood := { row := fnExactMirrorTuneUptoRow, standIns := [], harness := (true, "515a105157c4360cc62ac9c686dd0eb90ad965f6a91d5ce2dfc7511ff3cfc021"), looks := false }, kinds := [], alts := [], laidByText := true, laidKinds := [.data, .pinned], laidTests := true, laidLooks := .later }
def FnExactMirrorTuneUptoCardSaid : Prop := Claim7.holds Tryd.pinned (.plain (OpenSpec.upto fnExactMirrorTuneSpec)) fnExactMirrorTuneUptoCard

/-- THE SECOND FORM's CARD OF 'laws.FnExactParseTune'. -/
def fnExactParseTuneUptoCard : Claim7 := { stood := { row := fnExactParseTuneUptoRow, standIns := [], harness := (true, "515a105157c4360cc62ac9c686dd0eb90ad965f6a91d5ce2dfc7511ff3cfc021"), looks := false }, kinds := [], alts := [], laidByText := true, laidKinds := [.data, .pinned], laidTests := true, laidLooks := .later }
def FnExactParseTuneUptoCardSaid : Prop := Claim7.holds Tryd.pinned (.plain (OpenSpec.upto fnExactParseTuneSpec)) fnExactParseTuneUptoCard
end Rows
end Go.Proofs.YtijnppomeoaebaaDoor
