/-
  DERIVED. GIVEN WITH THE SEED: THE CARDS: each row of YtbahnkomdndmkadDoorRows.lean that lists a variable, with what it lists TIED to the program's text (the seventh form; the later family's looks); each row that meets fmt, with fmt's text TOLD by the authors' own Lean function (tested against real Go, not proved from fmt's source: count such statements apart). THE CARD IS WHAT COUNTS. Prove the row's statement (the work); the ties are given (YtbahnkomdndmkadDoorTie.lean); close each card by the builder's one call (the guide's Derived/Test/ToyasCard.lean, 'card_holds'). Laid BY PROGRAM, IN A SANDBOX (cutbox-door.mjs). By AI agents, Wed Nov 11 2026. No macro, syntax, notation, axiom, sorry.
-/
import Derived.Test.YtbahnkomdndmkadDoorRows
import GoSem.ClaimSeven
namespace Go.Proofs.YtbahnkomdndmkadDoor
namespace Rows

/-- THE TIED CARD OF 'sealskinlaw02.OctetCut'. -/
def octetCutCard : Claim7 := { stood := { row := octetCutRow, standIns := [], harness := (true, "eef4024bc0a88999099e1a62d3b35ba3202acbf9305fd495ca66ff577e62fe3e"), looks := false }, kinds := [], alts := [], laidByText := true, laidKinds := [.data, .pinned], laidTests := true, laidLooks := .later }
def OctetCutCardSaid : Prop := Claim7.holds Tryd.pinned (.plain (OpenSpec.ofChange octetCutSpec)) octetCutCard

/-- THE TIED CARD OF 'sealskinlaw02.OctetOrder'. -/
def octetOrderCard : Claim7 := { stood := { row := octetOrderRow, standIns := [], harness := (true, "eef4024bc0a88999099e1a62d3b35ba3202acbf9305fd495ca66ff577e62fe3e"), looks := false }, kinds := [], alts := [], laidByText := true, laidKinds := [.data, .pinned], laidTests := true, laidLooks := .later }
def OctetOrderCardSaid : Prop := Claim7.holds Tryd.pinned (.plain (OpenSpec.ofChange octetOrderSpec)) octetOrderCard

/-- THE TIED CARD OF 'sealskinlaw02.OctetTexts'. -/
def octetTextsCard : Claim7 := { stood := { row := octetTextsRow, standIns := [], harness := (true, "eef4024bc0a88999099e1a62d3b35ba3202acbf9305fd495ca66ff577e62fe3e"), looks := false }, kinds := [], alts := [], laidByText := true, laidKinds := [.data, .pinned], laidTests := true, laidLooks := .later }
def OctetTextsCardSaid : Prop := Claim7.holds Tryd.pinned (.plain (OpenSpec.ofChange octetTextsSpec)) octetTextsCard

/-- THE TIED CARD OF 'sealskinlaw02.OctetNobody'. -/
def octetNobodyCard : Claim7 := { stood := { row := octetNobodyRow, standIns := [], harness := (true, "eef4024bc0a88999099e1a62d3b35ba3202acbf9305fd495ca66ff577e62fe3e"), looks := false }, kinds := [], alts := [], laidByText := true, laidKinds := [.data, .pinned], laidTests := true, laidLooks := .later }
def OctetNobodyCardSaid : Prop := Claim7.holds Tryd.pinned (.plain (OpenSpec.ofChange octetNobodySpec)) octetNobodyCard

/-- THE SECOND FORM's CARD OF 'sealskinlaw02.OctetCut'. -/
def octetCutUptoCard : Claim7 := { stood := { row := octetCutUptoRow, standIns := [], harness := (true, "eef4024bc0a88999099e1a62d3b35ba3202acbf9305fd495ca66ff577e62fe3e"), looks := false }, kinds := [], alts := [], laidByText := true, laidKinds := [.data, .pinned], laidTests := true, laidLooks := .later }
def OctetCutUptoCardSaid : Prop := Claim7.holds Tryd.pinned (.plain (OpenSpec.upto octetCutSpec)) octetCutUptoCard

/-- THE SECOND FORM's CARD OF 'sealskinlaw02.OctetOrder'. -/
def octetOrderUptoCard : Claim7 := { stood := { row := octetOrderUptoRow, standIns := [], harness := (true, "eef4024bc0a88999099e1a62d3b35ba3202acbf9305fd495ca66ff577e62fe3e"), looks := false }, kinds := [], alts := [], laidByText := true, laidKinds := [.data, .pinned], laidTests := true, laidLooks := .later }
def OctetOrderUptoCardSaid : Prop := Claim7.holds Tryd.pinned (.plain (OpenSpec.upto octetOrderSpec)) octetOrderUptoCard

/-- THE SECOND FORM's CARD OF 'sealskinlaw02.OctetTexts'. -/
def octetTextsUptoCard : Claim7 := { stood := { row := octetTextsUptoRow, standIns := [], harness := (true, "eef4024bc0a88999099e1a62d3b35ba3202acbf9305fd495ca66ff577e62fe3e"), looks := false }, kinds := [], alts := [], laidByText := true, laidKinds := [.data, .pinned], laidTests := true, laidLooks := .later }
def OctetTextsUptoCardSaid : Prop := Claim7.holds Tryd.pinned (.plain (OpenSpec.upto octetTextsSpec)) octetTextsUptoCard

/-- THE SECOND FORM's CARD OF 'sealskinlaw02.OctetNobody'. -/
def octetNobodyUptoCard : Claim7 := { stood := { row := octetNobodyUptoRow, standIns := [], harness := (true, "eef4024bc0a88999099e1a62d3b35ba3202acbf9305fd495ca66ff577e62fe3e"), looks := false }, kinds := [], alts := [], laidByText := true, laidKinds := [.data, .pinned], laidTests := true, laidLooks := .later }
def OctetNobodyUptoCardSaid : Prop := Claim7.holds Tryd.pinned (.plain (OpenSpec.upto octetNobodySpec)) octetNobodyUptoCard
end Rows
end Go.Proofs.YtbahnkomdndmkadDoor
