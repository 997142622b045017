/-
  DERIVED. GIVEN WITH THE SEED: THE CARDS: each row of YthhpnakgiammiaaDoorRows.lean that lists a variable, with what it lists TIED to the program's text (the seventh form; the later family's looks); each row that meets fmt, with fmt's text TOLD by the authors' own Lean function (tested against real Go, not proved from fmt's source: count such statements apart). THE CARD IS WHAT COUNTS. Prove the row's statement (the work); the ties are given (YthhpnakgiammiaaDoorTie.lean); close each card by the builder's one call (the guide's Derived/Test/ToyasCard.lean, 'card_holds'). Laid BY PROGRAM, IN A SANDBOX (cutbox-door.mjs). By AI agents, Wed Nov 11 2026. No macro, syntax, notation, axiom, sorry.
-/
import Derived.Test.YthhpnakgiammiaaDoorRows
import GoSem.ClaimSeven
namespace Go.Proofs.YthhpnakgiammiaaDoor
namespace Rows

/-- THE TIED CARD OF 'sealskinlaw08.CipherTurns'. -/
def cipherTurnsCard : Claim7 := { stood := { row := cipherTurnsRow, standIns := [], harness := (true, "5d6a78436c321a5a533519e097c8e846d527fa06c56de9b942a3589989823873"), looks := false }, kinds := [], alts := [], laidByText := true, laidKinds := [.data, .data, .data], laidTests := true, laidLooks := .later }
def CipherTurnsCardSaid : Prop := Claim7.holds Tryd.pinned (.plain (OpenSpec.ofChange cipherTurnsSpec)) cipherTurnsCard

/-- THE TIED CARD OF 'sealskinlaw08.CipherSeals'. -/
def cipherSealsCard : Claim7 := { stood := { row := cipherSealsRow, standIns := [], harness := (true, "5d6a78436c321a5a533519e097c8e846d527fa06c56de9b942a3589989823873"), looks := false }, kinds := [], alts := [], laidByText := true, laidKinds := [.data, .data, .data], laidTests := true, laidLooks := .later }
def CipherSealsCardSaid : Prop := Claim7.holds Tryd.pinned (.plain (OpenSpec.ofChange cipherSealsSpec)) cipherSealsCard

/-- THE TIED CARD OF 'sealskinlaw08.CipherOpens'. -/
def cipherOpensCard : Claim7 := { stood := { row := cipherOpensRow, standIns := [], harness := (true, "5d6a78436c321a5a533519e097c8e846d527fa06c56de9b942a3589989823873"), looks := false }, kinds := [], alts := [], laidByText := true, laidKinds := [.data, .data, .data], laidTests := true, laidLooks := .later }
def CipherOpensCardSaid : Prop := Claim7.holds Tryd.pinned (.plain (OpenSpec.ofChange cipherOpensSpec)) cipherOpensCard

/-- THE TIED CARD OF 'sealskinlaw13.FrameKeys'. -/
def frameKeysCard : Claim7 := { stood := { row := frameKeysRow, standIns := [], harness := (true, "5d6a78436c321a5a533519e097c8e846d527fa06c56de9b942a3589989823873"), looks := false }, kinds := [], alts := [], laidByText := true, laidKinds := [.data, .data, .data, .data, .data, .data, .pinned], laidTests := true, laidLooks := .later }
def FrameKeysCardSaid : Prop := Claim7.holds Tryd.pinned (.plain (OpenSpec.ofChange frameKeysSpec)) frameKeysCard

/-- THE TIED CARD OF 'sealskinlaw13.FrameWraps'. -/
def frameWrapsCard : Claim7 := { stood := { row := frameWrapsRow, standIns := [], harness := (true, "5d6a78436c321a5a533519e097c8e846d527fa06c56de9b942a3589989823873"), looks := false }, kinds := [], alts := [], laidByText := true, laidKinds := [.data, .data, .data, .data, .data, .data, .pinned], laidTests := true, laidLooks := .later }
def FrameWrapsCardSaid : Prop := Claim7.holds Tryd.pinned (.plain (OpenSpec.ofChange frameWrapsSpec)) frameWrapsCard

/-- THE TIED CARD OF 'sealskinlaw13.FrameOpens'. -/
def frameOpensCard : Claim7 := { stood := { row := frameOpensRow, standIns := [], harness := (true, "5d6a78436c321a5a533519e097c8e846d527fa06c56de9b942a3589989823873"), looks := false }, kinds := [], alts := [], laidByText := true, laidKinds := [.data, .data, .data, .data, .data, .data, .pinned], laidTests := true, laidLooks := .later }
def FrameOpensCardSaid : Prop := Claim7.holds Tryd.pinned (.plain (OpenSpec.ofChange frameOpensSpec)) frameOpensCard

/-- THE SECOND FORM's CARD OF 'sealskinlaw08.CipherTurns'. -/
def cipherTurnsUptoCard : Claim7 := { stood := { row := cipherTurnsUptoRow, standIns := [], harness := (true, "5d6a78436c321a5a533519e097c8e846d527fa06c56de9b942a3589989823873"), looks := false }, kinds := [], alts := [], laidByText := true, laidKinds := [.data, .data, .data], laidTests := true, laidLooks := .later }
def CipherTurnsUptoCardSaid : Prop := Claim7.holds Tryd.pinned (.plain (OpenSpec.upto cipherTurnsSpec)) cipherTurnsUptoCard

/-- THE SECOND FORM's CARD OF 'sealskinlaw08.CipherSeals'. -/
def cipherSealsUptoCard : Claim7 := { stood := { row := cipherSealsUptoRow, standIns := [], harness := (true, "5d6a78436c321a5a533519e097c8e846d527fa06c56de9b942a3589989823873"), looks := false }, kinds := [], alts := [], laidByText := true, laidKinds := [.data, .data, .data], laidTests := true, laidLooks := .later }
def CipherSealsUptoCardSaid : Prop := Claim7.holds Tryd.pinned (.plain (OpenSpec.upto cipherSealsSpec)) cipherSealsUptoCard

/-- THE SECOND FORM's CARD OF 'sealskinlaw08.CipherOpens'. -/
def cipherOpensUptoCard : Claim7 := { stood := { row := cipherOpensUptoRow, standIns := [], harness := (true, "5d6a78436c321a5a533519e097c8e846d527fa06c56de9b942a3589989823873"), looks := false }, kinds := [], alts := [], laidByText := true, laidKinds := [.data, .data, .data], laidTests := true, laidLooks := .later }
def CipherOpensUptoCardSaid : Prop := Claim7.holds Tryd.pinned (.plain (OpenSpec.upto cipherOpensSpec)) cipherOpensUptoCard

/-- THE SECOND FORM's CARD OF 'sealskinlaw13.FrameKeys'. -/
def frameKeysUptoCard : Claim7 := { stood := { row := frameKeysUptoRow, standIns := [], harness := (true, "5d6a78436c321a5a533519e097c8e846d527fa06c56de9b942a3589989823873"), looks := false }, kinds := [], alts := [], laidByText := true, laidKinds := [.data, .data, .data, .data, .data, .data, .pinned], laidTests := true, laidLooks := .later }
def FrameKeysUptoCardSaid : Prop := Claim7.holds Tryd.pinned (.plain (OpenSpec.upto frameKeysSpec)) frameKeysUptoCard

/-- THE SECOND FORM's CARD OF 'sealskinlaw13.FrameWraps'. -/
def frameWrapsUptoCard : Claim7 := { stood := { row := frameWrapsUptoRow, standIns := [], harness := (true, "5d6a78436c321a5a533519e097c8e846d527fa06c56de9b942a3589989823873"), looks := false }, kinds := [], alts := [], laidByText := true, laidKinds := [.data, .data, .data, .data, .data, .data, .pinned], laidTests := true, laidLooks := .later }
def FrameWrapsUptoCardSaid : Prop := Claim7.holds Tryd.pinned (.plain (OpenSpec.upto frameWrapsSpec)) frameWrapsUptoCard

/-- THE SECOND FORM's CARD OF 'sealskinlaw13.FrameOpens'. -/
def frameOpensUptoCard : Claim7 := { stood := { row := frameOpensUptoRow, standIns := [], harness := (true, "5d6a78436c321a5a533519e097c8e846d527fa06c56de9b942a3589989823873"), looks := false }, kinds := [], alts := [], laidByText := true, laidKinds := [.data, .data, .data, .data, .data, .data, .pinned], laidTests := true, laidLooks := .later }
def FrameOpensUptoCardSaid : Prop := Claim7.holds Tryd.pinned (.plain (OpenSpec.upto frameOpensSpec)) frameOpensUptoCard
end Rows
end Go.Proofs.YthhpnakgiammiaaDoor
