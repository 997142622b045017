/-
  DERIVED. GIVEN WITH THE SEED: THE CARDS: each row of YtlgbkkfkobijpabDoorRows.lean that lists a variable, with what it lists TIED to the program's text (the seventh form; the later family's looks); each row that meets fmt, with fmt's text TOLD by the authors' own Lean function (tested against real Go, not proved from fmt's source: count such statements apart). THE CARD IS WHAT COUNTS. Prove the row's statement (the work); the ties are given (YtlgbkkfkobijpabDoorTie.lean); close each card by the builder's one call (the guide's Derived/Test/ToyasCard.lean, 'card_holds'). Laid BY PROGRAM, IN A SANDBOX (cutbox-door.mjs). By AI agents, Wed Nov 11 2026. No macro, syntax, notation, axiom, sorry.
-/
import Derived.Test.YtlgbkkfkobijpabDoorRows
import GoSem.ClaimSeven
namespace Go.Proofs.YtlgbkkfkobijpabDoor
namespace Rows

/-- THE TIED CARD OF 'sealskinlaw07.HashEquals'. -/
def hashEqualsCard : Claim7 := { stood := { row := hashEqualsRow, standIns := [], harness := (true, "e7df7f964b98d6b8b0054b3e25d2cc6b8391ab04a5a115f0ed55a76901f2ee2a"), looks := false }, kinds := [], alts := [], laidByText := true, laidKinds := [.data, .data], laidTests := true, laidLooks := .later }
def HashEqualsCardSaid : Prop := Claim7.holds Tryd.pinned (.plain (OpenSpec.ofChange hashEqualsSpec)) hashEqualsCard

/-- THE TIED CARD OF 'sealskinlaw07.HashKept'. -/
def hashKeptCard : Claim7 := { stood := { row := hashKeptRow, standIns := [], harness := (true, "e7df7f964b98d6b8b0054b3e25d2cc6b8391ab04a5a115f0ed55a76901f2ee2a"), looks := false }, kinds := [], alts := [], laidByText := true, laidKinds := [.data, .data], laidTests := true, laidLooks := .later }
def HashKeptCardSaid : Prop := Claim7.holds Tryd.pinned (.plain (OpenSpec.ofChange hashKeptSpec)) hashKeptCard

/-- THE TIED CARD OF 'sealskinlaw07.HashNobody'. -/
def hashNobodyCard : Claim7 := { stood := { row := hashNobodyRow, standIns := [], harness := (true, "e7df7f964b98d6b8b0054b3e25d2cc6b8391ab04a5a115f0ed55a76901f2ee2a"), looks := false }, kinds := [], alts := [], laidByText := true, laidKinds := [.data, .data], laidTests := true, laidLooks := .later }
def HashNobodyCardSaid : Prop := Claim7.holds Tryd.pinned (.plain (OpenSpec.ofChange hashNobodySpec)) hashNobodyCard

/-- THE TIED CARD OF 'sealskinlaw08.CipherTurns'. -/
def cipherTurnsCard : Claim7 := { stood := { row := cipherTurnsRow, standIns := [], harness := (true, "e7df7f964b98d6b8b0054b3e25d2cc6b8391ab04a5a115f0ed55a76901f2ee2a"), looks := false }, kinds := [], alts := [], laidByText := true, laidKinds := [.data, .data, .data], laidTests := true, laidLooks := .later }
def CipherTurnsCardSaid : Prop := Claim7.holds Tryd.pinned (.plain (OpenSpec.ofChange cipherTurnsSpec)) cipherTurnsCard

/-- THE TIED CARD OF 'sealskinlaw08.CipherSeals'. -/
def cipherSealsCard : Claim7 := { stood := { row := cipherSealsRow, standIns := [], harness := (true, "e7df7f964b98d6b8b0054b3e25d2cc6b8391ab04a5a115f0ed55a76901f2ee2a"), looks := false }, kinds := [], alts := [], laidByText := true, laidKinds := [.data, .data, .data], laidTests := true, laidLooks := .later }
def CipherSealsCardSaid : Prop := Claim7.holds Tryd.pinned (.plain (OpenSpec.ofChange cipherSealsSpec)) cipherSealsCard

/-- THE TIED CARD OF 'sealskinlaw08.CipherOpens'. -/
def cipherOpensCard : Claim7 := { stood := { row := cipherOpensRow, standIns := [], harness := (true, "e7df7f964b98d6b8b0054b3e25d2cc6b8391ab04a5a115f0ed55a76901f2ee2a"), looks := false }, kinds := [], alts := [], laidByText := true, laidKinds := [.data, .data, .data], laidTests := true, laidLooks := .later }
def CipherOpensCardSaid : Prop := Claim7.holds Tryd.pinned (.plain (OpenSpec.ofChange cipherOpensSpec)) cipherOpensCard

/-- THE SECOND FORM's CARD OF 'sealskinlaw07.HashEquals'. -/
def hashEqualsUptoCard : Claim7 := { stood := { row := hashEqualsUptoRow, standIns := [], harness := (true, "e7df7f964b98d6b8b0054b3e25d2cc6b8391ab04a5a115f0ed55a76901f2ee2a"), looks := false }, kinds := [], alts := [], laidByText := true, laidKinds := [.data, .data], laidTests := true, laidLooks := .later }
def HashEqualsUptoCardSaid : Prop := Claim7.holds Tryd.pinned (.plain (OpenSpec.upto hashEqualsSpec)) hashEqualsUptoCard

/-- THE SECOND FORM's CARD OF 'sealskinlaw07.HashKept'. -/
def hashKeptUptoCard : Claim7 := { stood := { row := hashKeptUptoRow, standIns := [], harness := (true, "e7df7f964b98d6b8b0054b3e25d2cc6b8391ab04a5a115f0ed55a76901f2ee2a"), looks := false }, kinds := [], alts := [], laidByText := true, laidKinds := [.data, .data], laidTests := true, laidLooks := .later }
def HashKeptUptoCardSaid : Prop := Claim7.holds Tryd.pinned (.plain (OpenSpec.upto hashKeptSpec)) hashKeptUptoCard

/-- THE SECOND FORM's CARD OF 'sealskinlaw07.HashNobody'. -/
def hashNobodyUptoCard : Claim7 := { stood := { row := hashNobodyUptoRow, standIns := [], harness := (true, "e7df7f964b98d6b8b0054b3e25d2cc6b8391ab04a5a115f0ed55a76901f2ee2a"), looks := false }, kinds := [], alts := [], laidByText := true, laidKinds := [.data, .data], laidTests := true, laidLooks := .later }
def HashNobodyUptoCardSaid : Prop := Claim7.holds Tryd.pinned (.plain (OpenSpec.upto hashNobodySpec)) hashNobodyUptoCard

/-- THE SECOND FORM's CARD OF 'sealskinlaw08.CipherTurns'. -/
def cipherTurnsUptoCard : Claim7 := { stood := { row := cipherTurnsUptoRow, standIns := [], harness := (true, "e7df7f964b98d6b8b0054b3e25d2cc6b8391ab04a5a115f0ed55a76901f2ee2a"), looks := false }, kinds := [], alts := [], laidByText := true, laidKinds := [.data, .data, .data], laidTests := true, laidLooks := .later }
def CipherTurnsUptoCardSaid : Prop := Claim7.holds Tryd.pinned (.plain (OpenSpec.upto cipherTurnsSpec)) cipherTurnsUptoCard

/-- THE SECOND FORM's CARD OF 'sealskinlaw08.CipherSeals'. -/
def cipherSealsUptoCard : Claim7 := { stood := { row := cipherSealsUptoRow, standIns := [], harness := (true, "e7df7f964b98d6b8b0054b3e25d2cc6b8391ab04a5a115f0ed55a76901f2ee2a"), looks := false }, kinds := [], alts := [], laidByText := true, laidKinds := [.data, .data, .data], laidTests := true, laidLooks := .later }
def CipherSealsUptoCardSaid : Prop := Claim7.holds Tryd.pinned (.plain (OpenSpec.upto cipherSealsSpec)) cipherSealsUptoCard

/-- THE SECOND FORM's CARD OF 'sealskinlaw08.CipherOpens'. -/
def cipherOpensUptoCard : Claim7 := { stood := { row := cipherOpensUptoRow, standIns := [], harness := (true, "e7df7f964b98d6b8b0054b3e25d2cc6b8391ab04a5a115f0ed55a76901f2ee2a"), looks := false }, kinds := [], alts := [], laidByText := true, laidKinds := [.data, .data, .data], laidTests := true, laidLooks := .later }
def CipherOpensUptoCardSaid : Prop := Claim7.holds Tryd.pinned (.plain (OpenSpec.upto cipherOpensSpec)) cipherOpensUptoCard
end Rows
end Go.Proofs.YtlgbkkfkobijpabDoor
