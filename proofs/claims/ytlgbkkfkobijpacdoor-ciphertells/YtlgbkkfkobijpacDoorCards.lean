/-
  DERIVED. GIVEN WITH THE SEED: THE CARDS: each row of YtlgbkkfkobijpacDoorRows.lean that lists a variable, with what it lists TIED to the program's text (the seventh form; the later family's looks); each row that meets fmt, with fmt's text TOLD by the authors' own Lean function (tested against real Go, not proved from fmt's source: count such statements apart). THE CARD IS WHAT COUNTS. Prove the row's statement (the work); the ties are given (YtlgbkkfkobijpacDoorTie.lean); close each card by the builder's one call (the guide's Derived/Test/ToyasCard.lean, 'card_holds'). Laid BY PROGRAM, IN A SANDBOX (cutbox-door.mjs). By AI agents, Wed Nov 11 2026. No macro, syntax, notation, axiom, sorry.
-/
import Derived.Test.YtlgbkkfkobijpacDoorRows
import GoSem.ClaimSeven
namespace Go.Proofs.YtlgbkkfkobijpacDoor
namespace Rows

/-- THE TIED CARD OF 'sealskinlaw08.CipherBack'. -/
def cipherBackCard : Claim7 := { stood := { row := cipherBackRow, standIns := [], harness := (true, "3992f22938c2dbe6722b8bf13548d77ea19a2934e6c630abfa47f129d69fb956"), looks := false }, kinds := [], alts := [], laidByText := true, laidKinds := [.data, .data, .data], laidTests := true, laidLooks := .later }
def CipherBackCardSaid : Prop := Claim7.holds Tryd.pinned (.plain (OpenSpec.ofChange cipherBackSpec)) cipherBackCard

/-- THE TIED CARD OF 'sealskinlaw08.CipherForm'. -/
def cipherFormCard : Claim7 := { stood := { row := cipherFormRow, standIns := [], harness := (true, "3992f22938c2dbe6722b8bf13548d77ea19a2934e6c630abfa47f129d69fb956"), looks := false }, kinds := [], alts := [], laidByText := true, laidKinds := [.data, .data, .data], laidTests := true, laidLooks := .later }
def CipherFormCardSaid : Prop := Claim7.holds Tryd.pinned (.plain (OpenSpec.ofChange cipherFormSpec)) cipherFormCard

/-- THE TIED CARD OF 'sealskinlaw08.CipherFronts'. -/
def cipherFrontsCard : Claim7 := { stood := { row := cipherFrontsRow, standIns := [], harness := (true, "3992f22938c2dbe6722b8bf13548d77ea19a2934e6c630abfa47f129d69fb956"), looks := false }, kinds := [], alts := [], laidByText := true, laidKinds := [.data, .data, .data], laidTests := true, laidLooks := .later }
def CipherFrontsCardSaid : Prop := Claim7.holds Tryd.pinned (.plain (OpenSpec.ofChange cipherFrontsSpec)) cipherFrontsCard

/-- THE TIED CARD OF 'sealskinlaw08.CipherTells'. -/
def cipherTellsCard : Claim7 := { stood := { row := cipherTellsRow, standIns := [], harness := (true, "3992f22938c2dbe6722b8bf13548d77ea19a2934e6c630abfa47f129d69fb956"), looks := false }, kinds := [], alts := [], laidByText := true, laidKinds := [.data, .data, .data], laidTests := true, laidLooks := .later }
def CipherTellsCardSaid : Prop := Claim7.holds Tryd.pinned (.plain (OpenSpec.ofChange cipherTellsSpec)) cipherTellsCard

/-- THE SECOND FORM's CARD OF 'sealskinlaw08.CipherBack'. -/
def cipherBackUptoCard : Claim7 := { stood := { row := cipherBackUptoRow, standIns := [], harness := (true, "3992f22938c2dbe6722b8bf13548d77ea19a2934e6c630abfa47f129d69fb956"), looks := false }, kinds := [], alts := [], laidByText := true, laidKinds := [.data, .data, .data], laidTests := true, laidLooks := .later }
def CipherBackUptoCardSaid : Prop := Claim7.holds Tryd.pinned (.plain (OpenSpec.upto cipherBackSpec)) cipherBackUptoCard

/-- THE SECOND FORM's CARD OF 'sealskinlaw08.CipherForm'. -/
def cipherFormUptoCard : Claim7 := { stood := { row := cipherFormUptoRow, standIns := [], harness := (true, "3992f22938c2dbe6722b8bf13548d77ea19a2934e6c630abfa47f129d69fb956"), looks := false }, kinds := [], alts := [], laidByText := true, laidKinds := [.data, .data, .data], laidTests := true, laidLooks := .later }
def CipherFormUptoCardSaid : Prop := Claim7.holds Tryd.pinned (.plain (OpenSpec.upto cipherFormSpec)) cipherFormUptoCard

/-- THE SECOND FORM's CARD OF 'sealskinlaw08.CipherFronts'. -/
def cipherFrontsUptoCard : Claim7 := { stood := { row := cipherFrontsUptoRow, standIns := [], harness := (true, "3992f22938c2dbe6722b8bf13548d77ea19a2934e6c630abfa47f129d69fb956"), looks := false }, kinds := [], alts := [], laidByText := true, laidKinds := [.data, .data, .data], laidTests := true, laidLooks := .later }
def CipherFrontsUptoCardSaid : Prop := Claim7.holds Tryd.pinned (.plain (OpenSpec.upto cipherFrontsSpec)) cipherFrontsUptoCard

/-- THE SECOND FORM's CARD OF 'sealskinlaw08.CipherTells'. -/
def cipherTellsUptoCard : Claim7 := { stood := { row := cipherTellsUptoRow, standIns := [], harness := (true, "3992f22938c2dbe6722b8bf13548d77ea19a2934e6c630abfa47f129d69fb956"), looks := false }, kinds := [], alts := [], laidByText := true, laidKinds := [.data, .data, .data], laidTests := true, laidLooks := .later }
def CipherTellsUptoCardSaid : Prop := Claim7.holds Tryd.pinned (.plain (OpenSpec.upto cipherTellsSpec)) cipherTellsUptoCard
end Rows
end Go.Proofs.YtlgbkkfkobijpacDoor
