/-
  DERIVED. GIVEN WITH THE SEED: THE CARDS: each row of YtihiengejpjbkaaDoorRows.lean that lists a variable, with what it lists TIED to the program's text (the seventh form; the later family's looks); each row that meets fmt, with fmt's text TOLD by the authors' own Lean function (tested against real Go, not proved from fmt's source: count such statements apart). THE CARD IS WHAT COUNTS. Prove the row's statement (the work); the ties are given (YtihiengejpjbkaaDoorTie.lean); close each card by the builder's one call (the guide's Derived/Test/ToyasCard.lean, 'card_holds'). Laid BY PROGRAM, IN A SANDBOX (cutbox-door.mjs). By AI agents, Wed Nov 11 2026. No macro, syntax, notation, axiom, sorry.
-/
import Derived.Test.YtihiengejpjbkaaDoorRows
import GoSem.ClaimSeven
namespace Go.Proofs.YtihiengejpjbkaaDoor
namespace Rows

/-- THE TIED CARD OF 'sealskinlaw17.UndoPlays'. -/
def undoPlaysCard : Claim7 := { stood := { row := undoPlaysRow, standIns := [], harness := (true, "131fc772b3c82446926fe3143f713bd2849d06781200dc444511a86987d9783a"), looks := false }, kinds := [], alts := [], laidByText := true, laidKinds := [.data, .pinned], laidTests := true, laidLooks := .later }
def UndoPlaysCardSaid : Prop := Claim7.holds Tryd.pinned (.plain (OpenSpec.ofChange undoPlaysSpec)) undoPlaysCard

/-- THE TIED CARD OF 'sealskinlaw17.UndoBack'. -/
def undoBackCard : Claim7 := { stood := { row := undoBackRow, standIns := [], harness := (true, "131fc772b3c82446926fe3143f713bd2849d06781200dc444511a86987d9783a"), looks := false }, kinds := [], alts := [], laidByText := true, laidKinds := [.data, .pinned], laidTests := true, laidLooks := .later }
def UndoBackCardSaid : Prop := Claim7.holds Tryd.pinned (.plain (OpenSpec.ofChange undoBackSpec)) undoBackCard

/-- THE TIED CARD OF 'sealskinlaw17.UndoOthers'. -/
def undoOthersCard : Claim7 := { stood := { row := undoOthersRow, standIns := [], harness := (true, "131fc772b3c82446926fe3143f713bd2849d06781200dc444511a86987d9783a"), looks := false }, kinds := [], alts := [], laidByText := true, laidKinds := [.data, .pinned], laidTests := true, laidLooks := .later }
def UndoOthersCardSaid : Prop := Claim7.holds Tryd.pinned (.plain (OpenSpec.ofChange undoOthersSpec)) undoOthersCard

/-- THE TIED CARD OF 'sealskinlaw17.UndoAll'. -/
def undoAllCard : Claim7 := { stood := { row := undoAllRow, standIns := [], harness := (true, "131fc772b3c82446926fe3143f713bd2849d06781200dc444511a86987d9783a"), looks := false }, kinds := [], alts := [], laidByText := true, laidKinds := [.data, .pinned], laidTests := true, laidLooks := .later }
def UndoAllCardSaid : Prop := Claim7.holds Tryd.pinned (.plain (OpenSpec.ofChange undoAllSpec)) undoAllCard

/-- THE TIED CARD OF 'sealskinlaw17.UndoFits'. -/
def undoFitsCard : Claim7 := { stood := { row := undoFitsRow, standIns := [], harness := (true, "131fc772b3c82446926fe3143f713bd2849d06781200dc444511a86987d9783a"), looks := false }, kinds := [], alts := [], laidByText := true, laidKinds := [.data, .pinned], laidTests := true, laidLooks := .later }
def UndoFitsCardSaid : Prop := Claim7.holds Tryd.pinned (.plain (OpenSpec.ofChange undoFitsSpec)) undoFitsCard

/-- THE TIED CARD OF 'sealskinlaw17.UndoMost'. -/
def undoMostCard : Claim7 := { stood := { row := undoMostRow, standIns := [], harness := (true, "131fc772b3c82446926fe3143f713bd2849d06781200dc444511a86987d9783a"), looks := false }, kinds := [], alts := [], laidByText := true, laidKinds := [.data, .pinned], laidTests := true, laidLooks := .later }
def UndoMostCardSaid : Prop := Claim7.holds Tryd.pinned (.plain (OpenSpec.ofChange undoMostSpec)) undoMostCard

/-- THE TIED CARD OF 'sealskinlaw17.UndoNobody'. -/
def undoNobodyCard : Claim7 := { stood := { row := undoNobodyRow, standIns := [], harness := (true, "131fc772b3c82446926fe3143f713bd2849d06781200dc444511a86987d9783a"), looks := false }, kinds := [], alts := [], laidByText := true, laidKinds := [.data, .pinned], laidTests := true, laidLooks := .later }
def UndoNobodyCardSaid : Prop := Claim7.holds Tryd.pinned (.plain (OpenSpec.ofChange undoNobodySpec)) undoNobodyCard

/-- THE SECOND FORM's CARD OF 'sealskinlaw17.UndoPlays'. -/
def undoPlaysUptoCard : Claim7 := { stood := { row := undoPlaysUptoRow, standIns := [], harness := (true, "131fc772b3c82446926fe3143f713bd2849d06781200dc444511a86987d9783a"), looks := false }, kinds := [], alts := [], laidByText := true, laidKinds := [.data, .pinned], laidTests := true, laidLooks := .later }
def UndoPlaysUptoCardSaid : Prop := Claim7.holds Tryd.pinned (.plain (OpenSpec.upto undoPlaysSpec)) undoPlaysUptoCard

/-- THE SECOND FORM's CARD OF 'sealskinlaw17.UndoBack'. -/
def undoBackUptoCard : Claim7 := { stood := { row := undoBackUptoRow, standIns := [], harness := (true, "131fc772b3c82446926fe3143f713bd2849d06781200dc444511a86987d9783a"), looks := false }, kinds := [], alts := [], laidByText := true, laidKinds := [.data, .pinned], laidTests := true, laidLooks := .later }
def UndoBackUptoCardSaid : Prop := Claim7.holds Tryd.pinned (.plain (OpenSpec.upto undoBackSpec)) undoBackUptoCard

/-- THE SECOND FORM's CARD OF 'sealskinlaw17.UndoOthers'. -/
def undoOthersUptoCard : Claim7 := { stood := { row := undoOthersUptoRow, standIns := [], harness := (true, "131fc772b3c82446926fe3143f713bd2849d06781200dc444511a86987d9783a"), looks := false }, kinds := [], alts := [], laidByText := true, laidKinds := [.data, .pinned], laidTests := true, laidLooks := .later }
def UndoOthersUptoCardSaid : Prop := Claim7.holds Tryd.pinned (.plain (OpenSpec.upto undoOthersSpec)) undoOthersUptoCard

/-- THE SECOND FORM's CARD OF 'sealskinlaw17.UndoAll'. -/
def undoAllUptoCard : Claim7 := { stood := { row := undoAllUptoRow, standIns := [], harness := (true, "131fc772b3c82446926fe3143f713bd2849d06781200dc444511a86987d9783a"), looks := false }, kinds := [], alts := [], laidByText := true, laidKinds := [.data, .pinned], laidTests := true, laidLooks := .later }
def UndoAllUptoCardSaid : Prop := Claim7.holds Tryd.pinned (.plain (OpenSpec.upto undoAllSpec)) undoAllUptoCard

/-- THE SECOND FORM's CARD OF 'sealskinlaw17.UndoFits'. -/
def undoFitsUptoCard : Claim7 := { stood := { row := undoFitsUptoRow, standIns := [], harness := (true, "131fc772b3c82446926fe3143f713bd2849d06781200dc444511a86987d9783a"), looks := false }, kinds := [], alts := [], laidByText := true, laidKinds := [.data, .pinned], laidTests := true, laidLooks := .later }
def UndoFitsUptoCardSaid : Prop := Claim7.holds Tryd.pinned (.plain (OpenSpec.upto undoFitsSpec)) undoFitsUptoCard

/-- THE SECOND FORM's CARD OF 'sealskinlaw17.UndoMost'. -/
def undoMostUptoCard : Claim7 := { stood := { row := undoMostUptoRow, standIns := [], harness := (true, "131fc772b3c82446926fe3143f713bd2849d06781200dc444511a86987d9783a"), looks := false }, kinds := [], alts := [], laidByText := true, laidKinds := [.data, .pinned], laidTests := true, laidLooks := .later }
def UndoMostUptoCardSaid : Prop := Claim7.holds Tryd.pinned (.plain (OpenSpec.upto undoMostSpec)) undoMostUptoCard

/-- THE SECOND FORM's CARD OF 'sealskinlaw17.UndoNobody'. -/
def undoNobodyUptoCard : Claim7 := { stood := { row := undoNobodyUptoRow, standIns := [], harness := (true, "131fc772b3c82446926fe3143f713bd2849d06781200dc444511a86987d9783a"), looks := false }, kinds := [], alts := [], laidByText := true, laidKinds := [.data, .pinned], laidTests := true, laidLooks := .later }
def UndoNobodyUptoCardSaid : Prop := Claim7.holds Tryd.pinned (.plain (OpenSpec.upto undoNobodySpec)) undoNobodyUptoCard
end Rows
end Go.Proofs.YtihiengejpjbkaaDoor
