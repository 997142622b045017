/-
  DERIVED. GIVEN WITH THE SEED: THE CARDS: each row of YtdnbhomjfgpcfaaDoorRows.lean that lists a variable, with what it lists TIED to the program's text (the seventh form; the later family's looks); each row that meets fmt, with fmt's text TOLD by the authors' own Lean function (tested against real Go, not proved from fmt's source: count such statements apart). THE CARD IS WHAT COUNTS. Prove the row's statement (the work); the ties are given (YtdnbhomjfgpcfaaDoorTie.lean); close each card by the builder's one call (the guide's Derived/Test/ToyasCard.lean, 'card_holds'). Laid BY PROGRAM, IN A SANDBOX (cutbox-door.mjs). By AI agents, Wed Nov 11 2026. No macro, syntax, notation, axiom, sorry.
-/
import Derived.Test.YtdnbhomjfgpcfaaDoorRows
import GoSem.ClaimSeven
namespace Go.Proofs.YtdnbhomjfgpcfaaDoor
namespace Rows

/-- THE TIED CARD OF 'sealskinlaw11.LinesTells'. -/
def linesTellsCard : Claim7 := { stood := { row := linesTellsRow, standIns := [], harness := (true, "0a5577f53bfbc794dcd813eb682dbd8efeb2bd98b3fb966a56acf2d4a021dc13"), looks := false }, kinds := [], alts := [], laidByText := true, laidKinds := [.data, .pinned], laidTests := true, laidLooks := .later }
def LinesTellsCardSaid : Prop := Claim7.holds Tryd.pinned (.plain (OpenSpec.ofChange linesTellsSpec)) linesTellsCard

/-- THE TIED CARD OF 'sealskinlaw11.LinesWords'. -/
def linesWordsCard : Claim7 := { stood := { row := linesWordsRow, standIns := [], harness := (true, "0a5577f53bfbc794dcd813eb682dbd8efeb2bd98b3fb966a56acf2d4a021dc13"), looks := false }, kinds := [], alts := [], laidByText := true, laidKinds := [.data, .pinned], laidTests := true, laidLooks := .later }
def LinesWordsCardSaid : Prop := Claim7.holds Tryd.pinned (.plain (OpenSpec.ofChange linesWordsSpec)) linesWordsCard

/-- THE TIED CARD OF 'sealskinlaw11.LinesFinds'. -/
def linesFindsCard : Claim7 := { stood := { row := linesFindsRow, standIns := [], harness := (true, "0a5577f53bfbc794dcd813eb682dbd8efeb2bd98b3fb966a56acf2d4a021dc13"), looks := false }, kinds := [], alts := [], laidByText := true, laidKinds := [.data, .pinned], laidTests := true, laidLooks := .later }
def LinesFindsCardSaid : Prop := Claim7.holds Tryd.pinned (.plain (OpenSpec.ofChange linesFindsSpec)) linesFindsCard

/-- THE TIED CARD OF 'sealskinlaw11.LinesSwaps'. -/
def linesSwapsCard : Claim7 := { stood := { row := linesSwapsRow, standIns := [], harness := (true, "0a5577f53bfbc794dcd813eb682dbd8efeb2bd98b3fb966a56acf2d4a021dc13"), looks := false }, kinds := [], alts := [], laidByText := true, laidKinds := [.data, .pinned], laidTests := true, laidLooks := .later }
def LinesSwapsCardSaid : Prop := Claim7.holds Tryd.pinned (.plain (OpenSpec.ofChange linesSwapsSpec)) linesSwapsCard

/-- THE TIED CARD OF 'sealskinlaw11.LinesMoves'. -/
def linesMovesCard : Claim7 := { stood := { row := linesMovesRow, standIns := [], harness := (true, "0a5577f53bfbc794dcd813eb682dbd8efeb2bd98b3fb966a56acf2d4a021dc13"), looks := false }, kinds := [], alts := [], laidByText := true, laidKinds := [.data, .pinned], laidTests := true, laidLooks := .later }
def LinesMovesCardSaid : Prop := Claim7.holds Tryd.pinned (.plain (OpenSpec.ofChange linesMovesSpec)) linesMovesCard

/-- THE TIED CARD OF 'sealskinlaw11.LinesTurned'. -/
def linesTurnedCard : Claim7 := { stood := { row := linesTurnedRow, standIns := [], harness := (true, "0a5577f53bfbc794dcd813eb682dbd8efeb2bd98b3fb966a56acf2d4a021dc13"), looks := false }, kinds := [], alts := [], laidByText := true, laidKinds := [.data, .pinned], laidTests := true, laidLooks := .later }
def LinesTurnedCardSaid : Prop := Claim7.holds Tryd.pinned (.plain (OpenSpec.ofChange linesTurnedSpec)) linesTurnedCard

/-- THE TIED CARD OF 'sealskinlaw11.LinesWhole'. -/
def linesWholeCard : Claim7 := { stood := { row := linesWholeRow, standIns := [], harness := (true, "0a5577f53bfbc794dcd813eb682dbd8efeb2bd98b3fb966a56acf2d4a021dc13"), looks := false }, kinds := [], alts := [], laidByText := true, laidKinds := [.data, .pinned], laidTests := true, laidLooks := .later }
def LinesWholeCardSaid : Prop := Claim7.holds Tryd.pinned (.plain (OpenSpec.ofChange linesWholeSpec)) linesWholeCard

/-- THE TIED CARD OF 'sealskinlaw11.LinesBack'. -/
def linesBackCard : Claim7 := { stood := { row := linesBackRow, standIns := [], harness := (true, "0a5577f53bfbc794dcd813eb682dbd8efeb2bd98b3fb966a56acf2d4a021dc13"), looks := false }, kinds := [], alts := [], laidByText := true, laidKinds := [.data, .pinned], laidTests := true, laidLooks := .later }
def LinesBackCardSaid : Prop := Claim7.holds Tryd.pinned (.plain (OpenSpec.ofChange linesBackSpec)) linesBackCard

/-- THE TIED CARD OF 'sealskinlaw11.LinesNobody'. -/
def linesNobodyCard : Claim7 := { stood := { row := linesNobodyRow, standIns := [], harness := (true, "0a5577f53bfbc794dcd813eb682dbd8efeb2bd98b3fb966a56acf2d4a021dc13"), looks := false }, kinds := [], alts := [], laidByText := true, laidKinds := [.data, .pinned], laidTests := true, laidLooks := .later }
def LinesNobodyCardSaid : Prop := Claim7.holds Tryd.pinned (.plain (OpenSpec.ofChange linesNobodySpec)) linesNobodyCard

/-- THE SECOND FORM's CARD OF 'sealskinlaw11.LinesTells'. -/
def linesTellsUptoCard : Claim7 := { stood := { row := linesTellsUptoRow, standIns := [], harness := (true, "0a5577f53bfbc794dcd813eb682dbd8efeb2bd98b3fb966a56acf2d4a021dc13"), looks := false }, kinds := [], alts := [], laidByText := true, laidKinds := [.data, .pinned], laidTests := true, laidLooks := .later }
def LinesTellsUptoCardSaid : Prop := Claim7.holds Tryd.pinned (.plain (OpenSpec.upto linesTellsSpec)) linesTellsUptoCard

/-- THE SECOND FORM's CARD OF 'sealskinlaw11.LinesWords'. -/
def linesWordsUptoCard : Claim7 := { stood := { row := linesWordsUptoRow, standIns := [], harness := (true, "0a5577f53bfbc794dcd813eb682dbd8efeb2bd98b3fb966a56acf2d4a021dc13"), looks := false }, kinds := [], alts := [], laidByText := true, laidKinds := [.data, .pinned], laidTests := true, laidLooks := .later }
def LinesWordsUptoCardSaid : Prop := Claim7.holds Tryd.pinned (.plain (OpenSpec.upto linesWordsSpec)) linesWordsUptoCard

/-- THE SECOND FORM's CARD OF 'sealskinlaw11.LinesFinds'. -/
def linesFindsUptoCard : Claim7 := { stood := { row := linesFindsUptoRow, standIns := [], harness := (true, "0a5577f53bfbc794dcd813eb682dbd8efeb2bd98b3fb966a56acf2d4a021dc13"), looks := false }, kinds := [], alts := [], laidByText := true, laidKinds := [.data, .pinned], laidTests := true, laidLooks := .later }
def LinesFindsUptoCardSaid : Prop := Claim7.holds Tryd.pinned (.plain (OpenSpec.upto linesFindsSpec)) linesFindsUptoCard

/-- THE SECOND FORM's CARD OF 'sealskinlaw11.LinesSwaps'. -/
def linesSwapsUptoCard : Claim7 := { stood := { row := linesSwapsUptoRow, standIns := [], harness := (true, "0a5577f53bfbc794dcd813eb682dbd8efeb2bd98b3fb966a56acf2d4a021dc13"), looks := false }, kinds := [], alts := [], laidByText := true, laidKinds := [.data, .pinned], laidTests := true, laidLooks := .later }
def LinesSwapsUptoCardSaid : Prop := Claim7.holds Tryd.pinned (.plain (OpenSpec.upto linesSwapsSpec)) linesSwapsUptoCard

/-- THE SECOND FORM's CARD OF 'sealskinlaw11.LinesMoves'. -/
def linesMovesUptoCard : Claim7 := { stood := { row := linesMovesUptoRow, standIns := [], harness := (true, "0a5577f53bfbc794dcd813eb682dbd8efeb2bd98b3fb966a56acf2d4a021dc13"), looks := false }, kinds := [], alts := [], laidByText := true, laidKinds := [.data, .pinned], laidTests := true, laidLooks := .later }
def LinesMovesUptoCardSaid : Prop := Claim7.holds Tryd.pinned (.plain (OpenSpec.upto linesMovesSpec)) linesMovesUptoCard

/-- THE SECOND FORM's CARD OF 'sealskinlaw11.LinesTurned'. -/
def linesTurnedUptoCard : Claim7 := { stood := { row := linesTurnedUptoRow, standIns := [], harness := (true, "0a5577f53bfbc794dcd813eb682dbd8efeb2bd98b3fb966a56acf2d4a021dc13"), looks := false }, kinds := [], alts := [], laidByText := true, laidKinds := [.data, .pinned], laidTests := true, laidLooks := .later }
def LinesTurnedUptoCardSaid : Prop := Claim7.holds Tryd.pinned (.plain (OpenSpec.upto linesTurnedSpec)) linesTurnedUptoCard

/-- THE SECOND FORM's CARD OF 'sealskinlaw11.LinesWhole'. -/
def linesWholeUptoCard : Claim7 := { stood := { row := linesWholeUptoRow, standIns := [], harness := (true, "0a5577f53bfbc794dcd813eb682dbd8efeb2bd98b3fb966a56acf2d4a021dc13"), looks := false }, kinds := [], alts := [], laidByText := true, laidKinds := [.data, .pinned], laidTests := true, laidLooks := .later }
def LinesWholeUptoCardSaid : Prop := Claim7.holds Tryd.pinned (.plain (OpenSpec.upto linesWholeSpec)) linesWholeUptoCard

/-- THE SECOND FORM's CARD OF 'sealskinlaw11.LinesBack'. -/
def linesBackUptoCard : Claim7 := { stood := { row := linesBackUptoRow, standIns := [], harness := (true, "0a5577f53bfbc794dcd813eb682dbd8efeb2bd98b3fb966a56acf2d4a021dc13"), looks := false }, kinds := [], alts := [], laidByText := true, laidKinds := [.data, .pinned], laidTests := true, laidLooks := .later }
def LinesBackUptoCardSaid : Prop := Claim7.holds Tryd.pinned (.plain (OpenSpec.upto linesBackSpec)) linesBackUptoCard

/-- THE SECOND FORM's CARD OF 'sealskinlaw11.LinesNobody'. -/
def linesNobodyUptoCard : Claim7 := { stood := { row := linesNobodyUptoRow, standIns := [], harness := (true, "0a5577f53bfbc794dcd813eb682dbd8efeb2bd98b3fb966a56acf2d4a021dc13"), looks := false }, kinds := [], alts := [], laidByText := true, laidKinds := [.data, .pinned], laidTests := true, laidLooks := .later }
def LinesNobodyUptoCardSaid : Prop := Claim7.holds Tryd.pinned (.plain (OpenSpec.upto linesNobodySpec)) linesNobodyUptoCard
end Rows
end Go.Proofs.YtdnbhomjfgpcfaaDoor
