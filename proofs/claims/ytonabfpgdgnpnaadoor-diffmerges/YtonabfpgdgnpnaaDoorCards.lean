/-
  DERIVED. GIVEN WITH THE SEED: THE CARDS: each row of YtonabfpgdgnpnaaDoorRows.lean that lists a variable, with what it lists TIED to the program's text (the seventh form; the later family's looks); each row that meets fmt, with fmt's text TOLD by the authors' own Lean function (tested against real Go, not proved from fmt's source: count such statements apart). THE CARD IS WHAT COUNTS. Prove the row's statement (the work); the ties are given (YtonabfpgdgnpnaaDoorTie.lean); close each card by the builder's one call (the guide's Derived/Test/ToyasCard.lean, 'card_holds'). Laid BY PROGRAM, IN A SANDBOX (cutbox-door.mjs). By AI agents, Wed Nov 11 2026. No macro, syntax, notation, axiom, sorry.
-/
import Derived.Test.YtonabfpgdgnpnaaDoorRows
import GoSem.ClaimSeven
namespace Go.Proofs.YtonabfpgdgnpnaaDoor
namespace Rows

/-- THE TIED CARD OF 'sealskinlaw10.DiffDiffs'. -/
def diffDiffsCard : Claim7 := { stood := { row := diffDiffsRow, standIns := [], harness := (true, "9ad5afe139f085458b205e27a23357c3344457c0fbae31a4e0538bffc3caa9ce"), looks := false }, kinds := [], alts := [], laidByText := true, laidKinds := [.data, .pinned], laidTests := true, laidLooks := .later }
def DiffDiffsCardSaid : Prop := Claim7.holds Tryd.pinned (.plain (OpenSpec.ofChange diffDiffsSpec)) diffDiffsCard

/-- THE TIED CARD OF 'sealskinlaw10.DiffKept'. -/
def diffKeptCard : Claim7 := { stood := { row := diffKeptRow, standIns := [], harness := (true, "9ad5afe139f085458b205e27a23357c3344457c0fbae31a4e0538bffc3caa9ce"), looks := false }, kinds := [], alts := [], laidByText := true, laidKinds := [.data, .pinned], laidTests := true, laidLooks := .later }
def DiffKeptCardSaid : Prop := Claim7.holds Tryd.pinned (.plain (OpenSpec.ofChange diffKeptSpec)) diffKeptCard

/-- THE TIED CARD OF 'sealskinlaw10.DiffLeads'. -/
def diffLeadsCard : Claim7 := { stood := { row := diffLeadsRow, standIns := [], harness := (true, "9ad5afe139f085458b205e27a23357c3344457c0fbae31a4e0538bffc3caa9ce"), looks := false }, kinds := [], alts := [], laidByText := true, laidKinds := [.data, .pinned], laidTests := true, laidLooks := .later }
def DiffLeadsCardSaid : Prop := Claim7.holds Tryd.pinned (.plain (OpenSpec.ofChange diffLeadsSpec)) diffLeadsCard

/-- THE TIED CARD OF 'sealskinlaw10.DiffShort'. -/
def diffShortCard : Claim7 := { stood := { row := diffShortRow, standIns := [], harness := (true, "9ad5afe139f085458b205e27a23357c3344457c0fbae31a4e0538bffc3caa9ce"), looks := false }, kinds := [], alts := [], laidByText := true, laidKinds := [.data, .pinned], laidTests := true, laidLooks := .later }
def DiffShortCardSaid : Prop := Claim7.holds Tryd.pinned (.plain (OpenSpec.ofChange diffShortSpec)) diffShortCard

/-- THE TIED CARD OF 'sealskinlaw10.DiffMerges'. -/
def diffMergesCard : Claim7 := { stood := { row := diffMergesRow, standIns := [], harness := (true, "9ad5afe139f085458b205e27a23357c3344457c0fbae31a4e0538bffc3caa9ce"), looks := false }, kinds := [], alts := [], laidByText := true, laidKinds := [.data, .pinned], laidTests := true, laidLooks := .later }
def DiffMergesCardSaid : Prop := Claim7.holds Tryd.pinned (.plain (OpenSpec.ofChange diffMergesSpec)) diffMergesCard

/-- THE TIED CARD OF 'sealskinlaw10.DiffOne'. -/
def diffOneCard : Claim7 := { stood := { row := diffOneRow, standIns := [], harness := (true, "9ad5afe139f085458b205e27a23357c3344457c0fbae31a4e0538bffc3caa9ce"), looks := false }, kinds := [], alts := [], laidByText := true, laidKinds := [.data, .pinned], laidTests := true, laidLooks := .later }
def DiffOneCardSaid : Prop := Claim7.holds Tryd.pinned (.plain (OpenSpec.ofChange diffOneSpec)) diffOneCard

/-- THE TIED CARD OF 'sealskinlaw10.DiffEither'. -/
def diffEitherCard : Claim7 := { stood := { row := diffEitherRow, standIns := [], harness := (true, "9ad5afe139f085458b205e27a23357c3344457c0fbae31a4e0538bffc3caa9ce"), looks := false }, kinds := [], alts := [], laidByText := true, laidKinds := [.data, .pinned], laidTests := true, laidLooks := .later }
def DiffEitherCardSaid : Prop := Claim7.holds Tryd.pinned (.plain (OpenSpec.ofChange diffEitherSpec)) diffEitherCard

/-- THE TIED CARD OF 'sealskinlaw10.DiffLong'. -/
def diffLongCard : Claim7 := { stood := { row := diffLongRow, standIns := [], harness := (true, "9ad5afe139f085458b205e27a23357c3344457c0fbae31a4e0538bffc3caa9ce"), looks := false }, kinds := [], alts := [], laidByText := true, laidKinds := [.data, .pinned], laidTests := true, laidLooks := .later }
def DiffLongCardSaid : Prop := Claim7.holds Tryd.pinned (.plain (OpenSpec.ofChange diffLongSpec)) diffLongCard

/-- THE SECOND FORM's CARD OF 'sealskinlaw10.DiffDiffs'. -/
def diffDiffsUptoCard : Claim7 := { stood := { row := diffDiffsUptoRow, standIns := [], harness := (true, "9ad5afe139f085458b205e27a23357c3344457c0fbae31a4e0538bffc3caa9ce"), looks := false }, kinds := [], alts := [], laidByText := true, laidKinds := [.data, .pinned], laidTests := true, laidLooks := .later }
def DiffDiffsUptoCardSaid : Prop := Claim7.holds Tryd.pinned (.plain (OpenSpec.upto diffDiffsSpec)) diffDiffsUptoCard

/-- THE SECOND FORM's CARD OF 'sealskinlaw10.DiffKept'. -/
def diffKeptUptoCard : Claim7 := { stood := { row := diffKeptUptoRow, standIns := [], harness := (true, "9ad5afe139f085458b205e27a23357c3344457c0fbae31a4e0538bffc3caa9ce"), looks := false }, kinds := [], alts := [], laidByText := true, laidKinds := [.data, .pinned], laidTests := true, laidLooks := .later }
def DiffKeptUptoCardSaid : Prop := Claim7.holds Tryd.pinned (.plain (OpenSpec.upto diffKeptSpec)) diffKeptUptoCard

/-- THE SECOND FORM's CARD OF 'sealskinlaw10.DiffLeads'. -/
def diffLeadsUptoCard : Claim7 := { stood := { row := diffLeadsUptoRow, standIns := [], harness := (true, "9ad5afe139f085458b205e27a23357c3344457c0fbae31a4e0538bffc3caa9ce"), looks := false }, kinds := [], alts := [], laidByText := true, laidKinds := [.data, .pinned], laidTests := true, laidLooks := .later }
def DiffLeadsUptoCardSaid : Prop := Claim7.holds Tryd.pinned (.plain (OpenSpec.upto diffLeadsSpec)) diffLeadsUptoCard

/-- THE SECOND FORM's CARD OF 'sealskinlaw10.DiffShort'. -/
def diffShortUptoCard : Claim7 := { stood := { row := diffShortUptoRow, standIns := [], harness := (true, "9ad5afe139f085458b205e27a23357c3344457c0fbae31a4e0538bffc3caa9ce"), looks := false }, kinds := [], alts := [], laidByText := true, laidKinds := [.data, .pinned], laidTests := true, laidLooks := .later }
def DiffShortUptoCardSaid : Prop := Claim7.holds Tryd.pinned (.plain (OpenSpec.upto diffShortSpec)) diffShortUptoCard

/-- THE SECOND FORM's CARD OF 'sealskinlaw10.DiffMerges'. -/
def diffMergesUptoCard : Claim7 := { stood := { row := diffMergesUptoRow, standIns := [], harness := (true, "9ad5afe139f085458b205e27a23357c3344457c0fbae31a4e0538bffc3caa9ce"), looks := false }, kinds := [], alts := [], laidByText := true, laidKinds := [.data, .pinned], laidTests := true, laidLooks := .later }
def DiffMergesUptoCardSaid : Prop := Claim7.holds Tryd.pinned (.plain (OpenSpec.upto diffMergesSpec)) diffMergesUptoCard

/-- THE SECOND FORM's CARD OF 'sealskinlaw10.DiffOne'. -/
def diffOneUptoCard : Claim7 := { stood := { row := diffOneUptoRow, standIns := [], harness := (true, "9ad5afe139f085458b205e27a23357c3344457c0fbae31a4e0538bffc3caa9ce"), looks := false }, kinds := [], alts := [], laidByText := true, laidKinds := [.data, .pinned], laidTests := true, laidLooks := .later }
def DiffOneUptoCardSaid : Prop := Claim7.holds Tryd.pinned (.plain (OpenSpec.upto diffOneSpec)) diffOneUptoCard

/-- THE SECOND FORM's CARD OF 'sealskinlaw10.DiffEither'. -/
def diffEitherUptoCard : Claim7 := { stood := { row := diffEitherUptoRow, standIns := [], harness := (true, "9ad5afe139f085458b205e27a23357c3344457c0fbae31a4e0538bffc3caa9ce"), looks := false }, kinds := [], alts := [], laidByText := true, laidKinds := [.data, .pinned], laidTests := true, laidLooks := .later }
def DiffEitherUptoCardSaid : Prop := Claim7.holds Tryd.pinned (.plain (OpenSpec.upto diffEitherSpec)) diffEitherUptoCard

/-- THE SECOND FORM's CARD OF 'sealskinlaw10.DiffLong'. -/
def diffLongUptoCard : Claim7 := { stood := { row := diffLongUptoRow, standIns := [], harness := (true, "9ad5afe139f085458b205e27a23357c3344457c0fbae31a4e0538bffc3caa9ce"), looks := false }, kinds := [], alts := [], laidByText := true, laidKinds := [.data, .pinned], laidTests := true, laidLooks := .later }
def DiffLongUptoCardSaid : Prop := Claim7.holds Tryd.pinned (.plain (OpenSpec.upto diffLongSpec)) diffLongUptoCard
end Rows
end Go.Proofs.YtonabfpgdgnpnaaDoor
