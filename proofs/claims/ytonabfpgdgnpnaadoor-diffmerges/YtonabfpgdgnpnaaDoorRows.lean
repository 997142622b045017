/-
  NARROWER THAN 'FOR EVERY INPUT', by the rows' own cells (each row's printed sentence says how): DiffDiffs: laid · DiffKept: laid · DiffLeads: laid · DiffShort: laid · DiffMerges: laid · DiffOne: laid · DiffEither: laid · DiffLong: laid.
  DERIVED. THE GIVEN ROWS OF THIS SEAT. 8 by the template 'for every input the law returns true; each argument reads behind the call as it read before'; 0 by the template 'total and deterministic' (their statements: YtonabfpgdgnpnaaDoorTotals.lean).
  GIVEN WITH THE SEED: the statements are not yours to turn. If you find one false, say at which input.
  Laid BY PROGRAM, IN A SANDBOX (cutbox-rows.mjs): the forced cells as the released guide's own fill.sh prints them over the translation 47efaf79191686c8… (all of the seat's roots in one cut). By AI agents, Wed Nov 11 2026. No macro, syntax, notation, axiom, sorry.
-/
import Derived.Test.YtonabfpgdgnpnaaDoorChecked
import GoSem.PinnedTables
import GoSem.Claim
import GoSem.ClaimJoined
import GoSem.ClaimMapViews
import Derived.JoinedTies
import Derived.KernelRfl
namespace Go.Proofs.YtonabfpgdgnpnaaDoor
/- THE CELL 'sum', in the pinned program and in every row, IS THE sha256 OF THE DUMP (.gsa) THAT YtonabfpgdgnpnaaDoorProg.lean LOADS. Nothing in Lean hashes anything: it is a label: what it is worth is what the hold of that sum in a sandbox is worth. -/
noncomputable def Tryd.pinned : Pinned := { name := "ytonabfpgdgnpnaadoor", sum := "47efaf79191686c85fbfde900545d26730953814a4af078973894be2a7e50275", checked := Tryd.checked }
namespace Rows
def none {H : Type} : Left H := { results := [], args := [] }

/- WHAT THE LISTED PACKAGE-LEVEL VARIABLES READ AS WHEN THE CALL BEGINS. Each datum BY PROGRAM (the guide's laid-datum.mjs) off the statement by which the dump's own 'gosem.cut.vars' lays the variable. In a bare row this is a premise. The card (YtonabfpgdgnpnaaDoorCards.lean) ties it to the program's text. -/
def laid_unicode_utf8_acceptRanges {H : Type} : DataW H := .agg [.agg [.lit (.int .u8 128), .lit (.int .u8 191)], .agg [.lit (.int .u8 160), .lit (.int .u8 191)], .agg [.lit (.int .u8 128), .lit (.int .u8 159)], .agg [.lit (.int .u8 144), .lit (.int .u8 191)], .agg [.lit (.int .u8 128), .lit (.int .u8 143)], .agg [.lit (.int .u8 0), .lit (.int .u8 0)], .agg [.lit (.int .u8 0), .lit (.int .u8 0)], .agg [.lit (.int .u8 0), .lit (.int .u8 0)], .agg [.lit (.int .u8 0), .lit (.int .u8 0)], .agg [.lit (.int .u8 0), .lit (.int .u8 0)], .agg [.lit (.int .u8 0), .lit (.int .u8 0)], .agg [.lit (.int .u8 0), .lit (.int .u8 0)], .agg [.lit (.int .u8 0), .lit (.int .u8 0)], .agg [.lit (.int .u8 0), .lit (.int .u8 0)], .agg [.lit (.int .u8 0), .lit (.int .u8 0)], .agg [.lit (.int .u8 0), .lit (.int .u8 0)]]
/-- One of Go's own tables, pinned by name: the form's constant. -/
def laid_unicode_utf8_first : DataW Unit := Go.Pinned.utf8First

/-- 'sealskinlaw10.DiffDiffs': WHATEVER THE INPUT: true; the input reads as it did. -/
def diffDiffsSpec : ChangeSpec := { name := "diffDiffs", fn := fun _ => fun
  | [d1, d2] => { results := [.lit (.bool true)], args := [d1, d2] }
  | _ => none }
def diffDiffsRow : OpenClaim := { program := "ytonabfpgdgnpnaadoor", sum := "47efaf79191686c85fbfde900545d26730953814a4af078973894be2a7e50275", func := "sealskin/sealskinlaw10.DiffDiffs", spec := "diffDiffs", inPlace := ["internal/abi.NoEscape"], unfollowed := true, recurses := true, named := ["unicode/utf8.first", "unicode/utf8.acceptRanges"], apart := false, laid := [("unicode/utf8.acceptRanges", laid_unicode_utf8_acceptRanges), ("unicode/utf8.first", laid_unicode_utf8_first)] }
def DiffDiffsSaid : Prop := diffDiffsRow.holds Tryd.pinned (OpenSpec.ofChange diffDiffsSpec)

/-- ITS FALSE NEIGHBOUR: 'it returns false'. Refute it at one input. -/
def diffDiffsWrong : ChangeSpec := { name := "diffDiffs", fn := fun _ => fun
  | [d1, d2] => { results := [.lit (.bool false)], args := [d1, d2] }
  | _ => none }
def DiffDiffsWrongFalsely : Prop := diffDiffsRow.holds Tryd.pinned (OpenSpec.ofChange diffDiffsWrong)

/-- 'sealskinlaw10.DiffKept': WHATEVER THE INPUT: true; the input reads as it did. -/
def diffKeptSpec : ChangeSpec := { name := "diffKept", fn := fun _ => fun
  | [d1, d2] => { results := [.lit (.bool true)], args := [d1, d2] }
  | _ => none }
def diffKeptRow : OpenClaim := { program := "ytonabfpgdgnpnaadoor", sum := "47efaf79191686c85fbfde900545d26730953814a4af078973894be2a7e50275", func := "sealskin/sealskinlaw10.DiffKept", spec := "diffKept", inPlace := ["internal/abi.NoEscape"], unfollowed := true, recurses := true, named := ["unicode/utf8.first", "unicode/utf8.acceptRanges"], apart := false, laid := [("unicode/utf8.acceptRanges", laid_unicode_utf8_acceptRanges), ("unicode/utf8.first", laid_unicode_utf8_first)] }
def DiffKeptSaid : Prop := diffKeptRow.holds Tryd.pinned (OpenSpec.ofChange diffKeptSpec)

/-- ITS FALSE NEIGHBOUR: 'it returns false'. Refute it at one input. -/
def diffKeptWrong : ChangeSpec := { name := "diffKept", fn := fun _ => fun
  | [d1, d2] => { results := [.lit (.bool false)], args := [d1, d2] }
  | _ => none }
def DiffKeptWrongFalsely : Prop := diffKeptRow.holds Tryd.pinned (OpenSpec.ofChange diffKeptWrong)

/-- 'sealskinlaw10.DiffLeads': WHATEVER THE INPUT: true; the input reads as it did. -/
def diffLeadsSpec : ChangeSpec := { name := "diffLeads", fn := fun _ => fun
  | [d1, d2] => { results := [.lit (.bool true)], args := [d1, d2] }
  | _ => none }
def diffLeadsRow : OpenClaim := { program := "ytonabfpgdgnpnaadoor", sum := "47efaf79191686c85fbfde900545d26730953814a4af078973894be2a7e50275", func := "sealskin/sealskinlaw10.DiffLeads", spec := "diffLeads", inPlace := ["internal/abi.NoEscape"], unfollowed := true, recurses := true, named := ["unicode/utf8.first", "unicode/utf8.acceptRanges"], apart := false, laid := [("unicode/utf8.acceptRanges", laid_unicode_utf8_acceptRanges), ("unicode/utf8.first", laid_unicode_utf8_first)] }
def DiffLeadsSaid : Prop := diffLeadsRow.holds Tryd.pinned (OpenSpec.ofChange diffLeadsSpec)

/-- ITS FALSE NEIGHBOUR: 'it returns false'. Refute it at one input. -/
def diffLeadsWrong : ChangeSpec := { name := "diffLeads", fn := fun _ => fun
  | [d1, d2] => { results := [.lit (.bool false)], args := [d1, d2] }
  | _ => none }
def DiffLeadsWrongFalsely : Prop := diffLeadsRow.holds Tryd.pinned (OpenSpec.ofChange diffLeadsWrong)

/-- 'sealskinlaw10.DiffShort': WHATEVER THE INPUT: true; the input reads as it did. -/
def diffShortSpec : ChangeSpec := { name := "diffShort", fn := fun _ => fun
  | [d1, d2] => { results := [.lit (.bool true)], args := [d1, d2] }
  | _ => none }
def diffShortRow : OpenClaim := { program := "ytonabfpgdgnpnaadoor", sum := "47efaf79191686c85fbfde900545d26730953814a4af078973894be2a7e50275", func := "sealskin/sealskinlaw10.DiffShort", spec := "diffShort", inPlace := ["internal/abi.NoEscape"], unfollowed := true, recurses := true, named := ["unicode/utf8.first", "unicode/utf8.acceptRanges"], apart := false, laid := [("unicode/utf8.acceptRanges", laid_unicode_utf8_acceptRanges), ("unicode/utf8.first", laid_unicode_utf8_first)] }
def DiffShortSaid : Prop := diffShortRow.holds Tryd.pinned (OpenSpec.ofChange diffShortSpec)

/-- ITS FALSE NEIGHBOUR: 'it returns false'. Refute it at one input. -/
def diffShortWrong : ChangeSpec := { name := "diffShort", fn := fun _ => fun
  | [d1, d2] => { results := [.lit (.bool false)], args := [d1, d2] }
  | _ => none }
def DiffShortWrongFalsely : Prop := diffShortRow.holds Tryd.pinned (OpenSpec.ofChange diffShortWrong)

/-- 'sealskinlaw10.DiffMerges': WHATEVER THE INPUT: true; the input reads as it did. -/
def diffMergesSpec : ChangeSpec := { name := "diffMerges", fn := fun _ => fun
  | [d1, d2, d3] => { results := [.lit (.bool true)], args := [d1, d2, d3] }
  | _ => none }
def diffMergesRow : OpenClaim := { program := "ytonabfpgdgnpnaadoor", sum := "47efaf79191686c85fbfde900545d26730953814a4af078973894be2a7e50275", func := "sealskin/sealskinlaw10.DiffMerges", spec := "diffMerges", inPlace := ["internal/abi.NoEscape"], unfollowed := true, recurses := true, named := ["unicode/utf8.first", "unicode/utf8.acceptRanges"], apart := false, laid := [("unicode/utf8.acceptRanges", laid_unicode_utf8_acceptRanges), ("unicode/utf8.first", laid_unicode_utf8_first)] }
def DiffMergesSaid : Prop := diffMergesRow.holds Tryd.pinned (OpenSpec.ofChange diffMergesSpec)

/-- ITS FALSE NEIGHBOUR: 'it returns false'. Refute it at one input. -/
def diffMergesWrong : ChangeSpec := { name := "diffMerges", fn := fun _ => fun
  | [d1, d2, d3] => { results := [.lit (.bool false)], args := [d1, d2, d3] }
  | _ => none }
def DiffMergesWrongFalsely : Prop := diffMergesRow.holds Tryd.pinned (OpenSpec.ofChange diffMergesWrong)

/-- 'sealskinlaw10.DiffOne': WHATEVER THE INPUT: true; the input reads as it did. -/
def diffOneSpec : ChangeSpec := { name := "diffOne", fn := fun _ => fun
  | [d1, d2] => { results := [.lit (.bool true)], args := [d1, d2] }
  | _ => none }
def diffOneRow : OpenClaim := { program := "ytonabfpgdgnpnaadoor", sum := "47efaf79191686c85fbfde900545d26730953814a4af078973894be2a7e50275", func := "sealskin/sealskinlaw10.DiffOne", spec := "diffOne", inPlace := ["internal/abi.NoEscape"], unfollowed := true, recurses := true, named := ["unicode/utf8.first", "unicode/utf8.acceptRanges"], apart := false, laid := [("unicode/utf8.acceptRanges", laid_unicode_utf8_acceptRanges), ("unicode/utf8.first", laid_unicode_utf8_first)] }
def DiffOneSaid : Prop := diffOneRow.holds Tryd.pinned (OpenSpec.ofChange diffOneSpec)

/-- ITS FALSE NEIGHBOUR: 'it returns false'. Refute it at one input. -/
def diffOneWrong : ChangeSpec := { name := "diffOne", fn := fun _ => fun
  | [d1, d2] => { results := [.lit (.bool false)], args := [d1, d2] }
  | _ => none }
def DiffOneWrongFalsely : Prop := diffOneRow.holds Tryd.pinned (OpenSpec.ofChange diffOneWrong)

/-- 'sealskinlaw10.DiffEither': WHATEVER THE INPUT: true; the input reads as it did. -/
def diffEitherSpec : ChangeSpec := { name := "diffEither", fn := fun _ => fun
  | [d1, d2, d3] => { results := [.lit (.bool true)], args := [d1, d2, d3] }
  | _ => none }
def diffEitherRow : OpenClaim := { program := "ytonabfpgdgnpnaadoor", sum := "47efaf79191686c85fbfde900545d26730953814a4af078973894be2a7e50275", func := "sealskin/sealskinlaw10.DiffEither", spec := "diffEither", inPlace := ["internal/abi.NoEscape"], unfollowed := true, recurses := true, named := ["unicode/utf8.first", "unicode/utf8.acceptRanges"], apart := false, laid := [("unicode/utf8.acceptRanges", laid_unicode_utf8_acceptRanges), ("unicode/utf8.first", laid_unicode_utf8_first)] }
def DiffEitherSaid : Prop := diffEitherRow.holds Tryd.pinned (OpenSpec.ofChange diffEitherSpec)

/-- ITS FALSE NEIGHBOUR: 'it returns false'. Refute it at one input. -/
def diffEitherWrong : ChangeSpec := { name := "diffEither", fn := fun _ => fun
  | [d1, d2, d3] => { results := [.lit (.bool false)], args := [d1, d2, d3] }
  | _ => none }
def DiffEitherWrongFalsely : Prop := diffEitherRow.holds Tryd.pinned (OpenSpec.ofChange diffEitherWrong)

/-- 'sealskinlaw10.DiffLong': WHATEVER THE INPUT: true; the input reads as it did. -/
def diffLongSpec : ChangeSpec := { name := "diffLong", fn := fun _ => fun
  | [d1, d2, d3] => { results := [.lit (.bool true)], args := [d1, d2, d3] }
  | _ => none }
def diffLongRow : OpenClaim := { program := "ytonabfpgdgnpnaadoor", sum := "47efaf79191686c85fbfde900545d26730953814a4af078973894be2a7e50275", func := "sealskin/sealskinlaw10.DiffLong", spec := "diffLong", inPlace := ["internal/abi.NoEscape"], unfollowed := true, recurses := true, named := ["unicode/utf8.first", "unicode/utf8.acceptRanges"], apart := false, laid := [("unicode/utf8.acceptRanges", laid_unicode_utf8_acceptRanges), ("unicode/utf8.first", laid_unicode_utf8_first)] }
def DiffLongSaid : Prop := diffLongRow.holds Tryd.pinned (OpenSpec.ofChange diffLongSpec)

/-- ITS FALSE NEIGHBOUR: 'it returns false'. Refute it at one input. -/
def diffLongWrong : ChangeSpec := { name := "diffLong", fn := fun _ => fun
  | [d1, d2, d3] => { results := [.lit (.bool false)], args := [d1, d2, d3] }
  | _ => none }
def DiffLongWrongFalsely : Prop := diffLongRow.holds Tryd.pinned (OpenSpec.ofChange diffLongWrong)

/- THE SECOND FORM. 'bulk': how many values and letters a reading holds, each counted each time it is reached (what is shared counts as often as it is met; a slice's spare places count too). A statement '..UptoSaid' is the law's where the arguments, and the package variables that the reading takes, are together of bulk at most 1048576: NARROWER than '..Said'. Prove '..Said' where nothing that the law and all that it calls make is longer than what came in: it says more and counts as full. Else prove '..UptoSaid'. A law counts once. -/
mutual
def uptoBulk {H : Type} : DataW H → Nat
  | .lit (.string bytes) => bytes.length + 1
  | .lit _ => 1
  | .nil => 1
  | .ptr d => uptoBulk d + 1
  | .slice elems spare => uptoBulkAll elems + uptoBulkAll spare + 1
  | .agg parts => uptoBulkAll parts + 1
  | .iface _ d => uptoBulk d + 1
  | .map entries => uptoBulkEntries entries + 1
  | .held _ => 1
def uptoBulkAll {H : Type} : List (DataW H) → Nat
  | [] => 0
  | d :: r => uptoBulk d + uptoBulkAll r
def uptoBulkEntries {H : Type} : List (Lit × DataW H) → Nat
  | [] => 0
  | x :: r => uptoBulkEntry x + uptoBulkEntries r
def uptoBulkEntry {H : Type} : Lit × DataW H → Nat
  | (.string bytes, d) => bytes.length + uptoBulk d + 1
  | (_, d) => uptoBulk d + 1
 end
def uptoSmall : (H : Type) → List (DataW H) → Bool := fun _ ds => decide (uptoBulkAll ds ≤ 1048576)
def OpenSpec.upto (s : _root_.Go.ChangeSpec) : _root_.Go.OpenSpec := { _root_.Go.OpenSpec.ofChange s with cond := some uptoSmall }

/-- 'sealskinlaw10.DiffDiffs', WHERE WHAT IT READS IS OF BULK AT MOST 1048576: true; the input reads as it did. -/
def diffDiffsUptoRow : OpenClaim := { program := "ytonabfpgdgnpnaadoor", sum := "47efaf79191686c85fbfde900545d26730953814a4af078973894be2a7e50275", func := "sealskin/sealskinlaw10.DiffDiffs", spec := "diffDiffs", inPlace := ["internal/abi.NoEscape"], unfollowed := true, recurses := true, named := ["unicode/utf8.first", "unicode/utf8.acceptRanges"], apart := false, laid := [("unicode/utf8.acceptRanges", laid_unicode_utf8_acceptRanges), ("unicode/utf8.first", laid_unicode_utf8_first)], narrowed := true }
def DiffDiffsUptoSaid : Prop := diffDiffsUptoRow.holds Tryd.pinned (OpenSpec.upto diffDiffsSpec)

/-- 'sealskinlaw10.DiffKept', WHERE WHAT IT READS IS OF BULK AT MOST 1048576: true; the input reads as it did. -/
def diffKeptUptoRow : OpenClaim := { program := "ytonabfpgdgnpnaadoor", sum := "47efaf79191686c85fbfde900545d26730953814a4af078973894be2a7e50275", func := "sealskin/sealskinlaw10.DiffKept", spec := "diffKept", inPlace := ["internal/abi.NoEscape"], unfollowed := true, recurses := true, named := ["unicode/utf8.first", "unicode/utf8.acceptRanges"], apart := false, laid := [("unicode/utf8.acceptRanges", laid_unicode_utf8_acceptRanges), ("unicode/utf8.first", laid_unicode_utf8_first)], narrowed := true }
def DiffKeptUptoSaid : Prop := diffKeptUptoRow.holds Tryd.pinned (OpenSpec.upto diffKeptSpec)

/-- 'sealskinlaw10.DiffLeads', WHERE WHAT IT READS IS OF BULK AT MOST 1048576: true; the input reads as it did. -/
def diffLeadsUptoRow : OpenClaim := { program := "ytonabfpgdgnpnaadoor", sum := "47efaf79191686c85fbfde900545d26730953814a4af078973894be2a7e50275", func := "sealskin/sealskinlaw10.DiffLeads", spec := "diffLeads", inPlace := ["internal/abi.NoEscape"], unfollowed := true, recurses := true, named := ["unicode/utf8.first", "unicode/utf8.acceptRanges"], apart := false, laid := [("unicode/utf8.acceptRanges", laid_unicode_utf8_acceptRanges), ("unicode/utf8.first", laid_unicode_utf8_first)], narrowed := true }
def DiffLeadsUptoSaid : Prop := diffLeadsUptoRow.holds Tryd.pinned (OpenSpec.upto diffLeadsSpec)

/-- 'sealskinlaw10.DiffShort', WHERE WHAT IT READS IS OF BULK AT MOST 1048576: true; the input reads as it did. -/
def diffShortUptoRow : OpenClaim := { program := "ytonabfpgdgnpnaadoor", sum := "47efaf79191686c85fbfde900545d26730953814a4af078973894be2a7e50275", func := "sealskin/sealskinlaw10.DiffShort", spec := "diffShort", inPlace := ["internal/abi.NoEscape"], unfollowed := true, recurses := true, named := ["unicode/utf8.first", "unicode/utf8.acceptRanges"], apart := false, laid := [("unicode/utf8.acceptRanges", laid_unicode_utf8_acceptRanges), ("unicode/utf8.first", laid_unicode_utf8_first)], narrowed := true }
def DiffShortUptoSaid : Prop := diffShortUptoRow.holds Tryd.pinned (OpenSpec.upto diffShortSpec)

/-- 'sealskinlaw10.DiffMerges', WHERE WHAT IT READS IS OF BULK AT MOST 1048576: true; the input reads as it did. -/
def diffMergesUptoRow : OpenClaim := { program := "ytonabfpgdgnpnaadoor", sum := "47efaf79191686c85fbfde900545d26730953814a4af078973894be2a7e50275", func := "sealskin/sealskinlaw10.DiffMerges", spec := "diffMerges", inPlace := ["internal/abi.NoEscape"], unfollowed := true, recurses := true, named := ["unicode/utf8.first", "unicode/utf8.acceptRanges"], apart := false, laid := [("unicode/utf8.acceptRanges", laid_unicode_utf8_acceptRanges), ("unicode/utf8.first", laid_unicode_utf8_first)], narrowed := true }
def DiffMergesUptoSaid : Prop := diffMergesUptoRow.holds Tryd.pinned (OpenSpec.upto diffMergesSpec)

/-- 'sealskinlaw10.DiffOne', WHERE WHAT IT READS IS OF BULK AT MOST 1048576: true; the input reads as it did. -/
def diffOneUptoRow : OpenClaim := { program := "ytonabfpgdgnpnaadoor", sum := "47efaf79191686c85fbfde900545d26730953814a4af078973894be2a7e50275", func := "sealskin/sealskinlaw10.DiffOne", spec := "diffOne", inPlace := ["internal/abi.NoEscape"], unfollowed := true, recurses := true, named := ["unicode/utf8.first", "unicode/utf8.acceptRanges"], apart := false, laid := [("unicode/utf8.acceptRanges", laid_unicode_utf8_acceptRanges), ("unicode/utf8.first", laid_unicode_utf8_first)], narrowed := true }
def DiffOneUptoSaid : Prop := diffOneUptoRow.holds Tryd.pinned (OpenSpec.upto diffOneSpec)

/-- 'sealskinlaw10.DiffEither', WHERE WHAT IT READS IS OF BULK AT MOST 1048576: true; the input reads as it did. -/
def diffEitherUptoRow : OpenClaim := { program := "ytonabfpgdgnpnaadoor", sum := "47efaf79191686c85fbfde900545d26730953814a4af078973894be2a7e50275", func := "sealskin/sealskinlaw10.DiffEither", spec := "diffEither", inPlace := ["internal/abi.NoEscape"], unfollowed := true, recurses := true, named := ["unicode/utf8.first", "unicode/utf8.acceptRanges"], apart := false, laid := [("unicode/utf8.acceptRanges", laid_unicode_utf8_acceptRanges), ("unicode/utf8.first", laid_unicode_utf8_first)], narrowed := true }
def DiffEitherUptoSaid : Prop := diffEitherUptoRow.holds Tryd.pinned (OpenSpec.upto diffEitherSpec)

/-- 'sealskinlaw10.DiffLong', WHERE WHAT IT READS IS OF BULK AT MOST 1048576: true; the input reads as it did. -/
def diffLongUptoRow : OpenClaim := { program := "ytonabfpgdgnpnaadoor", sum := "47efaf79191686c85fbfde900545d26730953814a4af078973894be2a7e50275", func := "sealskin/sealskinlaw10.DiffLong", spec := "diffLong", inPlace := ["internal/abi.NoEscape"], unfollowed := true, recurses := true, named := ["unicode/utf8.first", "unicode/utf8.acceptRanges"], apart := false, laid := [("unicode/utf8.acceptRanges", laid_unicode_utf8_acceptRanges), ("unicode/utf8.first", laid_unicode_utf8_first)], narrowed := true }
def DiffLongUptoSaid : Prop := diffLongUptoRow.holds Tryd.pinned (OpenSpec.upto diffLongSpec)

end Rows
end Go.Proofs.YtonabfpgdgnpnaaDoor
