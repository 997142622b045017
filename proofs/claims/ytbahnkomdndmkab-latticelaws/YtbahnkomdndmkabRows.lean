/-
  No cell of these rows narrows 'for every input' (looked for: loops, veiled, ifaces, maps, wideKeys, modest, calm, conditions, laid).
  DERIVED. THE GIVEN ROWS OF THIS SEAT. 5 by the template 'for every input the law returns true; each argument reads behind the call as it read before'; 0 by the template 'total and deterministic' (their statements: YtbahnkomdndmkabTotals.lean).
  GIVEN WITH THE SEED: the statements are not yours to turn. If you find one false, say at which input.
  Laid BY PROGRAM, IN A SANDBOX (cutbox-rows.mjs): the forced cells as the released guide's own fill.sh prints them over the translation 48d1e1e5d28be77b… (all of the seat's roots in one cut). By AI agents, Wed Nov 11 2026. No macro, syntax, notation, axiom, sorry.
-/
import Derived.Test.YtbahnkomdndmkabChecked
import GoSem.Claim
import GoSem.ClaimJoined
import GoSem.ClaimMapViews
import Derived.JoinedTies
import Derived.KernelRfl
namespace Go.Proofs.Ytbahnkomdndmkab
/- THE CELL 'sum', in the pinned program and in every row, IS THE sha256 OF THE DUMP (.gsa) THAT YtbahnkomdndmkabProg.lean LOADS. Nothing in Lean hashes anything: it is a label: what it is worth is what the hold of that sum in a sandbox is worth. -/
noncomputable def Try.pinned : Pinned := { name := "ytbahnkomdndmkab", sum := "48d1e1e5d28be77b6386f7fba5e5f4e666352d595401bce013daf01609f9249e", checked := Try.checked }
namespace Rows
def none {H : Type} : Left H := { results := [], args := [] }

/-- 'sealskinlaw01.LatticeLaws': WHATEVER THE INPUT: true; the input reads as it did. -/
def latticeLawsSpec : ChangeSpec := { name := "latticeLaws", fn := fun _ => fun
  | [d1, d2, d3] => { results := [.lit (.bool true)], args := [d1, d2, d3] }
  | _ => none }
def latticeLawsRow : OpenClaim := { program := "ytbahnkomdndmkab", sum := "48d1e1e5d28be77b6386f7fba5e5f4e666352d595401bce013daf01609f9249e", func := "sealskin/sealskinlaw01.LatticeLaws", spec := "latticeLaws", apart := false }
def LatticeLawsSaid : Prop := latticeLawsRow.holds Try.pinned (OpenSpec.ofChange latticeLawsSpec)

/-- ITS FALSE NEIGHBOUR: 'it returns false'. Refute it at one input. -/
def latticeLawsWrong : ChangeSpec := { name := "latticeLaws", fn := fun _ => fun
  | [d1, d2, d3] => { results := [.lit (.bool false)], args := [d1, d2, d3] }
  | _ => none }
def LatticeLawsWrongFalsely : Prop := latticeLawsRow.holds Try.pinned (OpenSpec.ofChange latticeLawsWrong)

/-- 'sealskinlaw01.LatticeThrough': WHATEVER THE INPUT: true; the input reads as it did. -/
def latticeThroughSpec : ChangeSpec := { name := "latticeThrough", fn := fun _ => fun
  | [d1, d2, d3, d4] => { results := [.lit (.bool true)], args := [d1, d2, d3, d4] }
  | _ => none }
def latticeThroughRow : OpenClaim := { program := "ytbahnkomdndmkab", sum := "48d1e1e5d28be77b6386f7fba5e5f4e666352d595401bce013daf01609f9249e", func := "sealskin/sealskinlaw01.LatticeThrough", spec := "latticeThrough", apart := false }
def LatticeThroughSaid : Prop := latticeThroughRow.holds Try.pinned (OpenSpec.ofChange latticeThroughSpec)

/-- ITS FALSE NEIGHBOUR: 'it returns false'. Refute it at one input. -/
def latticeThroughWrong : ChangeSpec := { name := "latticeThrough", fn := fun _ => fun
  | [d1, d2, d3, d4] => { results := [.lit (.bool false)], args := [d1, d2, d3, d4] }
  | _ => none }
def LatticeThroughWrongFalsely : Prop := latticeThroughRow.holds Try.pinned (OpenSpec.ofChange latticeThroughWrong)

/-- 'sealskinlaw01.LatticePairs': WHATEVER THE INPUT: true; the input reads as it did. -/
def latticePairsSpec : ChangeSpec := { name := "latticePairs", fn := fun _ => fun
  | [d1, d2, d3] => { results := [.lit (.bool true)], args := [d1, d2, d3] }
  | _ => none }
def latticePairsRow : OpenClaim := { program := "ytbahnkomdndmkab", sum := "48d1e1e5d28be77b6386f7fba5e5f4e666352d595401bce013daf01609f9249e", func := "sealskin/sealskinlaw01.LatticePairs", spec := "latticePairs", unfollowed := true, recurses := true, apart := false }
def LatticePairsSaid : Prop := latticePairsRow.holds Try.pinned (OpenSpec.ofChange latticePairsSpec)

/-- ITS FALSE NEIGHBOUR: 'it returns false'. Refute it at one input. -/
def latticePairsWrong : ChangeSpec := { name := "latticePairs", fn := fun _ => fun
  | [d1, d2, d3] => { results := [.lit (.bool false)], args := [d1, d2, d3] }
  | _ => none }
def LatticePairsWrongFalsely : Prop := latticePairsRow.holds Try.pinned (OpenSpec.ofChange latticePairsWrong)

/-- 'sealskinlaw01.LatticeClones': WHATEVER THE INPUT: true; the input reads as it did. -/
def latticeClonesSpec : ChangeSpec := { name := "latticeClones", fn := fun _ => fun
  | [d] => { results := [.lit (.bool true)], args := [d] }
  | _ => none }
def latticeClonesRow : OpenClaim := { program := "ytbahnkomdndmkab", sum := "48d1e1e5d28be77b6386f7fba5e5f4e666352d595401bce013daf01609f9249e", func := "sealskin/sealskinlaw01.LatticeClones", spec := "latticeClones", apart := false }
def LatticeClonesSaid : Prop := latticeClonesRow.holds Try.pinned (OpenSpec.ofChange latticeClonesSpec)

/-- ITS FALSE NEIGHBOUR: 'it returns false'. Refute it at one input. -/
def latticeClonesWrong : ChangeSpec := { name := "latticeClones", fn := fun _ => fun
  | [d] => { results := [.lit (.bool false)], args := [d] }
  | _ => none }
def LatticeClonesWrongFalsely : Prop := latticeClonesRow.holds Try.pinned (OpenSpec.ofChange latticeClonesWrong)

/-- 'sealskinlaw01.LatticeSeats': WHATEVER THE INPUT: true; the input reads as it did. -/
def latticeSeatsSpec : ChangeSpec := { name := "latticeSeats", fn := fun _ => fun
  | [d] => { results := [.lit (.bool true)], args := [d] }
  | _ => none }
def latticeSeatsRow : OpenClaim := { program := "ytbahnkomdndmkab", sum := "48d1e1e5d28be77b6386f7fba5e5f4e666352d595401bce013daf01609f9249e", func := "sealskin/sealskinlaw01.LatticeSeats", spec := "latticeSeats", apart := false }
def LatticeSeatsSaid : Prop := latticeSeatsRow.holds Try.pinned (OpenSpec.ofChange latticeSeatsSpec)

/-- ITS FALSE NEIGHBOUR: 'it returns false'. Refute it at one input. -/
def latticeSeatsWrong : ChangeSpec := { name := "latticeSeats", fn := fun _ => fun
  | [d] => { results := [.lit (.bool false)], args := [d] }
  | _ => none }
def LatticeSeatsWrongFalsely : Prop := latticeSeatsRow.holds Try.pinned (OpenSpec.ofChange latticeSeatsWrong)

/- THE SECOND FORM. 'bulk': how many values and letters a reading holds, each counted each time it is reached (what is shared counts as often as it is met; a slice's spare places count too). A statement '..UptoSaid' is the law's where the arguments, and the package variables that the reading takes, are together of bulk at most 1048576: NARROWER than '..Said'. Prove '..Said' where nothing that the law and all that it calls make is longer than what came in: it says more and counts as full. Else prove '..UptoSaid'. A law counts once. -/
mutual
def uptoBulk {H : Type} : DataW H → Nat
  | .lit (.string bytes) => bytes.length + 1
  | .lit _ => 1
  | .nil => 1
  | .ptr d => uptoBulk d + 1
  | .slice elems spare => uptoBulkAll elems + uptoBulkAll spare + 1
  | .agg parts => uptoBulkAll parts + 1
  | .iface _ d => uptoBulk d + 1
  | .map entries => uptoBulkEntries entries + 1
  | .held _ => 1
def uptoBulkAll {H : Type} : List (DataW H) → Nat
  | [] => 0
  | d :: r => uptoBulk d + uptoBulkAll r
def uptoBulkEntries {H : Type} : List (Lit × DataW H) → Nat
  | [] => 0
  | x :: r => uptoBulkEntry x + uptoBulkEntries r
def uptoBulkEntry {H : Type} : Lit × DataW H → Nat
  | (.string bytes, d) => bytes.length + uptoBulk d + 1
  | (_, d) => uptoBulk d + 1
 end
def uptoSmall : (H : Type) → List (DataW H) → Bool := fun _ ds => decide (uptoBulkAll ds ≤ 1048576)
def OpenSpec.upto (s : _root_.Go.ChangeSpec) : _root_.Go.OpenSpec := { _root_.Go.OpenSpec.ofChange s with cond := some uptoSmall }

/-- 'sealskinlaw01.LatticeLaws', WHERE WHAT IT READS IS OF BULK AT MOST 1048576: true; the input reads as it did. -/
def latticeLawsUptoRow : OpenClaim := { program := "ytbahnkomdndmkab", sum := "48d1e1e5d28be77b6386f7fba5e5f4e666352d595401bce013daf01609f9249e", func := "sealskin/sealskinlaw01.LatticeLaws", spec := "latticeLaws", apart := false, narrowed := true }
def LatticeLawsUptoSaid : Prop := latticeLawsUptoRow.holds Try.pinned (OpenSpec.upto latticeLawsSpec)

/-- 'sealskinlaw01.LatticeThrough', WHERE WHAT IT READS IS OF BULK AT MOST 1048576: true; the input reads as it did. -/
def latticeThroughUptoRow : OpenClaim := { program := "ytbahnkomdndmkab", sum := "48d1e1e5d28be77b6386f7fba5e5f4e666352d595401bce013daf01609f9249e", func := "sealskin/sealskinlaw01.LatticeThrough", spec := "latticeThrough", apart := false, narrowed := true }
def LatticeThroughUptoSaid : Prop := latticeThroughUptoRow.holds Try.pinned (OpenSpec.upto latticeThroughSpec)

/-- 'sealskinlaw01.LatticePairs', WHERE WHAT IT READS IS OF BULK AT MOST 1048576: true; the input reads as it did. -/
def latticePairsUptoRow : OpenClaim := { program := "ytbahnkomdndmkab", sum := "48d1e1e5d28be77b6386f7fba5e5f4e666352d595401bce013daf01609f9249e", func := "sealskin/sealskinlaw01.LatticePairs", spec := "latticePairs", unfollowed := true, recurses := true, apart := false, narrowed := true }
def LatticePairsUptoSaid : Prop := latticePairsUptoRow.holds Try.pinned (OpenSpec.upto latticePairsSpec)

/-- 'sealskinlaw01.LatticeClones', WHERE WHAT IT READS IS OF BULK AT MOST 1048576: true; the input reads as it did. -/
def latticeClonesUptoRow : OpenClaim := { program := "ytbahnkomdndmkab", sum := "48d1e1e5d28be77b6386f7fba5e5f4e666352d595401bce013daf01609f9249e", func := "sealskin/sealskinlaw01.LatticeClones", spec := "latticeClones", apart := false, narrowed := true }
def LatticeClonesUptoSaid : Prop := latticeClonesUptoRow.holds Try.pinned (OpenSpec.upto latticeClonesSpec)

/-- 'sealskinlaw01.LatticeSeats', WHERE WHAT IT READS IS OF BULK AT MOST 1048576: true; the input reads as it did. -/
def latticeSeatsUptoRow : OpenClaim := { program := "ytbahnkomdndmkab", sum := "48d1e1e5d28be77b6386f7fba5e5f4e666352d595401bce013daf01609f9249e", func := "sealskin/sealskinlaw01.LatticeSeats", spec := "latticeSeats", apart := false, narrowed := true }
def LatticeSeatsUptoSaid : Prop := latticeSeatsUptoRow.holds Try.pinned (OpenSpec.upto latticeSeatsSpec)

end Rows
end Go.Proofs.Ytbahnkomdndmkab
