/- What the rows' lists give, and how arguments come in. -/
import Derived.Test.YtbahnkomdndmkacDoorCards
import Derived.Test.YtbahnkomdndmkacDoorTie
import Derived.Test.YtbahnkomdndmkacDoorAwake
import Derived.WalkKit
import Derived.ProofKit
import Derived.OpenShut
import Derived.Deep.DeepHandedRow
import Derived.Lib.LaidTab
import Derived.Lib.LaidU8
import Derived.Lib.SmallJoins
import Derived.ChangeOld
namespace Go.Proofs.YtbahnkomdndmkacDoor
set_option linter.unusedVariables false
set_option linter.unusedSimpArgs false
open Go.ChangeShapes Go.WideShapes Go.ChangeAt Go.RowKit Go.Joins

theorem own : ownKnob Tryd.prog.godebug = none := by kernel_rfl
theorem laidOut : laidOutB Tryd.prog = true := by kernel_rfl
theorem gFirst : Tryd.prog.globalNamed "unicode/utf8.first" = some 0 := by kernel_rfl
theorem gAcc : Tryd.prog.globalNamed "unicode/utf8.acceptRanges" = some 1 := by kernel_rfl
theorem yFirst : (Tryd.prog.globals[0]?).map (·.type) = some 74 := by kernel_rfl
theorem yAcc : (Tryd.prog.globals[1]?).map (·.type) = some 77 := by kernel_rfl
theorem cells5 : Tryd.prog.cellsOf 5 = 1 := by kernel_rfl
theorem cells76 : Tryd.prog.cellsOf 76 = 2 := by kernel_rfl

def laidList : List (String × DataW Unit) := [("unicode/utf8.acceptRanges", Rows.laid_unicode_utf8_acceptRanges), ("unicode/utf8.first", Rows.laid_unicode_utf8_first)]
theorem tabs_of {W : World} (h : laidMet Tryd.prog laidList W) : Tabs W := by
  have h1 := Lib.laidMet.reads h (n := "unicode/utf8.first") (d := Rows.laid_unicode_utf8_first) (by simp [laidList])
  have h2 := Lib.laidMet.reads h (n := "unicode/utf8.acceptRanges") (d := Rows.laid_unicode_utf8_acceptRanges) (by simp [laidList])
  obtain ⟨g, t, cs, fuel, p, hg, hty, hvar, hd⟩ := h1
  obtain rfl := Option.some.inj (gFirst.symm.trans hg)
  obtain rfl := Option.some.inj (yFirst.symm.trans hty)
  obtain ⟨g', t', cs', fuel', p', hg', hty', hvar', hd'⟩ := h2
  obtain rfl := Option.some.inj (gAcc.symm.trans hg')
  obtain rfl := Option.some.inj (yAcc.symm.trans hty')
  obtain ⟨f1, d1, q1, k1, e1⟩ := Lib.array_elem Tryd.underlying74 hd 195 (by decide)
  obtain ⟨f2, d2, q2, k2, e2⟩ := Lib.array_elem Tryd.underlying77 hd' 0 (by decide)
  obtain rfl : d1 = .lit (.int .u8 2) := by
    have : (Go.Pinned.numbers .u8 Go.Pinned.utf8FirstZ)[195]? = some (.lit (.int .u8 2)) := by kernel_rfl
    exact (Option.some.inj (this.symm.trans k1)).symm
  obtain rfl : d2 = .agg [.lit (.int .u8 128), .lit (.int .u8 191)] := (Option.some.inj k2).symm
  rw [cells5] at e1
  rw [cells76] at e2
  obtain ⟨z, hz, hl, _⟩ := DataW.trod_int Tryd.underlying5 e1
  have hcs := Lib.ints_of_struct (zs := [128, 191]) Tryd.underlying76 (fun j f hj => by
      match j, hj with
      | 0, hj => simp at hj; subst hj; exact ⟨Tryd.underlying5, rfl, cells5⟩
      | 1, hj => simp at hj; subst hj; exact ⟨Tryd.underlying5, rfl, cells5⟩
      | j + 2, hj => simp at hj) (by rw [cells76]; rfl) e2
  refine ⟨?_, ?_, ?_⟩
  · rw [World.var?_cell hg hvar 195, ← Array.getElem?_toList]
    have q := congrArg (·[0]?) hz
    simp [List.getElem?_take, List.getElem?_drop] at q hl
    rw [Array.getElem?_toList, q, ← hl.1]
  · rw [World.var?_cell hg' hvar' 0, ← Array.getElem?_toList]
    have q := congrArg (·[0]?) hcs
    simpa [List.getElem?_take, List.getElem?_drop] using q
  · rw [World.var?_cell hg' hvar' 1, ← Array.getElem?_toList]
    have q := congrArg (·[1]?) hcs
    simpa [List.getElem?_take, List.getElem?_drop] using q

def accCells : Array Value := #[.int .u8 128, .int .u8 191, .int .u8 160, .int .u8 191, .int .u8 128, .int .u8 159, .int .u8 144, .int .u8 191, .int .u8 128, .int .u8 143, .int .u8 0, .int .u8 0, .int .u8 0, .int .u8 0, .int .u8 0, .int .u8 0, .int .u8 0, .int .u8 0, .int .u8 0, .int .u8 0, .int .u8 0, .int .u8 0, .int .u8 0, .int .u8 0, .int .u8 0, .int .u8 0, .int .u8 0, .int .u8 0, .int .u8 0, .int .u8 0, .int .u8 0, .int .u8 0]
def firstIn : Obj → Obj
  | .cells _ t frozen => .cells (Go.Pinned.utf8FirstZ.map fun (n : Nat) => Value.int .u8 (n : Int)).toArray t frozen
  | o => o
def accIn : Obj → Obj
  | .cells _ t frozen => .cells accCells t frozen
  | o => o
/-- A world for the witness: both tables as their initialisers lay them. -/
noncomputable def laidWorld (os : Os) : World :=
  { World.holding Tryd.prog os ⟨#[], #[], []⟩ with heap := ((World.holding Tryd.prog os ⟨#[], #[], []⟩).heap.modify 0 firstIn).modify 1 accIn }
set_option maxRecDepth 100000 in
theorem laid_met (os : Os) (args : Array Value) (h : args = #[.int .i64 0, .int .i64 0]) : laidMet Tryd.prog laidList ((laidWorld os).forCall (fun _ _ => 0) ⟨#[], args, []⟩).memory := by
  subst h
  exact laidMet_of_run' 8 (by kernel_rfl) (by kernel_rfl)
end Go.Proofs.YtbahnkomdndmkacDoor
