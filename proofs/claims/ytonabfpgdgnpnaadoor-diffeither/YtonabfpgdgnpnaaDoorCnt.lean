/- Code points counted: the shelf's contract. -/
import Derived.Test.YtonabfpgdgnpnaaDoorRows
import Derived.Test.YtonabfpgdgnpnaaDoorTxt
import Derived.Shelf.Utf8.RuneCount
import Derived.Shelf.Lay
import Derived.Ground.NamesProg
import Derived.Lib.Agree
import Derived.ProofKit
import Derived.WalkKit
import Derived.Handy
import Derived.OpenShut
import Derived.ChangeOld
import Derived.Deep.RegionHeld3
import Derived.Deep.QuietTactic
import Derived.Lib.SmallJoins
namespace Go.Proofs.YtonabfpgdgnpnaaDoor
set_option linter.unusedVariables false
set_option linter.unusedSimpArgs false
open Go.ChangeShapes Go.WideShapes Go.ChangeAt Go.RowKit Go.Joins Go.Shelf

shelf_lay Lays.n195 Nm 195 at Tryd as Tryd.lays195
theorem fCount : Tryd.lays195_ren.f 195 = 19 := by kernel_rfl
theorem counts_any (s : ByteArray) (w : World) (hs : s.size < 9223372036854775807) :
    Calls Tryd.prog 19 #[.string s] w fun e w' => e = .returned (.int .i64 (Lib.runeCount s)) ∧ Below w.heap.size w w' := by
  have h := Any.utf8_RuneCountInString Tryd.lays195 s w hs
  rw [fCount] at h
  refine Calls.mono h ?_
  rintro e w' ⟨rfl, pos, rfl⟩
  exact ⟨rfl, (Below.refl _ _).alloc (Nat.le_refl _) _⟩
end Go.Proofs.YtonabfpgdgnpnaaDoor
