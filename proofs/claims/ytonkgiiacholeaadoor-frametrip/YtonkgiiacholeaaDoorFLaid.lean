/- What the frames' rows' lists give. -/
import Derived.Test.YtonkgiiacholeaaDoorLaid
import Derived.Test.YtonkgiiacholeaaDoorFAwake
import Derived.LaidSub
namespace Go.Proofs.YtonkgiiacholeaaDoor
set_option linter.unusedVariables false
set_option linter.unusedSimpArgs false
open Go.ChangeShapes Go.WideShapes Go.ChangeAt Go.RowKit Go.Joins

def flaidList : List (String × DataW Unit) := [("unicode/utf8.acceptRanges", Rows.laid_unicode_utf8_acceptRanges), ("sealskin/hash.first", Rows.laid_sealskin_hash_first), ("sealskin/hash.orders", Rows.laid_sealskin_hash_orders), ("sealskin/cipher.first", Rows.laid_sealskin_cipher_first), ("sealskin/frame.fields", Rows.laid_sealskin_frame_fields), ("sealskin/frame.most", Rows.laid_sealskin_frame_most), ("unicode/utf8.first", Rows.laid_unicode_utf8_first)]
def keepHC (x : String × DataW Unit) : Bool := x.1 == "sealskin/hash.first" || x.1 == "sealskin/hash.orders" || x.1 == "sealskin/cipher.first"
theorem keep_list : flaidList.filter keepHC = laidList := by
  simp only [flaidList, keepHC, laidList]
  rfl
theorem gFld : Tryd.prog.globalNamed "sealskin/frame.fields" = some 0 := by kernel_rfl
theorem yFld : (Tryd.prog.globals[0]?).map (·.type) = some 131 := by kernel_rfl
theorem cells3 : Tryd.prog.cellsOf 3 = 1 := by kernel_rfl
theorem cells108 : Tryd.prog.cellsOf 131 = 11 := by kernel_rfl
theorem flay_of {W : World} (h : laidMet Tryd.prog flaidList W) : FLay W := by
  refine ⟨tabs_of (keep_list ▸ laidMet.filter keepHC h), ?_⟩
  obtain ⟨g, t, cs, fuel, p, hg, hty, hvar, hd⟩ := Lib.laidMet.reads h (n := "sealskin/frame.fields") (d := Rows.laid_sealskin_frame_fields) (by simp [flaidList])
  obtain rfl := Option.some.inj (gFld.symm.trans hg)
  obtain rfl := Option.some.inj (yFld.symm.trans hty)
  have e1 : cs.toList = i64v fieldsL := Lib.cells_of_tab (zs := [0, 4, 134, 62, 12, 0, 64, 6, 135, 66, 13]) Tryd.underlying131 Tryd.underlying3 cells3 cells108 hd
  obtain ⟨t, fr, hh⟩ := var_row gFld hvar
  exact ⟨t, fr, by rw [hh, ← e1]⟩
def accCells : Array Value := #[.int .u8 128, .int .u8 191, .int .u8 160, .int .u8 191, .int .u8 128, .int .u8 159, .int .u8 144, .int .u8 191, .int .u8 128, .int .u8 143, .int .u8 0, .int .u8 0, .int .u8 0, .int .u8 0, .int .u8 0, .int .u8 0, .int .u8 0, .int .u8 0, .int .u8 0, .int .u8 0, .int .u8 0, .int .u8 0, .int .u8 0, .int .u8 0, .int .u8 0, .int .u8 0, .int .u8 0, .int .u8 0, .int .u8 0, .int .u8 0, .int .u8 0, .int .u8 0]
def ufirstIn : Obj → Obj
  | .cells _ t frozen => .cells (Go.Pinned.utf8FirstZ.map fun (n : Nat) => Value.int .u8 (n : Int)).toArray t frozen
  | o => o
def accIn : Obj → Obj
  | .cells _ t frozen => .cells accCells t frozen
  | o => o
def fldIn : Obj → Obj
  | .cells _ t frozen => .cells #[.int .i64 0, .int .i64 4, .int .i64 134, .int .i64 62, .int .i64 12, .int .i64 0, .int .i64 64, .int .i64 6, .int .i64 135, .int .i64 66, .int .i64 13] t frozen
  | o => o
def mostIn : Obj → Obj
  | .cells _ t frozen => .cells #[.int .i64 7, .int .i64 1099511627776, .int .i64 1099511627776, .int .i64 1099511627776, .int .i64 1099511627776, .int .i64 31, .int .i64 1000] t frozen
  | o => o
/-- A world for the witness: all tables as their initialisers lay them. -/
noncomputable def flaidWorld (os : Os) : World :=
  { World.holding Tryd.prog os ⟨#[], #[], []⟩ with heap := (((((((World.holding Tryd.prog os ⟨#[], #[], []⟩).heap.modify 2 cipIn).modify 0 fldIn).modify 1 mostIn).modify 3 firstIn).modify 6 ordsIn).modify 4 ufirstIn).modify 5 accIn }
end Go.Proofs.YtonkgiiacholeaaDoor
