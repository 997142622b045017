/- strings.ReplaceAll, off the shelf. -/
import Derived.Test.YtdnbhomjfgpcfaaDoorLB
import Derived.Test.YtdnbhomjfgpcfaaDoorLRe
import Derived.Shelf.Strings.Replace
import Derived.Shelf.Strings.OnBuilder
import Derived.Shelf.LaysM
import Derived.Shelf.Lay
import Derived.Ground.NamesProg
import Derived.Lib.SplitLaws
namespace Go.Proofs.YtdnbhomjfgpcfaaDoor
set_option linter.unusedVariables false
set_option linter.unusedSimpArgs false
open Go.Shelf Go.ChangeShapes Go.WideShapes Go.ChangeAt Go.RowKit Go.Joins Go.Deep

shelf_lay LaysM.n155 Nm 155 at Tryd as Tryd.lays155
theorem fRepl : Tryd.lays155_ren.f 155 = 36 := by kernel_rfl
theorem bx155 : Builder.Extra Tryd.prog Tryd.lays155_ren where
  sizeBuilder := by kernel_rfl
  liesBuilder := by kernel_rfl
  t5 := Tryd.underlying5
  a5 := Tryd.isAgg5
  z5 := Tryd.sizeOf5
  v5 := Tryd.zeroValue5
  infoByte := by kernel_rfl
  cellsByte := by kernel_rfl
  sizeByte := by kernel_rfl
  neB5 := by decide
def MaxS (w : World) : Prop := ∃ m : Int, w.cell? ⟨Tryd.lays155_ren.g 1, 0, none⟩ = some (.int .i64 m)
theorem MaxS.call {w w' : World} (h : MaxS w) (hb : Below w.heap.size w w') : MaxS w' := by
  obtain ⟨m, h⟩ := h
  exact ⟨m, kept hb h⟩
theorem maxS_of {w : World} (h : w.ShapedOpen Tryd.prog) : MaxS w := Tryd.lays155.s1_3 w h
theorem repl_any (s o n : ByteArray) (w : World) (hm : MaxS w) (hs : s.size ≤ 2048) (hn : n.size ≤ 2048) (h1 : 1 ≤ o.size) : Calls Tryd.prog 36 #[.string s, .string o, .string n] w fun e w' => e = .returned (.string ⟨(Lib.replaceAll s.data.toList o.data.toList n.data.toList).toArray⟩) ∧ Below w.heap.size w w' := by
  obtain ⟨m, hm⟩ := hm
  have hc := Lib.countB_le o h1 s.size s (Nat.le_refl _)
  have hlen : s.size + Lib.countB s o * n.size ≤ 140737488355328 := by
    have := Nat.mul_le_mul (Nat.le_trans hc hs) hn
    omega
  have h := Any.strings_ReplaceAll { Tryd.lays155 with } bx155 s o n m w (by omega) hm h1 hlen
  rw [fRepl] at h
  exact h
end Go.Proofs.YtdnbhomjfgpcfaaDoor
