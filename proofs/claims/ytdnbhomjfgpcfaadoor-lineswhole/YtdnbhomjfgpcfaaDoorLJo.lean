/- strings.Contains, Join: the shelf. -/
import Derived.Test.YtdnbhomjfgpcfaaDoorLWo
import Derived.Test.YtdnbhomjfgpcfaaDoorLB
import Derived.Shelf.Strings.Search3
import Derived.Shelf.Strings.OnBuilder
import Derived.Shelf.LaysM
import Derived.Shelf.Lay
import Derived.Ground.NamesProg
namespace Go.Proofs.YtdnbhomjfgpcfaaDoor
set_option linter.unusedVariables false
set_option linter.unusedSimpArgs false
open Go.Shelf Go.ChangeShapes Go.WideShapes Go.ChangeAt Go.RowKit Go.Joins Go.Deep

shelf_lay LaysM.n144 Nm 144 at Tryd as Tryd.lays144
shelf_lay Lays.n156 Nm 156 at Tryd as Tryd.lays156
theorem fCont : Tryd.lays144_ren.f 144 = 40 := by kernel_rfl
theorem fJoin : Tryd.lays156_ren.f 156 = 41 := by kernel_rfl
theorem bx156 : Builder.Extra Tryd.prog Tryd.lays156_ren where
  sizeBuilder := by kernel_rfl
  liesBuilder := by kernel_rfl
  t5 := Tryd.underlying5
  a5 := Tryd.isAgg5
  z5 := Tryd.sizeOf5
  v5 := Tryd.zeroValue5
  infoByte := by kernel_rfl
  cellsByte := by kernel_rfl
  sizeByte := by kernel_rfl
  neB5 := by decide
theorem cont_one (s : ByteArray) (c : UInt8) (w : World) : Calls Tryd.prog 40 #[.string s, .string ⟨#[c]⟩] w fun e w' => e = .returned (.bool (decide (0 ≤ Lib.indexByte s.data.toList c))) ∧ w' = w := by
  have h := Any.strings_Contains_one { Tryd.lays144 with } s c w
  rw [fCont] at h
  exact h
def MaxL (w : World) : Prop := ∃ m : Int, w.cell? ⟨Tryd.lays144_ren.g 1, 0, none⟩ = some (.int .i64 m)
theorem MaxL.call {w w' : World} (h : MaxL w) (hb : Below w.heap.size w w') : MaxL w' := by
  obtain ⟨m, h⟩ := h
  exact ⟨m, kept hb h⟩
theorem maxL_of {w : World} (h : w.ShapedOpen Tryd.prog) : MaxL w := Tryd.lays144.s1_3 w h
theorem cont_any (s sub : ByteArray) (w : World) (hs : s.size < 4294967281) (hm : MaxL w) : Calls Tryd.prog 40 #[.string s, .string sub] w fun e w' => e = .returned (.bool (Lib.contains s.data.toList sub.data.toList)) ∧ w' = w := by
  obtain ⟨m, hm⟩ := hm
  have h := Any.strings_Contains { Tryd.lays144 with } s sub m w hs hm
  rw [fCont] at h
  exact h
theorem join_any (bk o c : Nat) (xs : List ByteArray) (sep : ByteArray) (w : World) (hcells : ∀ (j : Nat) x, xs[j]? = some x → w.cell? ⟨bk, o + j, none⟩ = some (.string x)) (hbk : bk < w.heap.size) (hN : xs.length ≤ 140737488355328) (hcap : xs.length ≤ c) (hlen : (Lib.join (xs.map (·.data.toList)) sep.data.toList).length ≤ 140737488355328) :
    Calls Tryd.prog 41 #[.slice (some ⟨bk, o, none⟩) xs.length c, .string sep] w fun e w' => e = .returned (.string ⟨(Lib.join (xs.map (·.data.toList)) sep.data.toList).toArray⟩) ∧ Below w.heap.size w w' := by
  have h := Any.strings_Join Tryd.lays156 bx156 bk o c xs sep w hcells hbk hN hcap hlen
  rw [fJoin] at h
  exact h
end Go.Proofs.YtdnbhomjfgpcfaaDoor
