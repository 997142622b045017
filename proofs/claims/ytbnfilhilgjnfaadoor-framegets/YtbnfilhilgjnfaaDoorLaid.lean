/- What the rows' lists give. -/
import Derived.Test.YtbnfilhilgjnfaaDoorCards
import Derived.Test.YtbnfilhilgjnfaaDoorTie
import Derived.Test.YtbnfilhilgjnfaaDoorCSeal
import Derived.Deep.DeepHandedRow
import Derived.Lib.LaidTab
import Derived.Lib.LaidU8
import Derived.Lib.SmallJoins
import Derived.ChangeOld
namespace Go.Proofs.YtbnfilhilgjnfaaDoor
set_option linter.unusedVariables false
set_option linter.unusedSimpArgs false
open Go.ChangeShapes Go.WideShapes Go.ChangeAt Go.RowKit Go.Joins

theorem own : ownKnob Tryd.prog.godebug = none := by kernel_rfl
theorem laidOut : laidOutB Tryd.prog = true := by kernel_rfl
theorem gFirst : Tryd.prog.globalNamed "sealskin/hash.first" = some 5 := by kernel_rfl
theorem gOrds : Tryd.prog.globalNamed "sealskin/hash.orders" = some 6 := by kernel_rfl
theorem yFirst : (Tryd.prog.globals[5]?).map (·.type) = some 103 := by kernel_rfl
theorem yOrds : (Tryd.prog.globals[6]?).map (·.type) = some 140 := by kernel_rfl
theorem gCip : Tryd.prog.globalNamed "sealskin/cipher.first" = some 4 := by kernel_rfl
theorem yCip : (Tryd.prog.globals[4]?).map (·.type) = some 127 := by kernel_rfl
theorem cells53 : Tryd.prog.cellsOf 127 = 4 := by kernel_rfl
theorem cells5 : Tryd.prog.cellsOf 5 = 1 := by kernel_rfl
theorem cells49 : Tryd.prog.cellsOf 102 = 1 := by kernel_rfl
theorem cells50 : Tryd.prog.cellsOf 103 = 8 := by kernel_rfl
theorem cells80 : Tryd.prog.cellsOf 139 = 16 := by kernel_rfl
theorem cells81 : Tryd.prog.cellsOf 140 = 160 := by kernel_rfl

def laidList : List (String × DataW Unit) := [("sealskin/hash.first", Rows.laid_sealskin_hash_first), ("sealskin/hash.orders", Rows.laid_sealskin_hash_orders), ("sealskin/cipher.first", Rows.laid_sealskin_cipher_first)]
theorem var_row {W : World} {n : String} {g : Nat} {cs : Array Value} (hg : Tryd.prog.globalNamed n = some g) (h : W.var? Tryd.prog n = some cs) : ∃ t fr, W.heap[g]? = some (.cells cs t fr) := by
  unfold World.var? at h
  rw [hg] at h
  simp only [Option.bind_some] at h
  split at h
  · rename_i cs' t fr he
    have : cs' = cs := by simpa using h
    exact ⟨t, fr, this ▸ he⟩
  · cases h
theorem trod_len {H : Type} {enc : TypeId × Value → H} {w : World} {base : Nat} {sp : Nat → Bool} {held : Bool} {fuel : Nat} {cs : List Value} {d : DataW H} {p : List MemPlace}
    (h : DataW.trod enc Tryd.prog w base sp held fuel 140 cs = some (d, p)) : cs.length = 160 := by
  cases fuel with
  | zero => simp [DataW.trod] at h
  | succ fuel =>
    simp only [DataW.trod, Tryd.underlying140, cells80, cells81] at h
    split at h
    · rename_i hl; simpa using hl
    · cases h
theorem chunks (l : List Value) (hl : l.length = 160) (h : ∀ i, i < 10 → (l.drop (i * 16)).take 16 = bv (ord i)) : l = bv ords.flatten := by
  have e : ∀ (m : Nat), m ≤ 10 → l.take (m * 16) = bv (ords.take m).flatten := by
    intro m
    induction m with
    | zero => intro _; rfl
    | succ m ih =>
      intro hm
      have h1 : l.take ((m + 1) * 16) = l.take (m * 16) ++ (l.drop (m * 16)).take 16 := by
        rw [show (m + 1) * 16 = m * 16 + 16 by omega, List.take_add]
      have h2 : ords.take (m + 1) = ords.take m ++ [ord m] := by
        rw [List.take_succ_eq_append_getElem (show m < ords.length from hm)]
        congr 2
        simp [ord, List.getD_eq_getElem?_getD, List.getElem?_eq_getElem (show m < ords.length from hm)]
      rw [h1, ih (by omega), h m (by omega), h2, List.flatten_append, bv_append]
      simp
  have := e 10 (Nat.le_refl _)
  rw [List.take_of_length_le (by omega)] at this
  exact this

set_option maxRecDepth 100000 in
theorem tabs0_of {W : World} (h : laidMet Tryd.prog laidList W) : Tabs W := by
  have h1 := Lib.laidMet.reads h (n := "sealskin/hash.first") (d := Rows.laid_sealskin_hash_first) (by simp [laidList])
  have h2 := Lib.laidMet.reads h (n := "sealskin/hash.orders") (d := Rows.laid_sealskin_hash_orders) (by simp [laidList])
  obtain ⟨g, t, cs, fuel, p, hg, hty, hvar, hd⟩ := h1
  obtain rfl := Option.some.inj (gFirst.symm.trans hg)
  obtain rfl := Option.some.inj (yFirst.symm.trans hty)
  obtain ⟨g', t', cs', fuel', p', hg', hty', hvar', hd'⟩ := h2
  obtain rfl := Option.some.inj (gOrds.symm.trans hg')
  obtain rfl := Option.some.inj (yOrds.symm.trans hty')
  have e1 : cs.toList = u32v firstW := Lib.cells_of_tab (zs := [1779033703, 3144134277, 1013904242, 2773480762, 1359893119, 2600822924, 528734635, 1541459225]) Tryd.underlying103 Tryd.underlying102 cells49 cells50 hd
  have e2 : cs'.toList = bv ords.flatten := by
    refine chunks _ (trod_len hd') (fun i hi => ?_)
    obtain ⟨f2, d2, q2, k2, t2⟩ := Lib.array_elem Tryd.underlying140 hd' i hi
    rw [cells80] at t2
    have hc : ∀ (zs : List Int), d2 = Lib.tabData .u8 zs → (cs'.toList.drop (i * 16)).take 16 = zs.map fun z => Value.int .u8 z := fun zs e => Lib.cells_of_tab Tryd.underlying139 Tryd.underlying5 cells5 cells80 (e ▸ t2)
    have : i = 0 ∨ i = 1 ∨ i = 2 ∨ i = 3 ∨ i = 4 ∨ i = 5 ∨ i = 6 ∨ i = 7 ∨ i = 8 ∨ i = 9 := by omega
    rcases this with rfl | rfl | rfl | rfl | rfl | rfl | rfl | rfl | rfl | rfl
    · exact (hc [0, 1, 2, 3, 4, 5, 6, 7, 8, 9, 10, 11, 12, 13, 14, 15] (Option.some.inj k2).symm).trans rfl
    · exact (hc [14, 10, 4, 8, 9, 15, 13, 6, 1, 12, 0, 2, 11, 7, 5, 3] (Option.some.inj k2).symm).trans rfl
    · exact (hc [11, 8, 12, 0, 5, 2, 15, 13, 10, 14, 3, 6, 7, 1, 9, 4] (Option.some.inj k2).symm).trans rfl
    · exact (hc [7, 9, 3, 1, 13, 12, 11, 14, 2, 6, 5, 10, 4, 0, 15, 8] (Option.some.inj k2).symm).trans rfl
    · exact (hc [9, 0, 5, 7, 2, 4, 10, 15, 14, 1, 11, 12, 6, 8, 3, 13] (Option.some.inj k2).symm).trans rfl
    · exact (hc [2, 12, 6, 10, 0, 11, 8, 3, 4, 13, 7, 5, 15, 14, 1, 9] (Option.some.inj k2).symm).trans rfl
    · exact (hc [12, 5, 1, 15, 14, 13, 4, 10, 0, 7, 6, 3, 9, 2, 8, 11] (Option.some.inj k2).symm).trans rfl
    · exact (hc [13, 11, 7, 14, 12, 1, 3, 9, 5, 0, 15, 4, 8, 6, 2, 10] (Option.some.inj k2).symm).trans rfl
    · exact (hc [6, 15, 14, 9, 11, 3, 0, 8, 12, 2, 13, 7, 1, 4, 10, 5] (Option.some.inj k2).symm).trans rfl
    · exact (hc [10, 2, 8, 4, 7, 6, 1, 5, 15, 11, 9, 14, 3, 12, 13, 0] (Option.some.inj k2).symm).trans rfl
  refine ⟨?_, ?_⟩
  · obtain ⟨t, fr, hh⟩ := var_row gFirst hvar
    exact ⟨t, fr, by rw [hh, ← e1]⟩
  · obtain ⟨t, fr, hh⟩ := var_row gOrds hvar'
    exact ⟨t, fr, by rw [hh, ← e2]⟩

set_option maxRecDepth 100000 in
theorem tabs_of {W : World} (h : laidMet Tryd.prog laidList W) : Lay W := by
  refine ⟨tabs0_of h, ?_⟩
  obtain ⟨g, t, cs, fuel, p, hg, hty, hvar, hd⟩ := Lib.laidMet.reads h (n := "sealskin/cipher.first") (d := Rows.laid_sealskin_cipher_first) (by simp [laidList])
  obtain rfl := Option.some.inj (gCip.symm.trans hg)
  obtain rfl := Option.some.inj (yCip.symm.trans hty)
  have e1 : cs.toList = u32v firstC := Lib.cells_of_tab (zs := [1634760805, 857760878, 2036477234, 1797285236]) Tryd.underlying127 Tryd.underlying102 cells49 cells53 hd
  obtain ⟨t, fr, hh⟩ := var_row gCip hvar
  exact ⟨t, fr, by rw [hh, ← e1]⟩

def firstIn : Obj → Obj
  | .cells _ t frozen => .cells (u32v firstW).toArray t frozen
  | o => o
def ordsIn : Obj → Obj
  | .cells _ t frozen => .cells (bv ords.flatten).toArray t frozen
  | o => o
def cipIn : Obj → Obj
  | .cells _ t frozen => .cells (u32v firstC).toArray t frozen
  | o => o
/-- A world for the witness: both tables as their initialisers lay them. -/
noncomputable def laidWorld (os : Os) : World :=
  { World.holding Tryd.prog os ⟨#[], #[], []⟩ with heap := (((World.holding Tryd.prog os ⟨#[], #[], []⟩).heap.modify 4 cipIn).modify 5 firstIn).modify 6 ordsIn }
end Go.Proofs.YtbnfilhilgjnfaaDoor
