/- How the arguments that are labels come in. -/
import Derived.Test.YtbahnkomdndmkabMath
import Derived.Lib.SmallJoins
import Derived.ChangeOld
namespace Go.Proofs.Ytbahnkomdndmkab
open Go.ChangeShapes Go.WideShapes Go.ChangeAt Go.RowKit Go.Joins

theorem own : ownKnob Try.prog.godebug = none := by kernel_rfl
theorem laidOut : laidOutB Try.prog = true := by kernel_rfl
theorem cells24 : Try.prog.cellsOf 24 = 2 := by kernel_rfl

theorem open_label {H : Type} {enc : TypeId × Value → H} {W : World} {b0 base : Nat} {spare : Nat → Bool} {held : Bool} {v : Value} {d : DataW H} {p : List MemPlace}
    (hv : Value.okWide Try.prog W .any b0 24 v) (h : DataW.Trod enc Try.prog W base spare held 24 v d p) :
    ∃ l c : Int, v = .agg #[.int .i64 l, .int .u32 c] ∧ (-9223372036854775808 ≤ l ∧ l ≤ 9223372036854775807) ∧ U32 c := by
  obtain ⟨c0, c1, y0, y1, m, rfl, _, _, hy0, hy1⟩ := open_agg2 Try.underlying24 (by kernel_rfl) cells24 hv h
  obtain ⟨l, e0, _, wl⟩ := DataW.trod_int Try.underlying3 hy0
  obtain ⟨c, e1, _, wc⟩ := DataW.trod_int Try.underlying22 hy1
  simp at e0 e1
  subst e0 e1
  refine ⟨l, c, rfl, bounds_i64 wl, ?_⟩
  have := bounds_u32 wc
  exact ⟨by omega, by omega⟩
end Go.Proofs.Ytbahnkomdndmkab
