/- Two frames that are the same. -/
import Derived.Test.YtonkgiiacholeaaDoorFFits
namespace Go.Proofs.YtonkgiiacholeaaDoor
set_option linter.unusedVariables false
set_option linter.unusedSimpArgs false
open Go.ChangeShapes Go.WideShapes Go.ChangeAt Go.RowKit Go.Joins

set_option maxRecDepth 100000 in
set_option maxHeartbeats 4000000 in
theorem same_frame (c s k : Int) (v x : Value) (l : List Nat) (w : World) (hv : Byt w v l) (hx : Byt w x l) (h8 : U8 l) :
    Calls Tryd.prog 18 #[frV c s k v, frV c s k x] w fun e w' => e = .returned (.bool true) ∧ Below w.heap.size w w' := by
  obtain ⟨va, vc, rfl⟩ := byt_shape hv
  obtain ⟨xa, xc, rfl⟩ := byt_shape hx
  obtain ⟨n, hn⟩ : ∃ x, l.length = x := ⟨_, rfl⟩
  rw [hn] at hv hx ⊢
  have b1 : Below w.heap.size w ((w.alloc (.cells #[.int .i64 c, .int .i64 s, .int .i64 k, .slice va n vc] 24)).alloc (.cells #[.int .i64 c, .int .i64 s, .int .i64 k, .slice xa n xc] 24)) := ((Below.refl _ _).alloc (Nat.le_refl _) _).alloc (by simp) _
  have cv := byt_convert (hv.call b1) h8
  have cx := byt_convert (hx.call b1) h8
  have HB := hide b1
  clear hv hx h8 b1 hn
  unfold frV
  go_enter Tryd.func18, Tryd.ntmps18
  go_wp2_with fail
  all_goals (
    go_ret
    exact ⟨by simp, unhide HB⟩)
end Go.Proofs.YtonkgiiacholeaaDoor
