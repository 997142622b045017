/- A desk that no call made: whatever is asked of it. -/
import Derived.Test.YthgacmlbmcehmaaDOp
namespace Go.Proofs.Ythgacmlbmcehmaa
set_option linter.unusedVariables false
set_option linter.unusedSimpArgs false
open Go.ChangeShapes Go.WideShapes Go.ChangeAt Go.RowKit Go.Joins Go.Deep

set_option maxRecDepth 100000 in
set_option maxHeartbeats 4000000 in
theorem tick_nil (w : World) : Calls Try.prog 33 #[.pointer none] w fun r w' => r = .returned (.slice none 0 0) ∧ w = w' := by
  go_enter Try.func33, Try.ntmps33
  go_wp2_with fail
  go_ret
  exact ⟨rfl, rfl⟩
set_option maxRecDepth 100000 in
set_option maxHeartbeats 4000000 in
theorem tick_zero (g : Nat) (w : World) (h : RowAt w g 72 [.slice none 0 0, .slice none 0 0]) : Calls Try.prog 33 #[.pointer (some ⟨g, 0, none⟩)] w fun r w' => r = .returned (.slice none 0 0) ∧ w = w' := by
  have c0 : w.cell? ⟨g, 0, none⟩ = some (.slice none 0 0) := h.cell 0
  clear h
  go_enter Try.func33, Try.ntmps33
  go_wp2_with fail
  go_loopw [3, 12] (fun a i wr => a = .slice none 0 0 ∧ i = .int .i64 0 ∧ w = wr) (fun _ _ _ => 0)
  case atStart => exact ⟨rfl, rfl, rfl⟩
  case round =>
    obtain ⟨rfl, rfl, rfl⟩ := hrel
    go_wp2_with fail
    go_ret
    exact ⟨rfl, rfl⟩
/-- a desk that New did not make -/
def Nob (d : Value) (w : World) : Prop := d = .pointer none ∨ ∃ g, d = .pointer (some ⟨g, 0, none⟩) ∧ RowAt w g 72 [.slice none 0 0, .slice none 0 0]
theorem Nob.call {d : Value} {w w' : World} (h : Nob d w) (hb : Below w.heap.size w w') : Nob d w' := by
  rcases h with h | ⟨g, h1, h2⟩
  · exact .inl h
  · exact .inr ⟨g, h1, h2.below hb h2.lt⟩
theorem Nob.no {d : Value} {w : World} (h : Nob d w) (i : Int) : NoG d i w 6 := by
  rcases h with rfl | ⟨g, rfl, h2⟩
  · exact find_nil i w
  · exact find_zero g i w h2
theorem Nob.seats {d : Value} {w : World} (h : Nob d w) (l : Int) : Calls Try.prog 27 #[d, .int .i64 l] w fun r w' => r = .returned (.int .i64 0) ∧ w = w' := by
  rcases h with rfl | ⟨g, rfl, h2⟩
  · exact seats_nil l w
  · exact seats_zero g l w h2
theorem Nob.tick {d : Value} {w : World} (h : Nob d w) : Calls Try.prog 33 #[d] w fun r w' => r = .returned (.slice none 0 0) ∧ w = w' := by
  rcases h with rfl | ⟨g, rfl, h2⟩
  · exact tick_nil w
  · exact tick_zero g w h2
end Go.Proofs.Ythgacmlbmcehmaa
