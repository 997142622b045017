/- A message's bytes are bytes. -/
import Derived.Test.YtbnfilhilgjnfaaDoorGPu0
namespace Go.Proofs.YtbnfilhilgjnfaaDoor
set_option linter.unusedVariables false
set_option linter.unusedSimpArgs false
open Go.ChangeShapes Go.WideShapes Go.ChangeAt Go.RowKit Go.Joins

theorem txt_8 (s : ByteArray) : U8 (txt s) := by
  intro y hy
  obtain ⟨x, _, rfl⟩ := List.mem_map.1 hy
  exact x.toNat_lt
theorem prt_8 (p : Ed.Pt) : U8 (prt p) := by
  unfold prt putB
  exact u8_app (u8_app (putN_8 (fun y hy => by cases hy) _ 2) (num8_8 _)) (txt_8 _)
theorem prts_8 (l : List Ed.Pt) : U8 (prts l) := by
  intro y hy
  obtain ⟨x, hx, hy⟩ := List.mem_flatten.1 hy
  obtain ⟨p, _, rfl⟩ := List.mem_map.1 hx
  exact prt_8 p y hy
theorem msgL_8 (k x0 x1 x2 x3 x4 x5 x6 : Int) (l : List Ed.Pt) : U8 (msgL k x0 x1 x2 x3 x4 x5 x6 l) := u8_app (putN_8 (fun y hy => by cases hy) _ 9) (prts_8 l)
end Go.Proofs.YtbnfilhilgjnfaaDoor
