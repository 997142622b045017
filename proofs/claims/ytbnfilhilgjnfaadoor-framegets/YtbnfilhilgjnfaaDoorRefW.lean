/- The reference's words and orders. -/
import Derived.Test.YtbnfilhilgjnfaaDoorRef
namespace Go.Proofs.YtbnfilhilgjnfaaDoor
set_option linter.unusedVariables false
set_option linter.unusedSimpArgs false
open Go.ChangeShapes Go.WideShapes Go.ChangeAt Go.RowKit Go.Joins

theorem info50 : (Tryd.prog.info? 103).map (·.zero) = some (some (.agg (u32v (List.replicate 8 0)).toArray)) := by kernel_rfl
theorem zero50 (w : World) : (zeroValue 103).run Tryd.prog w = .ok (.agg (u32v (List.replicate 8 0)).toArray) w := by
  have h := info50
  generalize (u32v (List.replicate 8 0)).toArray = Z at *
  cases hq : Tryd.prog.info? 103 with
  | none => simp [hq] at h
  | some i => simp [hq] at h; simp [zeroValue, typeInfo, hq, h]
def i64v (l : List Nat) : List Value := l.map fun x => Value.int .i64 (Int.ofNat x)
theorem one_i64 (l : List Nat) : (i64v l).toArray.all (·.oneCell') = true := by
  simp [i64v, Value.oneCell']
def partsU (l : List Nat) : List (Nat × Value) := l.zipIdx.map fun p => (p.2, .int .u32 (Int.ofNat p.1))
def partsI (l : List Nat) : List (Nat × Value) := l.zipIdx.map fun p => (p.2, .int .i64 (Int.ofNat p.1))
theorem fold50 : (((((((((u32v (List.replicate 8 0)).toArray.setIfInBounds 0 (.int .u32 1779033703)).setIfInBounds 1 (.int .u32 3144134277)).setIfInBounds 2 (.int .u32 1013904242)).setIfInBounds 3 (.int .u32 2773480762)).setIfInBounds 4 (.int .u32 1359893119)).setIfInBounds 5 (.int .u32 2600822924)).setIfInBounds 6 (.int .u32 528734635)).setIfInBounds 7 (.int .u32 1541459225)) = (u32v firstW).toArray := by kernel_rfl

end Go.Proofs.YtbnfilhilgjnfaaDoor
