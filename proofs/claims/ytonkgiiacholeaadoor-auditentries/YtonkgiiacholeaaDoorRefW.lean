/- The reference's words and orders. -/
import Derived.Test.YtonkgiiacholeaaDoorRef
namespace Go.Proofs.YtonkgiiacholeaaDoor
set_option linter.unusedVariables false
set_option linter.unusedSimpArgs false
open Go.ChangeShapes Go.WideShapes Go.ChangeAt Go.RowKit Go.Joins

theorem info50 : (Tryd.prog.info? 126).map (·.zero) = some (some (.agg (u32v (List.replicate 8 0)).toArray)) := by kernel_rfl
theorem zero50 (w : World) : (zeroValue 126).run Tryd.prog w = .ok (.agg (u32v (List.replicate 8 0)).toArray) w := by
  have h := info50
  generalize (u32v (List.replicate 8 0)).toArray = Z at *
  cases hq : Tryd.prog.info? 126 with
  | none => simp [hq] at h
  | some i => simp [hq] at h; simp [zeroValue, typeInfo, hq, h]
def i64v (l : List Nat) : List Value := l.map fun x => Value.int .i64 (Int.ofNat x)
theorem one_i64 (l : List Nat) : (i64v l).toArray.all (·.oneCell') = true := by
  simp [i64v, Value.oneCell']
theorem z69 : (Tryd.prog.info? 151).map (·.size) = some 160 := by kernel_rfl
theorem z68 : (Tryd.prog.info? 150).map (·.size) = some 16 := by kernel_rfl
set_option maxRecDepth 100000 in
theorem info69 : (Tryd.prog.info? 151).map (·.zero) = some (some (.agg (i64v (List.replicate 160 0)).toArray)) := by kernel_rfl
theorem zero69 (w : World) : (zeroValue 151).run Tryd.prog w = .ok (.agg (i64v (List.replicate 160 0)).toArray) w := by
  have h := info69
  generalize (i64v (List.replicate 160 0)).toArray = Z at *
  cases hq : Tryd.prog.info? 151 with
  | none => simp [hq] at h
  | some i => simp [hq] at h; simp [zeroValue, typeInfo, hq, h]

def partsU (l : List Nat) : List (Nat × Value) := l.zipIdx.map fun p => (p.2, .int .u32 (Int.ofNat p.1))
def partsI (l : List Nat) : List (Nat × Value) := l.zipIdx.map fun p => (p.2, .int .i64 (Int.ofNat p.1))
theorem fold50 : (((((((((u32v (List.replicate 8 0)).toArray.setIfInBounds 0 (.int .u32 1779033703)).setIfInBounds 1 (.int .u32 3144134277)).setIfInBounds 2 (.int .u32 1013904242)).setIfInBounds 3 (.int .u32 2773480762)).setIfInBounds 4 (.int .u32 1359893119)).setIfInBounds 5 (.int .u32 2600822924)).setIfInBounds 6 (.int .u32 528734635)).setIfInBounds 7 (.int .u32 1541459225)) = (u32v firstW).toArray := by kernel_rfl

set_option maxRecDepth 100000 in
set_option maxHeartbeats 1000000 in
theorem words_any (w : World) : Calls Tryd.prog 82 #[] w fun e w' => e = .returned (.agg (u32v firstW).toArray) ∧ Below w.heap.size w w' := by
  have hz := zero50
  generalize hZ : (u32v (List.replicate 8 0)).toArray = Z at hz
  have HZS : Hid (Z.size = 8) := hide (by rw [← hZ]; rfl)
  obtain ⟨E, hE⟩ : ∃ E, (u32v firstW).toArray = E := ⟨_, rfl⟩
  have hfold : ((((((((Z.setIfInBounds 0 (.int .u32 1779033703)).setIfInBounds 1 (.int .u32 3144134277)).setIfInBounds 2 (.int .u32 1013904242)).setIfInBounds 3 (.int .u32 2773480762)).setIfInBounds 4 (.int .u32 1359893119)).setIfInBounds 5 (.int .u32 2600822924)).setIfInBounds 6 (.int .u32 528734635)).setIfInBounds 7 (.int .u32 1541459225)) = E := by rw [← hZ, ← hE]; exact fold50
  have hzs : Z.size = 8 := unhide HZS
  have hzn : ¬ Z = #[] := fun e => by rw [e] at hzs; cases hzs
  have HES : Hid (E.size = 8) := hide (by rw [← hE]; rfl)
  have HEO : Hid (E.all (·.oneCell') = true) := hide (hE ▸ one_u32 _)
  rw [hE]
  have HB : Hid (Below w.heap.size w (w.alloc (.cells E 126))) := hide ((Below.refl _ _).alloc (Nat.le_refl _) _)
  clear hZ hE
  go_enter Tryd.func82, Tryd.ntmps82
  go_wp2_with (refine wpList_store_new rfl 126 _ _ rfl E rfl rfl (by rw [z50, unhide HES]) (by rw [unhide HES, unhide HZS]) (unhide HEO) ?_)
  refine bodyPost_ret (results_cell_row Tryd.results82 _ _ w.heap.size 126 E (0, 0) _ rfl (heap_alloc_new _ _) Tryd.underlying126 rfl (by rw [z50, unhide HES])) rfl ⟨rfl, unhide HB⟩

end Go.Proofs.YtonkgiiacholeaaDoor
