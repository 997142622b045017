/- The reference's orders. -/
import Derived.Test.YtonkgiiacholeaaDoorRefW
namespace Go.Proofs.YtonkgiiacholeaaDoor
set_option linter.unusedVariables false
set_option linter.unusedSimpArgs false
open Go.ChangeShapes Go.WideShapes Go.ChangeAt Go.RowKit Go.Joins

theorem info68 : (Tryd.prog.info? 150).map (·.zero) = some (some (.agg (i64v (List.replicate 16 0)).toArray)) := by kernel_rfl
theorem zero68 (w : World) : (zeroValue 150).run Tryd.prog w = .ok (.agg (i64v (List.replicate 16 0)).toArray) w := by
  have h := info68
  generalize (i64v (List.replicate 16 0)).toArray = Z at *
  cases hq : Tryd.prog.info? 150 with
  | none => simp [hq] at h
  | some i => simp [hq] at h; simp [zeroValue, typeInfo, hq, h]
def partsO (k : Nat) : List (Nat × Value) := partsI (ord k)
theorem built68_0 : Tryd.prog.built 150 (partsO 0) = some (i64v (ord 0)).toArray := by kernel_rfl
theorem built68_1 : Tryd.prog.built 150 (partsO 1) = some (i64v (ord 1)).toArray := by kernel_rfl
theorem built68_2 : Tryd.prog.built 150 (partsO 2) = some (i64v (ord 2)).toArray := by kernel_rfl
theorem built68_3 : Tryd.prog.built 150 (partsO 3) = some (i64v (ord 3)).toArray := by kernel_rfl
theorem built68_4 : Tryd.prog.built 150 (partsO 4) = some (i64v (ord 4)).toArray := by kernel_rfl
theorem built68_5 : Tryd.prog.built 150 (partsO 5) = some (i64v (ord 5)).toArray := by kernel_rfl
theorem built68_6 : Tryd.prog.built 150 (partsO 6) = some (i64v (ord 6)).toArray := by kernel_rfl
theorem built68_7 : Tryd.prog.built 150 (partsO 7) = some (i64v (ord 7)).toArray := by kernel_rfl
theorem built68_8 : Tryd.prog.built 150 (partsO 8) = some (i64v (ord 8)).toArray := by kernel_rfl
theorem built68_9 : Tryd.prog.built 150 (partsO 9) = some (i64v (ord 9)).toArray := by kernel_rfl
def rowsO : List (Nat × Value) := (List.range 10).map fun k => (k, .agg (i64v (ord k)).toArray)
set_option maxRecDepth 100000 in
theorem built69 : Tryd.prog.built 151 rowsO = some (i64v ords.flatten).toArray := by kernel_rfl

set_option maxRecDepth 100000 in
set_option maxHeartbeats 400000 in
theorem orders_any (w : World) : Calls Tryd.prog 95 #[] w fun e w' => e = .returned (.agg (i64v ords.flatten).toArray) ∧ Below w.heap.size w w' := by
  have hz := zero69
  generalize hZ : (i64v (List.replicate 160 0)).toArray = Z at hz
  have HZS : Hid (Z.size = 160) := hide (by rw [← hZ, List.size_toArray]; rfl)
  clear hZ
  obtain ⟨O0, hO0⟩ : ∃ O, (i64v (ord 0)).toArray = O := ⟨_, rfl⟩
  have HB0 : Hid (Tryd.prog.built 150 (partsO 0) = some O0) := hide (hO0 ▸ built68_0)
  obtain ⟨O1, hO1⟩ : ∃ O, (i64v (ord 1)).toArray = O := ⟨_, rfl⟩
  have HB1 : Hid (Tryd.prog.built 150 (partsO 1) = some O1) := hide (hO1 ▸ built68_1)
  obtain ⟨O2, hO2⟩ : ∃ O, (i64v (ord 2)).toArray = O := ⟨_, rfl⟩
  have HB2 : Hid (Tryd.prog.built 150 (partsO 2) = some O2) := hide (hO2 ▸ built68_2)
  obtain ⟨O3, hO3⟩ : ∃ O, (i64v (ord 3)).toArray = O := ⟨_, rfl⟩
  have HB3 : Hid (Tryd.prog.built 150 (partsO 3) = some O3) := hide (hO3 ▸ built68_3)
  obtain ⟨O4, hO4⟩ : ∃ O, (i64v (ord 4)).toArray = O := ⟨_, rfl⟩
  have HB4 : Hid (Tryd.prog.built 150 (partsO 4) = some O4) := hide (hO4 ▸ built68_4)
  obtain ⟨O5, hO5⟩ : ∃ O, (i64v (ord 5)).toArray = O := ⟨_, rfl⟩
  have HB5 : Hid (Tryd.prog.built 150 (partsO 5) = some O5) := hide (hO5 ▸ built68_5)
  obtain ⟨O6, hO6⟩ : ∃ O, (i64v (ord 6)).toArray = O := ⟨_, rfl⟩
  have HB6 : Hid (Tryd.prog.built 150 (partsO 6) = some O6) := hide (hO6 ▸ built68_6)
  obtain ⟨O7, hO7⟩ : ∃ O, (i64v (ord 7)).toArray = O := ⟨_, rfl⟩
  have HB7 : Hid (Tryd.prog.built 150 (partsO 7) = some O7) := hide (hO7 ▸ built68_7)
  obtain ⟨O8, hO8⟩ : ∃ O, (i64v (ord 8)).toArray = O := ⟨_, rfl⟩
  have HB8 : Hid (Tryd.prog.built 150 (partsO 8) = some O8) := hide (hO8 ▸ built68_8)
  obtain ⟨O9, hO9⟩ : ∃ O, (i64v (ord 9)).toArray = O := ⟨_, rfl⟩
  have HB9 : Hid (Tryd.prog.built 150 (partsO 9) = some O9) := hide (hO9 ▸ built68_9)
  obtain ⟨E, hE⟩ : ∃ E, (i64v ords.flatten).toArray = E := ⟨_, rfl⟩
  have HBB : Hid (Tryd.prog.built 151 [(0, .agg O0), (1, .agg O1), (2, .agg O2), (3, .agg O3), (4, .agg O4), (5, .agg O5), (6, .agg O6), (7, .agg O7), (8, .agg O8), (9, .agg O9)] = some E) := hide (by rw [← hE, ← hO0, ← hO1, ← hO2, ← hO3, ← hO4, ← hO5, ← hO6, ← hO7, ← hO8, ← hO9]; exact built69)
  have HES : Hid (E.size = 160) := hide (by rw [← hE]; kernel_rfl)
  have HEO : Hid (E.all (·.oneCell') = true) := hide (hE ▸ one_i64 _)
  rw [hE]
  have HBW : Hid (Below w.heap.size w (w.alloc (.cells E 151))) := hide ((Below.refl _ _).alloc (Nat.le_refl _) _)
  clear hE hO0 hO1 hO2 hO3 hO4 hO5 hO6 hO7 hO8 hO9
  go_enter Tryd.func95, Tryd.ntmps95
  apply wp_seq_k; intro K1 hK1
  apply wp_region_lit
  refine wpList_plain rfl fun K hK => ?_
  go_simp
  refine hK _ _ (wpList_nil (hK1 _ _ ?_))
  clear hK hK1 K K1
  apply wp_seq_k; intro K1 hK1
  apply wp_region_lit
  refine wpList_build' rfl 150 _ rfl O0 (partsO 0) (by kernel_rfl) (unhide HB0) ?_
  simp only [Act.put, List.setIfInBounds_toArray, List.set_cons_succ, List.set_cons_zero]
  refine wpList_build' rfl 150 _ rfl O1 (partsO 1) (by kernel_rfl) (unhide HB1) ?_
  simp only [Act.put, List.setIfInBounds_toArray, List.set_cons_succ, List.set_cons_zero]
  refine wpList_build' rfl 150 _ rfl O2 (partsO 2) (by kernel_rfl) (unhide HB2) ?_
  simp only [Act.put, List.setIfInBounds_toArray, List.set_cons_succ, List.set_cons_zero]
  refine wpList_build' rfl 150 _ rfl O3 (partsO 3) (by kernel_rfl) (unhide HB3) ?_
  simp only [Act.put, List.setIfInBounds_toArray, List.set_cons_succ, List.set_cons_zero]
  refine wpList_build' rfl 150 _ rfl O4 (partsO 4) (by kernel_rfl) (unhide HB4) ?_
  simp only [Act.put, List.setIfInBounds_toArray, List.set_cons_succ, List.set_cons_zero]
  refine wpList_build' rfl 150 _ rfl O5 (partsO 5) (by kernel_rfl) (unhide HB5) ?_
  simp only [Act.put, List.setIfInBounds_toArray, List.set_cons_succ, List.set_cons_zero]
  refine wpList_build' rfl 150 _ rfl O6 (partsO 6) (by kernel_rfl) (unhide HB6) ?_
  simp only [Act.put, List.setIfInBounds_toArray, List.set_cons_succ, List.set_cons_zero]
  refine wpList_build' rfl 150 _ rfl O7 (partsO 7) (by kernel_rfl) (unhide HB7) ?_
  simp only [Act.put, List.setIfInBounds_toArray, List.set_cons_succ, List.set_cons_zero]
  refine wpList_build' rfl 150 _ rfl O8 (partsO 8) (by kernel_rfl) (unhide HB8) ?_
  simp only [Act.put, List.setIfInBounds_toArray, List.set_cons_succ, List.set_cons_zero]
  refine wpList_build' rfl 150 _ rfl O9 (partsO 9) (by kernel_rfl) (unhide HB9) ?_
  simp only [Act.put, List.setIfInBounds_toArray, List.set_cons_succ, List.set_cons_zero]
  refine wpList_build' rfl 151 _ rfl E [(0, .agg O0), (1, .agg O1), (2, .agg O2), (3, .agg O3), (4, .agg O4), (5, .agg O5), (6, .agg O6), (7, .agg O7), (8, .agg O8), (9, .agg O9)] (by kernel_rfl) (unhide HBB) ?_
  simp only [Act.put, List.setIfInBounds_toArray, List.set_cons_succ, List.set_cons_zero]
  refine wpList_store_new rfl 151 _ _ rfl E rfl rfl (by rw [z69, unhide HES]) (by rw [unhide HES, unhide HZS]) (unhide HEO) ?_
  refine wpList_nil (hK1 _ _ ?_)
  clear hK1 K1
  go_wp2_with fail
  refine bodyPost_ret (results_cell_row Tryd.results95 _ _ w.heap.size 151 E (0, 0) _ rfl (heap_alloc_new _ _) Tryd.underlying151 rfl (by rw [z69, unhide HES])) rfl ⟨rfl, unhide HBW⟩

end Go.Proofs.YtonkgiiacholeaaDoor
