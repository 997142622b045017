/- A digest that no call made. -/
import Derived.Test.YtlgbkkfkobijpabDoorNew
namespace Go.Proofs.YtlgbkkfkobijpabDoor
set_option linter.unusedVariables false
set_option linter.unusedSimpArgs false
open Go.ChangeShapes Go.WideShapes Go.ChangeAt Go.RowKit Go.Joins

/-- no call made it -/
def Unmade (w : World) (p : Value) : Prop := ∀ wx, Below w.heap.size w wx → Calls Tryd.prog 28 #[p] wx fun e w' => e = .returned (.bool false) ∧ wx = w'
theorem unmade_nil (w : World) : Unmade w (.pointer none) := fun wx _ => made_nil wx
theorem unmade_row {w : World} {g : Nat} {h blk : List Nat} {held folded : Nat} (hh : h.length = 8) (hb : blk.length = 64) (hr : RowAt w g 41 (dcells h blk held folded false)) : Unmade w (.pointer (some ⟨g, 0, none⟩)) :=
  fun wx b => made_any g h blk held folded false wx hh hb (hr.below b hr.lt)
theorem Unmade.call {w w' : World} {p : Value} (h : Unmade w p) (b : Below w.heap.size w w') : Unmade w' p := fun wx bx => h wx (b.trans (bx.mono b.size))

set_option maxHeartbeats 1000000 in
theorem add_no (p v : Value) (w : World) (hu : Unmade w p) : Calls Tryd.prog 15 #[p, v] w fun e w' => e = .returned (.int .i64 6) ∧ w = w' := by
  have H := hide (hu w (Below.refl _ _))
  clear hu
  go_enter Tryd.func15, Tryd.ntmps15
  go_wp2_with fail
  refine Calls.mono (unhide H) ?_
  rintro e w1 ⟨rfl, rfl⟩
  go_wp2_with fail
  go_ret
  exact ⟨rfl, rfl⟩
set_option maxHeartbeats 1000000 in
theorem clone_no (p : Value) (w : World) (hu : Unmade w p) : Calls Tryd.prog 18 #[p] w fun e w' => e = .returned (.pointer none) ∧ w = w' := by
  have H := hide (hu w (Below.refl _ _))
  clear hu
  go_enter Tryd.func18, Tryd.ntmps18
  go_wp2_with fail
  refine Calls.mono (unhide H) ?_
  rintro e w1 ⟨rfl, rfl⟩
  go_wp2_with fail
  go_ret
  exact ⟨rfl, rfl⟩
set_option maxRecDepth 100000 in
set_option maxHeartbeats 4000000 in
theorem sum_no (p : Value) (w : World) (hu : Unmade w p) : Calls Tryd.prog 16 #[p] w fun e w' => e = .returned (.agg (bv (List.replicate 32 0)).toArray) ∧ Below w.heap.size w w' := by
  have hz := zero27
  generalize hZ : (bv (List.replicate 32 0)).toArray = Z at *
  have HZS : Hid (Z.size = 32) := hide (by rw [← hZ, List.size_toArray, bv_len, List.length_replicate])
  have HZO : Hid (Z.all (·.oneCell') = true) := hide (hZ ▸ one_bv _)
  have B2 : Below w.heap.size w ((w.alloc (.cells Z 32)).alloc (.cells Z 32)) := ((Below.refl _ _).alloc (Nat.le_refl _) _).alloc (by rw [size_alloc]; omega) _
  have RS2 : RowAt ((w.alloc (.cells Z 32)).alloc (.cells Z 32)) (w.heap.size + 1) 32 (bv (List.replicate 32 0)) := by
    have := RowAt.new (w.alloc (.cells Z 32)) 32 (bv (List.replicate 32 0))
    rw [size_alloc, hZ] at this
    exact this
  have RT2 : RowAt ((w.alloc (.cells Z 32)).alloc (.cells Z 32)) w.heap.size 32 (bv (List.replicate 32 0)) := by
    have := RowAt.new w 32 (bv (List.replicate 32 0))
    rw [hZ] at this
    exact this.only (p := fun _ => False) ((Only.refl _ _).alloc _) id
  have H := hide (hu _ B2)
  have HE1 := hide (RS2.arr hZ)
  have HE2 := hide (RT2.arr hZ)
  have HB := hide B2
  clear hu B2 RS2 RT2 hZ
  go_enter Tryd.func16, Tryd.ntmps16
  go_wp2_with fail
  generalize (w.alloc (.cells Z 32)).alloc (.cells Z 32) = w2 at *
  refine Calls.mono (unhide H) ?_
  rintro e w1 ⟨rfl, rfl⟩
  go_wp2_with (first
    | (refine wpList_load_row rfl 32 _ rfl (w.heap.size + 1) rfl 32 Z (0, 0) _ (unhide HE1) Tryd.underlying32 rfl (by rw [z27, unhide HZS]) ?_)
    | (refine wpList_store_row rfl 32 _ _ rfl w.heap.size Z rfl rfl 32 Z (unhide HE2) (by rw [z27, unhide HZS]) rfl (unhide HZO) ?_))
  refine bodyPost_ret (results_cell_row Tryd.results16 _ _ w.heap.size 32 Z (0, 0) _ rfl (setRow_heap _ _ _ _ _ _ (unhide HE2)) Tryd.underlying32 rfl (by rw [z27, unhide HZS])) rfl ⟨rfl, ?_⟩
  exact Below.trans (unhide HB) ⟨rfl, rfl, rfl, by simp [World.setRow], fun k hk => setRow_other _ _ _ _ (by omega)⟩
end Go.Proofs.YtlgbkkfkobijpabDoor
