/- A new end. -/
import Derived.Test.YtmkpphkdaiienaaCTk
namespace Go.Proofs.Ytmkpphkdaiienaa
set_option linter.unusedVariables false
set_option linter.unusedSimpArgs false
open Go.ChangeShapes Go.WideShapes Go.ChangeAt Go.RowKit Go.Joins Go.Deep

def newS (c : Int) : CS := ⟨1, [], 1, [], false, c⟩
set_option maxRecDepth 100000 in
set_option maxHeartbeats 4000000 in
theorem sender_any (w : World) : Calls Try.prog 37 #[] w fun r w' => r = .returned (.agg #[.int .i64 1, .slice none 0 0]) ∧ Below w.heap.size w w' := by
  go_enter Try.func37, Try.ntmps37
  go_wp2_with fail
  exact bodyPost_ret (v := .agg #[.int .i64 1, .slice none 0 0]) (by simp [results, Try.results37, go_sem]) rfl ⟨rfl, by first | exact (Below.refl _ _).alloc (Nat.le_refl _) _ | exact (((Below.refl _ _).alloc (Nat.le_refl _) _).setCell (by simp) _).setCell (by simp) _⟩
theorem map_new (w : World) (o : Obj) : ((w.alloc o).alloc (.map #[] 0)).heap[w.heap.size + 1]? = some (.map #[] 0) := by
  have := heap_alloc_new (w.alloc o) (.map #[] 0)
  rw [size_alloc] at this
  exact this
def RecR (w : World) (r : Ending) (w' : World) : Prop := ∃ m, r = .returned (.agg #[.int .i64 1, .map (some m), .bool false]) ∧ MapIs w' m [] ∧ w.heap.size ≤ m ∧ Below w.heap.size w w'
set_option maxRecDepth 100000 in
set_option maxHeartbeats 4000000 in
theorem receiver_any (w : World) : Calls Try.prog 38 #[] w fun r w' => RecR w r w' := by
  have hmm := @run_makeMap Try.prog
  go_enter Try.func38, Try.ntmps38
  go_wp2_with fail
  exact bodyPost_ret (v := .agg #[.int .i64 1, .map (some (w.heap.size + 1)), .bool false]) (by simp [results, Try.results38, go_sem]) rfl ⟨_, rfl, ⟨#[], 0, map_new _ _, rfl, MapKept.stamped_empty 0⟩, by omega, ((Below.refl _ _).alloc (Nat.le_refl _) _).alloc (by simp) _⟩
theorem RecR.shape {w w' : World} {r : Ending} (h : RecR w r w') : ∃ m, r = .returned (.agg #[.int .i64 1, .map (some m), .bool false]) ∧ MapIs w' m [] ∧ w.heap.size ≤ m ∧ Below w.heap.size w w' := h
def NewR (c : Int) (w : World) (r : Ending) (w' : World) : Prop := ∃ g m, r = .returned (.tuple #[.pointer (some ⟨g, 0, none⟩), .int .i64 0]) ∧ Ch w' w.heap.size g m (.slice none 0 0) (newS c) ∧ Below w.heap.size w w'
theorem new_end {w w1 : World} {m : Nat} {c : Int} (hm : MapIs w1 m []) (h : w.heap.size ≤ m) (hb : Below w.heap.size w w1) :
    NewR c w (.returned (.tuple #[.pointer (some ⟨w1.heap.size, 0, none⟩), .int .i64 0])) (w1.alloc (.cells #[.int .i64 1, .slice none 0 0, .int .i64 1, .map (some m), .bool false, .int .i64 c] 80)) := by
  have b1 : Below w1.heap.size w1 (w1.alloc (.cells #[.int .i64 1, .slice none 0 0, .int .i64 1, .map (some m), .bool false, .int .i64 c] 80)) := (Below.refl _ _).alloc (Nat.le_refl _) _
  exact ⟨_, m, rfl, ⟨RowAt.new w1 80 _, ⟨rfl, .inl ⟨rfl, rfl⟩⟩, hm.only (Only.of_below (p := fun _ => False) b1) id, fun p hp => (by cases hp), fun p hp => (by cases hp), hb.size, h⟩, hb.trans (b1.mono hb.size)⟩
set_option maxRecDepth 100000 in
set_option maxHeartbeats 4000000 in
theorem new_any (c : Int) (w : World) (h1 : 1 ≤ c) (h2 : c ≤ 1099511627776) : Calls Try.prog 10 #[.int .i64 c] w fun r w' => NewR c w r w' := by
  have i1 : ¬ c < 1 := by omega
  have i2 : ¬ 1099511627776 < c := by omega
  go_enter Try.func10, Try.ntmps10
  go_wp2_with fail
  refine Calls.mono (sender_any w) ?_
  rintro r w1 ⟨rfl, b1⟩
  have HB1 := hide b1
  clear b1
  go_wp2_with fail
  refine Calls.mono (receiver_any w1) ?_
  intro r w2 h2
  obtain ⟨m, rfl, hm, hle, b2⟩ := h2.shape
  have HM := hide hm
  have HE := hide (new_end (c := c) hm (Nat.le_trans (unhide HB1).size hle) ((unhide HB1).trans (b2.mono (unhide HB1).size)))
  clear h2 hm hle b2
  go_wp2_with fail
  go_ret2
  exact unhide HE
theorem new_bad (c : Int) (w : World) (h : c < 1 ∨ 1099511627776 < c) : Calls Try.prog 10 #[.int .i64 c] w fun r w' => r = .returned (.tuple #[.pointer none, .int .i64 1]) ∧ w = w' := by
  rcases h with h | h
  · go_enter Try.func10, Try.ntmps10
    go_wp2_with fail
    go_ret2
    exact ⟨rfl, rfl⟩
  · have h1 : ¬ c < 1 := by omega
    go_enter Try.func10, Try.ntmps10
    go_wp2_with fail
    go_ret2
    exact ⟨rfl, rfl⟩
def FreshR (w : World) (r : Ending) (w' : World) : Prop := ∃ g m, r = .returned (.pointer (some ⟨g, 0, none⟩)) ∧ Ch w' w.heap.size g m (.slice none 0 0) (newS 1) ∧ Below w.heap.size w w'
theorem NewR.shape {c : Int} {w w' : World} {r : Ending} (h : NewR c w r w') : ∃ g m, r = .returned (.tuple #[.pointer (some ⟨g, 0, none⟩), .int .i64 0]) ∧ Ch w' w.heap.size g m (.slice none 0 0) (newS c) ∧ Below w.heap.size w w' := h
theorem FreshR.shape {w w' : World} {r : Ending} (h : FreshR w r w') : ∃ g m, r = .returned (.pointer (some ⟨g, 0, none⟩)) ∧ Ch w' w.heap.size g m (.slice none 0 0) (newS 1) ∧ Below w.heap.size w w' := h
theorem fresh_any (w : World) : Calls Try.prog 31 #[] w fun r w' => FreshR w r w' := by
  go_enter Try.func31, Try.ntmps31
  go_wp2_with fail
  refine Calls.mono (new_any 1 w (by decide) (by decide)) ?_
  intro r w1 h1
  obtain ⟨g, m, rfl, h2, h3⟩ := h1.shape
  have HE : Hid (FreshR w (.returned (.pointer (some ⟨g, 0, none⟩))) w1) := hide ⟨g, m, rfl, h2, h3⟩
  clear h1 h2 h3
  go_wp2_with fail
  go_ret
  exact unhide HE
end Go.Proofs.Ytmkpphkdaiienaa
