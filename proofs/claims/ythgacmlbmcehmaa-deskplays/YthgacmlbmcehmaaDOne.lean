/- A policy of one label and one seat (one). -/
import Derived.Test.YthgacmlbmcehmaaDNew
namespace Go.Proofs.Ythgacmlbmcehmaa
set_option linter.unusedVariables false
set_option linter.unusedSimpArgs false
open Go.ChangeShapes Go.WideShapes Go.ChangeAt Go.RowKit Go.Joins Go.Deep

/-- the two secrets -/
def oneS (i : Nat) : ByteArray := if i = 0 then ⟨#[115]⟩ else ⟨#[116]⟩
/-- the policy of one label, as it lies in memory -/
structure OneP (w : World) (a0 a1 a2 : Option Addr) : Prop where
  pl : PolLabs w a0 1 (fun _ => 0) (fun _ => 0)
  pq : PolQuos w a1 1 (fun _ => 0) (fun _ => 0) (fun _ => 1)
  pe : PolEnts w a2 2 (fun _ => 0) oneS (fun _ => false)
theorem OneP.of {w : World} {g0 g1 g2 : Nat} (h0 : RowAt w g0 89 [.int .i64 0, .int .u32 0]) (h1 : RowAt w g1 60 [.int .i64 0, .int .i64 0, .int .i64 1])
    (h2 : RowAt w g2 63 [.int .i64 0, .string ⟨#[115]⟩, .bool false, .int .i64 0, .string ⟨#[116]⟩, .bool false]) : OneP w (some ⟨g0, 0, none⟩) (some ⟨g1, 0, none⟩) (some ⟨g2, 0, none⟩) := by
  refine ⟨⟨by unfold maxLen; omega, fun i _ => by unfold U32; simp, .inr ⟨g0, 0, rfl, h0.lt, ?_⟩⟩, ⟨by unfold maxLen; omega, fun i _ => by unfold I64; simp, .inr ⟨g1, 0, rfl, h1.lt, ?_⟩⟩, ⟨by unfold maxLen; omega, fun i hi => ⟨by unfold I64; simp, ?_⟩, .inr ⟨g2, 0, rfl, h2.lt, ?_⟩⟩⟩
  · intro i hi
    obtain rfl : i = 0 := by omega
    exact ⟨h0.cell 0, h0.cell 1⟩
  · intro i hi
    obtain rfl : i = 0 := by omega
    exact ⟨h1.cell 0, h1.cell 1, h1.cell 2⟩
  · unfold maxLen oneS
    split <;> simp [ByteArray.size]
  · intro i hi
    obtain rfl | rfl : i = 0 ∨ i = 1 := by omega
    · exact ⟨h2.cell 0, h2.cell 1, h2.cell 2⟩
    · exact ⟨h2.cell 3, h2.cell 4, h2.cell 5⟩
theorem right_one : rightN 1 1 2 (fun _ => 0) (fun _ => 0) (fun _ => 0) (fun _ => 0) (fun _ => 1) (fun _ => 0) oneS = 0 := by decide
set_option maxRecDepth 100000 in
set_option maxHeartbeats 4000000 in
theorem one_ok (w : World) : Calls Try.prog 37 #[] w fun e w' => ∃ a0 a1 a2, e = .returned (.agg #[.slice a0 1 1, .slice a1 1 1, .slice a2 2 2]) ∧ OneP w' a0 a1 a2 ∧ Below w.heap.size w w' := by
  go_enter Try.func37, Try.ntmps37
  go_wp2_with fail
  have hz : (Try.prog.info? 26).map (·.size) = some 3 := by kernel_rfl
  obtain ⟨P, hP⟩ : ∃ P : List Value, P = [.slice (some ⟨w.heap.size + 1, 0, none⟩) 1 1, .slice (some ⟨w.heap.size + 1 + 1, 0, none⟩) 1 1, .slice (some ⟨w.heap.size + 1 + 1 + 1, 0, none⟩) 2 2] := ⟨_, rfl⟩
  have h0 := RowAt.new w 26 P
  have h1 := h0.below ((Below.refl (w.alloc (.cells P.toArray 26)).heap.size _).alloc (Nat.le_refl _) (.cells #[.int .i64 0, .int .u32 0] 89)) h0.lt
  have h2 := h1.below ((Below.refl ((w.alloc (.cells P.toArray 26)).alloc (.cells #[.int .i64 0, .int .u32 0] 89)).heap.size _).alloc (Nat.le_refl _) (.cells #[.int .i64 0, .int .i64 0, .int .i64 1] 60)) h1.lt
  have h3 := h2.below ((Below.refl (((w.alloc (.cells P.toArray 26)).alloc (.cells #[.int .i64 0, .int .u32 0] 89)).alloc (.cells #[.int .i64 0, .int .i64 0, .int .i64 1] 60)).heap.size _).alloc (Nat.le_refl _) (.cells #[.int .i64 0, .string ⟨#[115]⟩, .bool false, .int .i64 0, .string ⟨#[116]⟩, .bool false] 63)) h2.lt
  subst hP
  refine bodyPost_ret (results_cell_row Try.results37 _ _ w.heap.size 26 _ (0, 0) _ rfl h3 Try.underlying26 rfl hz) rfl ?_
  refine ⟨_, _, _, rfl, OneP.of ?_ ?_ ?_, ?_⟩
  · have h := RowAt.new (w.alloc (.cells #[.slice (some ⟨w.heap.size + 1, 0, none⟩) 1 1, .slice (some ⟨w.heap.size + 1 + 1, 0, none⟩) 1 1, .slice (some ⟨w.heap.size + 1 + 1 + 1, 0, none⟩) 2 2] 26)) 89 [.int .i64 0, .int .u32 0]
    rw [size_alloc] at h
    exact (h.below ((Below.refl _ _).alloc (Nat.le_refl _) _) h.lt).below ((Below.refl _ _).alloc (Nat.le_refl _) _) (by simp only [size_alloc]; omega)
  · have h := RowAt.new ((w.alloc (.cells #[.slice (some ⟨w.heap.size + 1, 0, none⟩) 1 1, .slice (some ⟨w.heap.size + 1 + 1, 0, none⟩) 1 1, .slice (some ⟨w.heap.size + 1 + 1 + 1, 0, none⟩) 2 2] 26)).alloc (.cells #[.int .i64 0, .int .u32 0] 89)) 60 [.int .i64 0, .int .i64 0, .int .i64 1]
    rw [size_alloc, size_alloc] at h
    exact h.below ((Below.refl _ _).alloc (Nat.le_refl _) _) h.lt
  · have h := RowAt.new (((w.alloc (.cells #[.slice (some ⟨w.heap.size + 1, 0, none⟩) 1 1, .slice (some ⟨w.heap.size + 1 + 1, 0, none⟩) 1 1, .slice (some ⟨w.heap.size + 1 + 1 + 1, 0, none⟩) 2 2] 26)).alloc (.cells #[.int .i64 0, .int .u32 0] 89)).alloc (.cells #[.int .i64 0, .int .i64 0, .int .i64 1] 60)) 63 [.int .i64 0, .string ⟨#[115]⟩, .bool false, .int .i64 0, .string ⟨#[116]⟩, .bool false]
    rw [size_alloc, size_alloc, size_alloc] at h
    exact h
  · exact ((((Below.refl _ _).alloc (Nat.le_refl _) _).alloc (by rw [size_alloc]; omega) _).alloc (by rw [size_alloc, size_alloc]; omega) _).alloc (by rw [size_alloc, size_alloc, size_alloc]; omega) _
/-- what New made, as a desk -/
theorem Mk.desk {w wr : World} {gp gd : Nat} {p0 p1 p2 v s : Value} {D : List Gst} {Q : List Int} (h : Mk w wr gp gd p0 p1 p2 v s D Q) (hD : 0 < D.length) (h8 : D.length ≤ 8) : ∃ gg c ex, Dk wr gd gg c s ex D ∧ w.heap.size ≤ gg := by
  rcases h.gs.2 with ⟨_, h0⟩ | ⟨g, cap, cur, e1, e2, e3, e4, e5, e6, e7⟩
  · omega
  · refine ⟨g, cap, cur.toList.drop (D.length * 6), ⟨?_, ?_, hD, h8⟩, e2⟩
    · rw [← e1]; exact h.obj
    · show wr.heap[g]? = some (.cells (gsv D ++ cur.toList.drop (D.length * 6)).toArray 77 (0, 0))
      rw [← e7, List.take_append_drop]
      exact e3
theorem Mk.seats {w wr : World} {gp gd : Nat} {p0 p1 p2 v s : Value} {D : List Gst} {Q : List Int} (h : Mk w wr gp gd p0 p1 p2 v s D Q) (hQ : 0 < Q.length) : Sq wr s Q.length (fun i => Q.getD i 0) := by
  rcases h.ss.2 with ⟨_, h0⟩ | ⟨g, cap, cur, e1, e2, e3, e4, e5, e6, e7⟩
  · omega
  · refine ⟨g, cap, e1, cur.toList, e3, ?_⟩
    intro j hj
    have h1 : (cur.toList.take (Q.length * 1))[j]? = cur.toList[j]? := by rw [List.getElem?_take, if_pos (by omega)]
    rw [← h1, e7, List.getElem?_map, List.getElem?_eq_getElem hj]
    simp [List.getD_eq_getElem?_getD, List.getElem?_eq_getElem hj]
end Go.Proofs.Ythgacmlbmcehmaa
