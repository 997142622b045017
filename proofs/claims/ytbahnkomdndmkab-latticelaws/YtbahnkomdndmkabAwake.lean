/- The examples that each statement asks for besides: they hold. -/
import Derived.Test.YtbahnkomdndmkabLabels
import Derived.Deep.RegionHeld3
namespace Go.Proofs.Ytbahnkomdndmkab
open Go.ChangeShapes Go.WideShapes Go.ChangeAt Go.RowKit

theorem labrow_two {w : World} {b : Nat} {l0 c0 l1 c1 : Int} (h0 : w.cell? ⟨b, 0, none⟩ = some (.int .i64 l0)) (h1 : w.cell? ⟨b, 1, none⟩ = some (.int .u32 c0)) (h2 : w.cell? ⟨b, 2, none⟩ = some (.int .i64 l1)) (h3 : w.cell? ⟨b, 3, none⟩ = some (.int .u32 c1)) :
    LabRow w b 0 2 (fun i => if i = 0 then l0 else l1) (fun i => if i = 0 then c0 else c1) := by
  intro i hi
  match i, hi with
  | 0, _ => exact ⟨by simpa using h0, by simpa using h1⟩
  | 1, _ => exact ⟨by simpa using h2, by simpa using h3⟩

theorem join_two (b : Nat) (l0 c0 l1 c1 : Int) (w : World) (h0 : w.cell? ⟨b, 0, none⟩ = some (.int .i64 l0)) (h1 : w.cell? ⟨b, 1, none⟩ = some (.int .u32 c0)) (h2 : w.cell? ⟨b, 2, none⟩ = some (.int .i64 l1)) (h3 : w.cell? ⟨b, 3, none⟩ = some (.int .u32 c1)) (hb : b < w.heap.size) :
    Calls Try.prog 8 #[.slice (some ⟨b, 0, none⟩) 2 2] w fun e w' => e = .returned (.agg #[.int .i64 (if l0 < l1 then l1 else l0), .int .u32 (bits .or .u32 c0 c1)]) ∧ Below w.heap.size w w' :=
  (join_any b 0 1 2 _ _ w (labrow_two h0 h1 h2 h3) hb (by decide) (by decide)).mono fun e w' h => by simpa [jl, jc] using h

theorem meet_two (b : Nat) (l0 c0 l1 c1 : Int) (w : World) (h0 : w.cell? ⟨b, 0, none⟩ = some (.int .i64 l0)) (h1 : w.cell? ⟨b, 1, none⟩ = some (.int .u32 c0)) (h2 : w.cell? ⟨b, 2, none⟩ = some (.int .i64 l1)) (h3 : w.cell? ⟨b, 3, none⟩ = some (.int .u32 c1)) (hb : b < w.heap.size) :
    Calls Try.prog 9 #[.slice (some ⟨b, 0, none⟩) 2 2] w fun e w' => e = .returned (.agg #[.int .i64 (if l1 < l0 then l1 else l0), .int .u32 (bits .and .u32 c0 c1)]) ∧ Below w.heap.size w w' :=
  (meet_any b 0 1 2 _ _ w (labrow_two h0 h1 h2 h3) hb (by decide) (by decide)).mono fun e w' h => by simpa [ml, mc] using h

theorem cell_keep {B : Nat} {W w1 : World} {a : Addr} {v : Value} (hb : Below B W w1) (ha : a.block < B) (h : W.cell? a = some v) : w1.cell? a = some v := by rw [hb.cell ha]; exact h

def AwS (w : World) (N : Nat) (w' : World) : Prop :=
  w'.cell? ⟨N, 0, none⟩ = some (.int .i64 1) ∧ w'.cell? ⟨N, 1, none⟩ = some (.int .u32 1) ∧ w'.cell? ⟨N + 1, 0, none⟩ = some (.int .i64 2) ∧ w'.cell? ⟨N + 1, 1, none⟩ = some (.int .u32 2) ∧ N + 1 < w'.heap.size ∧ Below w.heap.size w w' ∧ w.heap.size ≤ N
theorem AwS.drew {w W : World} {N : Nat} (h : AwS w N W) : AwS w N W.drew := ⟨h.1, h.2.1, h.2.2.1, h.2.2.2.1, h.2.2.2.2.1, h.2.2.2.2.2.1.drew, h.2.2.2.2.2.2⟩
theorem AwS.call {w W w1 : World} {N : Nat} (h : AwS w N W) (hb : Below W.heap.size W w1) : AwS w N w1 := by
  obtain ⟨h0, h1, h2, h3, hs, bl, hn⟩ := h
  have hz := hb.size
  exact ⟨cell_keep hb (by show N < _; omega) h0, cell_keep hb (by show N < _; omega) h1, cell_keep hb hs h2, cell_keep hb hs h3, by omega, bl.trans (hb.mono (by omega)), hn⟩
theorem AwS.alloc {w W : World} {N : Nat} (h : AwS w N W) (o : Obj) : AwS w N (W.alloc o) := h.call ((Below.refl _ _).alloc (Nat.le_refl _) o)

set_option maxHeartbeats 1000000 in
theorem awake_any (w : World) : Calls Try.prog 11 #[] w fun e w' => e = .returned (.bool true) ∧ Below w.heap.size w w' := by
  have e1 : belowB 1 1 2 3 = true := by decide
  have e2 : belowB 1 1 2 2 = false := by decide
  have e3 : checkN 16 = 10 := by decide
  have e4 : checkN 1 = 0 := by decide
  have e5 : bits .or .u32 1 2 = 3 := by decide
  have e6 : bits .and .u32 1 2 = 0 := by decide
  go_enter Try.func11, Try.ntmps11
  go_wp2_with fail
  refine (of_any _ _ _).mono ?_
  rintro e w1 ⟨rfl, hb1⟩
  go_wp2_with fail
  refine (of_any _ _ _).mono ?_
  rintro e w2 ⟨rfl, hb2⟩
  go_wp2_with fail
  have hst : AwS w w2.heap.size ((w2.alloc (Obj.cells #[Value.int IntKind.i64 1, Value.int IntKind.u32 1] 24)).alloc (Obj.cells #[Value.int IntKind.i64 2, Value.int IntKind.u32 2] 24)) := by
    have z1 := hb1.size
    have z2 := hb2.size
    refine ⟨by simp [go_sem], by simp [go_sem], by simp [go_sem], by simp [go_sem], by simp, ?_, by omega⟩
    exact ((hb1.trans (hb2.mono z1)).alloc (by omega) _).alloc (by simp; omega) _
  generalize ((w2.alloc (Obj.cells #[Value.int IntKind.i64 1, Value.int IntKind.u32 1] 24)).alloc (Obj.cells #[Value.int IntKind.i64 2, Value.int IntKind.u32 2] 24)) = W0 at *
  generalize w2.heap.size = N at *
  clear hb1 hb2
  have hst' := hst
  unfold AwS at hst'
  go_region_held3 (fun w' => w'.cell? ⟨N, 0, none⟩ = some (.int .i64 1) ∧ w'.cell? ⟨N, 1, none⟩ = some (.int .u32 1) ∧ w'.cell? ⟨N + 1, 0, none⟩ = some (.int .i64 2) ∧ w'.cell? ⟨N + 1, 1, none⟩ = some (.int .u32 2) ∧ N + 1 < w'.heap.size ∧ Below w.heap.size w w' ∧ w.heap.size ≤ N)
    (first | exact AwS.drew (by assumption) | exact AwS.alloc (by assumption) _ | exact AwS.call (by assumption) (by assumption))
    (first
      | (go_at_call 25; refine (of_any _ _ _).mono ?_; rintro e w' ⟨rfl, hb⟩)
      | (go_at_call 26; refine (below_any _ _ _ _ _).mono ?_; rintro e w' ⟨rfl, hb⟩; first | rw [e1] | rw [e2])
      | (go_at_call 10; refine (check_any _ _ _).mono ?_; rintro e w' ⟨rfl, hb⟩; first | rw [e3] | rw [e4])
      | (go_at_call 8; refine (join_two _ 1 1 2 2 _ ?_ ?_ ?_ ?_ ?_).mono ?_; (simp [go_sem]); (simp [go_sem]); (simp [go_sem]); (simp [go_sem]); (simp); rintro e w' ⟨rfl, hb⟩; rw [e5])
      | (go_at_call 9; refine (meet_two _ 1 1 2 2 _ ?_ ?_ ?_ ?_ ?_).mono ?_; (simp [go_sem]); (simp [go_sem]); (simp [go_sem]); (simp [go_sem]); (simp); rintro e w' ⟨rfl, hb⟩; rw [e6]))
  all_goals go_wp2
  all_goals go_ret
  all_goals
    have hS : AwS w N w' := by assumption
    exact ⟨rfl, hS.2.2.2.2.2.1⟩
end Go.Proofs.Ytbahnkomdndmkab
