/- What a disk's calls do, one by one. -/
import Derived.Test.YtadjgljimikodaaMem
import Derived.Deep.QuietTactic
import Derived.BigQuiet
import Derived.Deep.RegionWith
namespace Go.Proofs.Ytadjgljimikodaa
set_option linter.unusedVariables false
set_option linter.unusedSimpArgs false
open Go.ChangeShapes Go.WideShapes Go.ChangeAt Go.RowKit

set_option maxHeartbeats 400000 in
theorem made_any (g : Nat) (S : Nat → Value) (d : DS) (w : World) (h : Dk w g S d) :
    Calls Try.prog 38 #[.pointer (some ⟨g, 0, none⟩)] w fun e w' => e = .returned (.bool true) ∧ w = w' := by
  have c3 := h.cells.c3
  have r1 := h.ok.room1
  have t : decide ((0 : Int) < (d.room : Int)) = true := by simp; omega
  go_enter Try.func38, Try.ntmps38
  go_wp2
  go_ret
  exact ⟨by simp; omega, rfl⟩

def DS.check (d : DS) : Int := if d.on then 0 else 50
set_option maxHeartbeats 400000 in
theorem power_any (g : Nat) (S : Nat → Value) (d : DS) (w : World) (h : Dk w g S d) :
    Calls Try.prog 40 #[.pointer (some ⟨g, 0, none⟩)] w fun e w' => e = .returned (.int .i64 d.check) ∧ w = w' := by
  have c4 := h.cells.c4
  have hm := made_any g S d w h
  unfold DS.check
  cases hon : d.on
  · rw [hon] at c4
    go_enter Try.func40, Try.ntmps40
    go_wp2_with (go_at_call 38; refine hm.mono ?_; rintro e w' ⟨rfl, rfl⟩)
    go_ret
    exact ⟨rfl, rfl⟩
  · rw [hon] at c4
    go_enter Try.func40, Try.ntmps40
    go_wp2_with (go_at_call 38; refine hm.mono ?_; rintro e w' ⟨rfl, rfl⟩)
    go_ret
    exact ⟨rfl, rfl⟩

def DS.checkF (d : DS) (file : Int) : Int := if d.on then (if 0 ≤ file ∧ file < 3 then 0 else 51) else 50
set_option maxHeartbeats 400000 in
theorem file_any (g : Nat) (S : Nat → Value) (d : DS) (file : Int) (w : World) (h : Dk w g S d) :
    Calls Try.prog 39 #[.pointer (some ⟨g, 0, none⟩), .int .i64 file] w fun e w' => e = .returned (.int .i64 (d.checkF file)) ∧ w = w' := by
  have hm := power_any g S d w h
  unfold DS.check at hm
  unfold DS.checkF
  cases hon : d.on
  · rw [hon] at hm
    go_enter Try.func39, Try.ntmps39
    go_wp2_with (go_at_call 40; refine hm.mono ?_; rintro e w' ⟨rfl, rfl⟩)
    go_ret
    exact ⟨rfl, rfl⟩
  · rw [hon] at hm
    by_cases h0 : file < 0
    · have e1 : ¬ (0 ≤ file ∧ file < 3) := by omega
      go_enter Try.func39, Try.ntmps39
      go_wp2_with (go_at_call 40; refine hm.mono ?_; rintro e w' ⟨rfl, rfl⟩)
      go_ret
      exact ⟨by simp [e1], rfl⟩
    · by_cases h3 : file < 3
      · have e1 : (0 ≤ file ∧ file < 3) := by omega
        go_enter Try.func39, Try.ntmps39
        go_wp2_with (go_at_call 40; refine hm.mono ?_; rintro e w' ⟨rfl, rfl⟩)
        go_ret
        exact ⟨by simp [e1], rfl⟩
      · have e1 : ¬ (0 ≤ file ∧ file < 3) := by omega
        go_enter Try.func39, Try.ntmps39
        go_wp2_with (go_at_call 40; refine hm.mono ?_; rintro e w' ⟨rfl, rfl⟩)
        go_ret
        exact ⟨by simp [e1], rfl⟩

set_option maxHeartbeats 1000000 in
theorem used_any (g : Nat) (S : Nat → Value) (d : DS) (w : World) (h : Dk w g S d) :
    Calls Try.prog 20 #[.pointer (some ⟨g, 0, none⟩)] w fun e w' => e = .returned (.int .i64 (d.used : Int)) ∧ w = w' := by
  have hm := made_any g S d w h
  obtain ⟨a0, p0, e0⟩ := h.shape 0 (by decide)
  obtain ⟨a1, p1, e1⟩ := h.shape 1 (by decide)
  obtain ⟨a2, p2, e2⟩ := h.shape 2 (by decide)
  have c0 := h.cells.c0
  have c1 := h.cells.c1
  have c2 := h.cells.c2
  have hu := h.ok.used
  have hr := h.ok.room2
  rw [e0] at c0
  rw [e1] at c1
  rw [e2] at c2
  unfold DS.used at hu ⊢
  generalize (d.F 0).length = n0 at *
  generalize (d.F 1).length = n1 at *
  generalize (d.F 2).length = n2 at *
  clear h e0 e1 e2
  have i0 := idx0 (.slice a0 n0 p0) (.slice a1 n1 p1) (.slice a2 n2 p2)
  have i1 := idx1 (.slice a0 n0 p0) (.slice a1 n1 p1) (.slice a2 n2 p2)
  have i2 := idx2 (.slice a0 n0 p0) (.slice a1 n1 p1) (.slice a2 n2 p2)
  go_enter Try.func20, Try.ntmps20
  go_wp2_with (go_at_call 38; refine hm.mono ?_; rintro e w' ⟨rfl, rfl⟩)
  go_loop [3, 13] (fun s i => ∃ k : Nat, k ≤ 3 ∧ i = .int .i64 k ∧ s = .int .i64 ((match k with | 0 => 0 | 1 => n0 | 2 => n0 + n1 | _ => n0 + n1 + n2 : Nat) : Int)) (fun _ i => 3 - (intOf i).toNat)
  case atStart => exact ⟨0, by omega, rfl, rfl⟩
  case round =>
    obtain ⟨k, hk, rfl, rfl⟩ := hrel
    match k, hk with
    | 0, _ =>
      go_wp2
      go_round
      case rel => exact ⟨1, by omega, by go_num, by go_num⟩
      case measure => simp [intOf]
    | 1, _ =>
      go_wp2
      go_round
      case rel => exact ⟨2, by omega, by go_num, by go_num⟩
      case measure => simp [intOf]
    | 2, _ =>
      go_wp2
      go_round
      case rel => exact ⟨3, by omega, by go_num, by go_num⟩
      case measure => simp [intOf]
    | 3, _ =>
      go_wp2
      go_ret
      exact ⟨by simp, rfl⟩
end Go.Proofs.Ytadjgljimikodaa
