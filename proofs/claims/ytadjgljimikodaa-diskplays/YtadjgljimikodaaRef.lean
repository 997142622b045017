/- The document's own disk: its calls, one by one. -/
import Derived.Test.YtadjgljimikodaaDosOwn
namespace Go.Proofs.Ytadjgljimikodaa
set_option linter.unusedVariables false
set_option linter.unusedSimpArgs false
open Go.ChangeShapes Go.WideShapes Go.ChangeAt Go.RowKit

/-- the document's own disk has a cell that says 'off' where the other's says 'on' -/
def DS.flip (d : DS) : DS := { d with on := !d.on }
theorem DS.flip_flip (d : DS) : d.flip.flip = d := by simp [DS.flip]
theorem DS.flip_on {d : DS} (h : d.on = true) : d.flip.on = false := by simp [DS.flip, h]
theorem DS.flip_off {d : DS} (h : d.on = false) : d.flip.on = true := by simp [DS.flip, h]
theorem DS.Ok.flip {d : DS} (h : d.Ok) : d.flip.Ok := ⟨h.room1, h.room2, h.used, h.fuse⟩
theorem DS.Ok.unflip {d : DS} (h : d.flip.Ok) : d.Ok := ⟨h.room1, h.room2, h.used, h.fuse⟩

set_option maxHeartbeats 1000000 in
theorem rnew_any (room : Int) (w : World) (h1 : 1 ≤ room) (h2 : room ≤ 16777216) :
    Calls Try.prog 10 #[.int .i64 room] w fun e w' => e = .returned (.tuple #[.pointer (some ⟨w.heap.size, 0, none⟩), .int .i64 0]) ∧ Dk w' w.heap.size nils (DS.start room.toNat).flip ∧ Below w.heap.size w w' := by
  obtain ⟨r, rfl⟩ := Int.eq_ofNat_of_zero_le (show 0 ≤ room by omega)
  rw [Int.toNat_natCast]
  go_enter Try.func10, Try.ntmps10
  go_wp2
  go_ret2
  refine ⟨rfl, ⟨?_, ?_, ?_⟩, (Below.refl _ _).alloc (Nat.le_refl _) _⟩
  · constructor <;> (simp [go_sem, nils, DS.start, DS.flip]; done)
  · exact ⟨fun i hi => World.ownsRow_nil _ _ _ _, fun i hi => by simp [nils, Value.ownBlock], fun i j _ _ _ k hk => by simp [nils, Value.ownBlock] at hk⟩
  · exact ⟨by simp [DS.start, DS.flip]; omega, by simp [DS.start, DS.flip]; omega, by simp [DS.start, DS.used, DS.flip], by simp [DS.start, DS.flip]⟩
set_option maxHeartbeats 1000000 in
theorem rnew_bad (room : Int) (w : World) (h : room < 1 ∨ 16777216 < room) :
    Calls Try.prog 10 #[.int .i64 room] w fun e w' => e = .returned (.tuple #[.pointer none, .int .i64 1]) ∧ w = w' := by
  by_cases h1 : room < 1
  · go_enter Try.func10, Try.ntmps10
    go_wp2
    go_ret2
    exact ⟨rfl, rfl⟩
  · have h2 : (16777216 : Int) < room := by omega
    go_enter Try.func10, Try.ntmps10
    go_wp2
    go_ret2
    exact ⟨rfl, rfl⟩

set_option maxHeartbeats 400000 in
theorem rmay_any (g : Nat) (S : Nat → Value) (d : DS) (file : Int) (w : World) (h : Dk w g S d.flip) :
    Calls Try.prog 36 #[.pointer (some ⟨g, 0, none⟩), .int .i64 file] w fun e w' => e = .returned (.int .i64 (d.checkF file)) ∧ w = w' := by
  have c4 := h.cells.c4
  unfold DS.checkF
  cases hon : d.on
  · rw [DS.flip_off hon] at c4
    go_enter Try.func36, Try.ntmps36
    go_wp2
    go_ret
    exact ⟨rfl, rfl⟩
  · rw [DS.flip_on hon] at c4
    by_cases h0 : file < 0
    · have e1 : ¬ (0 ≤ file ∧ file < 3) := by omega
      go_enter Try.func36, Try.ntmps36
      go_wp2
      go_ret
      exact ⟨by simp [e1], rfl⟩
    · by_cases h3 : file < 3
      · have e1 : (0 ≤ file ∧ file < 3) := by omega
        have e2 : ¬ (2 < file) := by omega
        go_enter Try.func36, Try.ntmps36
        go_wp2
        go_ret
        exact ⟨by simp [e1], rfl⟩
      · have e1 : ¬ (0 ≤ file ∧ file < 3) := by omega
        have e2 : 2 < file := by omega
        go_enter Try.func36, Try.ntmps36
        go_wp2
        go_ret
        exact ⟨by simp [e1], rfl⟩

set_option maxHeartbeats 1000000 in
theorem rburn_any (g : Nat) (S : Nat → Value) (d : DS) (w : World) (h : Dk w g S d.flip) :
    Calls Try.prog 37 #[.pointer (some ⟨g, 0, none⟩)] w fun e w' => (∃ v, e = .returned v) ∧ Dk w' g S (d.burnD 1).flip ∧ Only (fun k => k = g) w w' := by
  have c4 := h.cells.c4
  have c5 : w.cell? ⟨g, 5, none⟩ = some (.int .i64 (d.fuse : Int)) := h.cells.c5
  have z4 := h.cells.z4
  have z5 := h.cells.z5
  have hf : d.fuse ≤ 9223372036854775807 := h.ok.fuse
  unfold DS.burnD
  by_cases h0 : d.fuse = 0
  · rw [h0] at c5
    rw [if_pos h0]
    go_enter Try.func37, Try.ntmps37
    go_wp2
    go_returns
    exact ⟨⟨_, rfl⟩, h, Only.refl _ _⟩
  · rw [if_neg h0]
    have hpos : (0 : Int) < (d.fuse : Int) := by omega
    by_cases hle : d.fuse ≤ 1
    · have hf1 : d.fuse = 1 := by omega
      rw [if_pos hle]
      rw [hf1] at c5
      have hD : Dk ((w.setCell ⟨g, 5, none⟩ (.int .i64 0)).setCell ⟨g, 4, none⟩ (.bool true)) g S ({ d with on := false, fuse := 0 } : DS).flip :=
        ⟨(h.cells.setFuse 0).setOn true, (h.rows.setG 5 _).setG 4 _, (h.ok.unflip.turn false 0 (by omega)).flip⟩
      have hO : Only (fun k => k = g) w ((w.setCell ⟨g, 5, none⟩ (.int .i64 0)).setCell ⟨g, 4, none⟩ (.bool true)) := ((Only.refl (fun k => k = g) w).set g 5 _ rfl).set g 4 _ rfl
      have H := hide (And.intro hD hO)
      clear hD hO h
      go_enter Try.func37, Try.ntmps37
      go_wp2
      go_end0
      exact ⟨⟨_, rfl⟩, unhide H⟩
    · rw [if_neg hle]
      have hD : Dk (w.setCell ⟨g, 5, none⟩ (.int .i64 ((d.fuse - 1 : Nat) : Int))) g S ({ d with fuse := d.fuse - 1 } : DS).flip :=
        ⟨h.cells.setFuse _, h.rows.setG 5 _, (h.ok.unflip.turn d.on _ (by omega)).flip⟩
      have hO : Only (fun k => k = g) w (w.setCell ⟨g, 5, none⟩ (.int .i64 ((d.fuse - 1 : Nat) : Int))) := (Only.refl (fun k => k = g) w).set g 5 _ rfl
      have H := hide (And.intro hD hO)
      rw [show ((d.fuse - 1 : Nat) : Int) = (d.fuse : Int) - 1 by omega] at H
      have hne : ¬ ((d.fuse : Int) - 1 = 0) := by omega
      clear hD hO h
      generalize hfu : d.fuse = f at *
      have HFU := hide hfu
      clear hfu
      have hne2 : ((f : Int) - 1 == 0) = false := by simpa using hne
      go_enter Try.func37, Try.ntmps37
      go_wp2
      go_end0
      exact ⟨⟨_, rfl⟩, unhide H⟩

set_option maxHeartbeats 1000000 in
theorem rused_any (g : Nat) (S : Nat → Value) (d : DS) (w : World) (h : Dk w g S d.flip) :
    Calls Try.prog 21 #[.pointer (some ⟨g, 0, none⟩)] w fun e w' => e = .returned (.int .i64 (d.used : Int)) ∧ ∃ m, w' = w.drewN m := by
  obtain ⟨a0, p0, e0⟩ := h.shape 0 (by decide)
  obtain ⟨a1, p1, e1⟩ := h.shape 1 (by decide)
  obtain ⟨a2, p2, e2⟩ := h.shape 2 (by decide)
  have c0 := h.cells.c0
  have c1 := h.cells.c1
  have c2 := h.cells.c2
  have hu : d.used ≤ d.room := h.ok.used
  have hr : d.room ≤ 16777216 := h.ok.room2
  rw [e0] at c0
  rw [e1] at c1
  rw [e2] at c2
  have c0' : w.cell? ⟨g, 0, none⟩ = some (.slice a0 (d.F 0).length p0) := c0
  have c1' : w.cell? ⟨g, 1, none⟩ = some (.slice a1 (d.F 1).length p1) := c1
  have c2' : w.cell? ⟨g, 2, none⟩ = some (.slice a2 (d.F 2).length p2) := c2
  unfold DS.used at hu ⊢
  clear c0 c1 c2
  generalize (d.F 0).length = n0 at *
  generalize (d.F 1).length = n1 at *
  generalize (d.F 2).length = n2 at *
  clear h e0 e1 e2
  go_enter Try.func21, Try.ntmps21
  go_wp2_with fail
  go_quiet (fail)
  go_wp2
  go_ret
  exact ⟨by simp, nq, rfl⟩
end Go.Proofs.Ytadjgljimikodaa
