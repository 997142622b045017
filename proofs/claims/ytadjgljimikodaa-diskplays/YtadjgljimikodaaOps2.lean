/- What a disk's calls do, one by one: those that turn it. -/
import Derived.Test.YtadjgljimikodaaOps
namespace Go.Proofs.Ytadjgljimikodaa
set_option linter.unusedVariables false
set_option linter.unusedSimpArgs false
open Go.ChangeShapes Go.WideShapes Go.ChangeAt Go.RowKit

def DS.burnN (d : DS) (n : Nat) : Nat := if d.fuse = 0 then n else min n d.fuse
def DS.burnD (d : DS) (n : Nat) : DS := if d.fuse = 0 then d else if d.fuse ≤ n then { d with on := false, fuse := 0 } else { d with fuse := d.fuse - n }
def DS.burnE (d : DS) (n : Nat) : Int := if d.fuse = 0 then 0 else if d.fuse ≤ n then 50 else 0
theorem DS.Ok.turn {d : DS} (h : d.Ok) (o : Bool) (f : Nat) (hf : f ≤ 9223372036854775807) : DS.Ok { d with on := o, fuse := f } := ⟨h.room1, h.room2, h.used, hf⟩

set_option maxHeartbeats 1000000 in
theorem burn_any (g : Nat) (S : Nat → Value) (d : DS) (n : Nat) (w : World) (h : Dk w g S d) (hn : n ≤ 16777216) :
    Calls Try.prog 41 #[.pointer (some ⟨g, 0, none⟩), .int .i64 (n : Int)] w fun e w' => e = .returned (.tuple #[.int .i64 (d.burnN n : Int), .int .i64 (d.burnE n)]) ∧ Dk w' g S (d.burnD n) ∧ Only (fun k => k = g) w w' := by
  have c4 := h.cells.c4
  have c5 := h.cells.c5
  have z4 := h.cells.z4
  have z5 := h.cells.z5
  have hf := h.ok.fuse
  unfold DS.burnN DS.burnE DS.burnD
  by_cases h0 : d.fuse = 0
  · rw [h0] at c5
    rw [if_pos h0, if_pos h0, if_pos h0]
    go_enter Try.func41, Try.ntmps41
    go_wp2
    go_ret2
    exact ⟨rfl, h, Only.refl _ _⟩
  · rw [if_neg h0, if_neg h0, if_neg h0]
    have hpos : (0 : Int) < (d.fuse : Int) := by omega
    have hne : ¬ ((d.fuse : Int) = 0) := by omega
    by_cases hle : d.fuse ≤ n
    · have hm : min (n : Int) (d.fuse : Int) = (d.fuse : Int) := by omega
      have hm2 : min n d.fuse = d.fuse := by omega
      have hD : Dk ((w.setCell ⟨g, 5, none⟩ (.int .i64 0)).setCell ⟨g, 4, none⟩ (.bool false)) g S { d with on := false, fuse := 0 } :=
        ⟨(h.cells.setFuse 0).setOn false, (h.rows.setG 5 _).setG 4 _, h.ok.turn false 0 (by omega)⟩
      have hO : Only (fun k => k = g) w ((w.setCell ⟨g, 5, none⟩ (.int .i64 0)).setCell ⟨g, 4, none⟩ (.bool false)) := ((Only.refl (fun k => k = g) w).set g 5 _ rfl).set g 4 _ rfl
      have H := hide (And.intro hD hO)
      rw [if_pos hle, if_pos hle, hm2]
      clear hD hO h
      generalize hfu : d.fuse = f at *
      clear hfu
      rcases Nat.lt_or_ge f n with hlt | hge
      · go_enter Try.func41, Try.ntmps41
        go_wp2
        go_ret2
        exact ⟨rfl, unhide H⟩
      · obtain rfl : f = n := by omega
        go_enter Try.func41, Try.ntmps41
        go_wp2
        go_ret2
        exact ⟨rfl, unhide H⟩
    · have hm : min (n : Int) (d.fuse : Int) = (n : Int) := by omega
      have hm2 : min n d.fuse = n := by omega
      have hpos2 : (0 : Int) < (d.fuse : Int) - (n : Int) := by omega
      have hD : Dk (w.setCell ⟨g, 5, none⟩ (.int .i64 ((d.fuse - n : Nat) : Int))) g S { d with fuse := d.fuse - n } :=
        ⟨h.cells.setFuse _, h.rows.setG 5 _, h.ok.turn d.on _ (by omega)⟩
      have hO : Only (fun k => k = g) w (w.setCell ⟨g, 5, none⟩ (.int .i64 ((d.fuse - n : Nat) : Int))) := (Only.refl (fun k => k = g) w).set g 5 _ rfl
      have H := hide (And.intro hD hO)
      rw [if_neg hle, if_neg hle, hm2]
      rw [show ((d.fuse - n : Nat) : Int) = (d.fuse : Int) - (n : Int) by omega] at H
      clear hD hO
      generalize hfu : d.fuse = f at *
      clear hfu
      go_enter Try.func41, Try.ntmps41
      go_wp2
      go_ret2
      exact ⟨rfl, unhide H⟩

set_option maxHeartbeats 1000000 in
theorem start_any (g : Nat) (S : Nat → Value) (d : DS) (w : World) (h : Dk w g S d) :
    Calls Try.prog 33 #[.pointer (some ⟨g, 0, none⟩)] w fun e w' => e = .returned (.int .i64 0) ∧ Dk w' g S { d with on := true } ∧ Only (fun k => k = g) w w' := by
  have c4 := h.cells.c4
  have z4 := h.cells.z4
  have hm := made_any g S d w h
  go_enter Try.func33, Try.ntmps33
  go_wp2_with (go_at_call 38; refine hm.mono ?_; rintro e w' ⟨rfl, rfl⟩)
  go_ret
  exact ⟨rfl, ⟨h.cells.setOn true, h.rows.setG 4 _, h.ok.turn true d.fuse h.ok.fuse⟩, (Only.refl _ _).set g 4 _ rfl⟩

def DS.crashD (d : DS) : DS := if d.on then { d with on := false, fuse := 0 } else d
set_option maxHeartbeats 1000000 in
theorem crash_any (g : Nat) (S : Nat → Value) (d : DS) (w : World) (h : Dk w g S d) :
    Calls Try.prog 35 #[.pointer (some ⟨g, 0, none⟩)] w fun e w' => e = .returned (.int .i64 d.check) ∧ Dk w' g S d.crashD ∧ Only (fun k => k = g) w w' := by
  have c4 := h.cells.c4
  have c5 := h.cells.c5
  have z4 := h.cells.z4
  have z5 := h.cells.z5
  have hm := power_any g S d w h
  have hD : Dk ((w.setCell ⟨g, 4, none⟩ (.bool false)).setCell ⟨g, 5, none⟩ (.int .i64 0)) g S { d with on := false, fuse := 0 } :=
    ⟨(h.cells.setOn false).setFuse 0, (h.rows.setG 4 _).setG 5 _, h.ok.turn false 0 (by omega)⟩
  have hO : Only (fun k => k = g) w ((w.setCell ⟨g, 4, none⟩ (.bool false)).setCell ⟨g, 5, none⟩ (.int .i64 0)) := ((Only.refl (fun k => k = g) w).set g 4 _ rfl).set g 5 _ rfl
  have H := hide (And.intro hD hO)
  have H0 := hide h
  clear hD hO h
  unfold DS.check DS.crashD at *
  cases hon : d.on
  · rw [hon] at hm
    go_enter Try.func35, Try.ntmps35
    go_wp2_with (go_at_call 40; refine hm.mono ?_; rintro e w' ⟨rfl, rfl⟩)
    go_ret
    exact ⟨rfl, unhide H0, Only.refl _ _⟩
  · rw [hon] at hm c4
    go_enter Try.func35, Try.ntmps35
    go_wp2_with (go_at_call 40; refine hm.mono ?_; rintro e w' ⟨rfl, rfl⟩)
    go_ret
    exact ⟨rfl, unhide H⟩

def DS.armE (d : DS) (n : Int) : Int := if d.on then (if n < 1 then 1 else 0) else 50
def DS.armD (d : DS) (n : Int) : DS := if d.on then (if n < 1 then d else { d with fuse := n.toNat }) else d
set_option maxHeartbeats 1000000 in
theorem arm_any (g : Nat) (S : Nat → Value) (d : DS) (n : Int) (w : World) (h : Dk w g S d) (hn : n ≤ 9223372036854775807) :
    Calls Try.prog 27 #[.pointer (some ⟨g, 0, none⟩), .int .i64 n] w fun e w' => e = .returned (.int .i64 (d.armE n)) ∧ Dk w' g S (d.armD n) ∧ Only (fun k => k = g) w w' := by
  have c5 := h.cells.c5
  have z5 := h.cells.z5
  have hm := power_any g S d w h
  have H0 := hide h
  unfold DS.check at hm
  unfold DS.armE DS.armD
  cases hon : d.on
  · rw [hon] at hm
    go_enter Try.func27, Try.ntmps27
    go_wp2_with (go_at_call 40; refine hm.mono ?_; rintro e w' ⟨rfl, rfl⟩)
    go_ret
    exact ⟨rfl, unhide H0, Only.refl _ _⟩
  · rw [hon] at hm
    by_cases h1 : n < 1
    · simp only [h1, if_true]
      go_enter Try.func27, Try.ntmps27
      go_wp2_with (go_at_call 40; refine hm.mono ?_; rintro e w' ⟨rfl, rfl⟩)
      go_ret
      exact ⟨rfl, unhide H0, Only.refl _ _⟩
    · simp only [h1, if_false, if_true]
      have hD : Dk (w.setCell ⟨g, 5, none⟩ (.int .i64 ((n.toNat : Nat) : Int))) g S { d with fuse := n.toNat } :=
        ⟨h.cells.setFuse _, h.rows.setG 5 _, h.ok.turn d.on _ (by omega)⟩
      have hO : Only (fun k => k = g) w (w.setCell ⟨g, 5, none⟩ (.int .i64 ((n.toNat : Nat) : Int))) := (Only.refl (fun k => k = g) w).set g 5 _ rfl
      have H := hide (And.intro hD hO)
      rw [show ((n.toNat : Nat) : Int) = n by omega, hon] at H
      clear hD hO
      go_enter Try.func27, Try.ntmps27
      go_wp2_with (go_at_call 40; refine hm.mono ?_; rintro e w' ⟨rfl, rfl⟩)
      go_ret
      exact ⟨rfl, unhide H⟩

def DS.disarmD (d : DS) : DS := if d.on then { d with fuse := 0 } else d
set_option maxHeartbeats 1000000 in
theorem disarm_any (g : Nat) (S : Nat → Value) (d : DS) (w : World) (h : Dk w g S d) :
    Calls Try.prog 31 #[.pointer (some ⟨g, 0, none⟩)] w fun e w' => e = .returned (.int .i64 d.check) ∧ Dk w' g S d.disarmD ∧ Only (fun k => k = g) w w' := by
  have c5 := h.cells.c5
  have z5 := h.cells.z5
  have hm := power_any g S d w h
  have H0 := hide h
  have hD : Dk (w.setCell ⟨g, 5, none⟩ (.int .i64 0)) g S { d with fuse := 0 } := ⟨h.cells.setFuse 0, h.rows.setG 5 _, h.ok.turn d.on _ (by omega)⟩
  have hO : Only (fun k => k = g) w (w.setCell ⟨g, 5, none⟩ (.int .i64 0)) := (Only.refl (fun k => k = g) w).set g 5 _ rfl
  have H := hide (And.intro hD hO)
  clear hD hO h
  unfold DS.check DS.disarmD at *
  cases hon : d.on
  · rw [hon] at hm
    go_enter Try.func31, Try.ntmps31
    go_wp2_with (go_at_call 40; refine hm.mono ?_; rintro e w' ⟨rfl, rfl⟩)
    go_ret
    exact ⟨rfl, unhide H0, Only.refl _ _⟩
  · rw [hon] at hm H
    go_enter Try.func31, Try.ntmps31
    go_wp2_with (go_at_call 40; refine hm.mono ?_; rintro e w' ⟨rfl, rfl⟩)
    go_ret
    exact ⟨rfl, unhide H⟩
end Go.Proofs.Ytadjgljimikodaa
