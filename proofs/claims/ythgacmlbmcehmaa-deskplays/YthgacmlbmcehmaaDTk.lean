/- A tick (age, Tick). -/
import Derived.Test.YthgacmlbmcehmaaDDoes
namespace Go.Proofs.Ythgacmlbmcehmaa
set_option linter.unusedVariables false
set_option linter.unusedSimpArgs false
open Go.ChangeShapes Go.WideShapes Go.ChangeAt Go.RowKit Go.Joins Go.Deep

/-- a guest is one tick older -/
def ageG (x : Gst) : Gst := if x.opn then { x with locked := max (x.locked - 1) 0, silent := x.silent + 1, opn := decide (x.silent + 1 < 24) } else { x with locked := max (x.locked - 1) 0 }
/-- is its session over? -/
def overG (x : Gst) : Bool := x.opn && !decide (x.silent + 1 < 24)
set_option maxRecDepth 100000 in
set_option maxHeartbeats 4000000 in
theorem age_out0 (g gg c : Nat) (sv : Value) (ex : List Value) (D : List Gst) (w : World) (h : Dk w g gg c sv ex D) (i : Nat) (x : Gst) (hx : D[i]? = some x) (hk : Gok x) (ho : x.opn = false) (hl : x.locked = 0) :
    Calls Try.prog 46 #[.pointer (some ⟨gg, i * 6, none⟩)] w fun r w' => r = .returned (.bool false) ∧ Dk w' g gg c sv ex (D.set i { x with locked := 0 }) ∧ Only (· = gg) w w' := by
  have e5 : w.cell? ⟨gg, i * 6 + 5, none⟩ = some (.int .i64 x.locked) := h.cell hx (by decide)
  have z5 : w.frozen? ⟨gg, i * 6 + 5, none⟩ = false := h.row.frozen _
  have hd1 := h.set (v := .int .i64 (0)) (x' := { x with locked := 0 }) hx (f := 5) (by decide) rfl
  have hi := (List.getElem?_eq_some_iff.1 hx).1
  have hx1 : (D.set i { x with locked := 0 })[i]? = some { x with locked := 0 } := List.getElem?_set_self hi
  have e21 : (w.setCell ⟨gg, i * 6 + 5, none⟩ (.int .i64 (0))).cell? ⟨gg, i * 6 + 2, none⟩ = some (.bool x.opn) := hd1.cell (f := 2) (x := { x with locked := 0 }) hx1 (by decide)
  rw [ho] at e21
  have HD1 := hide hd1
  have l0 := hk.l0
  have l1 := hk.l1
  obtain ⟨k, hkk⟩ : ∃ k, i * 6 = k := ⟨_, rfl⟩
  rw [hkk] at e5 z5 e21 HD1 ⊢
  rw [hl] at e5
  clear h hx hk hkk hd1 hi hx1 ho
  go_enter Try.func46, Try.ntmps46
  go_wp2_with fail
  go_ret
  exact ⟨rfl, unhide HD1, (Only.refl (· = gg) w).set gg _ _ rfl⟩
set_option maxRecDepth 100000 in
set_option maxHeartbeats 4000000 in
theorem age_out1 (g gg c : Nat) (sv : Value) (ex : List Value) (D : List Gst) (w : World) (h : Dk w g gg c sv ex D) (i : Nat) (x : Gst) (hx : D[i]? = some x) (hk : Gok x) (ho : x.opn = false) (hl : 0 < x.locked) :
    Calls Try.prog 46 #[.pointer (some ⟨gg, i * 6, none⟩)] w fun r w' => r = .returned (.bool false) ∧ Dk w' g gg c sv ex (D.set i { x with locked := x.locked - 1 }) ∧ Only (· = gg) w w' := by
  have e5 : w.cell? ⟨gg, i * 6 + 5, none⟩ = some (.int .i64 x.locked) := h.cell hx (by decide)
  have z5 : w.frozen? ⟨gg, i * 6 + 5, none⟩ = false := h.row.frozen _
  have hd1 := h.set (v := .int .i64 (x.locked - 1)) (x' := { x with locked := x.locked - 1 }) hx (f := 5) (by decide) rfl
  have hi := (List.getElem?_eq_some_iff.1 hx).1
  have hx1 : (D.set i { x with locked := x.locked - 1 })[i]? = some { x with locked := x.locked - 1 } := List.getElem?_set_self hi
  have e21 : (w.setCell ⟨gg, i * 6 + 5, none⟩ (.int .i64 (x.locked - 1))).cell? ⟨gg, i * 6 + 2, none⟩ = some (.bool x.opn) := hd1.cell (f := 2) (x := { x with locked := x.locked - 1 }) hx1 (by decide)
  rw [ho] at e21
  have HD1 := hide hd1
  have l0 := hk.l0
  have l1 := hk.l1
  obtain ⟨k, hkk⟩ : ∃ k, i * 6 = k := ⟨_, rfl⟩
  rw [hkk] at e5 z5 e21 HD1 ⊢
  have m1 : ¬ x.locked - 1 < 0 := by omega
  have m2 : 0 ≤ x.locked - 1 := by omega
  clear h hx hk hkk hd1 hi hx1 ho
  go_enter Try.func46, Try.ntmps46
  go_wp2_with fail
  go_ret
  exact ⟨rfl, unhide HD1, (Only.refl (· = gg) w).set gg _ _ rfl⟩
set_option maxRecDepth 100000 in
set_option maxHeartbeats 4000000 in
theorem age_in0t (g gg c : Nat) (sv : Value) (ex : List Value) (D : List Gst) (w : World) (h : Dk w g gg c sv ex D) (i : Nat) (x : Gst) (hx : D[i]? = some x) (hk : Gok x) (ho : x.opn = true) (hl : x.locked = 0) (hs : x.silent + 1 < 24) :
    Calls Try.prog 46 #[.pointer (some ⟨gg, i * 6, none⟩)] w fun r w' => r = .returned (.bool false) ∧ Dk w' g gg c sv ex (D.set i { x with locked := 0, silent := x.silent + 1, opn := true }) ∧ Only (· = gg) w w' := by
  have e5 : w.cell? ⟨gg, i * 6 + 5, none⟩ = some (.int .i64 x.locked) := h.cell hx (by decide)
  have z5 : w.frozen? ⟨gg, i * 6 + 5, none⟩ = false := h.row.frozen _
  have hd1 := h.set (v := .int .i64 (0)) (x' := { x with locked := 0 }) hx (f := 5) (by decide) rfl
  have hi := (List.getElem?_eq_some_iff.1 hx).1
  have hx1 : (D.set i { x with locked := 0 })[i]? = some { x with locked := 0 } := List.getElem?_set_self hi
  have e21 : (w.setCell ⟨gg, i * 6 + 5, none⟩ (.int .i64 (0))).cell? ⟨gg, i * 6 + 2, none⟩ = some (.bool x.opn) := hd1.cell (f := 2) (x := { x with locked := 0 }) hx1 (by decide)
  rw [ho] at e21
  have e31 : (w.setCell ⟨gg, i * 6 + 5, none⟩ (.int .i64 (0))).cell? ⟨gg, i * 6 + 3, none⟩ = some (.int .i64 x.silent) := hd1.cell (f := 3) (x := { x with locked := 0 }) hx1 (by decide)
  have z31 : (w.setCell ⟨gg, i * 6 + 5, none⟩ (.int .i64 (0))).frozen? ⟨gg, i * 6 + 3, none⟩ = false := hd1.row.frozen _
  have hd2 := hd1.set (v := .int .i64 (x.silent + 1)) (x' := { x with locked := 0, silent := x.silent + 1 }) hx1 (f := 3) (by decide) rfl
  rw [List.set_set] at hd2
  have hx2 : (D.set i { x with locked := 0, silent := x.silent + 1 })[i]? = some { x with locked := 0, silent := x.silent + 1 } := List.getElem?_set_self hi
  have e32 : ((w.setCell ⟨gg, i * 6 + 5, none⟩ (.int .i64 (0))).setCell ⟨gg, i * 6 + 3, none⟩ (.int .i64 (x.silent + 1))).cell? ⟨gg, i * 6 + 3, none⟩ = some (.int .i64 (x.silent + 1)) := hd2.cell (f := 3) (x := { x with locked := 0, silent := x.silent + 1 }) hx2 (by decide)
  have z22 : ((w.setCell ⟨gg, i * 6 + 5, none⟩ (.int .i64 (0))).setCell ⟨gg, i * 6 + 3, none⟩ (.int .i64 (x.silent + 1))).frozen? ⟨gg, i * 6 + 2, none⟩ = false := hd2.row.frozen _
  have hd3 := hd2.set (v := .bool true) (x' := { x with locked := 0, silent := x.silent + 1, opn := true }) hx2 (f := 2) (by decide) rfl
  rw [List.set_set] at hd3
  have hx3 : (D.set i { x with locked := 0, silent := x.silent + 1, opn := true })[i]? = some { x with locked := 0, silent := x.silent + 1, opn := true } := List.getElem?_set_self hi
  have e23 : (((w.setCell ⟨gg, i * 6 + 5, none⟩ (.int .i64 (0))).setCell ⟨gg, i * 6 + 3, none⟩ (.int .i64 (x.silent + 1))).setCell ⟨gg, i * 6 + 2, none⟩ (.bool true)).cell? ⟨gg, i * 6 + 2, none⟩ = some (.bool true) := hd3.cell (f := 2) (x := { x with locked := 0, silent := x.silent + 1, opn := true }) hx3 (by decide)
  have HD1 := hide hd3
  have l0 := hk.l0
  have l1 := hk.l1
  have s0 := hk.s0
  have s1 := hk.s1
  obtain ⟨k, hkk⟩ : ∃ k, i * 6 = k := ⟨_, rfl⟩
  rw [hkk] at e5 z5 e21 e31 z31 e32 z22 e23 HD1 ⊢
  rw [hl] at e5
  clear h hx hk hkk hd1 hi hx1 ho hd2 hx2 hd3 hx3
  go_enter Try.func46, Try.ntmps46
  go_wp2_with fail
  go_ret
  exact ⟨rfl, unhide HD1, (((Only.refl (· = gg) w).set gg _ _ rfl).set gg _ _ rfl).set gg _ _ rfl⟩
set_option maxRecDepth 100000 in
set_option maxHeartbeats 4000000 in
theorem age_in0f (g gg c : Nat) (sv : Value) (ex : List Value) (D : List Gst) (w : World) (h : Dk w g gg c sv ex D) (i : Nat) (x : Gst) (hx : D[i]? = some x) (hk : Gok x) (ho : x.opn = true) (hl : x.locked = 0) (hs : ¬ x.silent + 1 < 24) :
    Calls Try.prog 46 #[.pointer (some ⟨gg, i * 6, none⟩)] w fun r w' => r = .returned (.bool true) ∧ Dk w' g gg c sv ex (D.set i { x with locked := 0, silent := x.silent + 1, opn := false }) ∧ Only (· = gg) w w' := by
  have e5 : w.cell? ⟨gg, i * 6 + 5, none⟩ = some (.int .i64 x.locked) := h.cell hx (by decide)
  have z5 : w.frozen? ⟨gg, i * 6 + 5, none⟩ = false := h.row.frozen _
  have hd1 := h.set (v := .int .i64 (0)) (x' := { x with locked := 0 }) hx (f := 5) (by decide) rfl
  have hi := (List.getElem?_eq_some_iff.1 hx).1
  have hx1 : (D.set i { x with locked := 0 })[i]? = some { x with locked := 0 } := List.getElem?_set_self hi
  have e21 : (w.setCell ⟨gg, i * 6 + 5, none⟩ (.int .i64 (0))).cell? ⟨gg, i * 6 + 2, none⟩ = some (.bool x.opn) := hd1.cell (f := 2) (x := { x with locked := 0 }) hx1 (by decide)
  rw [ho] at e21
  have e31 : (w.setCell ⟨gg, i * 6 + 5, none⟩ (.int .i64 (0))).cell? ⟨gg, i * 6 + 3, none⟩ = some (.int .i64 x.silent) := hd1.cell (f := 3) (x := { x with locked := 0 }) hx1 (by decide)
  have z31 : (w.setCell ⟨gg, i * 6 + 5, none⟩ (.int .i64 (0))).frozen? ⟨gg, i * 6 + 3, none⟩ = false := hd1.row.frozen _
  have hd2 := hd1.set (v := .int .i64 (x.silent + 1)) (x' := { x with locked := 0, silent := x.silent + 1 }) hx1 (f := 3) (by decide) rfl
  rw [List.set_set] at hd2
  have hx2 : (D.set i { x with locked := 0, silent := x.silent + 1 })[i]? = some { x with locked := 0, silent := x.silent + 1 } := List.getElem?_set_self hi
  have e32 : ((w.setCell ⟨gg, i * 6 + 5, none⟩ (.int .i64 (0))).setCell ⟨gg, i * 6 + 3, none⟩ (.int .i64 (x.silent + 1))).cell? ⟨gg, i * 6 + 3, none⟩ = some (.int .i64 (x.silent + 1)) := hd2.cell (f := 3) (x := { x with locked := 0, silent := x.silent + 1 }) hx2 (by decide)
  have z22 : ((w.setCell ⟨gg, i * 6 + 5, none⟩ (.int .i64 (0))).setCell ⟨gg, i * 6 + 3, none⟩ (.int .i64 (x.silent + 1))).frozen? ⟨gg, i * 6 + 2, none⟩ = false := hd2.row.frozen _
  have hd3 := hd2.set (v := .bool false) (x' := { x with locked := 0, silent := x.silent + 1, opn := false }) hx2 (f := 2) (by decide) rfl
  rw [List.set_set] at hd3
  have hx3 : (D.set i { x with locked := 0, silent := x.silent + 1, opn := false })[i]? = some { x with locked := 0, silent := x.silent + 1, opn := false } := List.getElem?_set_self hi
  have e23 : (((w.setCell ⟨gg, i * 6 + 5, none⟩ (.int .i64 (0))).setCell ⟨gg, i * 6 + 3, none⟩ (.int .i64 (x.silent + 1))).setCell ⟨gg, i * 6 + 2, none⟩ (.bool false)).cell? ⟨gg, i * 6 + 2, none⟩ = some (.bool false) := hd3.cell (f := 2) (x := { x with locked := 0, silent := x.silent + 1, opn := false }) hx3 (by decide)
  have HD1 := hide hd3
  have l0 := hk.l0
  have l1 := hk.l1
  have s0 := hk.s0
  have s1 := hk.s1
  obtain ⟨k, hkk⟩ : ∃ k, i * 6 = k := ⟨_, rfl⟩
  rw [hkk] at e5 z5 e21 e31 z31 e32 z22 e23 HD1 ⊢
  rw [hl] at e5
  clear h hx hk hkk hd1 hi hx1 ho hd2 hx2 hd3 hx3
  go_enter Try.func46, Try.ntmps46
  go_wp2_with fail
  go_ret
  exact ⟨rfl, unhide HD1, (((Only.refl (· = gg) w).set gg _ _ rfl).set gg _ _ rfl).set gg _ _ rfl⟩
set_option maxRecDepth 100000 in
set_option maxHeartbeats 4000000 in
theorem age_in1t (g gg c : Nat) (sv : Value) (ex : List Value) (D : List Gst) (w : World) (h : Dk w g gg c sv ex D) (i : Nat) (x : Gst) (hx : D[i]? = some x) (hk : Gok x) (ho : x.opn = true) (hl : 0 < x.locked) (hs : x.silent + 1 < 24) :
    Calls Try.prog 46 #[.pointer (some ⟨gg, i * 6, none⟩)] w fun r w' => r = .returned (.bool false) ∧ Dk w' g gg c sv ex (D.set i { x with locked := x.locked - 1, silent := x.silent + 1, opn := true }) ∧ Only (· = gg) w w' := by
  have e5 : w.cell? ⟨gg, i * 6 + 5, none⟩ = some (.int .i64 x.locked) := h.cell hx (by decide)
  have z5 : w.frozen? ⟨gg, i * 6 + 5, none⟩ = false := h.row.frozen _
  have hd1 := h.set (v := .int .i64 (x.locked - 1)) (x' := { x with locked := x.locked - 1 }) hx (f := 5) (by decide) rfl
  have hi := (List.getElem?_eq_some_iff.1 hx).1
  have hx1 : (D.set i { x with locked := x.locked - 1 })[i]? = some { x with locked := x.locked - 1 } := List.getElem?_set_self hi
  have e21 : (w.setCell ⟨gg, i * 6 + 5, none⟩ (.int .i64 (x.locked - 1))).cell? ⟨gg, i * 6 + 2, none⟩ = some (.bool x.opn) := hd1.cell (f := 2) (x := { x with locked := x.locked - 1 }) hx1 (by decide)
  rw [ho] at e21
  have e31 : (w.setCell ⟨gg, i * 6 + 5, none⟩ (.int .i64 (x.locked - 1))).cell? ⟨gg, i * 6 + 3, none⟩ = some (.int .i64 x.silent) := hd1.cell (f := 3) (x := { x with locked := x.locked - 1 }) hx1 (by decide)
  have z31 : (w.setCell ⟨gg, i * 6 + 5, none⟩ (.int .i64 (x.locked - 1))).frozen? ⟨gg, i * 6 + 3, none⟩ = false := hd1.row.frozen _
  have hd2 := hd1.set (v := .int .i64 (x.silent + 1)) (x' := { x with locked := x.locked - 1, silent := x.silent + 1 }) hx1 (f := 3) (by decide) rfl
  rw [List.set_set] at hd2
  have hx2 : (D.set i { x with locked := x.locked - 1, silent := x.silent + 1 })[i]? = some { x with locked := x.locked - 1, silent := x.silent + 1 } := List.getElem?_set_self hi
  have e32 : ((w.setCell ⟨gg, i * 6 + 5, none⟩ (.int .i64 (x.locked - 1))).setCell ⟨gg, i * 6 + 3, none⟩ (.int .i64 (x.silent + 1))).cell? ⟨gg, i * 6 + 3, none⟩ = some (.int .i64 (x.silent + 1)) := hd2.cell (f := 3) (x := { x with locked := x.locked - 1, silent := x.silent + 1 }) hx2 (by decide)
  have z22 : ((w.setCell ⟨gg, i * 6 + 5, none⟩ (.int .i64 (x.locked - 1))).setCell ⟨gg, i * 6 + 3, none⟩ (.int .i64 (x.silent + 1))).frozen? ⟨gg, i * 6 + 2, none⟩ = false := hd2.row.frozen _
  have hd3 := hd2.set (v := .bool true) (x' := { x with locked := x.locked - 1, silent := x.silent + 1, opn := true }) hx2 (f := 2) (by decide) rfl
  rw [List.set_set] at hd3
  have hx3 : (D.set i { x with locked := x.locked - 1, silent := x.silent + 1, opn := true })[i]? = some { x with locked := x.locked - 1, silent := x.silent + 1, opn := true } := List.getElem?_set_self hi
  have e23 : (((w.setCell ⟨gg, i * 6 + 5, none⟩ (.int .i64 (x.locked - 1))).setCell ⟨gg, i * 6 + 3, none⟩ (.int .i64 (x.silent + 1))).setCell ⟨gg, i * 6 + 2, none⟩ (.bool true)).cell? ⟨gg, i * 6 + 2, none⟩ = some (.bool true) := hd3.cell (f := 2) (x := { x with locked := x.locked - 1, silent := x.silent + 1, opn := true }) hx3 (by decide)
  have HD1 := hide hd3
  have l0 := hk.l0
  have l1 := hk.l1
  have s0 := hk.s0
  have s1 := hk.s1
  obtain ⟨k, hkk⟩ : ∃ k, i * 6 = k := ⟨_, rfl⟩
  rw [hkk] at e5 z5 e21 e31 z31 e32 z22 e23 HD1 ⊢
  have m1 : ¬ x.locked - 1 < 0 := by omega
  have m2 : 0 ≤ x.locked - 1 := by omega
  clear h hx hk hkk hd1 hi hx1 ho hd2 hx2 hd3 hx3
  go_enter Try.func46, Try.ntmps46
  go_wp2_with fail
  go_ret
  exact ⟨rfl, unhide HD1, (((Only.refl (· = gg) w).set gg _ _ rfl).set gg _ _ rfl).set gg _ _ rfl⟩
set_option maxRecDepth 100000 in
set_option maxHeartbeats 4000000 in
theorem age_in1f (g gg c : Nat) (sv : Value) (ex : List Value) (D : List Gst) (w : World) (h : Dk w g gg c sv ex D) (i : Nat) (x : Gst) (hx : D[i]? = some x) (hk : Gok x) (ho : x.opn = true) (hl : 0 < x.locked) (hs : ¬ x.silent + 1 < 24) :
    Calls Try.prog 46 #[.pointer (some ⟨gg, i * 6, none⟩)] w fun r w' => r = .returned (.bool true) ∧ Dk w' g gg c sv ex (D.set i { x with locked := x.locked - 1, silent := x.silent + 1, opn := false }) ∧ Only (· = gg) w w' := by
  have e5 : w.cell? ⟨gg, i * 6 + 5, none⟩ = some (.int .i64 x.locked) := h.cell hx (by decide)
  have z5 : w.frozen? ⟨gg, i * 6 + 5, none⟩ = false := h.row.frozen _
  have hd1 := h.set (v := .int .i64 (x.locked - 1)) (x' := { x with locked := x.locked - 1 }) hx (f := 5) (by decide) rfl
  have hi := (List.getElem?_eq_some_iff.1 hx).1
  have hx1 : (D.set i { x with locked := x.locked - 1 })[i]? = some { x with locked := x.locked - 1 } := List.getElem?_set_self hi
  have e21 : (w.setCell ⟨gg, i * 6 + 5, none⟩ (.int .i64 (x.locked - 1))).cell? ⟨gg, i * 6 + 2, none⟩ = some (.bool x.opn) := hd1.cell (f := 2) (x := { x with locked := x.locked - 1 }) hx1 (by decide)
  rw [ho] at e21
  have e31 : (w.setCell ⟨gg, i * 6 + 5, none⟩ (.int .i64 (x.locked - 1))).cell? ⟨gg, i * 6 + 3, none⟩ = some (.int .i64 x.silent) := hd1.cell (f := 3) (x := { x with locked := x.locked - 1 }) hx1 (by decide)
  have z31 : (w.setCell ⟨gg, i * 6 + 5, none⟩ (.int .i64 (x.locked - 1))).frozen? ⟨gg, i * 6 + 3, none⟩ = false := hd1.row.frozen _
  have hd2 := hd1.set (v := .int .i64 (x.silent + 1)) (x' := { x with locked := x.locked - 1, silent := x.silent + 1 }) hx1 (f := 3) (by decide) rfl
  rw [List.set_set] at hd2
  have hx2 : (D.set i { x with locked := x.locked - 1, silent := x.silent + 1 })[i]? = some { x with locked := x.locked - 1, silent := x.silent + 1 } := List.getElem?_set_self hi
  have e32 : ((w.setCell ⟨gg, i * 6 + 5, none⟩ (.int .i64 (x.locked - 1))).setCell ⟨gg, i * 6 + 3, none⟩ (.int .i64 (x.silent + 1))).cell? ⟨gg, i * 6 + 3, none⟩ = some (.int .i64 (x.silent + 1)) := hd2.cell (f := 3) (x := { x with locked := x.locked - 1, silent := x.silent + 1 }) hx2 (by decide)
  have z22 : ((w.setCell ⟨gg, i * 6 + 5, none⟩ (.int .i64 (x.locked - 1))).setCell ⟨gg, i * 6 + 3, none⟩ (.int .i64 (x.silent + 1))).frozen? ⟨gg, i * 6 + 2, none⟩ = false := hd2.row.frozen _
  have hd3 := hd2.set (v := .bool false) (x' := { x with locked := x.locked - 1, silent := x.silent + 1, opn := false }) hx2 (f := 2) (by decide) rfl
  rw [List.set_set] at hd3
  have hx3 : (D.set i { x with locked := x.locked - 1, silent := x.silent + 1, opn := false })[i]? = some { x with locked := x.locked - 1, silent := x.silent + 1, opn := false } := List.getElem?_set_self hi
  have e23 : (((w.setCell ⟨gg, i * 6 + 5, none⟩ (.int .i64 (x.locked - 1))).setCell ⟨gg, i * 6 + 3, none⟩ (.int .i64 (x.silent + 1))).setCell ⟨gg, i * 6 + 2, none⟩ (.bool false)).cell? ⟨gg, i * 6 + 2, none⟩ = some (.bool false) := hd3.cell (f := 2) (x := { x with locked := x.locked - 1, silent := x.silent + 1, opn := false }) hx3 (by decide)
  have HD1 := hide hd3
  have l0 := hk.l0
  have l1 := hk.l1
  have s0 := hk.s0
  have s1 := hk.s1
  obtain ⟨k, hkk⟩ : ∃ k, i * 6 = k := ⟨_, rfl⟩
  rw [hkk] at e5 z5 e21 e31 z31 e32 z22 e23 HD1 ⊢
  have m1 : ¬ x.locked - 1 < 0 := by omega
  have m2 : 0 ≤ x.locked - 1 := by omega
  clear h hx hk hkk hd1 hi hx1 ho hd2 hx2 hd3 hx3
  go_enter Try.func46, Try.ntmps46
  go_wp2_with fail
  go_ret
  exact ⟨rfl, unhide HD1, (((Only.refl (· = gg) w).set gg _ _ rfl).set gg _ _ rfl).set gg _ _ rfl⟩
theorem age_ok (g gg c : Nat) (sv : Value) (ex : List Value) (D : List Gst) (w : World) (h : Dk w g gg c sv ex D) (i : Nat) (x : Gst) (hx : D[i]? = some x) (hk : Gok x) :
    Calls Try.prog 46 #[.pointer (some ⟨gg, i * 6, none⟩)] w fun r w' => r = .returned (.bool (overG x)) ∧ Dk w' g gg c sv ex (D.set i (ageG x)) ∧ Only (· = gg) w w' := by
  have l0 := hk.l0
  unfold overG ageG
  by_cases hl : x.locked = 0
  · have hm : max (x.locked - 1) 0 = 0 := by omega
    rw [hm]
    cases ho : x.opn with
    | false => simpa [ho] using age_out0 g gg c sv ex D w h i x hx hk ho hl
    | true =>
      by_cases hs : x.silent + 1 < 24
      · simpa [ho, hs] using age_in0t g gg c sv ex D w h i x hx hk ho hl hs
      · simpa [ho, hs] using age_in0f g gg c sv ex D w h i x hx hk ho hl hs
  · have hm : max (x.locked - 1) 0 = x.locked - 1 := by omega
    rw [hm]
    have hl1 : 0 < x.locked := by omega
    cases ho : x.opn with
    | false => simpa [ho] using age_out1 g gg c sv ex D w h i x hx hk ho hl1
    | true =>
      by_cases hs : x.silent + 1 < 24
      · simpa [ho, hs] using age_in1t g gg c sv ex D w h i x hx hk ho hl1 hs
      · simpa [ho, hs] using age_in1f g gg c sv ex D w h i x hx hk ho hl1 hs
end Go.Proofs.Ythgacmlbmcehmaa
