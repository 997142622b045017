/- What turns a desk: Wrong, Heard, Shut. -/
import Derived.Test.YthgacmlbmcehmaaDRd
namespace Go.Proofs.Ythgacmlbmcehmaa
set_option linter.unusedVariables false
set_option linter.unusedSimpArgs false
open Go.ChangeShapes Go.WideShapes Go.ChangeAt Go.RowKit Go.Joins Go.Deep

/-- what a guest's counts may be -/
structure Gok (x : Gst) : Prop where
  w0 : 0 ≤ x.wrong
  w1 : x.wrong ≤ 2
  s0 : 0 ≤ x.silent
  s1 : x.silent ≤ 24
  s2 : x.opn = true → x.silent ≤ 23
  l0 : 0 ≤ x.locked
  l1 : x.locked ≤ 20
  c0 : 0 ≤ x.conn
  c1 : x.conn ≤ 1099511627776
/-- one more try went wrong -/
def wrongG (x : Gst) : Gst := if 2 ≤ x.wrong then { x with wrong := 0, locked := 20 } else { x with wrong := x.wrong + 1 }
theorem Only.two {p : Nat → Prop} {w : World} (g i j : Nat) (v u : Value) (hg : p g) : Only p w ((w.setCell ⟨g, i, none⟩ v).setCell ⟨g, j, none⟩ u) := ((Only.refl p w).set g i v hg).set g j u hg
set_option maxRecDepth 100000 in
set_option maxHeartbeats 4000000 in
theorem wrong_locked (g gg c : Nat) (sv : Value) (ex : List Value) (D : List Gst) (w : World) (h : Dk w g gg c sv ex D) (i : Nat) (x : Gst) (hx : D[i]? = some x) (hl : 0 < x.locked) :
    Calls Try.prog 32 #[.pointer (some ⟨g, 0, none⟩), .int .i64 (i : Int)] w fun r w' => r = .returned (.int .i64 170) ∧ w = w' := by
  have HF := hide (find_ok g gg c sv ex D w h i x hx)
  have e5 : w.cell? ⟨gg, i * 6 + 5, none⟩ = some (.int .i64 x.locked) := h.cell hx (by decide)
  obtain ⟨k, hk⟩ : ∃ k, i * 6 = k := ⟨_, rfl⟩
  rw [hk] at HF e5
  clear h hx hk
  go_enter Try.func32, Try.ntmps32
  go_wp2_with fail
  refine Calls.mono (unhide HF) ?_
  rintro r w1 ⟨rfl, rfl⟩
  go_wp2_with fail
  go_ret
  exact ⟨rfl, rfl⟩
set_option maxRecDepth 100000 in
set_option maxHeartbeats 4000000 in
theorem wrong_ok (g gg c : Nat) (sv : Value) (ex : List Value) (D : List Gst) (w : World) (h : Dk w g gg c sv ex D) (i : Nat) (x : Gst) (hx : D[i]? = some x) (hk : Gok x) (hl : ¬ 0 < x.locked) :
    Calls Try.prog 32 #[.pointer (some ⟨g, 0, none⟩), .int .i64 (i : Int)] w fun r w' => r = .returned (.int .i64 0) ∧ Dk w' g gg c sv ex (D.set i (wrongG x)) ∧ Only (· = gg) w w' := by
  have HF := hide (find_ok g gg c sv ex D w h i x hx)
  have HD := hide h
  have HX := hide hx
  have e5 : w.cell? ⟨gg, i * 6 + 5, none⟩ = some (.int .i64 x.locked) := h.cell hx (by decide)
  have e4 : w.cell? ⟨gg, i * 6 + 4, none⟩ = some (.int .i64 x.wrong) := h.cell hx (by decide)
  have z4 : w.frozen? ⟨gg, i * 6 + 4, none⟩ = false := h.row.frozen _
  have hd1 := h.set (v := .int .i64 (x.wrong + 1)) (x' := { x with wrong := x.wrong + 1 }) hx (f := 4) (by decide) rfl
  have hi := (List.getElem?_eq_some_iff.1 hx).1
  have hx1 : (D.set i { x with wrong := x.wrong + 1 })[i]? = some { x with wrong := x.wrong + 1 } := List.getElem?_set_self hi
  have e41 : (w.setCell ⟨gg, i * 6 + 4, none⟩ (.int .i64 (x.wrong + 1))).cell? ⟨gg, i * 6 + 4, none⟩ = some (.int .i64 (x.wrong + 1)) := hd1.cell hx1 (by decide)
  have z41 : (w.setCell ⟨gg, i * 6 + 4, none⟩ (.int .i64 (x.wrong + 1))).frozen? ⟨gg, i * 6 + 4, none⟩ = false := hd1.row.frozen _
  have hd2 := hd1.set (v := .int .i64 0) (x' := { x with wrong := 0 }) hx1 (f := 4) (by decide) rfl
  rw [List.set_set] at hd2
  have hx2 : (D.set i { x with wrong := 0 })[i]? = some { x with wrong := 0 } := List.getElem?_set_self hi
  have z52 : ((w.setCell ⟨gg, i * 6 + 4, none⟩ (.int .i64 (x.wrong + 1))).setCell ⟨gg, i * 6 + 4, none⟩ (.int .i64 0)).frozen? ⟨gg, i * 6 + 5, none⟩ = false := hd2.row.frozen _
  have hd3 := hd2.set (v := .int .i64 20) (x' := { x with wrong := 0, locked := 20 }) hx2 (f := 5) (by decide) rfl
  rw [List.set_set] at hd3
  have HD1 := hide hd1
  have HD3 := hide hd3
  have w0 := hk.w0
  have w1 := hk.w1
  obtain ⟨k, hkk⟩ : ∃ k, i * 6 = k := ⟨_, rfl⟩
  rw [hkk] at HF e5 e4 z4 e41 z41 z52 HD1 HD3
  by_cases c2 : 2 ≤ x.wrong
  · have hw2 : x.wrong = 2 := by omega
    have hE : wrongG x = { x with wrong := 0, locked := 20 } := by unfold wrongG; rw [if_pos c2]
    rw [hE]
    have c3 : (3 : Int) ≤ x.wrong + 1 := by omega
    clear h hx hk hkk hd1 hi hx1 hd2 hx2 hd3 hE HD HX hw2
    go_enter Try.func32, Try.ntmps32
    go_wp2_with fail
    refine Calls.mono (unhide HF) ?_
    rintro r w1 ⟨rfl, rfl⟩
    go_wp2_with fail
    go_ret
    exact ⟨rfl, unhide HD3, (((Only.refl (· = gg) w).set gg _ _ rfl).set gg _ _ rfl).set gg _ _ rfl⟩
  · have hE : wrongG x = { x with wrong := x.wrong + 1 } := by unfold wrongG; rw [if_neg c2]
    rw [hE]
    have c3 : ¬ (3 : Int) ≤ x.wrong + 1 := by omega
    clear h hx hk hkk hd1 hi hx1 hd2 hx2 hd3 hE HD HX
    go_enter Try.func32, Try.ntmps32
    go_wp2_with fail
    refine Calls.mono (unhide HF) ?_
    rintro r w1 ⟨rfl, rfl⟩
    go_wp2_with fail
    go_ret
    exact ⟨rfl, unhide HD1, (Only.refl _ w).set gg _ _ rfl⟩
set_option maxRecDepth 100000 in
set_option maxHeartbeats 4000000 in
theorem inside_out (g gg c : Nat) (sv : Value) (ex : List Value) (D : List Gst) (w : World) (h : Dk w g gg c sv ex D) (i : Nat) (x : Gst) (hx : D[i]? = some x) (ho : x.opn = false) :
    Calls Try.prog 47 #[.pointer (some ⟨g, 0, none⟩), .int .i64 (i : Int)] w fun r w' => r = .returned (.tuple #[.pointer none, .int .i64 172]) ∧ w = w' := by
  have HF := hide (find_ok g gg c sv ex D w h i x hx)
  have e2 : w.cell? ⟨gg, i * 6 + 2, none⟩ = some (.bool x.opn) := h.cell hx (by decide)
  rw [ho] at e2
  obtain ⟨k, hk⟩ : ∃ k, i * 6 = k := ⟨_, rfl⟩
  rw [hk] at HF e2
  clear h hx hk
  go_enter Try.func47, Try.ntmps47
  go_wp2_with fail
  refine Calls.mono (unhide HF) ?_
  rintro r w1 ⟨rfl, rfl⟩
  go_wp2_with fail
  go_ret2
  exact ⟨rfl, rfl⟩
set_option maxRecDepth 100000 in
set_option maxHeartbeats 4000000 in
theorem inside_in (g gg c : Nat) (sv : Value) (ex : List Value) (D : List Gst) (w : World) (h : Dk w g gg c sv ex D) (i : Nat) (x : Gst) (hx : D[i]? = some x) (ho : x.opn = true) :
    Calls Try.prog 47 #[.pointer (some ⟨g, 0, none⟩), .int .i64 (i : Int)] w fun r w' => r = .returned (.tuple #[.pointer (some ⟨gg, i * 6, none⟩), .int .i64 0]) ∧ w = w' := by
  have HF := hide (find_ok g gg c sv ex D w h i x hx)
  have e2 : w.cell? ⟨gg, i * 6 + 2, none⟩ = some (.bool x.opn) := h.cell hx (by decide)
  rw [ho] at e2
  obtain ⟨k, hk⟩ : ∃ k, i * 6 = k := ⟨_, rfl⟩
  rw [hk] at HF e2 ⊢
  clear h hx hk
  go_enter Try.func47, Try.ntmps47
  go_wp2_with fail
  refine Calls.mono (unhide HF) ?_
  rintro r w1 ⟨rfl, rfl⟩
  go_wp2_with fail
  go_ret2
  exact ⟨rfl, rfl⟩
set_option maxRecDepth 100000 in
set_option maxHeartbeats 4000000 in
theorem heard_out (g gg c : Nat) (sv : Value) (ex : List Value) (D : List Gst) (w : World) (h : Dk w g gg c sv ex D) (i : Nat) (x : Gst) (hx : D[i]? = some x) (ho : x.opn = false) :
    Calls Try.prog 35 #[.pointer (some ⟨g, 0, none⟩), .int .i64 (i : Int)] w fun r w' => r = .returned (.int .i64 172) ∧ w = w' := by
  have HF := hide (inside_out g gg c sv ex D w h i x hx ho)
  clear h hx
  go_enter Try.func35, Try.ntmps35
  go_wp2_with fail
  refine Calls.mono (unhide HF) ?_
  rintro r w1 ⟨rfl, rfl⟩
  go_wp2_with fail
  go_ret
  exact ⟨rfl, rfl⟩
set_option maxRecDepth 100000 in
set_option maxHeartbeats 4000000 in
theorem heard_in (g gg c : Nat) (sv : Value) (ex : List Value) (D : List Gst) (w : World) (h : Dk w g gg c sv ex D) (i : Nat) (x : Gst) (hx : D[i]? = some x) (ho : x.opn = true) :
    Calls Try.prog 35 #[.pointer (some ⟨g, 0, none⟩), .int .i64 (i : Int)] w fun r w' => r = .returned (.int .i64 0) ∧ Dk w' g gg c sv ex (D.set i { x with silent := 0 }) ∧ Only (· = gg) w w' := by
  have HF := hide (inside_in g gg c sv ex D w h i x hx ho)
  have z3 : w.frozen? ⟨gg, i * 6 + 3, none⟩ = false := h.row.frozen _
  have e3 : w.cell? ⟨gg, i * 6 + 3, none⟩ = (gv x)[3]? := h.cell hx (by decide)
  simp only [gv, List.getElem?_cons_succ, List.getElem?_cons_zero] at e3
  have HD := hide (h.set (v := .int .i64 0) (x' := { x with silent := 0 }) hx (f := 3) (by decide) rfl)
  obtain ⟨k, hk⟩ : ∃ k, i * 6 = k := ⟨_, rfl⟩
  rw [hk] at HF z3 e3 HD
  clear h hx hk ho
  go_enter Try.func35, Try.ntmps35
  go_wp2_with fail
  refine Calls.mono (unhide HF) ?_
  rintro r w1 ⟨rfl, rfl⟩
  go_wp2_with fail
  go_ret
  exact ⟨rfl, unhide HD, (Only.refl _ w).set gg _ _ rfl⟩
set_option maxRecDepth 100000 in
set_option maxHeartbeats 4000000 in
theorem shut_out (g gg c : Nat) (sv : Value) (ex : List Value) (D : List Gst) (w : World) (h : Dk w g gg c sv ex D) (i : Nat) (x : Gst) (hx : D[i]? = some x) (ho : x.opn = false) :
    Calls Try.prog 41 #[.pointer (some ⟨g, 0, none⟩), .int .i64 (i : Int)] w fun r w' => r = .returned (.int .i64 172) ∧ w = w' := by
  have HF := hide (inside_out g gg c sv ex D w h i x hx ho)
  clear h hx
  go_enter Try.func41, Try.ntmps41
  go_wp2_with fail
  refine Calls.mono (unhide HF) ?_
  rintro r w1 ⟨rfl, rfl⟩
  go_wp2_with fail
  go_ret
  exact ⟨rfl, rfl⟩
set_option maxRecDepth 100000 in
set_option maxHeartbeats 4000000 in
theorem shut_in (g gg c : Nat) (sv : Value) (ex : List Value) (D : List Gst) (w : World) (h : Dk w g gg c sv ex D) (i : Nat) (x : Gst) (hx : D[i]? = some x) (ho : x.opn = true) :
    Calls Try.prog 41 #[.pointer (some ⟨g, 0, none⟩), .int .i64 (i : Int)] w fun r w' => r = .returned (.int .i64 0) ∧ Dk w' g gg c sv ex (D.set i { x with opn := false }) ∧ Only (· = gg) w w' := by
  have HF := hide (inside_in g gg c sv ex D w h i x hx ho)
  have z3 : w.frozen? ⟨gg, i * 6 + 2, none⟩ = false := h.row.frozen _
  have e3 : w.cell? ⟨gg, i * 6 + 2, none⟩ = (gv x)[2]? := h.cell hx (by decide)
  simp only [gv, List.getElem?_cons_succ, List.getElem?_cons_zero] at e3
  have HD := hide (h.set (v := .bool false) (x' := { x with opn := false }) hx (f := 2) (by decide) rfl)
  obtain ⟨k, hk⟩ : ∃ k, i * 6 = k := ⟨_, rfl⟩
  rw [hk] at HF z3 e3 HD
  clear h hx hk ho
  go_enter Try.func41, Try.ntmps41
  go_wp2_with fail
  refine Calls.mono (unhide HF) ?_
  rintro r w1 ⟨rfl, rfl⟩
  go_wp2_with fail
  go_ret
  exact ⟨rfl, unhide HD, (Only.refl _ w).set gg _ _ rfl⟩
end Go.Proofs.Ythgacmlbmcehmaa
