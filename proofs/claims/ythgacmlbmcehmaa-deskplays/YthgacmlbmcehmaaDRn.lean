/- What the document's own desk does. -/
import Derived.Test.YthgacmlbmcehmaaDRm
namespace Go.Proofs.Ythgacmlbmcehmaa
set_option linter.unusedVariables false
set_option linter.unusedSimpArgs false
open Go.ChangeShapes Go.WideShapes Go.ChangeAt Go.RowKit Go.Joins Go.Deep

def wrongR (x : Rg) : Rg := if x.wrong + 1 = 3 then { x with wrong := 0, locked := 20 } else { x with wrong := x.wrong + 1 }
set_option maxRecDepth 100000 in
set_option maxHeartbeats 4000000 in
theorem rwrong_locked {w : World} {g gg c : Nat} {s0 s1 s2 : Value} {ex : List Value} {R : List Rg} (h : Rk w g gg c s0 s1 s2 ex R) (i : Nat) (x : Rg) (hx : R[i]? = some x) (hl0 : 0 < x.locked) : Calls Try.prog 17 #[.pointer (some ⟨g, 0, none⟩), .int .i64 (i : Int)] w fun r w' => r = .returned (.int .i64 170) ∧ RkD w w' g s0 s1 s2 R := by
  have c3 : w.cell? ⟨g, 3, none⟩ = some (.slice (some ⟨gg, 0, none⟩) R.length c) := h.obj.cell 3
  have hl := h.le
  have HH := hide h
  have HNO := hide (rno_in h i (List.getElem?_eq_some_iff.1 hx).1)
  have e0 : w.cell? ⟨gg, i * 5, none⟩ = some (.int .i64 x.conn) := h.cell (f := 0) hx (by decide)
  have e1 : w.cell? ⟨gg, i * 5 + 1, none⟩ = some (.bool x.opn) := h.cell hx (by decide)
  have e2 : w.cell? ⟨gg, i * 5 + 2, none⟩ = some (.int .i64 x.silent) := h.cell hx (by decide)
  have e3 : w.cell? ⟨gg, i * 5 + 3, none⟩ = some (.int .i64 x.wrong) := h.cell hx (by decide)
  have e4 : w.cell? ⟨gg, i * 5 + 4, none⟩ = some (.int .i64 x.locked) := h.cell hx (by decide)
  have hi := (List.getElem?_eq_some_iff.1 hx).1
  obtain ⟨n, hn⟩ : ∃ n, R.length = n := ⟨_, rfl⟩
  have HN := hide hn
  rw [hn] at c3 hi hl
  have i2 : (i : Int) < (n : Int) := by omega
  have n8 : (n : Int) ≤ 8 := by omega
  have HX := hide hx
  clear h hn hx
  go_enter Try.func17, Try.ntmps17
  go_wp2_with fail
  refine Calls.mono (unhide HNO) ?_
  rintro r w1 ⟨rfl, rfl⟩
  go_wp2_with fail
  go_ret
  exact ⟨rfl, RkD.same (unhide HH) (by go_grown)⟩
set_option maxRecDepth 100000 in
set_option maxHeartbeats 4000000 in
theorem rwrong_ok {w : World} {g gg c : Nat} {s0 s1 s2 : Value} {ex : List Value} {R : List Rg} (h : Rk w g gg c s0 s1 s2 ex R) (i : Nat) (x : Rg) (hx : R[i]? = some x) (hl0 : ¬ 0 < x.locked) (w0 : 0 ≤ x.wrong) (w2 : x.wrong ≤ 2) : Calls Try.prog 17 #[.pointer (some ⟨g, 0, none⟩), .int .i64 (i : Int)] w fun r w' => r = .returned (.int .i64 0) ∧ RkD w w' g s0 s1 s2 (R.set i (wrongR x)) := by
  have c3 : w.cell? ⟨g, 3, none⟩ = some (.slice (some ⟨gg, 0, none⟩) R.length c) := h.obj.cell 3
  have hl := h.le
  have HH := hide h
  have HNO := hide (rno_in h i (List.getElem?_eq_some_iff.1 hx).1)
  have e0 : w.cell? ⟨gg, i * 5, none⟩ = some (.int .i64 x.conn) := h.cell (f := 0) hx (by decide)
  have e1 : w.cell? ⟨gg, i * 5 + 1, none⟩ = some (.bool x.opn) := h.cell hx (by decide)
  have e2 : w.cell? ⟨gg, i * 5 + 2, none⟩ = some (.int .i64 x.silent) := h.cell hx (by decide)
  have e3 : w.cell? ⟨gg, i * 5 + 3, none⟩ = some (.int .i64 x.wrong) := h.cell hx (by decide)
  have e4 : w.cell? ⟨gg, i * 5 + 4, none⟩ = some (.int .i64 x.locked) := h.cell hx (by decide)
  have hi := (List.getElem?_eq_some_iff.1 hx).1
  obtain ⟨n, hn⟩ : ∃ n, R.length = n := ⟨_, rfl⟩
  have HN := hide hn
  rw [hn] at c3 hi hl
  have i2 : (i : Int) < (n : Int) := by omega
  have n8 : (n : Int) ≤ 8 := by omega
  have HX := hide hx
  clear h hn hx
  unfold wrongR
  by_cases h3 : x.wrong + 1 = 3
  · rw [if_pos h3]
    have h2 : x.wrong = 2 := by omega
    rw [h2] at e3
    clear h3
    go_enter Try.func17, Try.ntmps17
    go_wp2_with fail
    refine Calls.mono (unhide HNO) ?_
    rintro r w1 ⟨rfl, rfl⟩
    go_wp2_with fail
    refine Calls.mono (rset_ok g gg c s0 s1 s2 ex R _ ((unhide HH).call (by go_grown)) i (by rw [unhide HN]; exact hi) { x with wrong := 0, locked := 20 }) ?_
    rintro r w9 ⟨rfl, ⟨gg', c', ex', hd, -⟩, ho⟩
    have HD : Hid (RkD w w9 g s0 s1 s2 (R.set i { x with wrong := 0, locked := 20 })) := hide ⟨⟨gg', c', ex', hd⟩, (Only.of_below (by go_grown)).trans ho⟩
    clear hd ho
    go_wp2_with fail
    go_ret
    exact ⟨rfl, unhide HD⟩
  · rw [if_neg h3]
    have h3b : (x.wrong + 1 == 3) = false := by simp [h3]
    go_enter Try.func17, Try.ntmps17
    go_wp2_with fail
    refine Calls.mono (unhide HNO) ?_
    rintro r w1 ⟨rfl, rfl⟩
    go_wp2_with fail
    refine Calls.mono (rset_ok g gg c s0 s1 s2 ex R _ ((unhide HH).call (by go_grown)) i (by rw [unhide HN]; exact hi) { x with wrong := x.wrong + 1 }) ?_
    rintro r w9 ⟨rfl, ⟨gg', c', ex', hd, -⟩, ho⟩
    have HD : Hid (RkD w w9 g s0 s1 s2 (R.set i { x with wrong := x.wrong + 1 })) := hide ⟨⟨gg', c', ex', hd⟩, (Only.of_below (by go_grown)).trans ho⟩
    clear hd ho
    go_wp2_with fail
    go_ret
    exact ⟨rfl, unhide HD⟩
set_option maxRecDepth 100000 in
set_option maxHeartbeats 4000000 in
theorem rheard_out {w : World} {g gg c : Nat} {s0 s1 s2 : Value} {ex : List Value} {R : List Rg} (h : Rk w g gg c s0 s1 s2 ex R) (i : Nat) (x : Rg) (hx : R[i]? = some x) (ho : x.opn = false) : Calls Try.prog 19 #[.pointer (some ⟨g, 0, none⟩), .int .i64 (i : Int)] w fun r w' => r = .returned (.int .i64 172) ∧ Below w.heap.size w w' := by
  have c3 : w.cell? ⟨g, 3, none⟩ = some (.slice (some ⟨gg, 0, none⟩) R.length c) := h.obj.cell 3
  have hl := h.le
  have HH := hide h
  have HNO := hide (rno_in h i (List.getElem?_eq_some_iff.1 hx).1)
  have e0 : w.cell? ⟨gg, i * 5, none⟩ = some (.int .i64 x.conn) := h.cell (f := 0) hx (by decide)
  have e1 : w.cell? ⟨gg, i * 5 + 1, none⟩ = some (.bool x.opn) := h.cell hx (by decide)
  have e2 : w.cell? ⟨gg, i * 5 + 2, none⟩ = some (.int .i64 x.silent) := h.cell hx (by decide)
  have e3 : w.cell? ⟨gg, i * 5 + 3, none⟩ = some (.int .i64 x.wrong) := h.cell hx (by decide)
  have e4 : w.cell? ⟨gg, i * 5 + 4, none⟩ = some (.int .i64 x.locked) := h.cell hx (by decide)
  have hi := (List.getElem?_eq_some_iff.1 hx).1
  obtain ⟨n, hn⟩ : ∃ n, R.length = n := ⟨_, rfl⟩
  have HN := hide hn
  rw [hn] at c3 hi hl
  have i2 : (i : Int) < (n : Int) := by omega
  have n8 : (n : Int) ≤ 8 := by omega
  have HX := hide hx
  clear h hn hx
  rw [ho] at e1
  go_enter Try.func19, Try.ntmps19
  go_wp2_with fail
  refine Calls.mono (unhide HNO) ?_
  rintro r w1 ⟨rfl, rfl⟩
  go_wp2_with fail
  go_ret
  exact ⟨rfl, by go_grown⟩
set_option maxRecDepth 100000 in
set_option maxHeartbeats 4000000 in
theorem rheard_in {w : World} {g gg c : Nat} {s0 s1 s2 : Value} {ex : List Value} {R : List Rg} (h : Rk w g gg c s0 s1 s2 ex R) (i : Nat) (x : Rg) (hx : R[i]? = some x) (ho : x.opn = true) : Calls Try.prog 19 #[.pointer (some ⟨g, 0, none⟩), .int .i64 (i : Int)] w fun r w' => r = .returned (.int .i64 0) ∧ RkD w w' g s0 s1 s2 (R.set i { x with opn := true, silent := 0 }) := by
  have c3 : w.cell? ⟨g, 3, none⟩ = some (.slice (some ⟨gg, 0, none⟩) R.length c) := h.obj.cell 3
  have hl := h.le
  have HH := hide h
  have HNO := hide (rno_in h i (List.getElem?_eq_some_iff.1 hx).1)
  have e0 : w.cell? ⟨gg, i * 5, none⟩ = some (.int .i64 x.conn) := h.cell (f := 0) hx (by decide)
  have e1 : w.cell? ⟨gg, i * 5 + 1, none⟩ = some (.bool x.opn) := h.cell hx (by decide)
  have e2 : w.cell? ⟨gg, i * 5 + 2, none⟩ = some (.int .i64 x.silent) := h.cell hx (by decide)
  have e3 : w.cell? ⟨gg, i * 5 + 3, none⟩ = some (.int .i64 x.wrong) := h.cell hx (by decide)
  have e4 : w.cell? ⟨gg, i * 5 + 4, none⟩ = some (.int .i64 x.locked) := h.cell hx (by decide)
  have hi := (List.getElem?_eq_some_iff.1 hx).1
  obtain ⟨n, hn⟩ : ∃ n, R.length = n := ⟨_, rfl⟩
  have HN := hide hn
  rw [hn] at c3 hi hl
  have i2 : (i : Int) < (n : Int) := by omega
  have n8 : (n : Int) ≤ 8 := by omega
  have HX := hide hx
  clear h hn hx
  rw [ho] at e1
  go_enter Try.func19, Try.ntmps19
  go_wp2_with fail
  refine Calls.mono (unhide HNO) ?_
  rintro r w1 ⟨rfl, rfl⟩
  go_wp2_with fail
  refine Calls.mono (rset_ok g gg c s0 s1 s2 ex R _ ((unhide HH).call (by go_grown)) i (by rw [unhide HN]; exact hi) { x with opn := true, silent := 0 }) ?_
  rintro r w9 ⟨rfl, ⟨gg', c', ex', hd, -⟩, ho⟩
  have HD : Hid (RkD w w9 g s0 s1 s2 (R.set i { x with opn := true, silent := 0 })) := hide ⟨⟨gg', c', ex', hd⟩, (Only.of_below (by go_grown)).trans ho⟩
  clear hd ho
  go_wp2_with fail
  go_ret
  exact ⟨rfl, unhide HD⟩
set_option maxRecDepth 100000 in
set_option maxHeartbeats 4000000 in
theorem rshut_err {w : World} {g gg c : Nat} {s0 s1 s2 : Value} {ex : List Value} {R : List Rg} (h : Rk w g gg c s0 s1 s2 ex R) (who e : Int) (he : e ≠ 0) (hc : Calls Try.prog 19 #[.pointer (some ⟨g, 0, none⟩), .int .i64 who] w fun r w' => r = .returned (.int .i64 e) ∧ Below w.heap.size w w') : Calls Try.prog 20 #[.pointer (some ⟨g, 0, none⟩), .int .i64 who] w fun r w' => r = .returned (.int .i64 e) ∧ Below w.heap.size w w' := by
  have HC := hide hc
  have he1 : (e == 0) = false := by simp [he]
  have he2 : (e != 0) = true := by simp [he]
  clear hc h he
  go_enter Try.func20, Try.ntmps20
  go_wp2_with fail
  refine Calls.mono (unhide HC) ?_
  rintro r w1 ⟨rfl, hb⟩
  have HB := hide hb
  clear hb
  go_wp2_with fail
  go_ret
  exact ⟨rfl, unhide HB⟩
set_option maxRecDepth 100000 in
set_option maxHeartbeats 4000000 in
theorem rshut_in {w : World} {g gg c : Nat} {s0 s1 s2 : Value} {ex : List Value} {R : List Rg} (h : Rk w g gg c s0 s1 s2 ex R) (i : Nat) (x : Rg) (hx : R[i]? = some x) (ho : x.opn = true) : Calls Try.prog 20 #[.pointer (some ⟨g, 0, none⟩), .int .i64 (i : Int)] w fun r w' => r = .returned (.int .i64 0) ∧ RkD w w' g s0 s1 s2 (R.set i { x with opn := false, silent := 0 }) := by
  have HC := hide (rheard_in h i x hx ho)
  have hi := (List.getElem?_eq_some_iff.1 hx).1
  clear h
  go_enter Try.func20, Try.ntmps20
  go_wp2_with fail
  refine Calls.mono (unhide HC) ?_
  rintro r w1 ⟨rfl, ⟨gg1, c1, ex1, hk⟩, ho1⟩
  have hx1 : (R.set i { x with opn := true, silent := 0 })[i]? = some { x with opn := true, silent := 0 } := List.getElem?_set_self hi
  have c3 : w1.cell? ⟨g, 3, none⟩ = some (.slice (some ⟨gg1, 0, none⟩) (R.set i { x with opn := true, silent := 0 }).length c1) := hk.obj.cell 3
  rw [List.length_set] at c3
  have e0 : w1.cell? ⟨gg1, i * 5, none⟩ = some (.int .i64 x.conn) := hk.cell (f := 0) (x := { x with opn := true, silent := 0 }) hx1 (by decide)
  have e1 : w1.cell? ⟨gg1, i * 5 + 1, none⟩ = some (.bool true) := hk.cell (x := { x with opn := true, silent := 0 }) hx1 (by decide)
  have e2 : w1.cell? ⟨gg1, i * 5 + 2, none⟩ = some (.int .i64 0) := hk.cell (x := { x with opn := true, silent := 0 }) hx1 (by decide)
  have e3 : w1.cell? ⟨gg1, i * 5 + 3, none⟩ = some (.int .i64 x.wrong) := hk.cell (x := { x with opn := true, silent := 0 }) hx1 (by decide)
  have e4 : w1.cell? ⟨gg1, i * 5 + 4, none⟩ = some (.int .i64 x.locked) := hk.cell (x := { x with opn := true, silent := 0 }) hx1 (by decide)
  have hl := hk.le
  rw [List.length_set] at hl
  have HK := hide hk
  have HO1 := hide ho1
  obtain ⟨n, hn⟩ : ∃ n, R.length = n := ⟨_, rfl⟩
  have HN := hide hn
  rw [hn] at c3 hl hi
  have i2 : (i : Int) < (n : Int) := by omega
  have n8 : (n : Int) ≤ 8 := by omega
  clear hk ho1 hn hx hx1 HC
  go_wp2_with fail
  refine Calls.mono (rset_ok g gg1 c1 s0 s1 s2 ex1 _ _ ((unhide HK).call (by go_grown)) i (by rw [List.length_set, unhide HN]; exact hi) { x with opn := false, silent := 0 }) ?_
  rintro r w9 ⟨rfl, ⟨gg', c', ex', hd, -⟩, ho⟩
  rw [List.set_set] at hd
  have HD : Hid (RkD w w9 g s0 s1 s2 (R.set i { x with opn := false, silent := 0 })) := hide ⟨⟨gg', c', ex', hd⟩, ((unhide HO1).trans (Only.of_below (by go_grown))).trans ho⟩
  clear hd ho
  go_wp2_with fail
  go_ret
  exact ⟨rfl, unhide HD⟩
set_option maxRecDepth 100000 in
set_option maxHeartbeats 4000000 in
theorem rbegin_err {w : World} {g gg c : Nat} {s0 s1 s2 : Value} {ex : List Value} {R : List Rg} (h : Rk w g gg c s0 s1 s2 ex R) (who q e : Int) (b : Bool) (hc : Calls Try.prog 15 #[.pointer (some ⟨g, 0, none⟩), .int .i64 who, .int .i64 q] w fun r w' => r = .returned (.tuple #[.bool b, .int .i64 e]) ∧ Below w.heap.size w w') (hb : (b, e) ≠ (true, 0)) : Calls Try.prog 23 #[.pointer (some ⟨g, 0, none⟩), .int .i64 who, .int .i64 q] w fun r w' => r = .returned (.int .i64 (if e = 0 then 130 else e)) ∧ Below w.heap.size w w' := by
  have HC := hide hc
  clear hc h
  by_cases he : e = 0
  · subst he
    obtain rfl : b = false := by cases b; rfl; exact absurd rfl hb
    rw [if_pos rfl]
    clear hb
    go_enter Try.func23, Try.ntmps23
    go_wp2_with fail
    refine Calls.mono (unhide HC) ?_
    rintro r w1 ⟨rfl, hb⟩
    have HB := hide hb
    clear hb
    go_wp2_with fail
    go_ret
    exact ⟨rfl, unhide HB⟩
  · rw [if_neg he]
    have he1 : (e == 0) = false := by simp [he]
    have he2 : (e != 0) = true := by simp [he]
    clear he hb
    go_enter Try.func23, Try.ntmps23
    go_wp2_with fail
    refine Calls.mono (unhide HC) ?_
    rintro r w1 ⟨rfl, hb⟩
    have HB := hide hb
    clear hb
    go_wp2_with fail
    go_ret
    exact ⟨rfl, unhide HB⟩
set_option maxRecDepth 100000 in
set_option maxHeartbeats 4000000 in
theorem rbegin_ok {w : World} {g gg c : Nat} {s0 s1 s2 : Value} {ex : List Value} {R : List Rg} (h : Rk w g gg c s0 s1 s2 ex R) (i : Nat) (x : Rg) (hx : R[i]? = some x) (q : Int) (hq : knockR x q = (true, 0)) : Calls Try.prog 23 #[.pointer (some ⟨g, 0, none⟩), .int .i64 (i : Int), .int .i64 q] w fun r w' => r = .returned (.int .i64 0) ∧ RkD w w' g s0 s1 s2 (R.set i ⟨q, false, 0, 0, 0⟩) := by
  have HC := hide (rknock_ok h i x hx q)
  rw [hq] at HC
  have hi := (List.getElem?_eq_some_iff.1 hx).1
  have HH := hide h
  clear h hq
  go_enter Try.func23, Try.ntmps23
  go_wp2_with fail
  refine Calls.mono (unhide HC) ?_
  rintro r w1 ⟨rfl, hb⟩
  have HB := hide hb
  clear hb HC
  go_wp2_with fail
  refine Calls.mono (rset_ok g gg c s0 s1 s2 ex R _ ((unhide HH).call (by first | exact unhide HB | exact (unhide HB).trans (by go_grown))) i hi ⟨q, false, 0, 0, 0⟩) ?_
  rintro r w9 ⟨rfl, ⟨gg', c', ex', hd, -⟩, ho⟩
  have HD : Hid (RkD w w9 g s0 s1 s2 (R.set i ⟨q, false, 0, 0, 0⟩)) := hide ⟨⟨gg', c', ex', hd⟩, (Only.of_below (unhide HB)).trans ho⟩
  clear hd ho
  go_wp2_with fail
  go_ret
  exact ⟨rfl, unhide HD⟩
end Go.Proofs.Ythgacmlbmcehmaa
