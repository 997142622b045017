/- What the document's own desk answers. -/
import Derived.Test.YthgacmlbmcehmaaDRk
namespace Go.Proofs.Ythgacmlbmcehmaa
set_option linter.unusedVariables false
set_option linter.unusedSimpArgs false
open Go.ChangeShapes Go.WideShapes Go.ChangeAt Go.RowKit Go.Joins Go.Deep

/-- the object is now of these guests; only its own block has turned -/
def RkD (w w' : World) (g : Nat) (s0 s1 s2 : Value) (R : List Rg) : Prop := (∃ gg c ex, Rk w' g gg c s0 s1 s2 ex R) ∧ Only (· = g) w w'
theorem RkD.same {w : World} {g gg c : Nat} {s0 s1 s2 : Value} {ex : List Value} {R : List Rg} (h : Rk w g gg c s0 s1 s2 ex R) {w' : World} (hb : Below w.heap.size w w') : RkD w w' g s0 s1 s2 R := ⟨⟨gg, c, ex, h.call hb⟩, Only.of_below hb⟩
theorem RkD.next {w w1 w' : World} {g : Nat} {s0 s1 s2 : Value} {R : List Rg} (hb : Below w.heap.size w w1) (h : RkD w1 w' g s0 s1 s2 R) : RkD w w' g s0 s1 s2 R := ⟨h.1, (Only.of_below hb).trans h.2⟩
set_option maxRecDepth 100000 in
set_option maxHeartbeats 4000000 in
theorem rno_in {w : World} {g gg c : Nat} {s0 s1 s2 : Value} {ex : List Value} {R : List Rg} (h : Rk w g gg c s0 s1 s2 ex R) (i : Nat) (hi : i < R.length) : Calls Try.prog 40 #[.pointer (some ⟨g, 0, none⟩), .int .i64 (i : Int)] w fun r w' => r = .returned (.bool false) ∧ w = w' := by
  have c3 : w.cell? ⟨g, 3, none⟩ = some (.slice (some ⟨gg, 0, none⟩) R.length c) := h.obj.cell 3
  obtain ⟨n, hn⟩ : ∃ n, R.length = n := ⟨_, rfl⟩
  rw [hn] at c3 hi
  have i0 : ¬ (i : Int) < 0 := by omega
  have i1 : ¬ (n : Int) ≤ (i : Int) := by omega
  clear h hn
  go_enter Try.func40, Try.ntmps40
  go_wp2_with fail
  go_ret
  exact ⟨rfl, rfl⟩
set_option maxRecDepth 100000 in
set_option maxHeartbeats 4000000 in
theorem rno_out {w : World} {g gg c : Nat} {s0 s1 s2 : Value} {ex : List Value} {R : List Rg} (h : Rk w g gg c s0 s1 s2 ex R) (who : Int) (hw : who < 0 ∨ (R.length : Int) ≤ who) : Calls Try.prog 40 #[.pointer (some ⟨g, 0, none⟩), .int .i64 who] w fun r w' => r = .returned (.bool true) ∧ w = w' := by
  have c3 : w.cell? ⟨g, 3, none⟩ = some (.slice (some ⟨gg, 0, none⟩) R.length c) := h.obj.cell 3
  obtain ⟨n, hn⟩ : ∃ n, R.length = n := ⟨_, rfl⟩
  rw [hn] at c3 hw
  clear h hn
  by_cases i0 : who < 0
  · clear hw
    go_enter Try.func40, Try.ntmps40
    go_wp2_with fail
    go_ret
    exact ⟨rfl, rfl⟩
  · have i1 : (n : Int) ≤ who := by omega
    clear hw
    go_enter Try.func40, Try.ntmps40
    go_wp2_with fail
    go_ret
    exact ⟨rfl, rfl⟩
set_option maxRecDepth 100000 in
set_option maxHeartbeats 4000000 in
theorem rknock_bad {w : World} {g gg c : Nat} {s0 s1 s2 : Value} {ex : List Value} {R : List Rg} (h : Rk w g gg c s0 s1 s2 ex R) (who q : Int) (hw : who < 0 ∨ (R.length : Int) ≤ who) : Calls Try.prog 15 #[.pointer (some ⟨g, 0, none⟩), .int .i64 who, .int .i64 q] w fun r w' => r = .returned (.tuple #[.bool false, .int .i64 1]) ∧ w = w' := by
  have HNO := hide (rno_out h who hw)
  clear h hw
  go_enter Try.func15, Try.ntmps15
  go_wp2_with fail
  refine Calls.mono (unhide HNO) ?_
  rintro r w1 ⟨rfl, rfl⟩
  go_wp2_with fail
  go_ret2
  exact ⟨rfl, rfl⟩
set_option maxRecDepth 100000 in
set_option maxHeartbeats 4000000 in
theorem rwrong_bad {w : World} {g gg c : Nat} {s0 s1 s2 : Value} {ex : List Value} {R : List Rg} (h : Rk w g gg c s0 s1 s2 ex R) (who : Int) (hw : who < 0 ∨ (R.length : Int) ≤ who) : Calls Try.prog 17 #[.pointer (some ⟨g, 0, none⟩), .int .i64 who] w fun r w' => r = .returned (.int .i64 1) ∧ w = w' := by
  have HNO := hide (rno_out h who hw)
  clear h hw
  go_enter Try.func17, Try.ntmps17
  go_wp2_with fail
  refine Calls.mono (unhide HNO) ?_
  rintro r w1 ⟨rfl, rfl⟩
  go_wp2_with fail
  go_ret
  exact ⟨rfl, rfl⟩
set_option maxRecDepth 100000 in
set_option maxHeartbeats 4000000 in
theorem ropen_bad {w : World} {g gg c : Nat} {s0 s1 s2 : Value} {ex : List Value} {R : List Rg} (h : Rk w g gg c s0 s1 s2 ex R) (who : Int) (hw : who < 0 ∨ (R.length : Int) ≤ who) : Calls Try.prog 18 #[.pointer (some ⟨g, 0, none⟩), .int .i64 who] w fun r w' => r = .returned (.int .i64 1) ∧ w = w' := by
  have HNO := hide (rno_out h who hw)
  clear h hw
  go_enter Try.func18, Try.ntmps18
  go_wp2_with fail
  refine Calls.mono (unhide HNO) ?_
  rintro r w1 ⟨rfl, rfl⟩
  go_wp2_with fail
  go_ret
  exact ⟨rfl, rfl⟩
set_option maxRecDepth 100000 in
set_option maxHeartbeats 4000000 in
theorem rheard_bad {w : World} {g gg c : Nat} {s0 s1 s2 : Value} {ex : List Value} {R : List Rg} (h : Rk w g gg c s0 s1 s2 ex R) (who : Int) (hw : who < 0 ∨ (R.length : Int) ≤ who) : Calls Try.prog 19 #[.pointer (some ⟨g, 0, none⟩), .int .i64 who] w fun r w' => r = .returned (.int .i64 1) ∧ w = w' := by
  have HNO := hide (rno_out h who hw)
  clear h hw
  go_enter Try.func19, Try.ntmps19
  go_wp2_with fail
  refine Calls.mono (unhide HNO) ?_
  rintro r w1 ⟨rfl, rfl⟩
  go_wp2_with fail
  go_ret
  exact ⟨rfl, rfl⟩
def knockR (x : Rg) (k : Int) : Bool × Int := if k < 1 ∨ 1099511627776 < k ∨ k < x.conn then (false, 130) else if k = x.conn then (false, 0) else if 0 < x.locked then (false, 170) else (true, 0)
set_option maxRecDepth 100000 in
set_option maxHeartbeats 4000000 in
theorem rknock_ok {w : World} {g gg c : Nat} {s0 s1 s2 : Value} {ex : List Value} {R : List Rg} (h : Rk w g gg c s0 s1 s2 ex R) (i : Nat) (x : Rg) (hx : R[i]? = some x) (q : Int) : Calls Try.prog 15 #[.pointer (some ⟨g, 0, none⟩), .int .i64 (i : Int), .int .i64 q] w fun r w' => r = .returned (.tuple #[.bool (knockR x q).1, .int .i64 (knockR x q).2]) ∧ Below w.heap.size w w' := by
  have c3 : w.cell? ⟨g, 3, none⟩ = some (.slice (some ⟨gg, 0, none⟩) R.length c) := h.obj.cell 3
  have hl := h.le
  have HH := hide h
  have HNO := hide (rno_in h i (List.getElem?_eq_some_iff.1 hx).1)
  have e0 : w.cell? ⟨gg, i * 5, none⟩ = some (.int .i64 x.conn) := h.cell (f := 0) hx (by decide)
  have e1 : w.cell? ⟨gg, i * 5 + 1, none⟩ = some (.bool x.opn) := h.cell hx (by decide)
  have e2 : w.cell? ⟨gg, i * 5 + 2, none⟩ = some (.int .i64 x.silent) := h.cell hx (by decide)
  have e3 : w.cell? ⟨gg, i * 5 + 3, none⟩ = some (.int .i64 x.wrong) := h.cell hx (by decide)
  have e4 : w.cell? ⟨gg, i * 5 + 4, none⟩ = some (.int .i64 x.locked) := h.cell hx (by decide)
  have hi := (List.getElem?_eq_some_iff.1 hx).1
  obtain ⟨n, hn⟩ : ∃ n, R.length = n := ⟨_, rfl⟩
  have HN := hide hn
  rw [hn] at c3 hi hl
  have i2 : (i : Int) < (n : Int) := by omega
  have n8 : (n : Int) ≤ 8 := by omega
  have HX := hide hx
  clear h hn hx
  unfold knockR
  by_cases a1 : q < 1
  · rw [if_pos (.inl a1)]
    go_enter Try.func15, Try.ntmps15
    go_wp2_with fail
    refine Calls.mono (unhide HNO) ?_
    rintro r w1 ⟨rfl, rfl⟩
    go_wp2_with fail
    go_ret2
    exact ⟨rfl, by go_grown⟩
  by_cases a2 : 1099511627776 < q
  · rw [if_pos (.inr (.inl a2))]
    go_enter Try.func15, Try.ntmps15
    go_wp2_with fail
    refine Calls.mono (unhide HNO) ?_
    rintro r w1 ⟨rfl, rfl⟩
    go_wp2_with fail
    go_ret2
    exact ⟨rfl, by go_grown⟩
  by_cases a3 : q < x.conn
  · rw [if_pos (.inr (.inr a3))]
    go_enter Try.func15, Try.ntmps15
    go_wp2_with fail
    refine Calls.mono (unhide HNO) ?_
    rintro r w1 ⟨rfl, rfl⟩
    go_wp2_with fail
    go_ret2
    exact ⟨rfl, by go_grown⟩
  rw [if_neg (by omega)]
  by_cases a4 : q = x.conn
  · rw [if_pos a4]
    have b4 : (q == x.conn) = true := by simp [a4]
    clear a4
    go_enter Try.func15, Try.ntmps15
    go_wp2_with fail
    refine Calls.mono (unhide HNO) ?_
    rintro r w1 ⟨rfl, rfl⟩
    go_wp2_with fail
    go_ret2
    exact ⟨rfl, by go_grown⟩
  rw [if_neg a4]
  have b4 : (q == x.conn) = false := by simp [a4]
  clear a4
  by_cases a5 : 0 < x.locked
  · rw [if_pos a5]
    go_enter Try.func15, Try.ntmps15
    go_wp2_with fail
    refine Calls.mono (unhide HNO) ?_
    rintro r w1 ⟨rfl, rfl⟩
    go_wp2_with fail
    go_ret2
    exact ⟨rfl, by go_grown⟩
  rw [if_neg a5]
  go_enter Try.func15, Try.ntmps15
  go_wp2_with fail
  refine Calls.mono (unhide HNO) ?_
  rintro r w1 ⟨rfl, rfl⟩
  go_wp2_with fail
  go_ret2
  exact ⟨rfl, by go_grown⟩
end Go.Proofs.Ythgacmlbmcehmaa
