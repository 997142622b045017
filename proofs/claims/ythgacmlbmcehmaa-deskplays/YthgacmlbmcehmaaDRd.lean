/- What reads a desk: State, Locked, Knock, Seats; what answers where there is no such guest. -/
import Derived.Test.YthgacmlbmcehmaaDMod
namespace Go.Proofs.Ythgacmlbmcehmaa
set_option linter.unusedVariables false
set_option linter.unusedSimpArgs false
open Go.ChangeShapes Go.WideShapes Go.ChangeAt Go.RowKit Go.Joins Go.Deep

/-- there is no such guest: why -/
def NoG (d : Value) (i : Int) (w : World) (e : Int) : Prop := Calls Try.prog 39 #[d, .int .i64 i] w fun r w' => r = .returned (.tuple #[.pointer none, .int .i64 e]) ∧ w = w'
set_option maxRecDepth 100000 in
set_option maxHeartbeats 4000000 in
theorem state_bad (d : Value) (i : Int) (e : Int) (w : World) (he : (e != 0) = true) (h : NoG d i w e) :
    Calls Try.prog 25 #[d, .int .i64 i] w fun r w' => r = .returned (.tuple #[.int .i64 0, .bool false]) ∧ w = w' := by
  have HF := hide h
  unfold NoG at HF
  have he2 : ¬ e = 0 := by simpa using he
  clear h
  go_enter Try.func25, Try.ntmps25
  go_wp2_with fail
  refine Calls.mono (unhide HF) ?_
  rintro r w1 ⟨rfl, rfl⟩
  go_wp2_with fail
  go_ret2
  exact ⟨rfl, rfl⟩
set_option maxRecDepth 100000 in
set_option maxHeartbeats 4000000 in
theorem locked_bad (d : Value) (i : Int) (e : Int) (w : World) (he : (e != 0) = true) (h : NoG d i w e) :
    Calls Try.prog 26 #[d, .int .i64 i] w fun r w' => r = .returned (.int .i64 0) ∧ w = w' := by
  have HF := hide h
  unfold NoG at HF
  have he2 : ¬ e = 0 := by simpa using he
  clear h
  go_enter Try.func26, Try.ntmps26
  go_wp2_with fail
  refine Calls.mono (unhide HF) ?_
  rintro r w1 ⟨rfl, rfl⟩
  go_wp2_with fail
  go_ret
  exact ⟨rfl, rfl⟩
set_option maxRecDepth 100000 in
set_option maxHeartbeats 4000000 in
theorem knock_bad (d : Value) (i : Int) (k : Int) (e : Int) (w : World) (he : (e != 0) = true) (h : NoG d i w e) :
    Calls Try.prog 14 #[d, .int .i64 i, .int .i64 k] w fun r w' => r = .returned (.tuple #[.bool false, .int .i64 e]) ∧ w = w' := by
  have HF := hide h
  unfold NoG at HF
  have he2 : ¬ e = 0 := by simpa using he
  clear h
  go_enter Try.func14, Try.ntmps14
  go_wp2_with fail
  refine Calls.mono (unhide HF) ?_
  rintro r w1 ⟨rfl, rfl⟩
  go_wp2_with fail
  go_ret2
  exact ⟨rfl, rfl⟩
set_option maxRecDepth 100000 in
set_option maxHeartbeats 4000000 in
theorem wrong_bad (d : Value) (i : Int) (e : Int) (w : World) (he : (e != 0) = true) (h : NoG d i w e) :
    Calls Try.prog 32 #[d, .int .i64 i] w fun r w' => r = .returned (.int .i64 e) ∧ w = w' := by
  have HF := hide h
  unfold NoG at HF
  have he2 : ¬ e = 0 := by simpa using he
  clear h
  go_enter Try.func32, Try.ntmps32
  go_wp2_with fail
  refine Calls.mono (unhide HF) ?_
  rintro r w1 ⟨rfl, rfl⟩
  go_wp2_with fail
  go_ret
  exact ⟨rfl, rfl⟩
set_option maxRecDepth 100000 in
set_option maxHeartbeats 4000000 in
theorem open_bad (d : Value) (i : Int) (e : Int) (w : World) (he : (e != 0) = true) (h : NoG d i w e) :
    Calls Try.prog 34 #[d, .int .i64 i] w fun r w' => r = .returned (.int .i64 e) ∧ w = w' := by
  have HF := hide h
  unfold NoG at HF
  have he2 : ¬ e = 0 := by simpa using he
  clear h
  go_enter Try.func34, Try.ntmps34
  go_wp2_with fail
  refine Calls.mono (unhide HF) ?_
  rintro r w1 ⟨rfl, rfl⟩
  go_wp2_with fail
  go_ret
  exact ⟨rfl, rfl⟩
set_option maxRecDepth 100000 in
set_option maxHeartbeats 4000000 in
theorem inside_bad (d : Value) (i : Int) (e : Int) (w : World) (he : (e != 0) = true) (h : NoG d i w e) :
    Calls Try.prog 47 #[d, .int .i64 i] w fun r w' => r = .returned (.tuple #[.pointer none, .int .i64 e]) ∧ w = w' := by
  have HF := hide h
  unfold NoG at HF
  have he2 : ¬ e = 0 := by simpa using he
  clear h
  go_enter Try.func47, Try.ntmps47
  go_wp2_with fail
  refine Calls.mono (unhide HF) ?_
  rintro r w1 ⟨rfl, rfl⟩
  go_wp2_with fail
  go_ret2
  exact ⟨rfl, rfl⟩
set_option maxRecDepth 100000 in
set_option maxHeartbeats 4000000 in
theorem begin_bad (d : Value) (i : Int) (k : Int) (e : Int) (w : World) (he : (e != 0) = true) (h : NoG d i w e) :
    Calls Try.prog 31 #[d, .int .i64 i, .int .i64 k] w fun r w' => r = .returned (.int .i64 e) ∧ w = w' := by
  have HF := hide (knock_bad d i k e w he h)
  have he2 : ¬ e = 0 := by simpa using he
  clear h
  go_enter Try.func31, Try.ntmps31
  go_wp2_with fail
  refine Calls.mono (unhide HF) ?_
  rintro r w1 ⟨rfl, rfl⟩
  go_wp2_with fail
  go_ret
  exact ⟨rfl, rfl⟩
set_option maxRecDepth 100000 in
set_option maxHeartbeats 4000000 in
theorem heard_bad (d : Value) (i : Int) (e : Int) (w : World) (he : (e != 0) = true) (h : NoG d i w e) :
    Calls Try.prog 35 #[d, .int .i64 i] w fun r w' => r = .returned (.int .i64 e) ∧ w = w' := by
  have HF := hide (inside_bad d i e w he h)
  have he2 : ¬ e = 0 := by simpa using he
  clear h
  go_enter Try.func35, Try.ntmps35
  go_wp2_with fail
  refine Calls.mono (unhide HF) ?_
  rintro r w1 ⟨rfl, rfl⟩
  go_wp2_with fail
  go_ret
  exact ⟨rfl, rfl⟩
set_option maxRecDepth 100000 in
set_option maxHeartbeats 4000000 in
theorem shut_bad (d : Value) (i : Int) (e : Int) (w : World) (he : (e != 0) = true) (h : NoG d i w e) :
    Calls Try.prog 41 #[d, .int .i64 i] w fun r w' => r = .returned (.int .i64 e) ∧ w = w' := by
  have HF := hide (inside_bad d i e w he h)
  have he2 : ¬ e = 0 := by simpa using he
  clear h
  go_enter Try.func41, Try.ntmps41
  go_wp2_with fail
  refine Calls.mono (unhide HF) ?_
  rintro r w1 ⟨rfl, rfl⟩
  go_wp2_with fail
  go_ret
  exact ⟨rfl, rfl⟩
set_option maxRecDepth 100000 in
set_option maxHeartbeats 4000000 in
theorem state_ok (g gg c : Nat) (sv : Value) (ex : List Value) (D : List Gst) (w : World) (h : Dk w g gg c sv ex D) (i : Nat) (x : Gst) (hx : D[i]? = some x) :
    Calls Try.prog 25 #[.pointer (some ⟨g, 0, none⟩), .int .i64 (i : Int)] w fun r w' => r = .returned (.tuple #[.int .i64 x.conn, .bool x.opn]) ∧ Below w.heap.size w w' := by
  have HF := hide (find_ok g gg c sv ex D w h i x hx)
  have e1 : w.cell? ⟨gg, i * 6 + 1, none⟩ = some (.int .i64 x.conn) := h.cell hx (by decide)
  have e2 : w.cell? ⟨gg, i * 6 + 2, none⟩ = some (.bool x.opn) := h.cell hx (by decide)
  have e5 : w.cell? ⟨gg, i * 6 + 5, none⟩ = some (.int .i64 x.locked) := h.cell hx (by decide)
  obtain ⟨k, hk⟩ : ∃ k, i * 6 = k := ⟨_, rfl⟩
  rw [hk] at HF e1 e2 e5
  clear h hx hk
  go_enter Try.func25, Try.ntmps25
  go_wp2_with fail
  refine Calls.mono (unhide HF) ?_
  rintro r w1 ⟨rfl, rfl⟩
  go_wp2_with fail
  go_region
  go_wp2_with fail
  go_ret2
  exact ⟨rfl, (Below.refl _ _).drew⟩
set_option maxRecDepth 100000 in
set_option maxHeartbeats 4000000 in
theorem locked_ok (g gg c : Nat) (sv : Value) (ex : List Value) (D : List Gst) (w : World) (h : Dk w g gg c sv ex D) (i : Nat) (x : Gst) (hx : D[i]? = some x) :
    Calls Try.prog 26 #[.pointer (some ⟨g, 0, none⟩), .int .i64 (i : Int)] w fun r w' => r = .returned (.int .i64 x.locked) ∧ w = w' := by
  have HF := hide (find_ok g gg c sv ex D w h i x hx)
  have e1 : w.cell? ⟨gg, i * 6 + 1, none⟩ = some (.int .i64 x.conn) := h.cell hx (by decide)
  have e2 : w.cell? ⟨gg, i * 6 + 2, none⟩ = some (.bool x.opn) := h.cell hx (by decide)
  have e5 : w.cell? ⟨gg, i * 6 + 5, none⟩ = some (.int .i64 x.locked) := h.cell hx (by decide)
  obtain ⟨k, hk⟩ : ∃ k, i * 6 = k := ⟨_, rfl⟩
  rw [hk] at HF e1 e2 e5
  clear h hx hk
  go_enter Try.func26, Try.ntmps26
  go_wp2_with fail
  refine Calls.mono (unhide HF) ?_
  rintro r w1 ⟨rfl, rfl⟩
  go_wp2_with fail
  go_ret
  exact ⟨rfl, rfl⟩
/-- what Knock answers -/
def knockE (x : Gst) (k : Int) : Bool × Int := if k < 1 ∨ 1099511627776 < k ∨ k < x.conn then (false, 130) else if k = x.conn then (false, 0) else if 0 < x.locked then (false, 170) else (true, 0)
set_option maxRecDepth 100000 in
set_option maxHeartbeats 4000000 in
theorem knock_ok (g gg c : Nat) (sv : Value) (ex : List Value) (D : List Gst) (w : World) (h : Dk w g gg c sv ex D) (i : Nat) (x : Gst) (q : Int) (hx : D[i]? = some x) :
    Calls Try.prog 14 #[.pointer (some ⟨g, 0, none⟩), .int .i64 (i : Int), .int .i64 q] w fun r w' => r = .returned (.tuple #[.bool (knockE x q).1, .int .i64 (knockE x q).2]) ∧ w = w' := by
  have HF := hide (find_ok g gg c sv ex D w h i x hx)
  have e1 : w.cell? ⟨gg, i * 6 + 1, none⟩ = some (.int .i64 x.conn) := h.cell hx (by decide)
  have e2 : w.cell? ⟨gg, i * 6 + 2, none⟩ = some (.bool x.opn) := h.cell hx (by decide)
  have e5 : w.cell? ⟨gg, i * 6 + 5, none⟩ = some (.int .i64 x.locked) := h.cell hx (by decide)
  obtain ⟨k, hk⟩ : ∃ k, i * 6 = k := ⟨_, rfl⟩
  rw [hk] at HF e1 e2 e5
  clear h hx hk
  by_cases c1 : q < 1
  · have hE : knockE x q = (false, 130) := by simp [knockE, c1]
    rw [hE]
    clear hE
    go_enter Try.func14, Try.ntmps14
    go_wp2_with fail
    refine Calls.mono (unhide HF) ?_
    rintro r w1 ⟨rfl, rfl⟩
    go_wp2_with fail
    go_ret2
    exact ⟨rfl, rfl⟩
  by_cases c2 : 1099511627776 < q
  · have hE : knockE x q = (false, 130) := by simp [knockE, c2]
    rw [hE]
    clear hE
    go_enter Try.func14, Try.ntmps14
    go_wp2_with fail
    refine Calls.mono (unhide HF) ?_
    rintro r w1 ⟨rfl, rfl⟩
    go_wp2_with fail
    go_ret2
    exact ⟨rfl, rfl⟩
  by_cases c3 : q < x.conn
  · have hE : knockE x q = (false, 130) := by simp [knockE, c3]
    rw [hE]
    clear hE
    go_enter Try.func14, Try.ntmps14
    go_wp2_with fail
    refine Calls.mono (unhide HF) ?_
    rintro r w1 ⟨rfl, rfl⟩
    go_wp2_with fail
    go_ret2
    exact ⟨rfl, rfl⟩
  by_cases c4 : q = x.conn
  · have hE : knockE x q = (false, 0) := by unfold knockE; rw [if_neg (by omega), if_pos c4]
    rw [hE]
    have b4 : (q == x.conn) = true := by simp [c4]
    clear hE
    go_enter Try.func14, Try.ntmps14
    go_wp2_with fail
    refine Calls.mono (unhide HF) ?_
    rintro r w1 ⟨rfl, rfl⟩
    go_wp2_with fail
    go_ret2
    exact ⟨rfl, rfl⟩
  have b4 : (q == x.conn) = false := by simp [c4]
  by_cases c5 : 0 < x.locked
  · have hE : knockE x q = (false, 170) := by unfold knockE; rw [if_neg (by omega), if_neg c4, if_pos c5]
    rw [hE]
    clear hE
    go_enter Try.func14, Try.ntmps14
    go_wp2_with fail
    refine Calls.mono (unhide HF) ?_
    rintro r w1 ⟨rfl, rfl⟩
    go_wp2_with fail
    go_ret2
    exact ⟨rfl, rfl⟩
  · have hE : knockE x q = (true, 0) := by unfold knockE; rw [if_neg (by omega), if_neg c4, if_neg c5]
    rw [hE]
    clear hE
    go_enter Try.func14, Try.ntmps14
    go_wp2_with fail
    refine Calls.mono (unhide HF) ?_
    rintro r w1 ⟨rfl, rfl⟩
    go_wp2_with fail
    go_ret2
    exact ⟨rfl, rfl⟩
end Go.Proofs.Ythgacmlbmcehmaa
