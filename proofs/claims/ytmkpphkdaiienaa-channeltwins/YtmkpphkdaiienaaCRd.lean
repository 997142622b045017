/- An end of a connection: what only reads; an end that no call made. -/
import Derived.Test.YtmkpphkdaiienaaCMod
namespace Go.Proofs.Ytmkpphkdaiienaa
set_option linter.unusedVariables false
set_option linter.unusedSimpArgs false
open Go.ChangeShapes Go.WideShapes Go.ChangeAt Go.RowKit Go.Joins Go.Deep

theorem made_ok (g : Nat) (c : Int) (w : World) (h : w.cell? ⟨g, 5, none⟩ = some (.int .i64 c)) (hc : c ≠ 0) :
    Calls Try.prog 39 #[.pointer (some ⟨g, 0, none⟩)] w fun r w' => r = .returned (.bool true) ∧ w = w' := by
  have hb : (c != 0) = true := by simp [hc]
  clear hc
  go_enter Try.func39, Try.ntmps39
  go_wp2
  go_ret
  exact ⟨rfl, rfl⟩
theorem made_zero (g : Nat) (w : World) (h : w.cell? ⟨g, 5, none⟩ = some (.int .i64 0)) :
    Calls Try.prog 39 #[.pointer (some ⟨g, 0, none⟩)] w fun r w' => r = .returned (.bool false) ∧ w = w' := by
  go_enter Try.func39, Try.ntmps39
  go_wp2
  go_ret
  exact ⟨rfl, rfl⟩
theorem made_nil (w : World) : Calls Try.prog 39 #[.pointer none] w fun r w' => r = .returned (.bool false) ∧ w = w' := by
  go_enter Try.func39, Try.ntmps39
  go_wp2
  go_ret
  exact ⟨rfl, rfl⟩
/-- nobody: nil, or one that New did not make -/
def Nob (w : World) (p : Option Addr) : Prop := p = none ∨ ∃ g, p = some ⟨g, 0, none⟩ ∧ w.cell? ⟨g, 5, none⟩ = some (.int .i64 0)
theorem made_nob (p : Option Addr) (w : World) (h : Nob w p) : Calls Try.prog 39 #[.pointer p] w fun r w' => r = .returned (.bool false) ∧ w = w' := by
  rcases h with rfl | ⟨g, rfl, h⟩
  · exact made_nil w
  · exact made_zero g w h
theorem told_ok (g : Nat) (x : Int) (w : World) (h : w.cell? ⟨g, 2, none⟩ = some (.int .i64 x)) (h0 : 0 < x) (h1 : x ≤ 4611686018427387904) :
    Calls Try.prog 49 #[.pointer (some ⟨g, 2, none⟩)] w fun r w' => r = .returned (.int .i64 (x - 1)) ∧ w = w' := by
  go_enter Try.func49, Try.ntmps49
  go_wp2
  go_ret
  exact ⟨rfl, rfl⟩
theorem conn_ok (g : Nat) (c : Int) (w : World) (h : w.cell? ⟨g, 5, none⟩ = some (.int .i64 c)) (hc : c ≠ 0) :
    Calls Try.prog 29 #[.pointer (some ⟨g, 0, none⟩)] w fun r w' => r = .returned (.int .i64 c) ∧ w = w' := by
  have K := hide (made_ok g c w h hc)
  clear hc
  go_enter Try.func29, Try.ntmps29
  go_wp2_with fail
  refine Calls.mono (unhide K) ?_
  rintro r w' ⟨rfl, rfl⟩
  go_wp2
  go_ret
  exact ⟨rfl, rfl⟩
theorem waiting_ok (g : Nat) (c : Int) (a : Option Addr) (n k : Nat) (w : World) (h : w.cell? ⟨g, 5, none⟩ = some (.int .i64 c)) (hc : c ≠ 0) (hq : w.cell? ⟨g, 1, none⟩ = some (.slice a n k)) :
    Calls Try.prog 26 #[.pointer (some ⟨g, 0, none⟩)] w fun r w' => r = .returned (.int .i64 (n : Int)) ∧ w = w' := by
  have K := hide (made_ok g c w h hc)
  clear hc
  go_enter Try.func26, Try.ntmps26
  go_wp2_with fail
  refine Calls.mono (unhide K) ?_
  rintro r w' ⟨rfl, rfl⟩
  go_wp2
  go_ret
  exact ⟨rfl, rfl⟩
theorem taken_ok (g : Nat) (c x : Int) (w : World) (h : w.cell? ⟨g, 5, none⟩ = some (.int .i64 c)) (hc : c ≠ 0) (h2 : w.cell? ⟨g, 2, none⟩ = some (.int .i64 x)) (h0 : 0 < x) (h1 : x ≤ 4611686018427387904) :
    Calls Try.prog 27 #[.pointer (some ⟨g, 0, none⟩)] w fun r w' => r = .returned (.int .i64 (x - 1)) ∧ w = w' := by
  have K := hide (made_ok g c w h hc)
  have K2 := hide (told_ok g x w h2 h0 h1)
  clear hc
  go_enter Try.func27, Try.ntmps27
  go_wp2_with fail
  refine Calls.mono (unhide K) ?_
  rintro r w' ⟨rfl, rfl⟩
  go_wp2_with fail
  refine Calls.mono (unhide K2) ?_
  rintro r w' ⟨rfl, rfl⟩
  go_wp2
  go_ret
  exact ⟨rfl, rfl⟩
theorem calm_ok (g : Nat) (c : Int) (a : Option Addr) (n k : Nat) (o : Bool) (w : World) (h : w.cell? ⟨g, 5, none⟩ = some (.int .i64 c)) (hc : c ≠ 0) (hq : w.cell? ⟨g, 1, none⟩ = some (.slice a n k)) (ho : w.cell? ⟨g, 4, none⟩ = some (.bool o)) :
    Calls Try.prog 28 #[.pointer (some ⟨g, 0, none⟩)] w fun r w' => r = .returned (.bool (decide (n = 0) && !o)) ∧ w = w' := by
  have K := hide (made_ok g c w h hc)
  clear hc
  by_cases hn : n = 0
  · subst hn
    go_enter Try.func28, Try.ntmps28
    go_wp2_with fail
    refine Calls.mono (unhide K) ?_
    rintro r w' ⟨rfl, rfl⟩
    go_wp2
    go_ret
    exact ⟨by simp, rfl⟩
  · have hI : ¬ (n : Int) = 0 := by omega
    have hb : ((n : Int) == 0) = false := by simp [hn]
    have HF : Hid (decide (n = 0) = false) := hide (by simp [hn])
    rw [unhide HF]
    clear hn
    go_enter Try.func28, Try.ntmps28
    go_wp2_with fail
    refine Calls.mono (unhide K) ?_
    rintro r w' ⟨rfl, rfl⟩
    go_wp2
    go_ret
    exact ⟨by simp, rfl⟩
theorem conn_nob (p : Option Addr) (w : World) (h : Nob w p) : Calls Try.prog 29 #[.pointer p] w fun r w' => r = .returned (.int .i64 0) ∧ w = w' := by
  have K := hide (made_nob p w h)
  clear h
  go_enter Try.func29, Try.ntmps29
  go_wp2_with fail
  refine Calls.mono (unhide K) ?_
  rintro r w' ⟨rfl, rfl⟩
  go_wp2
  go_ret
  exact ⟨rfl, rfl⟩
theorem waiting_nob (p : Option Addr) (w : World) (h : Nob w p) : Calls Try.prog 26 #[.pointer p] w fun r w' => r = .returned (.int .i64 0) ∧ w = w' := by
  have K := hide (made_nob p w h)
  clear h
  go_enter Try.func26, Try.ntmps26
  go_wp2_with fail
  refine Calls.mono (unhide K) ?_
  rintro r w' ⟨rfl, rfl⟩
  go_wp2
  go_ret
  exact ⟨rfl, rfl⟩
theorem taken_nob (p : Option Addr) (w : World) (h : Nob w p) : Calls Try.prog 27 #[.pointer p] w fun r w' => r = .returned (.int .i64 0) ∧ w = w' := by
  have K := hide (made_nob p w h)
  clear h
  go_enter Try.func27, Try.ntmps27
  go_wp2_with fail
  refine Calls.mono (unhide K) ?_
  rintro r w' ⟨rfl, rfl⟩
  go_wp2
  go_ret
  exact ⟨rfl, rfl⟩
theorem calm_nob (p : Option Addr) (w : World) (h : Nob w p) : Calls Try.prog 28 #[.pointer p] w fun r w' => r = .returned (.bool true) ∧ w = w' := by
  have K := hide (made_nob p w h)
  clear h
  go_enter Try.func28, Try.ntmps28
  go_wp2_with fail
  refine Calls.mono (unhide K) ?_
  rintro r w' ⟨rfl, rfl⟩
  go_wp2
  go_ret
  exact ⟨rfl, rfl⟩
theorem tick_nob (p : Option Addr) (w : World) (h : Nob w p) : Calls Try.prog 21 #[.pointer p] w fun r w' => r = .returned (.int .i64 6) ∧ w = w' := by
  have K := hide (made_nob p w h)
  clear h
  go_enter Try.func21, Try.ntmps21
  go_wp2_with fail
  refine Calls.mono (unhide K) ?_
  rintro r w' ⟨rfl, rfl⟩
  go_wp2
  go_ret
  exact ⟨rfl, rfl⟩
theorem out_nob (p : Option Addr) (w : World) (h : Nob w p) : Calls Try.prog 22 #[.pointer p] w fun r w' => r = .returned (.slice none 0 0) ∧ w = w' := by
  have K := hide (made_nob p w h)
  clear h
  go_enter Try.func22, Try.ntmps22
  go_wp2_with fail
  refine Calls.mono (unhide K) ?_
  rintro r w' ⟨rfl, rfl⟩
  go_wp2
  go_ret
  exact ⟨rfl, rfl⟩
theorem clone_nob (p : Option Addr) (w : World) (h : Nob w p) : Calls Try.prog 36 #[.pointer p] w fun r w' => r = .returned (.pointer none) ∧ w = w' := by
  have K := hide (made_nob p w h)
  clear h
  go_enter Try.func36, Try.ntmps36
  go_wp2_with fail
  refine Calls.mono (unhide K) ?_
  rintro r w' ⟨rfl, rfl⟩
  go_wp2
  go_ret
  exact ⟨rfl, rfl⟩
theorem send_nob (p : Option Addr) (v : Value) (w : World) (h : Nob w p) : Calls Try.prog 15 #[.pointer p, v] w fun r w' => r = .returned (.int .i64 6) ∧ w = w' := by
  have K := hide (made_nob p w h)
  clear h
  go_enter Try.func15, Try.ntmps15
  go_wp2_with fail
  refine Calls.mono (unhide K) ?_
  rintro r w' ⟨rfl, rfl⟩
  go_wp2
  go_ret
  exact ⟨rfl, rfl⟩
def frV (c q a : Int) (v : Value) : Value := .agg #[.int .i64 c, .int .i64 q, .int .i64 a, v]
theorem take_nob (p : Option Addr) (c q a : Int) (v : Value) (w : World) (h : Nob w p) : Calls Try.prog 17 #[.pointer p, frV c q a v] w fun r w' => r = .returned (.tuple #[.slice none 0 0, .int .i64 6]) ∧ Below w.heap.size w w' := by
  have b1 : Below w.heap.size w (w.alloc (.cells #[.int .i64 c, .int .i64 q, .int .i64 a, v] 34)) := (Below.refl _ _).alloc (Nat.le_refl _) _
  have K := hide (made_nob p (w.alloc (.cells #[.int .i64 c, .int .i64 q, .int .i64 a, v] 34)) (by
    rcases h with h | ⟨g, h1, h2⟩
    · exact .inl h
    · refine .inr ⟨g, h1, ?_⟩
      rw [b1.cell (p := ⟨g, 5, none⟩) (lt_of_cell h2)]
      exact h2))
  have HB := hide b1
  clear h b1
  unfold frV
  go_enter Try.func17, Try.ntmps17
  go_wp2_with fail
  refine Calls.mono (unhide K) ?_
  rintro r w' ⟨rfl, rfl⟩
  go_wp2
  go_ret2
  exact ⟨rfl, unhide HB⟩
end Go.Proofs.Ytmkpphkdaiienaa
