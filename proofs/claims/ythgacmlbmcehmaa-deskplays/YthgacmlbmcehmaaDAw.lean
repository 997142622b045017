/- The example (awake). -/
import Derived.Test.YthgacmlbmcehmaaDOne
namespace Go.Proofs.Ythgacmlbmcehmaa
set_option linter.unusedVariables false
set_option linter.unusedSimpArgs false
open Go.ChangeShapes Go.WideShapes Go.ChangeAt Go.RowKit Go.Joins Go.Deep

/-- the example's desk, as it is now -/
structure Aw (w wr : World) (gd gg c : Nat) (sv : Value) (ex : List Value) (D : List Gst) : Prop where
  dk : Dk wr gd gg c sv ex D
  sq : Sq wr sv 1 (fun _ => 1)
  bel : Below w.heap.size w wr
  ge : w.heap.size ≤ gg
theorem Aw.call {w wr w' : World} {gd gg c : Nat} {sv : Value} {ex : List Value} {D : List Gst} (h : Aw w wr gd gg c sv ex D) (hb : Below wr.heap.size wr w') : Aw w w' gd gg c sv ex D :=
  ⟨h.dk.call hb, h.sq.call hb, h.bel.trans (hb.mono h.bel.size), h.ge⟩
theorem Aw.turn {w wr w' : World} {gd gg c : Nat} {sv : Value} {ex : List Value} {D D' : List Gst} (h : Aw w wr gd gg c sv ex D) (hd : Dk w' gd gg c sv ex D') (ho : Only (· = gg) wr w') : Aw w w' gd gg c sv ex D' :=
  ⟨hd, h.sq.turn h.dk ho, h.bel.trans (ho.below h.bel.size (fun k hk => hk ▸ h.ge)), h.ge⟩
/-- the guests of the example, one behind the other -/
def aD0 : List Gst := [⟨0, 0, false, 0, 0, 0⟩, ⟨0, 0, false, 0, 0, 0⟩]
def aD1 : List Gst := [⟨0, 1, false, 0, 0, 0⟩, ⟨0, 0, false, 0, 0, 0⟩]
def aD2 : List Gst := [⟨0, 1, true, 0, 0, 0⟩, ⟨0, 0, false, 0, 0, 0⟩]
def aD3 (r l : Int) : List Gst := [⟨0, 1, true, 0, r, l⟩, ⟨0, 7, false, 0, 0, 0⟩]
theorem aw_new (w : World) : Calls Try.prog 37 #[] w fun e w' => ∃ P, e = .returned P ∧ Below w.heap.size w w' ∧ ∀ w2, Below w'.heap.size w' w2 → Calls Try.prog 12 #[P] w2 fun r w3 => ∃ gd gg c sv ex, r = .returned (.tuple #[.pointer (some ⟨gd, 0, none⟩), .int .i64 0]) ∧ Aw w w3 gd gg c sv ex aD0 := by
  refine Calls.mono (one_ok w) ?_
  rintro e w' ⟨a0, a1, a2, rfl, ho, hb⟩
  refine ⟨_, rfl, hb, fun w2 hb2 => ?_⟩
  refine Calls.mono (new_ok a0 a1 a2 1 1 2 1 1 2 _ _ _ _ _ _ _ _ w2 (ho.pl.call hb2) (ho.pq.call hb2) (ho.pe.call hb2) (Nat.le_refl _) (by unfold maxLen; omega) right_one (by omega) (by omega)) ?_
  rintro r w3 ⟨gd, v, s, rfl, hm⟩
  obtain ⟨gg, c, ex, hd, hg⟩ := hm.desk (by simp) (by simp)
  have hs := hm.seats (by simp)
  refine ⟨gd, gg, c, s, ex, rfl, hd, ?_, ?_, ?_⟩
  · obtain ⟨gs, cq, e, cs, hr, hj⟩ := hs
    exact ⟨gs, cq, e, cs, hr, fun j hj' => by obtain rfl : j = 0 := by omega
                                              exact hj 0 (by simp)⟩
  · exact (hb.trans (hb2.mono hb.size)).trans (hm.bel.mono (Nat.le_trans hb.size hb2.size))
  · exact Nat.le_trans (Nat.le_trans hb.size hb2.size) hg
section
variable {w wr : World} {gd gg c : Nat} {sv : Value} {ex : List Value}
theorem aw_knock {D : List Gst} (h : Aw w wr gd gg c sv ex D) (i : Nat) (x : Gst) (q : Int) (hx : D[i]? = some x) : Calls Try.prog 14 #[.pointer (some ⟨gd, 0, none⟩), .int .i64 (i : Int), .int .i64 q] wr fun r w' => r = .returned (.tuple #[.bool (knockE x q).1, .int .i64 (knockE x q).2]) ∧ wr = w' := knock_ok gd gg c sv ex D wr h.dk i x q hx
theorem aw_begin0 (h : Aw w wr gd gg c sv ex aD0) : Calls Try.prog 31 #[.pointer (some ⟨gd, 0, none⟩), .int .i64 0, .int .i64 1] wr fun r w' => r = .returned (.int .i64 0) ∧ Aw w w' gd gg c sv ex aD1 := by
  refine Calls.mono (begin_ok gd gg c sv ex aD0 wr h.dk 0 _ 1 rfl (by decide)) ?_
  rintro r w' ⟨rfl, hd, ho⟩
  exact ⟨rfl, h.turn hd ho⟩
theorem aw_open0 (h : Aw w wr gd gg c sv ex aD1) : Calls Try.prog 34 #[.pointer (some ⟨gd, 0, none⟩), .int .i64 0] wr fun r w' => r = .returned (.int .i64 0) ∧ Aw w w' gd gg c sv ex aD2 := by
  refine Calls.mono (open_ok gd gg c sv ex aD1 wr h.dk 0 0 1 _ _ rfl (by decide) rfl h.sq rfl (by decide) (by decide) (by decide)) ?_
  rintro r w' ⟨rfl, hd, ho⟩
  exact ⟨rfl, h.turn hd ho⟩
theorem aw_begin1 (h : Aw w wr gd gg c sv ex aD2) : Calls Try.prog 31 #[.pointer (some ⟨gd, 0, none⟩), .int .i64 1, .int .i64 7] wr fun r w' => r = .returned (.int .i64 0) ∧ Aw w w' gd gg c sv ex (aD3 0 0) := by
  refine Calls.mono (begin_ok gd gg c sv ex aD2 wr h.dk 1 _ 7 rfl (by decide)) ?_
  rintro r w' ⟨rfl, hd, ho⟩
  exact ⟨rfl, h.turn hd ho⟩
theorem aw_open1 (h : Aw w wr gd gg c sv ex (aD3 0 0)) : Calls Try.prog 34 #[.pointer (some ⟨gd, 0, none⟩), .int .i64 1] wr fun r w' => r = .returned (.int .i64 171) ∧ Aw w w' gd gg c sv ex (aD3 0 0) := by
  refine Calls.mono (open_full gd gg c sv ex (aD3 0 0) wr h.dk 1 0 1 _ _ rfl (by decide) rfl h.sq rfl (by decide) (by decide) (by decide)) ?_
  rintro r w' ⟨rfl, hb⟩
  exact ⟨rfl, h.call hb⟩
/-- how the guest stands behind k tries that went wrong -/
def aw3 (k : Nat) : List Gst := if k = 0 then aD3 0 0 else if k = 1 then aD3 1 0 else if k = 2 then aD3 2 0 else aD3 0 20
theorem aw_wrong (k : Nat) (hk : k < 3) (h : Aw w wr gd gg c sv ex (aw3 k)) : Calls Try.prog 32 #[.pointer (some ⟨gd, 0, none⟩), .int .i64 0] wr fun r w' => r = .returned (.int .i64 0) ∧ Aw w w' gd gg c sv ex (aw3 (k + 1)) := by
  obtain rfl | rfl | rfl : k = 0 ∨ k = 1 ∨ k = 2 := by omega
  · refine Calls.mono (wrong_ok gd gg c sv ex (aw3 0) wr h.dk 0 ⟨0, 1, true, 0, 0, 0⟩ rfl (by constructor <;> decide) (by decide)) ?_
    rintro r w' ⟨rfl, hd, ho⟩
    exact ⟨rfl, h.turn hd ho⟩
  · refine Calls.mono (wrong_ok gd gg c sv ex (aw3 1) wr h.dk 0 ⟨0, 1, true, 0, 1, 0⟩ rfl (by constructor <;> decide) (by decide)) ?_
    rintro r w' ⟨rfl, hd, ho⟩
    exact ⟨rfl, h.turn hd ho⟩
  · refine Calls.mono (wrong_ok gd gg c sv ex (aw3 2) wr h.dk 0 ⟨0, 1, true, 0, 2, 0⟩ rfl (by constructor <;> decide) (by decide)) ?_
    rintro r w' ⟨rfl, hd, ho⟩
    exact ⟨rfl, h.turn hd ho⟩
theorem aw_locked (h : Aw w wr gd gg c sv ex (aw3 3)) : Calls Try.prog 26 #[.pointer (some ⟨gd, 0, none⟩), .int .i64 0] wr fun r w' => r = .returned (.int .i64 20) ∧ wr = w' := locked_ok gd gg c sv ex _ wr h.dk 0 ⟨0, 1, true, 0, 0, 20⟩ rfl
theorem aw_seats (h : Aw w wr gd gg c sv ex (aw3 3)) : Calls Try.prog 27 #[.pointer (some ⟨gd, 0, none⟩), .int .i64 0] wr fun r w' => r = .returned (.int .i64 1) ∧ Aw w w' gd gg c sv ex (aw3 3) := by
  refine Calls.mono (seats_ok gd gg c sv ex _ wr h.dk 0) ?_
  rintro r w' ⟨rfl, hb⟩
  exact ⟨rfl, h.call hb⟩
end
set_option maxRecDepth 100000 in
set_option maxHeartbeats 4000000 in
theorem awake_any (w : World) : Calls Try.prog 11 #[] w fun e w' => e = .returned (.bool true) ∧ Below w.heap.size w w' := by
  go_enter Try.func11, Try.ntmps11
  go_wp2_with fail
  refine Calls.mono (aw_new w) ?_
  rintro e w1 ⟨P, rfl, hb, hN⟩
  have HN := hide hN
  clear hb hN
  go_wp2_with fail
  refine Calls.mono (unhide HN _ (Below.refl _ _)) ?_
  rintro r w2 ⟨gd, gg, c, sv, ex, rfl, ha⟩
  have HA := hide ha
  clear ha HN
  go_wp2_with fail
  refine Calls.mono (aw_knock (unhide HA) 0 _ 1 rfl) ?_
  rintro r w3 ⟨rfl, rfl⟩
  simp only [show knockE ⟨0, 0, false, 0, 0, 0⟩ 1 = (true, 0) from rfl]
  go_wp2_with fail
  refine Calls.mono (aw_begin0 (unhide HA)) ?_
  rintro r w3 ⟨rfl, hb⟩
  have HB := hide hb
  clear hb HA
  go_wp2_with fail
  refine Calls.mono (aw_open0 (unhide HB)) ?_
  rintro r w4 ⟨rfl, ha⟩
  have HA := hide ha
  clear ha HB
  go_wp2_with fail
  refine Calls.mono (aw_knock (unhide HA) 0 _ 1 rfl) ?_
  rintro r w5 ⟨rfl, rfl⟩
  simp only [show knockE ⟨0, 1, true, 0, 0, 0⟩ 1 = (false, 0) from rfl]
  go_wp2_with fail
  refine Calls.mono (aw_begin1 (unhide HA)) ?_
  rintro r w5 ⟨rfl, hb⟩
  have HB := hide hb
  clear hb HA
  go_wp2_with fail
  refine Calls.mono (aw_open1 (unhide HB)) ?_
  rintro r w6 ⟨rfl, ha⟩
  have HA := hide ha
  clear ha HB
  go_wp2_with fail
  go_loopw [55] (fun s wr => ∃ k : Nat, k ≤ 3 ∧ s = .int .i64 (k : Int) ∧ Hid (Aw w wr gd gg c sv ex (aw3 k))) (fun s _ => (3 - intOf s).toNat)
  case atStart => exact ⟨0, by omega, by simp, HA⟩
  case round =>
    clear HA
    obtain ⟨k, hk, rfl, HI⟩ := hrel
    by_cases hlt : k < 3
    · have kI : (k : Int) < 3 := by omega
      go_wp2_with fail
      refine Calls.mono (aw_wrong k hlt (unhide HI)) ?_
      rintro r wn ⟨rfl, ha⟩
      have HA := hide ha
      clear ha HI
      go_wp2_with fail
      exact ⟨⟨k + 1, by omega, by simp, HA⟩, by simp [intOf]; omega⟩
    · obtain rfl : k = 3 := by omega
      go_wp2_with fail
      refine Calls.mono (aw_knock (unhide HI) 0 ⟨0, 1, true, 0, 0, 20⟩ 2 rfl) ?_
      rintro r w5 ⟨rfl, rfl⟩
      simp only [show knockE ⟨0, 1, true, 0, 0, 20⟩ 2 = (false, 170) from rfl]
      go_wp2_with fail
      refine Calls.mono (aw_locked (unhide HI)) ?_
      rintro r w5 ⟨rfl, rfl⟩
      go_wp2_with fail
      refine Calls.mono (aw_seats (unhide HI)) ?_
      rintro r w5 ⟨rfl, ha⟩
      have HA := hide ha
      clear ha HI
      go_wp2_with fail
      go_ret
      exact ⟨rfl, (unhide HA).bel⟩
end Go.Proofs.Ythgacmlbmcehmaa
