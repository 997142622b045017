/- A call (does) on a desk that New did not make. -/
import Derived.Test.YthgacmlbmcehmaaDAw
namespace Go.Proofs.Ythgacmlbmcehmaa
set_option linter.unusedVariables false
set_option linter.unusedSimpArgs false
open Go.ChangeShapes Go.WideShapes Go.ChangeAt Go.RowKit Go.Joins Go.Deep

theorem mod_nat (k : Int) (n : Nat) (h : 0 < n) (h2 : n ≤ 1000000) : ∃ j : Nat, wrap64 ((IntKind.u64.wrap k).tmod (n : Int)) = (j : Int) ∧ j < n := by
  have h0 : 0 ≤ IntKind.u64.wrap k := by
    simp only [IntKind.wrap, IntKind.signed, Bool.false_and, Bool.false_eq_true, if_false]
    exact Int.emod_nonneg _ (by decide)
  rw [Int.tmod_eq_emod_of_nonneg h0]
  have g1 := Int.emod_nonneg (IntKind.u64.wrap k) (show (n : Int) ≠ 0 by omega)
  have g2 := Int.emod_lt_of_pos (IntKind.u64.wrap k) (show (0 : Int) < (n : Int) by omega)
  generalize IntKind.u64.wrap k % (n : Int) = x at *
  refine ⟨x.toNat, ?_, by omega⟩
  unfold wrap64
  omega
set_option maxRecDepth 100000 in
set_option maxHeartbeats 4000000 in
theorem times_ok (o who conn n : Int) (w : World) :
    Calls Try.prog 21 #[.agg #[.int .i64 o, .int .i64 who, .int .i64 conn, .int .i64 n]] w fun r w' => ∃ m : Nat, r = .returned (.int .i64 (m : Int)) ∧ m ≤ 25 ∧ Below w.heap.size w w' := by
  obtain ⟨j, hj, hj2⟩ := mod_nat n 25 (by omega) (by omega)
  have hw : wrap64 (1 + (j : Int)) = ((j + 1 : Nat) : Int) := by unfold wrap64; omega
  go_enter Try.func21, Try.ntmps21
  go_wp2_with fail
  go_ret
  refine ⟨j + 1, ?_, by omega, (Below.refl _ _).alloc (Nat.le_refl _) _⟩
  show Ending.returned (Value.int IntKind.i64 (wrap64 (1 + wrap64 ((IntKind.u64.wrap n).tmod 25)))) = _
  rw [show wrap64 ((IntKind.u64.wrap n).tmod 25) = (j : Int) from hj, hw]
set_option maxRecDepth 100000 in
set_option maxHeartbeats 4000000 in
theorem does_nob (d : Value) (o who conn n : Int) (w : World) (h : Nob d w) (hw : I64 who) (hc : I64 conn) (hn : I64 n) (ho : I64 o) :
    Calls Try.prog 16 #[d, .agg #[.int .i64 o, .int .i64 who, .int .i64 conn, .int .i64 n]] w fun r w' => r = .returned (.tuple #[.slice none 0 0, .int .i64 (if bits .and .i64 o 7 = 7 then 0 else 6)]) ∧ Below w.heap.size w w' := by
  obtain ⟨z, hz⟩ : ∃ z, bits .and .i64 o 7 = z := ⟨_, rfl⟩
  rw [hz]
  have hb : Below w.heap.size w (w.alloc (.cells #[.int .i64 o, .int .i64 who, .int .i64 conn, .int .i64 n] 38)) := (Below.refl _ _).alloc (Nat.le_refl _) _
  have HB := hide hb
  have HH := hide (h.call hb)
  clear h hb
  by_cases z2 : z = 2
  · subst z2
    go_enter Try.func16, Try.ntmps16
    go_wp2_with fail
    refine Calls.mono (wrong_bad d who 6 _ rfl ((unhide HH).no who)) ?_
    rintro r w2 ⟨rfl, rfl⟩
    go_wp2_with fail
    go_ret2
    exact ⟨rfl, unhide HB⟩
  have e2 : (z == 2) = false := by simp [z2]
  by_cases z3 : z = 3
  · subst z3
    go_enter Try.func16, Try.ntmps16
    go_wp2_with fail
    refine Calls.mono (open_bad d who 6 _ rfl ((unhide HH).no who)) ?_
    rintro r w2 ⟨rfl, rfl⟩
    go_wp2_with fail
    go_ret2
    exact ⟨rfl, unhide HB⟩
  have e3 : (z == 3) = false := by simp [z3]
  by_cases z4 : z = 4
  · subst z4
    go_enter Try.func16, Try.ntmps16
    go_wp2_with fail
    refine Calls.mono (open_bad d who 6 _ rfl ((unhide HH).no who)) ?_
    rintro r w2 ⟨rfl, rfl⟩
    go_wp2_with fail
    go_ret2
    exact ⟨rfl, unhide HB⟩
  have e4 : (z == 4) = false := by simp [z4]
  by_cases z5 : z = 5
  · subst z5
    go_enter Try.func16, Try.ntmps16
    go_wp2_with fail
    refine Calls.mono (heard_bad d who 6 _ rfl ((unhide HH).no who)) ?_
    rintro r w2 ⟨rfl, rfl⟩
    go_wp2_with fail
    go_ret2
    exact ⟨rfl, unhide HB⟩
  have e5 : (z == 5) = false := by simp [z5]
  by_cases z6 : z = 6
  · subst z6
    go_enter Try.func16, Try.ntmps16
    go_wp2_with fail
    refine Calls.mono (shut_bad d who 6 _ rfl ((unhide HH).no who)) ?_
    rintro r w2 ⟨rfl, rfl⟩
    go_wp2_with fail
    go_ret2
    exact ⟨rfl, unhide HB⟩
  have e6 : (z == 6) = false := by simp [z6]
  by_cases z7 : z = 7
  · subst z7
    clear z2 z3 z4 z5 z6 e2 e3 e4 e5 e6
    go_enter Try.func16, Try.ntmps16
    go_wp2_with fail
    refine Calls.mono (times_ok o who conn n _) ?_
    rintro r w2 ⟨m, rfl, hm, hb⟩
    have HH2 := hide ((unhide HH).call hb)
    have HB2 := hide ((unhide HB).trans (hb.mono (unhide HB).size))
    clear hb HH HB
    go_wp2_with fail
    go_loopw [6, 39] (fun g i wr => ∃ k : Nat, k ≤ m ∧ g = .slice none 0 0 ∧ i = .int .i64 (k : Int) ∧ Hid (Nob d wr) ∧ Hid (Below w.heap.size w wr)) (fun _ i _ => ((m : Int) - intOf i).toNat)
    case atStart => exact ⟨0, by omega, rfl, by simp, HH2, HB2⟩
    case round =>
      clear HH2 HB2
      obtain ⟨k, hk, rfl, rfl, HH, HB⟩ := hrel
      by_cases hlt : k < m
      · have kI : (k : Int) < (m : Int) := by omega
        go_wp2_with fail
        refine Calls.mono ((unhide HH).tick) ?_
        rintro r w3 ⟨rfl, rfl⟩
        go_wp2_with fail
        exact ⟨⟨k + 1, by omega, rfl, by simp, HH, HB⟩, by simp [intOf]; omega⟩
      · obtain rfl : k = m := by omega
        have kI : ¬ (k : Int) < (k : Int) := by omega
        go_wp2_with fail
        go_ret2
        exact ⟨rfl, unhide HB⟩
  have e7 : (z == 7) = false := by simp [z7]
  rw [if_neg z7]
  clear z2 z3 z4 z5 z6 z7
  go_enter Try.func16, Try.ntmps16
  go_wp2_with fail
  refine Calls.mono (begin_bad d who conn 6 _ rfl ((unhide HH).no who)) ?_
  rintro r w2 ⟨rfl, rfl⟩
  go_wp2_with fail
  go_ret2
  exact ⟨rfl, unhide HB⟩
end Go.Proofs.Ythgacmlbmcehmaa
