/- Words: both sides. -/
import Derived.Test.YtdnbhomjfgpcfaaDoorLRN
import Derived.Test.YtdnbhomjfgpcfaaDoorLRM
import Derived.Test.YtdnbhomjfgpcfaaDoorLB
namespace Go.Proofs.YtdnbhomjfgpcfaaDoor
set_option linter.unusedVariables false
set_option linter.unusedSimpArgs false
open Go.ChangeShapes Go.WideShapes Go.ChangeAt Go.RowKit Go.Joins Go.Deep

theorem cls_blank {r : Int} (h : r = 32 ∨ r = 9 ∨ r = 10) : clsV r = 0 := if_pos h
theorem clsA_at {cs : List (List UInt8)} {i : Nat} {c : List UInt8} (h : cs[i]? = some c) : clsA cs i = clsV (rn c : Int) := by
  unfold clsA rni
  rw [List.getD_eq_getElem?_getD, List.getElem?_map, h]
  rfl
theorem clsV_lo (r : Int) : -9223372036854775808 ≤ clsV r ∧ clsV r ≤ 9223372036854775807 := by
  unfold clsV
  split
  · omega
  · split <;> omega
set_option maxRecDepth 100000 in
set_option maxHeartbeats 4000000 in
theorem rclass_any (r : Int) (w : World) : Calls Tryd.prog 53 #[.int .i32 r] w fun e w' => e = .returned (.int .i64 (clsV r)) ∧ w = w' := by
  have HV := hide (rfl : clsV r = clsV r)
  by_cases h1 : r = 32
  · subst h1
    rw [cls_blank (.inl rfl)]
    go_enter Tryd.func53, Tryd.ntmps53
    go_wp2_with fail
    go_ret
    exact ⟨rfl, rfl⟩
  by_cases h2 : r = 9
  · subst h2
    rw [cls_blank (.inr (.inl rfl))]
    go_enter Tryd.func53, Tryd.ntmps53
    go_wp2_with fail
    go_ret
    exact ⟨rfl, rfl⟩
  by_cases h3 : r = 10
  · subst h3
    rw [cls_blank (.inr (.inr rfl))]
    go_enter Tryd.func53, Tryd.ntmps53
    go_wp2_with fail
    go_ret
    exact ⟨rfl, rfl⟩
  have d1 : (r == 32) = false := by simp [h1]
  have d2 : (r == 9) = false := by simp [h2]
  have d3 : (r == 10) = false := by simp [h3]
  have hb : ¬ (r = 32 ∨ r = 9 ∨ r = 10) := by omega
  by_cases hl : (97 ≤ r ∧ r ≤ 122) ∨ (65 ≤ r ∧ r ≤ 90) ∨ (48 ≤ r ∧ r ≤ 57) ∨ r = 95 ∨ 127 < r
  · have hv : clsV r = 1 := by unfold clsV; rw [if_neg hb, if_pos hl]
    rw [hv]
    clear HV hv hb h1 h2 h3
    go_enter Tryd.func53, Tryd.ntmps53
    by_cases k1 : 97 ≤ r ∧ r ≤ 122
    · obtain ⟨a1, a2⟩ := k1
      clear hl
      go_wp2_with fail
      go_ret
      exact ⟨rfl, rfl⟩
    by_cases k2 : 65 ≤ r ∧ r ≤ 90
    · obtain ⟨a1, a2⟩ := k2
      have a3 : ¬ 97 ≤ r := by omega
      clear hl k1
      go_wp2_with fail
      go_ret
      exact ⟨rfl, rfl⟩
    by_cases k3 : 48 ≤ r ∧ r ≤ 57
    · obtain ⟨a1, a2⟩ := k3
      have a3 : ¬ 97 ≤ r := by omega
      have a4 : ¬ 65 ≤ r := by omega
      clear hl k1 k2
      go_wp2_with fail
      go_ret
      exact ⟨rfl, rfl⟩
    by_cases k4 : r = 95
    · subst k4
      clear hl k1 k2 k3
      go_wp2_with fail
      go_ret
      exact ⟨rfl, rfl⟩
    · have a1 : 127 < r := by omega
      have a2 : ¬ r ≤ 122 := by omega
      have a3 : ¬ r ≤ 90 := by omega
      have a4 : ¬ r ≤ 57 := by omega
      have a5 : (r == 95) = false := by simp [k4]
      have a6 : 97 ≤ r := by omega
      have a7 : 65 ≤ r := by omega
      have a8 : 48 ≤ r := by omega
      clear hl k1 k2 k3 k4
      go_wp2_with fail
      go_ret
      exact ⟨rfl, rfl⟩
  · have hv : clsV r = 2 := by unfold clsV; rw [if_neg hb, if_neg hl]
    rw [hv]
    have a5 : (r == 95) = false := by simp; omega
    have a9 : ¬ 127 < r := by omega
    clear HV hv hb h1 h2 h3
    go_enter Tryd.func53, Tryd.ntmps53
    by_cases k1 : 97 ≤ r
    · have a2 : ¬ r ≤ 122 := by omega
      have a3 : ¬ r ≤ 90 := by omega
      have a4 : ¬ r ≤ 57 := by omega
      have a7 : 65 ≤ r := by omega
      have a8 : 48 ≤ r := by omega
      clear hl
      go_wp2_with fail
      go_ret
      exact ⟨rfl, rfl⟩
    by_cases k2 : 65 ≤ r
    · have a3 : ¬ r ≤ 90 := by omega
      have a4 : ¬ r ≤ 57 := by omega
      have a8 : 48 ≤ r := by omega
      clear hl
      go_wp2_with fail
      go_ret
      exact ⟨rfl, rfl⟩
    by_cases k3 : 48 ≤ r
    · have a4 : ¬ r ≤ 57 := by omega
      clear hl
      go_wp2_with fail
      go_ret
      exact ⟨rfl, rfl⟩
    · clear hl
      go_wp2_with fail
      go_ret
      exact ⟨rfl, rfl⟩
set_option maxRecDepth 100000 in
set_option maxHeartbeats 4000000 in
theorem class_any (r : Int) (w : World) : Calls Tryd.prog 73 #[.int .i32 r] w fun e w' => e = .returned (.int .i64 (clsV r)) ∧ w = w' := by
  have HV := hide (rfl : clsV r = clsV r)
  by_cases h1 : r = 32
  · subst h1
    rw [cls_blank (.inl rfl)]
    go_enter Tryd.func73, Tryd.ntmps73
    go_wp2_with fail
    go_ret
    exact ⟨rfl, rfl⟩
  by_cases h2 : r = 9
  · subst h2
    rw [cls_blank (.inr (.inl rfl))]
    go_enter Tryd.func73, Tryd.ntmps73
    go_wp2_with fail
    go_ret
    exact ⟨rfl, rfl⟩
  by_cases h3 : r = 10
  · subst h3
    rw [cls_blank (.inr (.inr rfl))]
    go_enter Tryd.func73, Tryd.ntmps73
    go_wp2_with fail
    go_ret
    exact ⟨rfl, rfl⟩
  have d1 : (r == 32) = false := by simp [h1]
  have d2 : (r == 9) = false := by simp [h2]
  have d3 : (r == 10) = false := by simp [h3]
  have hb : ¬ (r = 32 ∨ r = 9 ∨ r = 10) := by omega
  by_cases hl : (97 ≤ r ∧ r ≤ 122) ∨ (65 ≤ r ∧ r ≤ 90) ∨ (48 ≤ r ∧ r ≤ 57) ∨ r = 95 ∨ 127 < r
  · have hv : clsV r = 1 := by unfold clsV; rw [if_neg hb, if_pos hl]
    rw [hv]
    clear HV hv hb h1 h2 h3
    go_enter Tryd.func73, Tryd.ntmps73
    by_cases k1 : 97 ≤ r ∧ r ≤ 122
    · obtain ⟨a1, a2⟩ := k1
      clear hl
      go_wp2_with fail
      go_ret
      exact ⟨rfl, rfl⟩
    by_cases k2 : 65 ≤ r ∧ r ≤ 90
    · obtain ⟨a1, a2⟩ := k2
      have a3 : ¬ 97 ≤ r := by omega
      clear hl k1
      go_wp2_with fail
      go_ret
      exact ⟨rfl, rfl⟩
    by_cases k3 : 48 ≤ r ∧ r ≤ 57
    · obtain ⟨a1, a2⟩ := k3
      have a3 : ¬ 97 ≤ r := by omega
      have a4 : ¬ 65 ≤ r := by omega
      clear hl k1 k2
      go_wp2_with fail
      go_ret
      exact ⟨rfl, rfl⟩
    by_cases k4 : r = 95
    · subst k4
      clear hl k1 k2 k3
      go_wp2_with fail
      go_ret
      exact ⟨rfl, rfl⟩
    · have a1 : 127 < r := by omega
      have a2 : ¬ r ≤ 122 := by omega
      have a3 : ¬ r ≤ 90 := by omega
      have a4 : ¬ r ≤ 57 := by omega
      have a5 : (r == 95) = false := by simp [k4]
      have a6 : 97 ≤ r := by omega
      have a7 : 65 ≤ r := by omega
      have a8 : 48 ≤ r := by omega
      clear hl k1 k2 k3 k4
      go_wp2_with fail
      go_ret
      exact ⟨rfl, rfl⟩
  · have hv : clsV r = 2 := by unfold clsV; rw [if_neg hb, if_neg hl]
    rw [hv]
    have a5 : (r == 95) = false := by simp; omega
    have a9 : ¬ 127 < r := by omega
    clear HV hv hb h1 h2 h3
    go_enter Tryd.func73, Tryd.ntmps73
    by_cases k1 : 97 ≤ r
    · have a2 : ¬ r ≤ 122 := by omega
      have a3 : ¬ r ≤ 90 := by omega
      have a4 : ¬ r ≤ 57 := by omega
      have a7 : 65 ≤ r := by omega
      have a8 : 48 ≤ r := by omega
      clear hl
      go_wp2_with fail
      go_ret
      exact ⟨rfl, rfl⟩
    by_cases k2 : 65 ≤ r
    · have a3 : ¬ r ≤ 90 := by omega
      have a4 : ¬ r ≤ 57 := by omega
      have a8 : 48 ≤ r := by omega
      clear hl
      go_wp2_with fail
      go_ret
      exact ⟨rfl, rfl⟩
    by_cases k3 : 48 ≤ r
    · have a4 : ¬ r ≤ 57 := by omega
      clear hl
      go_wp2_with fail
      go_ret
      exact ⟨rfl, rfl⟩
    · clear hl
      go_wp2_with fail
      go_ret
      exact ⟨rfl, rfl⟩
end Go.Proofs.YtdnbhomjfgpcfaaDoor
