/- How many binary digits a number has, and the greatest power of two below it, here and by the reference. -/
import Derived.Test.YtonkgiiacholeaaDoorADig
import Derived.Test.YtonkgiiacholeaaDoorALen
namespace Go.Proofs.YtonkgiiacholeaaDoor
set_option linter.unusedVariables false
set_option linter.unusedSimpArgs false
open Go.ChangeShapes Go.WideShapes Go.ChangeAt Go.RowKit Go.Joins

theorem bl_shift {x s : Nat} (h : 2 ^ s ≤ x) : bl x = s + bl (x / 2 ^ s) := by
  have hp := Nat.two_pow_pos s
  apply Nat.le_antisymm
  · rw [bl_le, Nat.pow_add, Nat.mul_comm]
    exact (Nat.div_lt_iff_lt_mul hp).1 (bl_le.1 (Nat.le_refl _))
  · have h1 : x < 2 ^ bl x := bl_le.1 (Nat.le_refl _)
    have hs : s < bl x := lt_bl.2 h
    have : bl (x / 2 ^ s) ≤ bl x - s := by
      rw [bl_le, Nat.div_lt_iff_lt_mul hp, ← Nat.pow_add, Nat.sub_add_cancel (by omega)]
      exact h1
    omega
theorem aux_bl : ∀ (f x : Nat), x < 2 ^ f → Lib.bitLenAux f x = bl x := by
  intro f
  induction f with
  | zero => intro x hx; simp at hx; subst hx; rfl
  | succ f ih =>
    intro x hx
    unfold Lib.bitLenAux
    split
    · rename_i h; subst h; rfl
    · rename_i h
      rw [ih (x / 2) (by rw [Nat.pow_succ] at hx; omega)]
      by_cases h2 : 2 ≤ x
      · exact (bl_shift (s := 1) h2).symm
      · have : x = 1 := by omega
        subst this
        rfl
theorem bitLen_bl (x : Nat) (h : x ≤ 1099511627776) : Lib.bitLen x = bl x := aux_bl 64 x (by omega)
theorem len_any (x : Nat) (w : World) (h : x ≤ 1099511627776) : Calls Tryd.prog 79 #[.int .u64 (x : Int)] w fun e w' => e = .returned (.int .i64 (bl x : Int)) ∧ w = w' := by
  have H0 := len64_int (x : Int) w (by omega) (by omega)
  rw [Int.toNat_natCast, bitLen_bl x h] at H0
  have H := hide H0
  obtain ⟨X, hX⟩ : ∃ X : Int, (x : Int) = X := ⟨_, rfl⟩
  rw [hX] at H ⊢
  clear H0 hX
  go_enter Tryd.func79, Tryd.ntmps79
  go_wp2_with fail
  refine Calls.mono (unhide H) ?_
  rintro e w2 ⟨rfl, rfl⟩
  go_wp2_with fail
  go_ret
  exact ⟨rfl, rfl⟩
theorem bl_log {n : Nat} (h : 1 ≤ n) : bl n = n.log2 + 1 := by unfold bl; rw [if_neg (by omega)]
set_option maxRecDepth 100000 in
set_option maxHeartbeats 4000000 in
theorem half_any (n : Nat) (w : World) (h2 : 2 ≤ n) (h : n ≤ 1099511627776) : Calls Tryd.prog 80 #[.int .i64 (n : Int)] w fun e w' => e = .returned (.int .i64 (half n : Int)) ∧ w = w' := by
  have H0 := len_any (n - 1) w (by omega)
  rw [bl_log (by omega)] at H0
  have hx : ((n - 1 : Nat) : Int) = (n : Int) - 1 := by omega
  rw [hx] at H0
  have hlog : (n - 1).log2 ≤ 39 := by
    have := (Nat.log2_lt (n := n - 1) (k := 40) (by omega)).2 (by omega)
    omega
  obtain ⟨L, hL⟩ : ∃ L, (n - 1).log2 = L := ⟨_, rfl⟩
  have hh : half n = 2 ^ L := by rw [half, hL]
  have hb : 2 ^ L ≤ 2 ^ 39 := Nat.pow_le_pow_right (by decide) (by omega)
  rw [hL] at H0 hlog
  rw [hh]
  have H := hide H0
  have HB := hide hb
  clear H0 hL hh hb hx
  obtain ⟨X, hX⟩ : ∃ X : Int, (n : Int) = X := ⟨_, rfl⟩
  have x1 : 2 ≤ X := by omega
  have x2 : X ≤ 1099511627776 := by omega
  rw [hX] at H ⊢
  clear hX h h2
  go_enter Tryd.func80, Tryd.ntmps80
  go_wp2_with fail
  refine Calls.mono (unhide H) ?_
  rintro e w2 ⟨rfl, rfl⟩
  go_wp2_with fail
  go_ret
  refine ⟨congrArg Ending.returned (congrArg (Value.int IntKind.i64) ?_), rfl⟩
  have e : ((2 : Int) ^ L) = ((2 ^ L : Nat) : Int) := by simp
  have hb := unhide HB
  rw [e]
  generalize 2 ^ L = Y at *
  unfold wrap64
  omega
theorem pow_le {k L : Nat} (h : 2 ^ k < 2 * 2 ^ L) : k ≤ L := by
  by_cases hk : k ≤ L
  · exact hk
  · have := Nat.pow_le_pow_right (n := 2) (by decide) (show L + 1 ≤ k by omega)
    rw [Nat.pow_succ] at this
    omega
set_option maxRecDepth 100000 in
set_option maxHeartbeats 4000000 in
theorem rhalf_any (n : Nat) (w : World) (h2 : 2 ≤ n) (h : n ≤ 1099511627776) : Calls Tryd.prog 60 #[.int .i64 (n : Int)] w fun e w' => e = .returned (.int .i64 (half n : Int)) ∧ w = w' := by
  have hh := half_lt h2
  have hg := half_ge h2
  obtain ⟨H, hH⟩ : ∃ H, half n = H := ⟨_, rfl⟩
  rw [hH] at hh hg ⊢
  have HP : Hid (∃ k, H = 2 ^ k) := hide ⟨_, hH.symm.trans rfl⟩
  clear hH
  go_enter Tryd.func60, Tryd.ntmps60
  go_wp2_with fail
  go_loopw [3] (fun s wr => ∃ j : Nat, s = .int .i64 ((2 ^ j : Nat) : Int) ∧ Hid (2 ^ j ≤ H) ∧ w = wr) (fun s _ => (n - (intOf s).toNat))
  case atStart => exact ⟨0, by simp, hide (by obtain ⟨k, hk⟩ := unhide HP; rw [hk]; exact Nat.two_pow_pos k), rfl⟩
  case round =>
    obtain ⟨j, rfl, HJ, rfl⟩ := hrel
    have hj := unhide HJ
    obtain ⟨J, hJ⟩ : ∃ J : Nat, 2 ^ j = J := ⟨_, rfl⟩
    have HJE := hide hJ
    rw [hJ] at hj ⊢
    clear hJ
    by_cases hlt : J < H
    · have hle : 2 * J ≤ H := by
        obtain ⟨k, hk⟩ := unhide HP
        have e := unhide HJE
        have hkj : j + 1 ≤ k := by
          by_cases hc : j + 1 ≤ k
          · exact hc
          · have := Nat.pow_le_pow_right (n := 2) (by decide) (show k ≤ j by omega)
            omega
        have := Nat.pow_le_pow_right (n := 2) (by decide) hkj
        rw [Nat.pow_succ] at this
        omega
      have q : (J : Int) < (n : Int) - (J : Int) := by omega
      have jp : 1 ≤ J := by rw [← unhide HJE]; exact Nat.two_pow_pos j
      go_wp2_with fail
      go_roundw
      case rel => exact ⟨j + 1, by rw [Nat.pow_succ, unhide HJE]; exact congrArg (Value.int IntKind.i64) (by omega), hide (by rw [Nat.pow_succ, unhide HJE]; omega), by first | trivial | rfl⟩
      case measure => simp [intOf]; omega
    · have q : ¬ (J : Int) < (n : Int) - (J : Int) := by omega
      go_wp2_with fail
      go_ret
      exact ⟨by rw [show J = H by omega]; rfl, rfl⟩
end Go.Proofs.YtonkgiiacholeaaDoor
