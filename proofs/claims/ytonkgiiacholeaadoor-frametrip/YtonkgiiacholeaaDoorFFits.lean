/- Frames as bytes. -/
import Derived.Test.YtonkgiiacholeaaDoorFBeat
import Derived.Test.YtonkgiiacholeaaDoorCSeal
namespace Go.Proofs.YtonkgiiacholeaaDoor
set_option linter.unusedVariables false
set_option linter.unusedSimpArgs false
open Go.ChangeShapes Go.WideShapes Go.ChangeAt Go.RowKit Go.Joins

def frV (c s k : Int) (b : Value) : Value := .agg #[.int .i64 c, .int .i64 s, .int .i64 k, b]
def fitsE (c s k : Int) (bn : Nat) : Int :=
  if c < 1 ∨ 1099511627776 < c ∨ s < 0 ∨ 1099511627776 < s ∨ k < 0 ∨ 1099511627776 < k ∨ ¬ (s = 0 ↔ bn = 0) then 120 else if 16320 < bn then 4 else 0

set_option maxRecDepth 100000 in
set_option maxHeartbeats 4000000 in
theorem ffits_any (c s k : Int) (ba : Option Addr) (bn bc : Nat) (w : World) : Calls Tryd.prog 42 #[frV c s k (.slice ba bn bc)] w fun e w' => e = .returned (.int .i64 (fitsE c s k bn)) ∧ Below w.heap.size w w' := by
  unfold frV
  by_cases h1 : 1 ≤ c ∧ c ≤ 1099511627776
  · by_cases h2 : 0 ≤ s ∧ s ≤ 1099511627776
    · by_cases h3 : 0 ≤ k ∧ k ≤ 1099511627776
      · by_cases h4 : s = 0
        · subst h4
          by_cases h5 : bn = 0
          · subst h5
            have HE : Hid (fitsE c 0 k 0 = 0) := hide (by unfold fitsE; rw [if_neg (by omega), if_neg (by omega)])
            have H1 := hide h1
            have H3 := hide h3
            clear h1 h2 h3
            go_enter Tryd.func42, Tryd.ntmps42
            go_wp2_with fail
            refine Calls.mono (within_in c 1 1099511627776 _ (unhide H1).1 (unhide H1).2) ?_
            rintro e wx ⟨rfl, rfl⟩
            go_wp2_with fail
            refine Calls.mono (within_in 0 0 1099511627776 _ (by omega) (by omega)) ?_
            rintro e wx ⟨rfl, rfl⟩
            go_wp2_with fail
            refine Calls.mono (within_in k 0 1099511627776 _ (unhide H3).1 (unhide H3).2) ?_
            rintro e wx ⟨rfl, rfl⟩
            go_wp2_with fail
            all_goals (first
              | (exfalso; omega)
              | (go_ret; refine ⟨?_, (Below.refl _ _).alloc (Nat.le_refl _) _⟩; rw [unhide HE]; rfl)
              | (exfalso; have q2 := unhide H2; omega) | (exfalso; have q2 := unhide H2; simp at *; omega) | (exfalso; simp at *; omega))
          · have HE : Hid (fitsE c 0 k bn = 120) := hide (by unfold fitsE; rw [if_pos (by omega)])
            have H1 := hide h1
            have H3 := hide h3
            have h5I : ¬ (bn : Int) = 0 := by omega
            clear h1 h2 h3
            go_enter Tryd.func42, Tryd.ntmps42
            go_wp2_with fail
            refine Calls.mono (within_in c 1 1099511627776 _ (unhide H1).1 (unhide H1).2) ?_
            rintro e wx ⟨rfl, rfl⟩
            go_wp2_with fail
            refine Calls.mono (within_in 0 0 1099511627776 _ (by omega) (by omega)) ?_
            rintro e wx ⟨rfl, rfl⟩
            go_wp2_with fail
            refine Calls.mono (within_in k 0 1099511627776 _ (unhide H3).1 (unhide H3).2) ?_
            rintro e wx ⟨rfl, rfl⟩
            go_wp2_with fail
            all_goals (first
              | (exfalso; omega)
              | (go_ret; refine ⟨?_, (Below.refl _ _).alloc (Nat.le_refl _) _⟩; rw [unhide HE]; rfl)
              | (exfalso; have q2 := unhide H2; omega) | (exfalso; have q2 := unhide H2; simp at *; omega) | (exfalso; simp at *; omega))
        · by_cases h5 : bn = 0
          · subst h5
            have HE : Hid (fitsE c s k 0 = 120) := hide (by unfold fitsE; rw [if_pos (by omega)])
            have H1 := hide h1
            have H2 := hide h2
            have H3 := hide h3
            clear h1 h2 h3
            go_enter Tryd.func42, Tryd.ntmps42
            go_wp2_with fail
            refine Calls.mono (within_in c 1 1099511627776 _ (unhide H1).1 (unhide H1).2) ?_
            rintro e wx ⟨rfl, rfl⟩
            go_wp2_with fail
            refine Calls.mono (within_in s 0 1099511627776 _ (unhide H2).1 (unhide H2).2) ?_
            rintro e wx ⟨rfl, rfl⟩
            go_wp2_with fail
            refine Calls.mono (within_in k 0 1099511627776 _ (unhide H3).1 (unhide H3).2) ?_
            rintro e wx ⟨rfl, rfl⟩
            go_wp2_with fail
            all_goals (first
              | (exfalso; omega)
              | (go_ret; refine ⟨?_, (Below.refl _ _).alloc (Nat.le_refl _) _⟩; rw [unhide HE]; rfl)
              | (exfalso; have q2 := unhide H2; omega) | (exfalso; have q2 := unhide H2; simp at *; omega) | (exfalso; simp at *; omega))
          · by_cases h6 : 16320 < bn
            · have HE : Hid (fitsE c s k bn = 4) := hide (by unfold fitsE; rw [if_neg (by omega), if_pos h6])
              have H1 := hide h1
              have H2 := hide h2
              have H3 := hide h3
              have h5I : ¬ (bn : Int) = 0 := by omega
              have hb1 : (s == 0) = false := by simp [h4]
              have hb2 : ((bn : Int) == 0) = false := by simp; omega
              have h6I : (16320 : Int) < (bn : Int) := by omega
              clear h1 h2 h3
              go_enter Tryd.func42, Tryd.ntmps42
              go_wp2_with fail
              refine Calls.mono (within_in c 1 1099511627776 _ (unhide H1).1 (unhide H1).2) ?_
              rintro e wx ⟨rfl, rfl⟩
              go_wp2_with fail
              refine Calls.mono (within_in s 0 1099511627776 _ (unhide H2).1 (unhide H2).2) ?_
              rintro e wx ⟨rfl, rfl⟩
              go_wp2_with fail
              refine Calls.mono (within_in k 0 1099511627776 _ (unhide H3).1 (unhide H3).2) ?_
              rintro e wx ⟨rfl, rfl⟩
              go_wp2_with fail
              all_goals (first
                | (exfalso; omega)
                | (go_ret; refine ⟨?_, (Below.refl _ _).alloc (Nat.le_refl _) _⟩; rw [unhide HE]; rfl)
                | (exfalso; have q2 := unhide H2; omega) | (exfalso; have q2 := unhide H2; simp at *; omega) | (exfalso; simp at *; omega))
            · have HE : Hid (fitsE c s k bn = 0) := hide (by unfold fitsE; rw [if_neg (by omega), if_neg h6])
              have H1 := hide h1
              have H2 := hide h2
              have H3 := hide h3
              have h5I : ¬ (bn : Int) = 0 := by omega
              have hb1 : (s == 0) = false := by simp [h4]
              have hb2 : ((bn : Int) == 0) = false := by simp; omega
              have h6I : ¬ (16320 : Int) < (bn : Int) := by omega
              clear h1 h2 h3
              go_enter Tryd.func42, Tryd.ntmps42
              go_wp2_with fail
              refine Calls.mono (within_in c 1 1099511627776 _ (unhide H1).1 (unhide H1).2) ?_
              rintro e wx ⟨rfl, rfl⟩
              go_wp2_with fail
              refine Calls.mono (within_in s 0 1099511627776 _ (unhide H2).1 (unhide H2).2) ?_
              rintro e wx ⟨rfl, rfl⟩
              go_wp2_with fail
              refine Calls.mono (within_in k 0 1099511627776 _ (unhide H3).1 (unhide H3).2) ?_
              rintro e wx ⟨rfl, rfl⟩
              go_wp2_with fail
              all_goals (first
                | (exfalso; omega)
                | (go_ret; refine ⟨?_, (Below.refl _ _).alloc (Nat.le_refl _) _⟩; rw [unhide HE]; rfl)
                | (exfalso; have q2 := unhide H2; omega) | (exfalso; have q2 := unhide H2; simp at *; omega) | (exfalso; simp at *; omega))
      · have HE : Hid (fitsE c s k bn = 120) := hide (by unfold fitsE; rw [if_pos (by omega)])
        have H1 := hide h1
        have H2 := hide h2
        have H3 := hide h3
        clear h1 h2 h3
        go_enter Tryd.func42, Tryd.ntmps42
        go_wp2_with fail
        refine Calls.mono (within_in c 1 1099511627776 _ (unhide H1).1 (unhide H1).2) ?_
        rintro e wx ⟨rfl, rfl⟩
        go_wp2_with fail
        refine Calls.mono (within_in s 0 1099511627776 _ (unhide H2).1 (unhide H2).2) ?_
        rintro e wx ⟨rfl, rfl⟩
        go_wp2_with fail
        refine Calls.mono (within_out k 0 1099511627776 _ (unhide H3)) ?_
        rintro e wx ⟨rfl, rfl⟩
        go_wp2_with fail
        all_goals (first
          | (exfalso; omega)
          | (go_ret; refine ⟨?_, (Below.refl _ _).alloc (Nat.le_refl _) _⟩; rw [unhide HE]; rfl)
          | (exfalso; have q2 := unhide H2; omega) | (exfalso; have q2 := unhide H2; simp at *; omega) | (exfalso; simp at *; omega))
    · have HE : Hid (fitsE c s k bn = 120) := hide (by unfold fitsE; rw [if_pos (by omega)])
      have H1 := hide h1
      have H2 := hide h2
      clear h1 h2
      go_enter Tryd.func42, Tryd.ntmps42
      go_wp2_with fail
      refine Calls.mono (within_in c 1 1099511627776 _ (unhide H1).1 (unhide H1).2) ?_
      rintro e wx ⟨rfl, rfl⟩
      go_wp2_with fail
      refine Calls.mono (within_out s 0 1099511627776 _ (unhide H2)) ?_
      rintro e wx ⟨rfl, rfl⟩
      go_wp2_with fail
      all_goals (first
        | (exfalso; omega)
        | (go_ret; refine ⟨?_, (Below.refl _ _).alloc (Nat.le_refl _) _⟩; rw [unhide HE]; rfl)
        | (exfalso; have q2 := unhide H2; omega) | (exfalso; have q2 := unhide H2; simp at *; omega) | (exfalso; simp at *; omega))
  · have HE : Hid (fitsE c s k bn = 120) := hide (by unfold fitsE; rw [if_pos (by omega)])
    have H1 := hide h1
    clear h1
    go_enter Tryd.func42, Tryd.ntmps42
    go_wp2_with fail
    refine Calls.mono (within_out c 1 1099511627776 _ (unhide H1)) ?_
    rintro e wx ⟨rfl, rfl⟩
    go_wp2_with fail
    all_goals (first
      | (exfalso; omega)
      | (go_ret; refine ⟨?_, (Below.refl _ _).alloc (Nat.le_refl _) _⟩; rw [unhide HE]; rfl)
      | (exfalso; have q2 := unhide H2; omega) | (exfalso; have q2 := unhide H2; simp at *; omega) | (exfalso; simp at *; omega))

set_option maxRecDepth 100000 in
theorem fonce_any (s : Nat) (up : Bool) (w : World) (hs : s ≤ 1099511627776) : Calls Tryd.prog 45 #[.int .i64 (s : Int), .bool up] w fun e w' => e = .returned (.int .u64 ((2 * s + (if up then 0 else 1) : Nat) : Int)) ∧ w = w' := by
  have e1 : (2 * (s : Int)) % 18446744073709551616 = 2 * (s : Int) := by omega
  have e2 : (2 * (s : Int) + 1) % 18446744073709551616 = 2 * (s : Int) + 1 := by omega
  have e3 : (s : Int) % 18446744073709551616 = (s : Int) := by omega
  cases up
  · go_enter Tryd.func45, Tryd.ntmps45
    go_wp2_with fail
    go_ret
    exact ⟨by simp, rfl⟩
  · go_enter Tryd.func45, Tryd.ntmps45
    go_wp2_with fail
    go_ret
    exact ⟨by simp, rfl⟩
end Go.Proofs.YtonkgiiacholeaaDoor
