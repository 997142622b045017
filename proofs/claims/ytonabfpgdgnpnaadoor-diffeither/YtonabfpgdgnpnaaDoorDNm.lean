/- No stretches meet: no place in common. -/
import Derived.Test.YtonabfpgdgnpnaaDoorDGp
namespace Go.Proofs.YtonabfpgdgnpnaaDoor
set_option linter.unusedVariables false
set_option linter.unusedSimpArgs false
open Go.ChangeShapes Go.WideShapes Go.ChangeAt Go.RowKit Go.Joins Go.Deep

theorem from_rep_k9 : ∀ n, At.fromN (List.replicate n .k) = n
  | 0 => rfl
  | n + 1 => by rw [List.replicate_succ]; simp only [At.fromN]; rw [from_rep_k9 n]
theorem from_rep_d9 : ∀ n, At.fromN (List.replicate n .d) = n
  | 0 => rfl
  | n + 1 => by rw [List.replicate_succ]; simp only [At.fromN]; rw [from_rep_d9 n]
theorem from_map9 : ∀ cs : List (List UInt8), At.fromN (cs.map .p) = 0
  | [] => rfl
  | c :: cs => by rw [List.map_cons]; simp only [At.fromN]; exact from_map9 cs
theorem sg_in : ∀ (n : Nat) (l : List Pt), l.length = n → (∀ p ∈ l, Fit1 p) → (sgL l).2.1 = At.fromN (atomsL l) ∧ (∀ s ∈ (sgL l).1, s.2 ≤ (sgL l).2.1) ∧ ∀ g ∈ gp (atomsL l) 0, ∃ s ∈ (sgL l).1, s.1 ≤ g ∧ g ≤ s.2 := by
  intro n
  induction n with
  | zero =>
    intro l hl _
    obtain rfl : l = [] := List.length_eq_zero_iff.1 hl
    exact ⟨rfl, fun s hs => by simp [sgL] at hs, fun g hg => by simp [atomsL, gp] at hg⟩
  | succ n ih =>
    intro l hl hf
    rcases List.eq_nil_or_concat l with rfl | ⟨m, p, rfl⟩
    · simp at hl
    rw [List.concat_eq_append] at hl hf ⊢
    obtain ⟨h1, h2, h3⟩ := ih m (by simpa using hl) (fun q hq => hf q (List.mem_append_left _ hq))
    have hp := hf p (List.mem_append_right _ (List.mem_singleton.2 rfl))
    have e : sgL (m ++ [p]) = sgS (sgL m) p := by unfold sgL; rw [List.foldl_append]; rfl
    have ea : atomsL (m ++ [p]) = atomsL m ++ atoms p := by rw [atomsL_append]; simp [atomsL]
    have htwo := sgL_two (l := m)
    obtain ⟨⟨L, A, la⟩, hs⟩ : ∃ z, sgL m = z := ⟨_, rfl⟩
    rw [hs] at h1 h2 h3 htwo e
    rw [e, ea, At.from_app, gp_app, Nat.zero_add]
    dsimp only at h1 h2 h3 htwo
    unfold sgS
    dsimp only
    rcases hp.1.cases with ⟨k, _, ep⟩ | ⟨k, _, ep⟩ | ⟨k, cs, h4, h5, ep⟩
    · rw [k, if_neg (by decide), if_neg (by decide), ep, from_rep_k9, gp_keep, List.append_nil]
      exact ⟨by dsimp only; omega, fun s hs => by have := h2 s hs; dsimp only; omega, h3⟩
    · rw [k, if_neg (by decide), if_pos rfl, ep, from_rep_d9, gp_drop, List.append_nil]
      by_cases hla : la = 2
      · rw [if_pos hla]
        have hne := htwo hla
        obtain ⟨M, x, hM⟩ : ∃ M x, L = M ++ [x] := ⟨_, _, (List.dropLast_concat_getLast hne).symm⟩
        subst hM
        refine ⟨by dsimp only; omega, fun s hs => ?_, fun g hg => ?_⟩
        · simp at hs
          rcases hs with hs | hs
          · have := h2 s (by simp [hs]); dsimp only; omega
          · rw [hs]; exact Nat.le_refl _
        · obtain ⟨s, hs, hg1, hg2⟩ := h3 g hg
          simp at hs
          rcases hs with hs | hs
          · exact ⟨s, by simp [hs], hg1, hg2⟩
          · subst hs
            have := h2 s (by simp)
            exact ⟨(s.1, A + p.n.toNat), by simp, hg1, by dsimp only; omega⟩
      · rw [if_neg hla]
        refine ⟨by dsimp only; omega, fun s hs => ?_, fun g hg => ?_⟩
        · simp at hs
          rcases hs with hs | hs
          · have := h2 s hs; dsimp only; omega
          · rw [hs]; exact Nat.le_refl _
        · obtain ⟨s, hs, hg1, hg2⟩ := h3 g hg
          exact ⟨s, by simp [hs], hg1, hg2⟩
    · rw [k, if_pos rfl, ep, from_map9]
      refine ⟨by dsimp only; omega, fun s hs => ?_, fun g hg => ?_⟩
      · simp at hs
        rcases hs with hs | hs
        · exact h2 s hs
        · rw [hs]; exact Nat.le_refl _
      · rcases List.mem_append.1 hg with hg | hg
        · obtain ⟨s, hs, hg1, hg2⟩ := h3 g hg
          exact ⟨s, by simp [hs], hg1, hg2⟩
        · have := gp_put cs _ g hg
          exact ⟨(A, A), by simp, by dsimp only; omega, by dsimp only; omega⟩
/-- where no stretches meet, the order of two edits of one text doesn't matter -/
theorem no_meet {l m : List Pt} {x : List CP} {f t : Nat} (hl : IsEd l x.length f) (hm : IsEd m x.length t) (h : meetN (sgL l).1 (sgL m).1 = 0) : At.app (At.two (atomsL l) (atomsL m)) (At.app (atomsL l) x) = At.app (At.two (atomsL m) (atomsL l)) (At.app (atomsL m) x) := by
  have hz := meetN_zero h
  have i1 := (sg_in _ l rfl (ed_fit hl)).2.2
  have i2 := (sg_in _ m rfl (ed_fit hm)).2.2
  rw [At.diamond _ _ _ hl.2.1.symm hm.2.1.symm, one_two (atomsL l) (atomsL m) 0 (fun g h1 h2 => by
    obtain ⟨s, hs, a1, a2⟩ := i1 g h1
    obtain ⟨u, hu, b1, b2⟩ := i2 g h2
    have := hz s hs u hu
    unfold mtB at this
    simp at this
    omega) (by rw [hl.2.1, hm.2.1])]
end Go.Proofs.YtonabfpgdgnpnaaDoor
