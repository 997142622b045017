/- What a log tells as proofs proves what it has: the lists. -/
import Derived.Test.YtonkgiiacholeaaDoorAGAll
namespace Go.Proofs.YtonkgiiacholeaaDoor
set_option linter.unusedVariables false
set_option linter.unusedSimpArgs false

theorem last_snoc (Q : List (List Nat)) (y : List Nat) : (Q ++ [y]).getLast? = some y ∧ (Q ++ [y]).dropLast = Q := ⟨by simp, by simp⟩
theorem lead_prove : ∀ (n : Nat) (X : List (List Nat)) (i : Nat) (d : List Nat), X.length = n → X[i]? = some d → leadL (leafL d) i n (proveL X i) = (digL X, true) := by
  intro n
  induction n using Nat.strongRecOn with
  | _ n ih =>
  intro X i d hX hd
  have hi : i < n := by have := (List.getElem?_eq_some_iff.1 hd).1; omega
  by_cases h2 : 2 ≤ n
  · have h2' : 2 ≤ X.length := by omega
    have hh := half_lt h2
    have hp := half_pos n
    rw [digL_two h2']
    by_cases hk : i < half n
    · rw [proveL_low h2' (by rw [hX]; exact hk), hX]
      obtain ⟨e1, e2⟩ := last_snoc (proveL (X.take (half n)) i) (digL (X.drop (half n)))
      rw [leadL_low h2 e1 hk, e2]
      have := ih (half n) hh (X.take (half n)) i d (by rw [List.length_take]; omega) (by rw [List.getElem?_take_of_lt hk]; exact hd)
      rw [this]
    · rw [proveL_high h2' (by rw [hX]; exact hk), hX]
      obtain ⟨e1, e2⟩ := last_snoc (proveL (X.drop (half n)) (i - half n)) (digL (X.take (half n)))
      rw [leadL_high h2 e1 hk, e2]
      have := ih (n - half n) (by omega) (X.drop (half n)) (i - half n) d (by rw [List.length_drop]; omega) (by rw [List.getElem?_drop, show half n + (i - half n) = i by omega]; exact hd)
      rw [this]
  · have h0 : i = 0 := by omega
    subst h0
    rw [proveL_one (by omega), leadL_one h2]
    match X, hX, hd with
    | [e], _, hd =>
      have : e = d := by simpa using hd
      subst this
      rw [digL_one]
      rfl
    | [], hX, hd => simp at hd
    | _ :: _ :: _, hX, _ => simp at hX; omega
theorem half_same {m n : Nat} (h2 : 2 ≤ n) (h : half n < m) (hm : m ≤ n) : half m = half n := by
  have hp := half_pos n
  have hg := half_ge h2
  have : half n = 2 ^ (n - 1).log2 := rfl
  rw [this]
  exact half_uniq (by omega) (by rw [← this]; exact h) (by rw [← this]; omega)
theorem lead_grown : ∀ (n : Nat) (X : List (List Nat)) (m : Nat) (known : Option (List Nat)), X.length = n → 1 ≤ m → m ≤ n → (∀ k, known = some k → k = digL (X.take m)) →
    leadB known m n (grownL X m known.isSome) = (digL (X.take m), digL X, true) := by
  intro n
  induction n using Nat.strongRecOn with
  | _ n ih =>
  intro X m known hX h1 hm hk
  by_cases he : m = n
  · subst he
    rw [grownL_all hX.symm, List.take_of_length_le (by omega)]
    cases known with
    | some k =>
      have := hk k rfl
      rw [List.take_of_length_le (by omega)] at this
      subst this
      simp only [Option.isSome_some, if_true]
      rw [leadB_known]
      rfl
    | none =>
      simp only [Option.isSome_none, Bool.false_eq_true, if_false]
      rw [leadB_last (y := digL X) rfl]
      rfl
  have h2 : 2 ≤ n := by omega
  have h2' : 2 ≤ X.length := by omega
  have hh := half_lt h2
  have hp := half_pos n
  have hne : m ≠ X.length := by omega
  by_cases hi : m ≤ half n
  · rw [grownL_low hne h2' (by rw [hX]; exact hi), hX]
    obtain ⟨e1, e2⟩ := last_snoc (grownL (X.take (half n)) m known.isSome) (digL (X.drop (half n)))
    rw [leadB_low he h2 e1 hi, e2]
    have hx : (X.take (half n)).take m = X.take m := by rw [List.take_take, Nat.min_eq_left hi]
    have := ih (half n) hh (X.take (half n)) m known (by rw [List.length_take]; omega) h1 hi (by rw [hx]; exact hk)
    rw [this, hx]
    simp only []
    rw [digL_two h2', hX]
  · rw [grownL_high hne h2' (by rw [hX]; exact hi), hX]
    obtain ⟨e1, e2⟩ := last_snoc (grownL (X.drop (half n)) (m - half n) false) (digL (X.take (half n)))
    rw [leadB_high he h2 e1 hi, e2]
    have := ih (n - half n) (by omega) (X.drop (half n)) (m - half n) none (by rw [List.length_drop]; omega) (by omega) (by omega) (fun k h => by cases h)
    rw [Option.isSome_none] at this
    rw [this]
    simp only []
    have hs := half_same h2 (by omega) hm
    have hl : (X.take m).length = m := by rw [List.length_take]; omega
    rw [digL_two (E := X.take m) (by rw [hl]; omega), hl, hs, digL_two h2', hX]
    rw [List.take_take, Nat.min_eq_left (by omega), List.drop_take]
/-- a log's own proof proves its entry -/
theorem proves_own {X : List (List Nat)} {i n : Nat} {d : List Nat} (hX : X.length = n) (hd : X[i]? = some d) : provesE d i n (proveL X i) (digL X) = 0 := by
  unfold provesE
  rw [lead_prove n X i d hX hd]
  simp
theorem prove_sides {X : List (List Nat)} {i n : Nat} (hX : X.length = n) (hi : i < n) : (proveL X i).length = (sidesL i n).length := by
  obtain ⟨d, hd⟩ : ∃ d, X[i]? = some d := ⟨_, List.getElem?_eq_getElem (by omega)⟩
  exact (lead_sides (leafL d) n i (proveL X i)).1.1 (by rw [lead_prove n X i d hX hd])
theorem prove_some {X : List (List Nat)} {i n : Nat} (hX : X.length = n) (h2 : 2 ≤ n) : proveL X i ≠ [] := by
  by_cases hk : i < half X.length
  · rw [proveL_low (by omega) hk]; simp
  · rw [proveL_high (by omega) hk]; simp
/-- one digest less proves nothing -/
theorem proves_less {X : List (List Nat)} {i n : Nat} {d R f : List Nat} {Q : List (List Nat)} (hX : X.length = n) (hi : i < n) (hQ : proveL X i = f :: Q) : provesE d i n Q R = 140 := by
  have h := prove_sides hX hi
  rw [hQ, List.length_cons] at h
  rw [provesE_sides, if_neg (fun e => by omega)]
theorem grows_own {X : List (List Nat)} {m n : Nat} (hX : X.length = n) (h1 : 1 ≤ m) (hm : m ≤ n) : growsE m n (digL (X.take m)) (digL X) (grownL X m true) = 0 := by
  unfold growsE
  have := lead_grown n X m (some (digL (X.take m))) hX h1 hm (fun k e => (Option.some.inj e).symm)
  rw [Option.isSome_some] at this
  rw [this]
  simp
end Go.Proofs.YtonkgiiacholeaaDoor
