/- Lists of bytes that come in; how long proofs are. -/
import Derived.Test.YtonkgiiacholeaaDoorAShrt
namespace Go.Proofs.YtonkgiiacholeaaDoor
set_option linter.unusedVariables false
set_option maxRecDepth 100000
set_option linter.unusedSimpArgs false
open Go.ChangeShapes Go.WideShapes Go.ChangeAt Go.RowKit Go.Joins Go.Deep

theorem bytes_of {H : Type} {enc : TypeId × Value → H} {W : World} {base fuel : Nat} {spare : Nat → Bool} {held : Bool} {v : Value} {x : DataW H × List MemPlace}
    (hf : DataW.trod enc Tryd.prog W base spare held fuel 22 [v] = some x) : ∃ l : List Nat, Byt W v l ∧ ∀ y ∈ l, y < 256 := by
  rcases open_ints Tryd.underlying22 Tryd.underlying5 cells5 hf with ⟨hcs, _⟩ | ⟨a, n, cap, zs, hcs, _, hl, hm, hz, _, hc, hw⟩
  · simp at hcs
    subst hcs
    exact ⟨[], .inl ⟨rfl, rfl⟩, fun y hy => by cases hy⟩
  · simp at hcs
    subst hcs
    have hlz : n ≤ zs.length := by rw [hz]; split <;> omega
    have hb : ∀ z ∈ zs, 0 ≤ z ∧ z < 256 := fun z hz' => by
      have := bounds_u8 (hw z hz')
      omega
    refine ⟨(zs.take n).map Int.toNat, .inr ⟨a, cap, by simp [Nat.min_eq_left hlz], by simp [Nat.min_eq_left hlz]; exact hl, hm, fun i y hy => ?_⟩, fun y hy => ?_⟩
    · rw [List.getElem?_map] at hy
      obtain ⟨z, hz1, rfl⟩ := Option.map_eq_some_iff.1 hy
      have hi : i < n := by
        by_cases hi : i < n
        · exact hi
        · rw [List.getElem?_eq_none (by rw [List.length_take]; omega)] at hz1; cases hz1
      rw [List.getElem?_take_of_lt hi] at hz1
      rw [hc i (by omega), List.getD_eq_getElem?_getD, hz1]
      have := hb z (List.mem_of_getElem? hz1)
      simp
      omega
    · obtain ⟨z, hz1, rfl⟩ := List.mem_map.1 hy
      have := hb z (List.mem_of_mem_take hz1)
      omega

theorem open_lists {H : Type} {enc : TypeId × Value → H} {W : World} {b0 base : Nat} {spare : Nat → Bool} {held : Bool} {v : Value} {d : DataW H} {p : List MemPlace}
    (hv : Value.okWide Tryd.prog W .any b0 35 v) (h : DataW.Trod enc Tryd.prog W base spare held 35 v d p) :
    ∃ P : List (Value × List Nat), LL W v P ∧ (∀ x ∈ P, U8 x.2) ∧ (P = [] ∨ ∃ elems sp, d = .slice elems sp ∧ P.length ≤ elems.length + sp.length) := by
  obtain ⟨a, n, c, rfl⟩ := okWide_slice Tryd.underlying35 hv
  obtain ⟨fuel, hf⟩ := h
  rcases open_slice Tryd.underlying35 hf with h0 | ⟨a, len, cap, m, n', D, Pl, hcs, hb, hl, hm, hmm, hdd, hx⟩
  · have hcs := h0.1
    simp [Value.cells] at hcs
    obtain ⟨rfl, rfl, rfl⟩ := hcs
    exact ⟨[], ⟨none, 0, rfl, ⟨Nat.le_refl _, Nat.zero_le _⟩, fun i u l hi => by simp at hi⟩, (fun x hx => by cases hx), .inl rfl⟩
  · simp [Value.cells] at hcs
    obtain ⟨rfl, rfl, rfl⟩ := hcs
    have hlm : n ≤ m := by rw [hmm]; split <;> omega
    have each : ∀ i, i < n → ∃ q : Value × List Nat, (Byt W q.1 q.2 ∧ ∀ y ∈ q.2, y < 256) ∧ W.cell? (a.add i) = some q.1 := by
      intro i hi
      obtain ⟨cs', h1, h2⟩ := hx i (by omega)
      rw [show Tryd.prog.cellsOf 22 = 1 by kernel_rfl] at h1
      obtain ⟨_, hlen, hcell⟩ := World.cells?_some h1
      match cs', hlen with
      | [v0], _ =>
        obtain ⟨l, hbyt, h256⟩ := bytes_of h2
        have e0 := hcell 0 (by omega)
        rw [Go.Proofs.YtonkgiiacholeaaDoor.add_add] at e0
        exact ⟨(v0, l), ⟨hbyt, h256⟩, by simpa using e0⟩
    obtain ⟨L, hL, hp⟩ := list_of each
    refine ⟨L, ⟨some a, c, by rw [hL], ⟨by rw [hL]; exact hl, hm⟩, fun i u l hi => ⟨⟨a, rfl, (hp i (u, l) hi).2⟩, (hp i (u, l) hi).1.1⟩⟩, fun x hx => ?_, ?_⟩
    · obtain ⟨i, hi⟩ := List.getElem?_of_mem hx
      exact (hp i x hi).1.2
    · right
      injection hdd with hq _
      exact ⟨_, _, hq, by simp [hL]⟩

theorem mod_nat (k : Int) (n : Nat) (h : 0 < n) (h2 : n ≤ 1000000) : ∃ j : Nat, wrap64 ((IntKind.u64.wrap k).tmod (n : Int)) = (j : Int) ∧ j < n := by
  have h0 : 0 ≤ IntKind.u64.wrap k := wrap_u64_nonneg k
  rw [Int.tmod_eq_emod_of_nonneg h0]
  have g1 := Int.emod_nonneg (IntKind.u64.wrap k) (show (n : Int) ≠ 0 by omega)
  have g2 := Int.emod_lt_of_pos (IntKind.u64.wrap k) (show (0 : Int) < (n : Int) by omega)
  generalize IntKind.u64.wrap k % (n : Int) = x at *
  refine ⟨x.toNat, ?_, by omega⟩
  unfold wrap64
  omega

theorem bl_pred_half {n : Nat} (h : 2 ≤ n) : bl (half n - 1) + 1 ≤ bl (n - 1) := by
  have hp : 1 ≤ half n := half_pos n
  have hlt := half_lt h
  have h1 : half n = 2 ^ (n - 1).log2 := rfl
  have h2 : bl (n - 1) = (n - 1).log2 + 1 := by rw [bl, if_neg (by omega)]
  have h3 : bl (half n - 1) ≤ (n - 1).log2 := bl_le.2 (by rw [← h1]; omega)
  omega
theorem bl_pred_rest {n : Nat} (h : 2 ≤ n) : bl (n - half n - 1) + 1 ≤ bl (n - 1) :=
  Nat.le_trans (Nat.add_le_add_right (bl_mono (by have := half_ge h; omega)) 1) (bl_pred_half h)
theorem prove_bl : ∀ (n : Nat) (X : List (List Nat)) (i : Nat), X.length = n → (proveL X i).length ≤ bl (n - 1) := by
  intro n
  induction n using Nat.strongRecOn with
  | _ n ih =>
  intro X i hX
  by_cases h2 : 2 ≤ X.length
  · have hh := half_lt h2
    have hp := half_pos X.length
    have e1 := bl_pred_half h2
    have e2 := bl_pred_rest h2
    by_cases hi : i < half X.length
    · rw [proveL_low h2 hi, List.length_append, List.length_singleton]
      have := ih (half X.length) (by omega) (X.take (half X.length)) i (by rw [List.length_take]; omega)
      rw [← hX]
      omega
    · rw [proveL_high h2 hi, List.length_append, List.length_singleton]
      have := ih (X.length - half X.length) (by omega) (X.drop (half X.length)) (i - half X.length) (by rw [List.length_drop])
      rw [← hX]
      omega
  · rw [proveL_one h2]; exact Nat.zero_le _
theorem grown_bl : ∀ (n : Nat) (X : List (List Nat)) (m : Nat) (b : Bool), X.length = n → (grownL X m b).length ≤ bl (n - 1) + 1 := by
  intro n
  induction n using Nat.strongRecOn with
  | _ n ih =>
  intro X m b hX
  by_cases h1 : m = X.length
  · rw [grownL_all h1]
    cases b
    · exact Nat.le_add_left _ _
    · exact Nat.zero_le _
  by_cases h2 : 2 ≤ X.length
  · have hh := half_lt h2
    have hp := half_pos X.length
    have e1 := bl_pred_half h2
    have e2 := bl_pred_rest h2
    by_cases hi : m ≤ half X.length
    · rw [grownL_low h1 h2 hi, List.length_append, List.length_singleton]
      have := ih (half X.length) (by omega) (X.take (half X.length)) m b (by rw [List.length_take]; omega)
      rw [← hX]
      omega
    · rw [grownL_high h1 h2 hi, List.length_append, List.length_singleton]
      have := ih (X.length - half X.length) (by omega) (X.drop (half X.length)) (m - half X.length) false (by rw [List.length_drop])
      rw [← hX]
      omega
  · rw [grownL, if_neg h1, dif_neg h2]; exact Nat.zero_le _
theorem bl_half {k : Nat} (h : 0 < k) : bl k = bl (k / 2) + 1 := by
  apply Nat.le_antisymm
  · rw [bl_le, Nat.pow_succ]
    have := (bl_le (n := k / 2) (k := bl (k / 2))).1 (Nat.le_refl _)
    omega
  · rw [Nat.succ_le_iff, lt_bl]
    by_cases h0 : k / 2 = 0
    · rw [h0]
      have : bl 0 = 0 := rfl
      rw [this]; exact h
    · have h1 : bl (k / 2) - 1 < bl (k / 2) := by
        have : 0 < bl (k / 2) := lt_bl.2 (by omega)
        omega
      have h2 := lt_bl.1 h1
      have h3 : 2 ^ bl (k / 2) = 2 ^ (bl (k / 2) - 1) * 2 := by rw [← Nat.pow_succ]; congr 1; omega
      rw [h3]
      omega
end Go.Proofs.YtonkgiiacholeaaDoor
