/- What a code point's bytes look like. -/
import Derived.Test.YtdnbhomjfgpcfaaDoorLRu
import Derived.Test.YtdnbhomjfgpcfaaDoorRep
namespace Go.Proofs.YtdnbhomjfgpcfaaDoor
set_option linter.unusedVariables false
set_option linter.unusedSimpArgs false
open Go.ChangeShapes Go.WideShapes Go.ChangeAt Go.RowKit Go.Joins Go.Deep

theorem Cp.bytes {c : List UInt8} (h : Cp c) : (∃ b : UInt8, c = [b] ∧ b.toNat < 128 ∧ rn c = b.toNat) ∨ (∃ b l, c = b :: l ∧ 192 ≤ b.toNat ∧ l ≠ [] ∧ (∀ x ∈ l, 128 ≤ x.toNat ∧ x.toNat < 192) ∧ 128 ≤ rn c) := by
  have h4 := h.four
  have ho := h.ok
  have ha := h.all
  have hn := h.ne
  unfold rn
  match c, h4, hn, ho, ha with
  | [], _, hn, _, _ => exact absurd rfl hn
  | [b0], _, _, ho, ha =>
    have u0 := b0.toNat_lt
    simp only [Lib.decodeL_N, Lib.decodeN, List.length_cons, List.length_nil, List.getD_cons_zero] at ho ha ⊢
    by_cases h1 : b0.toNat < 128
    · rw [if_pos h1]
      exact .inl ⟨b0, rfl, h1, rfl⟩
    · exfalso
      rw [if_neg h1, if_neg (by omega), if_neg (by omega), if_neg (by omega)] at ho
      exact ho ⟨rfl, rfl⟩
  | [b0, b1], _, _, ho, ha =>
    simp only [Lib.decodeL_N, Lib.decodeN, List.length_cons, List.length_nil, List.getD_cons_zero, List.getD_cons_succ] at ho ha ⊢
    split at ha
    · simp at ha
    · rename_i h1
      rw [if_neg h1] at ho ⊢
      split at ha
      · rename_i h2
        rw [if_pos h2] at ho ⊢
        split at ha
        · rename_i h3
          rw [if_pos h3]
          refine .inr ⟨b0, [b1], rfl, by omega, by simp, fun x hx => ?_, by show 128 ≤ _; omega⟩
          rw [List.mem_singleton] at hx
          subst hx
          omega
        · simp at ha
      · rw [if_neg (by omega), if_neg (by omega)] at ha
        simp at ha
  | [b0, b1, b2], _, _, ho, ha =>
    simp only [Lib.decodeL_N, Lib.decodeN, List.length_cons, List.length_nil, List.getD_cons_zero, List.getD_cons_succ] at ho ha ⊢
    split at ha
    · simp at ha
    · rename_i h1
      rw [if_neg h1] at ho ⊢
      split at ha
      · split at ha <;> simp at ha
      · rename_i h2
        rw [if_neg h2] at ho ⊢
        split at ha
        · rename_i h3
          rw [if_pos h3] at ho ⊢
          split at ha
          · rename_i h5
            rw [if_pos h5]
            refine .inr ⟨b0, [b1, b2], rfl, by omega, by simp, fun x hx => ?_, by show 128 ≤ _; omega⟩
            simp only [List.mem_cons, List.not_mem_nil, or_false] at hx
            rcases hx with rfl | rfl <;> omega
          · simp at ha
        · rw [if_neg (by omega)] at ha
          simp at ha
  | [b0, b1, b2, b3], _, _, ho, ha =>
    simp only [Lib.decodeL_N, Lib.decodeN, List.length_cons, List.length_nil, List.getD_cons_zero, List.getD_cons_succ] at ho ha ⊢
    split at ha
    · simp at ha
    · rename_i h1
      rw [if_neg h1] at ho ⊢
      split at ha
      · split at ha <;> simp at ha
      · rename_i h2
        rw [if_neg h2] at ho ⊢
        split at ha
        · split at ha <;> simp at ha
        · rename_i h3
          rw [if_neg h3] at ho ⊢
          split at ha
          · rename_i h5
            rw [if_pos h5] at ho ⊢
            split at ha
            · rename_i h6
              rw [if_pos h6]
              refine .inr ⟨b0, [b1, b2, b3], rfl, by omega, by simp, fun x hx => ?_, by show 128 ≤ _; omega⟩
              simp only [List.mem_cons, List.not_mem_nil, or_false] at hx
              rcases hx with rfl | rfl | rfl <;> omega
            · simp at ha
          · simp at ha
  | _ :: _ :: _ :: _ :: _ :: _, h4, _, _, _ => simp only [List.length_cons] at h4; omega
theorem Cp.low {c : List UInt8} (h : Cp c) {b : UInt8} (hb : b ∈ c) (hl : b.toNat < 128) : c = [b] ∧ rn c = b.toNat := by
  rcases h.bytes with ⟨d, rfl, h1, h2⟩ | ⟨d, l, rfl, h1, _, h3, _⟩
  · rw [List.mem_singleton] at hb
    subst hb
    exact ⟨rfl, h2⟩
  · exfalso
    rcases List.mem_cons.1 hb with rfl | h4
    · omega
    · have := h3 b h4
      omega
theorem Cp.rn_low {c : List UInt8} (h : Cp c) (hl : rn c < 128) : ∃ b : UInt8, c = [b] ∧ b.toNat = rn c := by
  rcases h.bytes with ⟨d, rfl, h1, h2⟩ | ⟨d, l, rfl, h1, _, h3, h4⟩
  · exact ⟨d, rfl, h2.symm⟩
  · omega
end Go.Proofs.YtdnbhomjfgpcfaaDoor
