/- Plain mathematics of labels: no Go in sight. -/
import Derived.Test.YtbahnkomdndmkabLabels
namespace Go.Proofs.Ytbahnkomdndmkab
open Go.RowKit

def U32 (c : Int) : Prop := 0 ≤ c ∧ c < 4294967296

theorem compl_testBit (b i : Nat) (hb : b < 4294967296) : (4294967295 - b).testBit i = (decide (i < 32) && !b.testBit i) := by
  have := Nat.testBit_two_pow_sub_succ (x := b) (n := 32) (by simpa using hb) i
  simpa using this

/-- no bit of a that b has not -/
theorem andNot_zero (a b : Nat) (ha : a < 4294967296) (hb : b < 4294967296) : (a &&& (4294967295 - b)) = 0 ↔ ∀ i, a.testBit i = true → b.testBit i = true := by
  constructor
  · intro h i hi
    have h1 : (a &&& (4294967295 - b)).testBit i = false := by rw [h]; simp
    rw [Nat.testBit_and, hi, compl_testBit b i hb] at h1
    by_cases h32 : i < 32
    · simpa [h32] using h1
    · exfalso
      have : a < 2 ^ i := Nat.lt_of_lt_of_le (by simpa using ha) (Nat.pow_le_pow_right (by decide) (Nat.le_of_not_lt h32) : 2 ^ 32 ≤ 2 ^ i)
      rw [Nat.testBit_lt_two_pow this] at hi
      cases hi
  · intro h
    apply Nat.eq_of_testBit_eq
    intro i
    rw [Nat.testBit_and, compl_testBit b i hb]
    simp only [Nat.zero_testBit]
    cases hi : a.testBit i
    · simp
    · simp [h i hi]

def Sub (a b : Int) : Prop := ∀ i, a.toNat.testBit i = true → b.toNat.testBit i = true

theorem belowB_iff (la ca lb cb : Int) (ha : U32 ca) (hb : U32 cb) : belowB la ca lb cb = true ↔ la ≤ lb ∧ Sub ca cb := by
  obtain ⟨a0, a1⟩ := ha
  obtain ⟨b0, b1⟩ := hb
  unfold belowB Sub
  rw [u32_andNot ca cb a0 a1 b0 b1, Bool.and_eq_true, decide_eq_true_eq, beq_iff_eq]
  have := andNot_zero ca.toNat cb.toNat (by omega) (by omega)
  rw [← this]
  omega

theorem sub_antisymm (a b : Int) (ha : U32 a) (hb : U32 b) (h1 : Sub a b) (h2 : Sub b a) : a = b := by
  have : a.toNat = b.toNat := by
    apply Nat.eq_of_testBit_eq
    intro i
    cases h : a.toNat.testBit i
    · cases h' : b.toNat.testBit i
      · rfl
      · have := h2 i h'; rw [h] at this; cases this
    · exact (h1 i h).symm
  obtain ⟨_, _⟩ := ha
  obtain ⟨_, _⟩ := hb
  omega

theorem below_refl (l c : Int) (hc : U32 c) : belowB l c l c = true := (belowB_iff _ _ _ _ hc hc).2 ⟨Int.le_refl _, fun _ h => h⟩
theorem below_antisymm (la ca lb cb : Int) (ha : U32 ca) (hb : U32 cb) (h1 : belowB la ca lb cb = true) (h2 : belowB lb cb la ca = true) : la = lb ∧ ca = cb := by
  rw [belowB_iff _ _ _ _ ha hb] at h1
  rw [belowB_iff _ _ _ _ hb ha] at h2
  exact ⟨Int.le_antisymm h1.1 h2.1, sub_antisymm _ _ ha hb h1.2 h2.2⟩
theorem below_trans (la ca lb cb lc cc : Int) (ha : U32 ca) (hb : U32 cb) (hc : U32 cc) (h1 : belowB la ca lb cb = true) (h2 : belowB lb cb lc cc = true) : belowB la ca lc cc = true := by
  rw [belowB_iff _ _ _ _ ha hb] at h1
  rw [belowB_iff _ _ _ _ hb hc] at h2
  exact (belowB_iff _ _ _ _ ha hc).2 ⟨Int.le_trans h1.1 h2.1, fun i h => h2.2 i (h1.2 i h)⟩
end Go.Proofs.Ytbahnkomdndmkab
