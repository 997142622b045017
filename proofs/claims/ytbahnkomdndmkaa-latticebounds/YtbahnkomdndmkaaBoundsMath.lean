/- Joins and meets, bit by bit: no Go in sight. -/
import Derived.Test.YtbahnkomdndmkaaRight
namespace Go.Proofs.Ytbahnkomdndmkaa
open Go.RowKit

theorem or_u32 {a b : Int} (ha : U32 a) (hb : U32 b) : U32 (bits .or .u32 a b) ∧ ∀ i, (bits .or .u32 a b).toNat.testBit i = (a.toNat.testBit i || b.toNat.testBit i) := by
  rw [u32_or a b ha.1 ha.2 hb.1 hb.2]
  have h : a.toNat ||| b.toNat < 2 ^ 32 := Nat.or_lt_two_pow (by have := ha.2; omega) (by have := hb.2; omega)
  refine ⟨⟨by omega, by omega⟩, fun i => ?_⟩
  rw [Int.toNat_natCast, Nat.testBit_or]
theorem and_u32 {a b : Int} (ha : U32 a) (hb : U32 b) : U32 (bits .and .u32 a b) ∧ ∀ i, (bits .and .u32 a b).toNat.testBit i = (a.toNat.testBit i && b.toNat.testBit i) := by
  rw [u32_and a b ha.1 ha.2 hb.1 hb.2]
  have h : a.toNat &&& b.toNat < 2 ^ 32 := Nat.and_lt_two_pow _ (by have := hb.2; omega)
  refine ⟨⟨by omega, by omega⟩, fun i => ?_⟩
  rw [Int.toNat_natCast, Nat.testBit_and]

theorem jc_u32 {C : Nat → Int} {m : Nat} (h : ∀ i, i ≤ m → U32 (C i)) : U32 (jc C m) ∧ ∀ i, (jc C m).toNat.testBit i = true ↔ ∃ k, k ≤ m ∧ (C k).toNat.testBit i = true := by
  induction m with
  | zero =>
    refine ⟨h 0 (Nat.le_refl _), fun i => ⟨fun hi => ⟨0, Nat.le_refl _, hi⟩, ?_⟩⟩
    rintro ⟨k, hk, hi⟩
    have : k = 0 := by omega
    subst this
    exact hi
  | succ m ih =>
    obtain ⟨u, t⟩ := ih (fun i hi => h i (by omega))
    have := or_u32 u (h (m + 1) (Nat.le_refl _))
    refine ⟨this.1, fun i => ?_⟩
    show (bits .or .u32 (jc C m) (C (m + 1))).toNat.testBit i = true ↔ _
    rw [this.2 i, Bool.or_eq_true, t i]
    constructor
    · rintro (⟨k, hk, hi⟩ | hi)
      · exact ⟨k, by omega, hi⟩
      · exact ⟨m + 1, Nat.le_refl _, hi⟩
    · rintro ⟨k, hk, hi⟩
      by_cases hkm : k = m + 1
      · subst hkm; exact .inr hi
      · exact .inl ⟨k, by omega, hi⟩
theorem mc_u32 {C : Nat → Int} {m : Nat} (h : ∀ i, i ≤ m → U32 (C i)) : U32 (mc C m) ∧ ∀ i, (mc C m).toNat.testBit i = true ↔ ∀ k, k ≤ m → (C k).toNat.testBit i = true := by
  induction m with
  | zero =>
    refine ⟨h 0 (Nat.le_refl _), fun i => ⟨fun hi k hk => ?_, fun hi => hi 0 (Nat.le_refl _)⟩⟩
    have : k = 0 := by omega
    subst this
    exact hi
  | succ m ih =>
    obtain ⟨u, t⟩ := ih (fun i hi => h i (by omega))
    have := and_u32 u (h (m + 1) (Nat.le_refl _))
    refine ⟨this.1, fun i => ?_⟩
    show (bits .and .u32 (mc C m) (C (m + 1))).toNat.testBit i = true ↔ _
    rw [this.2 i, Bool.and_eq_true, t i]
    constructor
    · rintro ⟨h1, h2⟩ k hk
      by_cases hkm : k = m + 1
      · subst hkm; exact h2
      · exact h1 k (by omega)
    · intro hi
      exact ⟨fun k hk => hi k (by omega), hi (m + 1) (Nat.le_refl _)⟩
theorem jl_le (L : Nat → Int) (m : Nat) (x : Int) : jl L m ≤ x ↔ ∀ k, k ≤ m → L k ≤ x := by
  induction m with
  | zero =>
    constructor
    · intro h k hk
      have : k = 0 := by omega
      subst this
      exact h
    · intro h; exact h 0 (Nat.le_refl _)
  | succ m ih =>
    have e : jl L (m + 1) ≤ x ↔ jl L m ≤ x ∧ L (m + 1) ≤ x := by
      simp only [jl]
      split <;> omega
    rw [e, ih]
    constructor
    · rintro ⟨h1, h2⟩ k hk
      by_cases hkm : k = m + 1
      · subst hkm; exact h2
      · exact h1 k (by omega)
    · intro h
      exact ⟨fun k hk => h k (by omega), h (m + 1) (Nat.le_refl _)⟩
theorem le_ml (L : Nat → Int) (m : Nat) (x : Int) : x ≤ ml L m ↔ ∀ k, k ≤ m → x ≤ L k := by
  induction m with
  | zero =>
    constructor
    · intro h k hk
      have : k = 0 := by omega
      subst this
      exact h
    · intro h; exact h 0 (Nat.le_refl _)
  | succ m ih =>
    have e : x ≤ ml L (m + 1) ↔ x ≤ ml L m ∧ x ≤ L (m + 1) := by
      simp only [ml]
      split <;> omega
    rw [e, ih]
    constructor
    · rintro ⟨h1, h2⟩ k hk
      by_cases hkm : k = m + 1
      · subst hkm; exact h2
      · exact h1 k (by omega)
    · intro h
      exact ⟨fun k hk => h k (by omega), h (m + 1) (Nat.le_refl _)⟩

theorem join_below {L C : Nat → Int} {m : Nat} {lx cx : Int} (h : ∀ i, i ≤ m → U32 (C i)) (hx : U32 cx) : belowB (jl L m) (jc C m) lx cx = true ↔ ∀ k, k ≤ m → belowB (L k) (C k) lx cx = true := by
  obtain ⟨u, t⟩ := jc_u32 h
  rw [belowB_iff _ _ _ _ u hx, jl_le]
  constructor
  · rintro ⟨h1, h2⟩ k hk
    exact (belowB_iff _ _ _ _ (h k hk) hx).2 ⟨h1 k hk, fun i hi => h2 i ((t i).2 ⟨k, hk, hi⟩)⟩
  · intro hh
    refine ⟨fun k hk => ((belowB_iff _ _ _ _ (h k hk) hx).1 (hh k hk)).1, fun i hi => ?_⟩
    obtain ⟨k, hk, hi'⟩ := (t i).1 hi
    exact ((belowB_iff _ _ _ _ (h k hk) hx).1 (hh k hk)).2 i hi'
theorem below_meet {L C : Nat → Int} {m : Nat} {lx cx : Int} (h : ∀ i, i ≤ m → U32 (C i)) (hx : U32 cx) : belowB lx cx (ml L m) (mc C m) = true ↔ ∀ k, k ≤ m → belowB lx cx (L k) (C k) = true := by
  obtain ⟨u, t⟩ := mc_u32 h
  rw [belowB_iff _ _ _ _ hx u, le_ml]
  constructor
  · rintro ⟨h1, h2⟩ k hk
    exact (belowB_iff _ _ _ _ hx (h k hk)).2 ⟨h1 k hk, fun i hi => (t i).1 (h2 i hi) k hk⟩
  · intro hh
    refine ⟨fun k hk => ((belowB_iff _ _ _ _ hx (h k hk)).1 (hh k hk)).1, fun i hi => (t i).2 fun k hk => ?_⟩
    exact ((belowB_iff _ _ _ _ hx (h k hk)).1 (hh k hk)).2 i hi
theorem allB_succ (n : Nat) (P : Nat → Bool) : allB (n + 1) P = (allB n P && P n) := by
  rw [allB, allB, List.range_succ, List.all_append]
  simp
theorem allB_eq {n : Nat} {P : Nat → Bool} {b : Bool} (h : b = true ↔ ∀ k, k < n → P k = true) : allB n P = b := by
  cases hb : b
  · cases ha : allB n P
    · rfl
    · exfalso
      have := h.2 (fun k hk => allB_get ha hk)
      rw [hb] at this
      cases this
  · exact allB_true (h.1 hb)
end Go.Proofs.Ytbahnkomdndmkaa
