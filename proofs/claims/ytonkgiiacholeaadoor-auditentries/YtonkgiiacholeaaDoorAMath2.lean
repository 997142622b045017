/- The audit's arithmetic, on: what climbing does to the heights; where stretches begin; powers of two; proofs. -/
import Derived.Test.YtonkgiiacholeaaDoorAMath
namespace Go.Proofs.YtonkgiiacholeaaDoor
set_option linter.unusedVariables false
set_option linter.unusedSimpArgs false

def midL (E : List (List Nat)) (d : List Nat) (h : Nat) : List (List (List Nat)) := (List.range (max h (bl E.length))).map fun t => if t < h then lvl (E ++ [d]) t else lvl E t
theorem midL_len (E : List (List Nat)) (d : List Nat) (h : Nat) : (midL E d h).length = max h (bl E.length) := by simp [midL]
theorem midL_zero (E : List (List Nat)) (d : List Nat) : midL E d 0 = heightsL E := by
  simp [midL, heightsL]
theorem midL_get {E : List (List Nat)} {d : List Nat} {h t : Nat} (ht : t < max h (bl E.length)) : (midL E d h)[t]? = some (if t < h then lvl (E ++ [d]) t else lvl E t) := by
  simp [midL, ht]
theorem lvl_none {E : List (List Nat)} {h : Nat} (hb : bl E.length ≤ h) : lvl E h = [] := by
  have := bl_le.1 hb
  simp [lvl, Nat.div_eq_of_lt this]
/-- a new height, still without digests -/
theorem midL_grow {E : List (List Nat)} {d : List Nat} {h : Nat} {x : List Nat} (hb : bl E.length ≤ h) : (midL E d h ++ [[]]).set h (lvl E h ++ [x]) = (midL E d h) ++ [[x]] := by
  rw [lvl_none hb]
  have hl : (midL E d h).length = h := by rw [midL_len]; omega
  rw [List.set_append_right _ _ (by omega), hl, Nat.sub_self]
  rfl
theorem midL_new {E : List (List Nat)} {d : List Nat} {h : Nat} (hb : bl E.length ≤ h) (hd : 2 ^ h ∣ E.length + 1) : midL E d h ++ [lvl (E ++ [d]) h] = midL E d (h + 1) := by
  have e1 : max h (bl E.length) = h := by omega
  have e2 : max (h + 1) (bl E.length) = h + 1 := by omega
  simp only [midL, e1, e2, List.range_succ, List.map_append, List.map_singleton]
  congr 1
  · refine List.map_congr_left fun t ht => ?_
    rw [List.mem_range] at ht
    rw [if_pos ht, if_pos (by omega)]
  · rw [if_pos (by omega)]
theorem midL_old {E : List (List Nat)} {d : List Nat} {h : Nat} (hb : h < bl E.length) : (midL E d h).set h (lvl (E ++ [d]) h) = midL E d (h + 1) := by
  apply List.ext_getElem?
  intro t
  by_cases ht : t < bl E.length
  · rw [midL_get (by omega)]
    by_cases e : t = h
    · subst e
      rw [List.getElem?_set_self (by rw [midL_len]; omega), if_pos (by omega)]
    · rw [List.getElem?_set_ne (by omega), midL_get (by omega)]
      by_cases hlt : t < h
      · rw [if_pos hlt, if_pos (by omega)]
      · rw [if_neg hlt, if_neg (by omega)]
  · rw [List.getElem?_eq_none (by rw [List.length_set, midL_len]; omega), List.getElem?_eq_none (by rw [midL_len]; omega)]
theorem midL_last {E : List (List Nat)} {d : List Nat} {h : Nat} (h1 : 2 ^ h ∣ E.length + 1) (h2 : ¬ 2 ^ (h + 1) ∣ E.length + 1) : midL E d (h + 1) = heightsL (E ++ [d]) := by
  have hlen : (E ++ [d]).length = E.length + 1 := by simp
  have hle : 2 ^ h ≤ E.length + 1 := Nat.le_of_dvd (by omega) h1
  have hm : max (h + 1) (bl E.length) = bl (E.length + 1) := by
    have a1 : h + 1 ≤ bl (E.length + 1) := lt_bl.2 hle
    have a2 : bl E.length ≤ bl (E.length + 1) := bl_mono (by omega)
    have a3 : bl (E.length + 1) ≤ max (h + 1) (bl E.length) := by
      rw [bl_le]
      have b1 : E.length < 2 ^ bl E.length := bl_le.1 (Nat.le_refl _)
      have b2 : 2 ^ bl E.length ≤ 2 ^ max (h + 1) (bl E.length) := Nat.pow_le_pow_right (by decide) (by omega)
      have b3 : 2 ^ (h + 1) ≤ 2 ^ max (h + 1) (bl E.length) := Nat.pow_le_pow_right (by decide) (by omega)
      by_cases hx : E.length + 1 = 2 ^ bl E.length
      · by_cases hy : h + 1 ≤ bl E.length
        · exact absurd (hx ▸ Nat.pow_dvd_pow 2 hy) h2
        · have b4 : 2 ^ bl E.length ≤ 2 ^ h := Nat.pow_le_pow_right (by decide) (by omega)
          have : 2 ^ (h + 1) = 2 * 2 ^ h := by rw [Nat.pow_succ]; omega
          have := Nat.two_pow_pos h
          omega
      · omega
    omega
  simp only [midL, heightsL, hlen, hm]
  refine List.map_congr_left fun t ht => ?_
  by_cases hlt : t < h + 1
  · rw [if_pos hlt]
  · rw [if_neg hlt, lvl_stay]
    intro hc
    exact h2 (Nat.dvd_trans (Nat.pow_dvd_pow 2 (by omega)) hc)

/-- where a stretch may begin -/
def Al (a n : Nat) : Prop := ∀ k, 2 ^ k < 2 * n → 2 ^ k ∣ a
theorem Al.zero (n : Nat) : Al 0 n := fun k _ => Nat.dvd_zero _
theorem Al.less {a n m : Nat} (h : Al a n) (hm : m ≤ n) : Al a m := fun k hk => h k (by omega)
theorem Al.next {a n : Nat} (h : Al a n) (h2 : 2 ≤ n) : Al (a + half n) (n - half n) := by
  intro k hk
  have h1 := half_ge h2
  have hl := half_lt h2
  refine Nat.dvd_add (h k (by omega)) ?_
  unfold half at *
  refine Nat.pow_dvd_pow 2 ?_
  by_cases hc : k ≤ (n - 1).log2
  · exact hc
  · have := Nat.pow_le_pow_right (n := 2) (by decide) (show (n - 1).log2 + 1 ≤ k by omega)
    rw [Nat.pow_succ] at this
    omega
theorem Al.at {a k n : Nat} (h : Al a (2 ^ k)) (ha : a + 2 ^ k ≤ n) : a / 2 ^ k * 2 ^ k = a ∧ a / 2 ^ k < n / 2 ^ k := by
  have hp := Nat.two_pow_pos k
  have hd : 2 ^ k ∣ a := h k (by omega)
  refine ⟨Nat.div_mul_cancel hd, ?_⟩
  have : (a + 2 ^ k) / 2 ^ k = a / 2 ^ k + 1 := Nat.add_div_right a hp
  have h2 := Nat.div_le_div_right (c := 2 ^ k) ha
  omega
theorem log2_two (k : Nat) : (2 ^ k).log2 = k := Nat.log2_two_pow
theorem bl_two (k : Nat) : bl (2 ^ k) = k + 1 := by
  unfold bl
  rw [if_neg (Nat.ne_of_gt (Nat.two_pow_pos k)), log2_two]
/-- n and n less one have no digit in common just where n is a power of two -/
theorem and_zero {n : Nat} (h1 : 1 ≤ n) : n &&& (n - 1) = 0 ↔ n = 2 ^ n.log2 := by
  have hle := Nat.log2_self_le (n := n) (by omega)
  have hlt := Nat.lt_log2_self (n := n)
  constructor
  · intro h
    by_cases he : n = 2 ^ n.log2
    · exact he
    · exfalso
      have t1 : n.testBit n.log2 = true := by
        rw [Nat.testBit_eq_decide_div_mod_eq]
        have : n / 2 ^ n.log2 = 1 := by
          rw [Nat.div_eq_iff (Nat.two_pow_pos _)]
          rw [Nat.pow_succ] at hlt
          omega
        simp [this]
      have t2 : (n - 1).testBit n.log2 = true := by
        rw [Nat.testBit_eq_decide_div_mod_eq]
        have : (n - 1) / 2 ^ n.log2 = 1 := by
          rw [Nat.div_eq_iff (Nat.two_pow_pos _)]
          rw [Nat.pow_succ] at hlt
          omega
        simp [this]
      have := congrArg (fun x => x.testBit n.log2) h
      simp [t1, t2] at this
  · intro h
    conv => lhs; rw [h]
    rw [Nat.and_two_pow_sub_one_eq_mod, Nat.mod_self]

def proveL (X : List (List Nat)) (i : Nat) : List (List Nat) :=
  if h : 2 ≤ X.length then
    if i < half X.length then proveL (X.take (half X.length)) i ++ [digL (X.drop (half X.length))]
    else proveL (X.drop (half X.length)) (i - half X.length) ++ [digL (X.take (half X.length))]
  else []
termination_by X.length
decreasing_by
  · have := half_lt h; rw [List.length_take]; omega
  · have := half_pos X.length; rw [List.length_drop]; omega
theorem proveL_one {X : List (List Nat)} {i : Nat} (h : ¬ 2 ≤ X.length) : proveL X i = [] := by rw [proveL, dif_neg h]
theorem proveL_low {X : List (List Nat)} {i : Nat} (h : 2 ≤ X.length) (hi : i < half X.length) : proveL X i = proveL (X.take (half X.length)) i ++ [digL (X.drop (half X.length))] := by
  rw [proveL, dif_pos h, if_pos hi]
theorem proveL_high {X : List (List Nat)} {i : Nat} (h : 2 ≤ X.length) (hi : ¬ i < half X.length) : proveL X i = proveL (X.drop (half X.length)) (i - half X.length) ++ [digL (X.take (half X.length))] := by
  rw [proveL, dif_pos h, if_neg hi]
def grownL (X : List (List Nat)) (m : Nat) (known : Bool) : List (List Nat) :=
  if m = X.length then (if known then [] else [digL X])
  else if h : 2 ≤ X.length then
    if m ≤ half X.length then grownL (X.take (half X.length)) m known ++ [digL (X.drop (half X.length))]
    else grownL (X.drop (half X.length)) (m - half X.length) false ++ [digL (X.take (half X.length))]
  else []
termination_by X.length
decreasing_by
  · have := half_lt h; rw [List.length_take]; omega
  · have := half_pos X.length; rw [List.length_drop]; omega
end Go.Proofs.YtonkgiiacholeaaDoor
