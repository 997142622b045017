/- The audit's arithmetic: halves, digests of entries, whole stretches. -/
import Derived.Test.YtonkgiiacholeaaDoorAbc
namespace Go.Proofs.YtonkgiiacholeaaDoor
set_option linter.unusedVariables false
set_option linter.unusedSimpArgs false

def noneL : List Nat := sumL (stW 0) []
def leafL (d : List Nat) : List Nat := sumL (stW 0) (0 :: d)
def knotL (a b : List Nat) : List Nat := sumL (stW 0) (1 :: (a ++ b))
/-- the greatest power of two below n -/
def half (n : Nat) : Nat := 2 ^ (n - 1).log2
theorem half_pos (n : Nat) : 1 ≤ half n := Nat.pos_of_ne_zero (by unfold half; exact Nat.ne_of_gt (Nat.two_pow_pos _))
theorem half_lt {n : Nat} (h : 2 ≤ n) : half n < n := by
  have := Nat.log2_self_le (n := n - 1) (by omega)
  unfold half
  omega
theorem half_ge {n : Nat} (h : 2 ≤ n) : n ≤ 2 * half n := by
  have := Nat.lt_log2_self (n := n - 1)
  unfold half
  rw [Nat.pow_succ] at this
  omega
theorem half_uniq {n k : Nat} (h : 2 ≤ n) (h1 : 2 ^ k < n) (h2 : n ≤ 2 * 2 ^ k) : half n = 2 ^ k := by
  unfold half
  congr 1
  have a : k ≤ (n - 1).log2 := (Nat.le_log2 (by omega)).2 (by omega)
  have b : (n - 1).log2 < k + 1 := (Nat.log2_lt (by omega)).2 (by rw [Nat.pow_succ]; omega)
  omega
theorem half_two (k : Nat) : half (2 ^ (k + 1)) = 2 ^ k := by
  have := Nat.two_pow_pos k
  refine half_uniq ?_ ?_ ?_ <;> rw [Nat.pow_succ] <;> omega

def digL (E : List (List Nat)) : List Nat :=
  if h : 2 ≤ E.length then knotL (digL (E.take (half E.length))) (digL (E.drop (half E.length)))
  else match E with
    | [] => noneL
    | d :: _ => leafL d
termination_by E.length
decreasing_by
  · have := half_lt h; rw [List.length_take]; omega
  · have := half_pos E.length; rw [List.length_drop]; omega
theorem digL_nil : digL [] = noneL := by rw [digL]; rfl
theorem digL_one (d : List Nat) : digL [d] = leafL d := by rw [digL]; rfl
theorem digL_two {E : List (List Nat)} (h : 2 ≤ E.length) : digL E = knotL (digL (E.take (half E.length))) (digL (E.drop (half E.length))) := by
  rw [digL, dif_pos h]
/-- a stretch of entries -/
def cutE (E : List (List Nat)) (a n : Nat) : List (List Nat) := (E.drop a).take n
theorem cutE_len {E : List (List Nat)} {a n : Nat} (h : a + n ≤ E.length) : (cutE E a n).length = n := by rw [cutE, List.length_take, List.length_drop]; omega
theorem cutE_take {E : List (List Nat)} {a n k : Nat} (h : k ≤ n) : (cutE E a n).take k = cutE E a k := by rw [cutE, cutE, List.take_take, Nat.min_eq_left h]
theorem cutE_drop {E : List (List Nat)} {a n k : Nat} (h : k ≤ n) : (cutE E a n).drop k = cutE E (a + k) (n - k) := by rw [cutE, cutE, List.drop_take, List.drop_drop]
theorem cutE_all (E : List (List Nat)) : cutE E 0 E.length = E := by rw [cutE, List.drop_zero, List.take_length]
theorem cutE_zero (E : List (List Nat)) (n : Nat) : cutE E 0 n = E.take n := by rw [cutE, List.drop_zero]
theorem cutE_app {E F : List (List Nat)} {a n : Nat} (h : a + n ≤ E.length) : cutE (E ++ F) a n = cutE E a n := by
  rw [cutE, cutE, List.drop_append_of_le_length (by omega), List.take_append_of_le_length (by rw [List.length_drop]; omega)]
theorem dig_cut {E : List (List Nat)} {a n : Nat} (h : a + n ≤ E.length) (h2 : 2 ≤ n) : digL (cutE E a n) = knotL (digL (cutE E a (half n))) (digL (cutE E (a + half n) (n - half n))) := by
  have hl := cutE_len h
  have hh := half_lt h2
  rw [digL_two (by omega), hl, cutE_take (by omega), cutE_drop (by omega)]
theorem cutE_one {E : List (List Nat)} {a : Nat} {d : List Nat} (h : E[a]? = some d) : cutE E a 1 = [d] := by
  obtain ⟨ha, he⟩ := List.getElem?_eq_some_iff.1 h
  rw [cutE, List.drop_eq_getElem_cons ha, he]
  rfl

/-- the digests of all whole stretches of 2^h entries -/
def lvl (E : List (List Nat)) (h : Nat) : List (List Nat) := (List.range (E.length / 2 ^ h)).map fun j => digL (cutE E (j * 2 ^ h) (2 ^ h))
theorem lvl_len (E : List (List Nat)) (h : Nat) : (lvl E h).length = E.length / 2 ^ h := by simp [lvl]
theorem lvl_get {E : List (List Nat)} {h j : Nat} (hj : j < E.length / 2 ^ h) : (lvl E h)[j]? = some (digL (cutE E (j * 2 ^ h) (2 ^ h))) := by
  simp [lvl, hj]
/-- how many binary digits -/
def bl (n : Nat) : Nat := if n = 0 then 0 else n.log2 + 1
theorem bl_le {n k : Nat} : bl n ≤ k ↔ n < 2 ^ k := by
  unfold bl
  split
  · rename_i h; subst h; simp [Nat.two_pow_pos]
  · rename_i h; rw [← Nat.log2_lt h]; omega
theorem lt_bl {n k : Nat} : k < bl n ↔ 2 ^ k ≤ n := by
  have := bl_le (n := n) (k := k)
  omega
theorem bl_mono {a b : Nat} (h : a ≤ b) : bl a ≤ bl b := bl_le.2 (by have := (bl_le (n := b) (k := bl b)).1 (Nat.le_refl _); omega)
def heightsL (E : List (List Nat)) : List (List (List Nat)) := (List.range (bl E.length)).map (lvl E)
theorem heights_len (E : List (List Nat)) : (heightsL E).length = bl E.length := by simp [heightsL]
theorem heights_get {E : List (List Nat)} {h : Nat} (hh : h < bl E.length) : (heightsL E)[h]? = some (lvl E h) := by simp [heightsL, hh]

theorem div_step {n q : Nat} (hq : 0 < q) (h : q ∣ n + 1) : (n + 1) / q = n / q + 1 := by
  obtain ⟨c, hc⟩ := h
  have hc1 : 1 ≤ c := by
    cases c with
    | zero => rw [Nat.mul_zero] at hc; omega
    | succ c => exact Nat.le_add_left 1 c
  have h1 : (n + 1) / q = c := by rw [hc]; exact Nat.mul_div_cancel_left c hq
  have h2 : n / q = c - 1 := by
    have : n = q * (c - 1) + (q - 1) := by
      have : q * c = q * (c - 1) + q := by
        conv => lhs; rw [show c = c - 1 + 1 by omega]
        rw [Nat.mul_add, Nat.mul_one]
      omega
    rw [this, Nat.mul_add_div hq, Nat.div_eq_of_lt (by omega)]
    omega
  omega
theorem div_stay {n q : Nat} (hq : 0 < q) (h : ¬ q ∣ n + 1) : (n + 1) / q = n / q := by
  rw [Nat.succ_div, if_neg h]; rfl
/-- one entry more, where the stretch of that height becomes whole -/
theorem lvl_more {E : List (List Nat)} {d : List Nat} {h : Nat} (hd : 2 ^ h ∣ E.length + 1) : lvl (E ++ [d]) h = lvl E h ++ [digL (cutE (E ++ [d]) (E.length + 1 - 2 ^ h) (2 ^ h))] := by
  have hq := Nat.two_pow_pos h
  have hs := div_step hq hd
  have hm : E.length / 2 ^ h * 2 ^ h = E.length + 1 - 2 ^ h := by
    have : (E.length + 1) / 2 ^ h * 2 ^ h = E.length + 1 := Nat.div_mul_cancel hd
    rw [hs, Nat.add_mul, Nat.one_mul] at this
    omega
  rw [lvl, List.length_append, List.length_singleton, hs, List.range_succ, List.map_append, List.map_singleton, hm]
  congr 1
  rw [lvl]
  refine List.map_congr_left fun j hj => ?_
  rw [List.mem_range] at hj
  rw [cutE_app]
  have : (j + 1) * 2 ^ h ≤ E.length / 2 ^ h * 2 ^ h := Nat.mul_le_mul_right _ hj
  rw [Nat.add_mul, Nat.one_mul] at this
  omega
theorem lvl_stay {E : List (List Nat)} {d : List Nat} {h : Nat} (hd : ¬ 2 ^ h ∣ E.length + 1) : lvl (E ++ [d]) h = lvl E h := by
  have hq := Nat.two_pow_pos h
  rw [lvl, List.length_append, List.length_singleton, div_stay hq hd, lvl]
  refine List.map_congr_left fun j hj => ?_
  rw [List.mem_range] at hj
  rw [cutE_app]
  have : (j + 1) * 2 ^ h ≤ E.length / 2 ^ h * 2 ^ h := Nat.mul_le_mul_right _ hj
  have := Nat.div_mul_le_self E.length (2 ^ h)
  rw [Nat.add_mul, Nat.one_mul] at *
  omega
theorem even_dvd {n h : Nat} (hd : 2 ^ h ∣ n) : (n / 2 ^ h) % 2 = 0 ↔ 2 ^ (h + 1) ∣ n := by
  obtain ⟨c, rfl⟩ := hd
  rw [Nat.mul_div_cancel_left c (Nat.two_pow_pos h), Nat.pow_succ]
  constructor
  · intro hc
    obtain ⟨e, rfl⟩ := Nat.dvd_of_mod_eq_zero hc
    exact ⟨e, by rw [Nat.mul_assoc]⟩
  · intro ⟨e, he⟩
    rw [Nat.mul_assoc] at he
    have := Nat.eq_of_mul_eq_mul_left (Nat.two_pow_pos h) he
    omega
/-- the last two of a height are the halves of the next stretch -/
theorem pair_last {E : List (List Nat)} {h : Nat} (hd : 2 ^ (h + 1) ∣ E.length) (hn : 0 < E.length) :
    ∃ a b, (lvl E h)[E.length / 2 ^ h - 2]? = some a ∧ (lvl E h)[E.length / 2 ^ h - 1]? = some b ∧ 2 ≤ E.length / 2 ^ h ∧ knotL a b = digL (cutE E (E.length - 2 ^ (h + 1)) (2 ^ (h + 1))) := by
  obtain ⟨c, hc⟩ := hd
  have hq := Nat.two_pow_pos h
  rw [Nat.pow_succ] at hc
  have hc1 : 1 ≤ c := by
    cases c with
    | zero => rw [Nat.mul_zero] at hc; omega
    | succ c => exact Nat.le_add_left 1 c
  have hm : E.length / 2 ^ h = 2 * c := by rw [hc, Nat.mul_assoc]; exact Nat.mul_div_cancel_left _ hq
  have hE : E.length = 2 * c * 2 ^ h := by rw [hc, Nat.mul_comm (2 * c), Nat.mul_assoc]
  refine ⟨_, _, lvl_get (by rw [hm]; omega), lvl_get (by rw [hm]; omega), by rw [hm]; omega, ?_⟩
  have e2 : (E.length / 2 ^ h - 2) * 2 ^ h = E.length - 2 ^ (h + 1) := by rw [hm, Nat.sub_mul, ← hE, Nat.pow_succ, Nat.mul_comm 2]
  have e1 : (E.length / 2 ^ h - 1) * 2 ^ h = E.length - 2 ^ (h + 1) + 2 ^ h := by
    rw [hm, Nat.sub_mul, Nat.one_mul, ← hE, Nat.pow_succ]
    have : 2 ^ h * 2 ≤ E.length := by rw [hc]; exact Nat.le_mul_of_pos_right _ hc1
    omega
  have hle : 2 ^ (h + 1) ≤ E.length := by rw [hc, Nat.pow_succ]; exact Nat.le_mul_of_pos_right _ hc1
  rw [e1, e2, dig_cut (a := E.length - 2 ^ (h + 1)) (n := 2 ^ (h + 1)) (by omega) (by rw [Nat.pow_succ]; omega), half_two]
  congr 2
  rw [Nat.pow_succ]
  congr 1
  omega
end Go.Proofs.YtonkgiiacholeaaDoor
