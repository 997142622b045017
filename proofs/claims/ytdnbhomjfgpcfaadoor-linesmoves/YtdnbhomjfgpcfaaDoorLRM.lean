/- The document's lines: mathematics. -/
import Derived.Test.YtdnbhomjfgpcfaaDoorLA
namespace Go.Proofs.YtdnbhomjfgpcfaaDoor
set_option linter.unusedVariables false
set_option linter.unusedSimpArgs false
open Go.ChangeShapes Go.WideShapes Go.ChangeAt Go.RowKit Go.Joins Go.Deep

def wL (cs : List (List UInt8)) (k : Nat) : Nat := (sts (cs.take k)).length - 1
def wC (cs : List (List UInt8)) (k : Nat) : Nat := k - (sts (cs.take k)).getD (wL cs k) 0
theorem wL_le (cs : List (List UInt8)) (k : Nat) : wL cs k ≤ k := by
  have := sts_len (cs.take k)
  rw [List.length_take] at this
  unfold wL
  omega
theorem wC_le (cs : List (List UInt8)) (k : Nat) : wC cs k ≤ k := by unfold wC; omega
theorem w_zero (cs : List (List UInt8)) : wL cs 0 = 0 ∧ wC cs 0 = 0 := by
  unfold wC wL
  simp [sts, stF]
theorem w_hit {cs : List (List UInt8)} {k : Nat} {c : List UInt8} (h : cs[k]? = some c) (h10 : rn c = 10) : wL cs (k + 1) = wL cs k + 1 ∧ wC cs (k + 1) = 0 := by
  have hp := sts_pos (cs.take k)
  have e := sts_next h
  rw [if_pos h10] at e
  have h1 : wL cs (k + 1) = (sts (cs.take k)).length := by
    unfold wL
    rw [e, List.length_append]
    simp
  refine ⟨by rw [h1]; unfold wL; omega, ?_⟩
  unfold wC
  rw [h1, e, List.getD_eq_getElem?_getD, List.getElem?_append_right (Nat.le_refl _)]
  simp
theorem w_miss {cs : List (List UInt8)} {k : Nat} {c : List UInt8} (h : cs[k]? = some c) (h10 : ¬ rn c = 10) : wL cs (k + 1) = wL cs k ∧ wC cs (k + 1) = wC cs k + 1 := by
  have hp := sts_pos (cs.take k)
  have e := sts_next h
  rw [if_neg h10, List.append_nil] at e
  have h1 : wL cs (k + 1) = wL cs k := by unfold wL; rw [e]
  refine ⟨h1, ?_⟩
  unfold wC
  rw [h1, e]
  have hl : wL cs k < (sts (cs.take k)).length := by unfold wL; omega
  have h2 : (sts (cs.take k)).getD (wL cs k) 0 ∈ sts (cs.take k) := by
    rw [List.getD_eq_getElem?_getD, List.getElem?_eq_getElem hl]
    exact List.getElem_mem hl
  have h3 := sts_le h2
  rw [List.length_take] at h3
  omega
theorem w_where {cs : List (List UInt8)} {p : Nat} (hp : p ≤ cs.length) : lineOf cs p = wL cs p ∧ (p : Int) - (stN cs (lineOf cs p) : Int) = (wC cs p : Int) := by
  have hs : sts cs = sts (cs.take p) ++ stF p (cs.drop p) := by
    have h := stF_app (cs.take p) 0 (cs.drop p)
    rw [List.take_append_drop, List.length_take, Nat.min_eq_left hp, Nat.zero_add] at h
    unfold sts
    rw [h, List.cons_append]
  have hpos := sts_pos (cs.take p)
  have c1 : (sts (cs.take p)).countP (fun y => decide (y ≤ p)) = (sts (cs.take p)).length := by
    rw [List.countP_eq_length]
    intro a ha
    have := sts_le ha
    rw [List.length_take] at this
    simp
    omega
  have c2 : (stF p (cs.drop p)).countP (fun y => decide (y ≤ p)) = 0 := by
    rw [List.countP_eq_zero]
    intro a ha
    have := (stF_ge _ _ _ ha).1
    simp
    omega
  have h1 : lineOf cs p = wL cs p := by
    unfold lineOf wL
    rw [hs, List.countP_append, c1, c2]
    omega
  refine ⟨h1, ?_⟩
  rw [h1]
  have hl : wL cs p < (sts (cs.take p)).length := by unfold wL; omega
  have h2 : stN cs (wL cs p) = (sts (cs.take p)).getD (wL cs p) 0 := by
    unfold stN
    rw [hs, List.getD_eq_getElem?_getD, List.getElem?_append_left hl, ← List.getD_eq_getElem?_getD]
  have h3 : (sts (cs.take p)).getD (wL cs p) 0 ≤ p := by
    have h4 : (sts (cs.take p)).getD (wL cs p) 0 ∈ sts (cs.take p) := by
      rw [List.getD_eq_getElem?_getD, List.getElem?_eq_getElem hl]
      exact List.getElem_mem hl
    have := sts_le h4
    rw [List.length_take] at this
    omega
  rw [h2]
  unfold wC
  omega

/-- the stretch of one class around a place -/
def wdF (C : Nat → Int) (c : Int) : Nat → Nat
  | 0 => 0
  | n + 1 => if C n = c then wdF C c n else n + 1
theorem wdF_le (C : Nat → Int) (c : Int) : ∀ n, wdF C c n ≤ n
  | 0 => Nat.le_refl _
  | n + 1 => by
    rw [wdF]
    have := wdF_le C c n
    split <;> omega
def wdT (C : Nat → Int) (c : Int) : Nat → Nat → Nat
  | 0, n => n
  | f + 1, n => if C n = c then wdT C c f (n + 1) else n
def clsV (r : Int) : Int := if r = 32 ∨ r = 9 ∨ r = 10 then 0 else if (97 ≤ r ∧ r ≤ 122) ∨ (65 ≤ r ∧ r ≤ 90) ∨ (48 ≤ r ∧ r ≤ 57) ∨ r = 95 ∨ 127 < r then 1 else 2
def clsA (cs : List (List UInt8)) (i : Nat) : Int := clsV ((rni cs).getD i 0)
def wordE (cs : List (List UInt8)) (i : Int) : Value := if 0 ≤ i ∧ i < (cs.length : Int) then .tuple #[.int .i64 (wdF (clsA cs) (clsA cs i.toNat) i.toNat : Int), .int .i64 (wdT (clsA cs) (clsA cs i.toNat) (cs.length - (i.toNat + 1)) (i.toNat + 1) : Int), .int .i64 0] else .tuple #[.int .i64 0, .int .i64 0, .int .i64 1]
theorem wdT_here {C : Nat → Int} {c : Int} {i N : Nat} (h : C i = c) (hi : i < N) : wdT C c (N - i) i = wdT C c (N - (i + 1)) (i + 1) := by
  obtain ⟨f, hf⟩ : ∃ f, N - i = f + 1 := ⟨N - i - 1, by omega⟩
  rw [hf, wdT, if_pos h, show N - (i + 1) = f by omega]
end Go.Proofs.YtdnbhomjfgpcfaaDoor
