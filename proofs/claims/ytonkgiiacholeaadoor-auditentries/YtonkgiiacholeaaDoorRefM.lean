/- What the reference's mix reckons, over lists of numbers. -/
import Derived.Test.YtonkgiiacholeaaDoorRefO
namespace Go.Proofs.YtonkgiiacholeaaDoor
set_option linter.unusedVariables false
set_option linter.unusedSimpArgs false
open Go.ChangeShapes Go.WideShapes Go.ChangeAt Go.RowKit Go.Joins

/-- a word behind k of its bytes -/
def shr (b : List Nat) (i : Nat) : Nat → Nat
  | 0 => 0
  | k + 1 => shr b i k / 256 + b.getD (4 * i + k) 0 * 16777216
theorem shr_lt {b : List Nat} (h : U8 b) (i : Nat) : ∀ k, shr b i k < 4294967296
  | 0 => by rw [shr]; omega
  | k + 1 => by
    have := shr_lt h i k
    have := h.getD (4 * i + k)
    rw [shr]
    omega
theorem shr_4 {b : List Nat} (h : U8 b) (i : Nat) : shr b i 4 = word4 b i := by
  have h0 := h.getD (4 * i)
  have h1 := h.getD (4 * i + 1)
  have h2 := h.getD (4 * i + 2)
  have h3 := h.getD (4 * i + 3)
  simp only [shr, word4, Nat.add_zero]
  omega

def rowsR : List (List Nat) := [[0, 4, 8, 12], [1, 5, 9, 13], [2, 6, 10, 14], [3, 7, 11, 15], [0, 5, 10, 15], [1, 6, 11, 12], [2, 7, 8, 13], [3, 4, 9, 14]]
def rowR (i : Nat) : List Nat := rowsR.getD i []
/-- the eight stirs of a round, i of them -/
def eightL (m o : List Nat) : Nat → List Nat → List Nat
  | 0, l => l
  | i + 1, l => stirL (eightL m o i l) ((rowR i).getD 0 0) ((rowR i).getD 1 0) ((rowR i).getD 2 0) ((rowR i).getD 3 0) (m.getD (o.getD (2 * i) 0) 0) (m.getD (o.getD (2 * i + 1) 0) 0)
theorem eightL_8 (m o l : List Nat) : eightL m o 8 l = across m o 4 (downs m o 4 l) := rfl
theorem eightL_len (m o l : List Nat) : ∀ i, (eightL m o i l).length = l.length
  | 0 => rfl
  | i + 1 => by rw [eightL, stirL_len, eightL_len]
theorem eightL_32 {l : List Nat} (m o : List Nat) (h : W32 l) : ∀ i, W32 (eightL m o i l)
  | 0 => h
  | i + 1 => stirL_32 (eightL_32 m o h i) _ _ _ _ _ _
theorem rowR_ok (i : Nat) (hi : i < 8) : (rowR i).length = 4 ∧ (rowR i).getD 0 0 < 16 ∧ (rowR i).getD 1 0 < 16 ∧ (rowR i).getD 2 0 < 16 ∧ (rowR i).getD 3 0 < 16 ∧
    ¬ (rowR i).getD 0 0 = (rowR i).getD 1 0 ∧ ¬ (rowR i).getD 0 0 = (rowR i).getD 2 0 ∧ ¬ (rowR i).getD 0 0 = (rowR i).getD 3 0 ∧
    ¬ (rowR i).getD 1 0 = (rowR i).getD 2 0 ∧ ¬ (rowR i).getD 1 0 = (rowR i).getD 3 0 ∧ ¬ (rowR i).getD 2 0 = (rowR i).getD 3 0 := by
  have h : ∀ i : Fin 8, (rowR i.1).length = 4 ∧ (rowR i.1).getD 0 0 < 16 ∧ (rowR i.1).getD 1 0 < 16 ∧ (rowR i.1).getD 2 0 < 16 ∧ (rowR i.1).getD 3 0 < 16 ∧
    ¬ (rowR i.1).getD 0 0 = (rowR i.1).getD 1 0 ∧ ¬ (rowR i.1).getD 0 0 = (rowR i.1).getD 2 0 ∧ ¬ (rowR i.1).getD 0 0 = (rowR i.1).getD 3 0 ∧
    ¬ (rowR i.1).getD 1 0 = (rowR i.1).getD 2 0 ∧ ¬ (rowR i.1).getD 1 0 = (rowR i.1).getD 3 0 ∧ ¬ (rowR i.1).getD 2 0 = (rowR i.1).getD 3 0 := by decide
  exact h ⟨i, hi⟩
theorem mixL_succ (m l : List Nat) (k : Nat) : mixL m (k + 1) l = eightL m (ord k) 8 (mixL m k l) := rfl

/-- m behind k whole words and j bytes of the next -/
def mPart (b : List Nat) (k j : Nat) : List Nat := wordsOf b k ++ shr b k j :: List.replicate (15 - k) 0
theorem mPart_len (b : List Nat) (k j : Nat) (hk : k < 16) : (mPart b k j).length = 16 := by simp [mPart, wordsOf_len]; omega
theorem mPart_get (b : List Nat) (k j : Nat) : (mPart b k j).getD k 0 = shr b k j := by
  simp [mPart, List.getD_eq_getElem?_getD, wordsOf_len]
theorem mPart_set (b : List Nat) (k j : Nat) : (mPart b k j).set k (shr b k (j + 1)) = mPart b k (j + 1) := by
  rw [mPart, List.set_append_right _ _ (by rw [wordsOf_len]; omega), wordsOf_len, Nat.sub_self]
  rfl
theorem mPart_next {b : List Nat} (h : U8 b) (k : Nat) (hk : k < 15) : mPart b k 4 = mPart b (k + 1) 0 := by
  rw [mPart, mPart, shr_4 h, wordsOf_succ, List.append_assoc, show 15 - k = (15 - (k + 1)) + 1 by omega, List.replicate_succ]
  rfl
theorem mPart_last {b : List Nat} (h : U8 b) : mPart b 15 4 = wordsOf b 16 := by
  rw [mPart, shr_4 h, wordsOf_succ]
  rfl

def mAt (b : List Nat) (k : Nat) : List Nat := wordsOf b k ++ List.replicate (16 - k) 0
theorem mAt_part (b : List Nat) (k : Nat) (hk : k < 16) : mAt b k = mPart b k 0 := by
  rw [mAt, mPart, show 16 - k = (15 - k) + 1 by omega, List.replicate_succ]
  rfl
theorem mAt_succ {b : List Nat} (h : U8 b) (k : Nat) (hk : k < 16) : mPart b k 4 = mAt b (k + 1) := by
  rw [mPart, mAt, shr_4 h, wordsOf_succ, List.append_assoc, show 16 - (k + 1) = 15 - k by omega]
  rfl
theorem mAt_0 (b : List Nat) : mAt b 0 = List.replicate 16 0 := rfl
theorem mAt_16 (b : List Nat) : mAt b 16 = wordsOf b 16 := by simp [mAt]

end Go.Proofs.YtonkgiiacholeaaDoor
