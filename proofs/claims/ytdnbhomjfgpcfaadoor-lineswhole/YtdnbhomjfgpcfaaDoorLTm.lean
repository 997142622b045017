/- Where lines begin and end: mathematics. -/
import Derived.Test.YtdnbhomjfgpcfaaDoorLWh
import Derived.Test.YtdnbhomjfgpcfaaDoorLLn
import Derived.Test.YtdnbhomjfgpcfaaDoorLMv
namespace Go.Proofs.YtdnbhomjfgpcfaaDoor
set_option linter.unusedVariables false
set_option linter.unusedSimpArgs false
open Go.ChangeShapes Go.WideShapes Go.ChangeAt Go.RowKit Go.Joins Go.Deep

def stN (cs : List (List UInt8)) (i : Nat) : Nat := (sts cs).getD i 0
theorem stN_get {cs : List (List UInt8)} {i : Nat} (h : i < (sts cs).length) : (sts cs)[i]? = some (stN cs i) := by
  unfold stN
  rw [List.getD_eq_getElem?_getD, List.getElem?_eq_getElem h]
  rfl
theorem stN_le {cs : List (List UInt8)} {i : Nat} (h : i < (sts cs).length) : stN cs i ≤ cs.length := sts_le (List.mem_of_getElem? (stN_get h))
theorem count_sorted : ∀ {l : List Nat}, l.Pairwise (· < ·) → ∀ (p j : Nat), j < l.length → (l.getD j 0 ≤ p ↔ j < l.countP (fun y => decide (y ≤ p)))
  | [], _, p, j, hj => by simp at hj
  | a :: l, h, p, j, hj => by
    rw [List.pairwise_cons] at h
    by_cases ha : a ≤ p
    · rw [List.countP_cons_of_pos (by simpa using ha)]
      cases j with
      | zero => simp [ha]
      | succ j =>
        have := count_sorted h.2 p j (by simpa using hj)
        simp only [List.getD_cons_succ]
        omega
    · rw [List.countP_cons_of_neg (by simpa using ha)]
      have hz : l.countP (fun y => decide (y ≤ p)) = 0 := by
        rw [List.countP_eq_zero]
        intro b hb
        have := h.1 b hb
        simp; omega
      rw [hz]
      cases j with
      | zero => simp [ha]
      | succ j =>
        simp only [List.getD_cons_succ]
        have hj2 : j < l.length := by simpa using hj
        have hm : l.getD j 0 ∈ l := by
          rw [List.getD_eq_getElem?_getD, List.getElem?_eq_getElem hj2]
          exact List.getElem_mem hj2
        have := h.1 _ hm
        omega
theorem line_of {cs : List (List UInt8)} {p : Nat} (hp : p ≤ cs.length) : lineOf cs p < (sts cs).length ∧ stN cs (lineOf cs p) ≤ p ∧ p ≤ endL cs (lineOf cs p) := by
  have h1 := line_pos cs p
  have h2 := line_lt cs p
  have h3 := (count_sorted (sts_sorted cs) p (lineOf cs p) h2).2 (by unfold lineOf; omega)
  refine ⟨h2, h3, ?_⟩
  unfold endL
  split
  · rename_i h4
    have h5 := count_sorted (sts_sorted cs) p (lineOf cs p + 1) h4
    have h6 : ¬ lineOf cs p + 1 < (sts cs).countP (fun y => decide (y ≤ p)) := by unfold lineOf; omega
    omega
  · exact hp
theorem stN_mono {cs : List (List UInt8)} {a b : Nat} (h : a < b) (hb : b < (sts cs).length) : stN cs a < stN cs b := by
  have h1 := List.pairwise_iff_getElem.1 (sts_sorted cs) a b (by omega) hb h
  have h2 := stN_get (cs := cs) (i := a) (by omega)
  have h3 := stN_get (cs := cs) (i := b) hb
  rw [List.getElem?_eq_getElem (by omega)] at h2
  rw [List.getElem?_eq_getElem hb] at h3
  rw [← Option.some.inj h2, ← Option.some.inj h3]
  exact h1
theorem st_next {cs : List (List UInt8)} {i : Nat} (h : i + 1 < (sts cs).length) : stN cs i + 1 ≤ stN cs (i + 1) := stN_mono (by omega) h
theorem line_end {cs : List (List UInt8)} {i : Nat} (hi : i < (sts cs).length) : lineOf cs (endL cs i) = i := by
  have h1 := line_pos cs (endL cs i)
  have h2 : stN cs i ≤ endL cs i := st_end cs hi
  have h3 := (count_sorted (sts_sorted cs) (endL cs i) i hi).1 h2
  have h4 : (sts cs).countP (fun y => decide (y ≤ endL cs i)) ≤ i + 1 := by
    by_cases c : i + 1 < (sts cs).length
    · have h5 := count_sorted (sts_sorted cs) (endL cs i) (i + 1) c
      have h6 := st_next c
      have h7 : endL cs i = stN cs (i + 1) - 1 := by unfold endL; rw [if_pos c]; rfl
      change stN cs (i + 1) ≤ endL cs i ↔ _ at h5
      omega
    · omega
  unfold lineOf
  omega
theorem where_at {cs : List (List UInt8)} {p : Nat} (hp : p ≤ cs.length) : whereE cs (p : Int) = .tuple #[.int .i64 (lineOf cs p : Int), .int .i64 ((p : Int) - (stN cs (lineOf cs p) : Int)), .int .i64 0] := by
  unfold whereE
  rw [if_pos (by omega), Int.toNat_natCast]
  rfl
theorem at_at {cs : List (List UInt8)} {i : Nat} {j : Int} (hi : i < (sts cs).length) (hj : 0 ≤ j) : atE cs (i : Int) j = .tuple #[.int .i64 ((stN cs i : Int) + min j ((endL cs i : Int) - (stN cs i : Int))), .int .i64 0] := by
  unfold atE
  rw [if_pos (by omega), Int.toNat_natCast]
  rfl
theorem line_at {cs : List (List UInt8)} {i : Nat} (hi : i < (sts cs).length) : lineE cs (i : Int) = .tuple #[.string (tb (sub cs (stN cs i) (endL cs i))), .int .i64 0] := by
  unfold lineE
  rw [if_pos (by omega), Int.toNat_natCast]
  rfl
end Go.Proofs.YtdnbhomjfgpcfaaDoor
