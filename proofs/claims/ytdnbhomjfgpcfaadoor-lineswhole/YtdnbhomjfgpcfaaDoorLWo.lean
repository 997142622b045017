/- All lines, with a 10 between each two, are the text. -/
import Derived.Test.YtdnbhomjfgpcfaaDoorLA
import Derived.Lib.Join
namespace Go.Proofs.YtdnbhomjfgpcfaaDoor
set_option linter.unusedVariables false
set_option linter.unusedSimpArgs false
open Go.ChangeShapes Go.WideShapes Go.ChangeAt Go.RowKit Go.Joins Go.Deep

theorem stF_iff : ∀ (cs : List (List UInt8)) (i n : Nat), n ∈ stF i cs ↔ ∃ j c, cs[j]? = some c ∧ rn c = 10 ∧ n = i + j + 1
  | [], i, n => by simp [stF]
  | c :: q, i, n => by
    have ih := stF_iff q (i + 1) n
    rw [stF]
    constructor
    · intro h
      split at h
      · rename_i h10
        rcases List.mem_cons.1 h with rfl | h
        · exact ⟨0, c, rfl, h10, rfl⟩
        · obtain ⟨j, d, h1, h2, h3⟩ := ih.1 h
          exact ⟨j + 1, d, by simpa using h1, h2, by omega⟩
      · obtain ⟨j, d, h1, h2, h3⟩ := ih.1 h
        exact ⟨j + 1, d, by simpa using h1, h2, by omega⟩
    · rintro ⟨j, d, h1, h2, h3⟩
      cases j with
      | zero =>
        obtain rfl : c = d := by simpa using h1
        rw [if_pos h2]
        exact List.mem_cons.2 (.inl (by omega))
      | succ j =>
        have h4 : n ∈ stF (i + 1) q := ih.2 ⟨j, d, by simpa using h1, h2, by omega⟩
        split
        · exact List.mem_cons.2 (.inr h4)
        · exact h4
theorem stN_ten {cs : List (List UInt8)} {i : Nat} (h : i + 1 < (sts cs).length) : 1 ≤ stN cs (i + 1) ∧ ∃ c, cs[stN cs (i + 1) - 1]? = some c ∧ rn c = 10 := by
  have hm : stN cs (i + 1) ∈ stF 0 cs := by
    have h1 := stN_get h
    simp only [sts, List.getElem?_cons_succ] at h1
    exact List.mem_of_getElem? h1
  obtain ⟨j, c, h1, h2, h3⟩ := (stF_iff cs 0 _).1 hm
  exact ⟨by omega, c, by rw [show stN cs (i + 1) - 1 = j by omega]; exact h1, h2⟩
theorem no_ten {cs : List (List UInt8)} {i j : Nat} {c : List UInt8} (hi : i < (sts cs).length) (h1 : stN cs i ≤ j) (h2 : j < endL cs i) (hc : cs[j]? = some c) : rn c ≠ 10 := by
  intro h
  have hm : j + 1 ∈ sts cs := List.mem_cons.2 (.inr ((stF_iff cs 0 _).2 ⟨j, c, hc, h, by omega⟩))
  obtain ⟨m, hm2⟩ := List.getElem?_of_mem hm
  have hml := (List.getElem?_eq_some_iff.1 hm2).1
  rw [stN_get hml] at hm2
  have hm3 : stN cs m = j + 1 := by simpa using hm2
  by_cases c1 : m ≤ i
  · rcases Nat.lt_or_eq_of_le c1 with c2 | c2
    · have := stN_mono c2 hi
      omega
    · subst c2
      omega
  · have h5 : i + 1 < (sts cs).length := by omega
    have h6 : endL cs i = stN cs (i + 1) - 1 := by unfold endL; rw [if_pos h5]; rfl
    rcases Nat.lt_or_eq_of_le (show i + 1 ≤ m by omega) with c2 | c2
    · have := stN_mono c2 hml
      omega
    · rw [c2] at h6
      omega
theorem no_ten_bytes {cs : List (List UInt8)} {i : Nat} (hcs : Cps cs) (hi : i < (sts cs).length) : (10 : UInt8) ∉ (sub cs (stN cs i) (endL cs i)).flatten := by
  intro h
  rw [List.mem_flatten] at h
  obtain ⟨c, hc, hb⟩ := h
  obtain ⟨k, hk⟩ := List.getElem?_of_mem hc
  have hkl := (List.getElem?_eq_some_iff.1 hk).1
  unfold sub at hk hkl
  rw [List.length_take] at hkl
  rw [List.getElem?_take, if_pos (by omega), List.getElem?_drop] at hk
  have hcp : Cp c := hcs c (List.mem_of_getElem? hk)
  have h2 := (hcp.low hb (by decide)).2
  exact no_ten hi (by omega) (show stN cs i + k < endL cs i by omega) hk h2
def lnB (cs : List (List UInt8)) (i : Nat) : List UInt8 := (sub cs (stN cs i) (endL cs i)).flatten
theorem join_snoc (l : List (List UInt8)) (x sep : List UInt8) (h : l ≠ []) : Lib.join (l ++ [x]) sep = Lib.join l sep ++ (sep ++ x) := by
  match l with
  | [] => exact absurd rfl h
  | a :: q =>
    rw [List.cons_append, Lib.join_cons, Lib.join_cons]
    simp [Lib.joinTail]
theorem stN_zero (cs : List (List UInt8)) : stN cs 0 = 0 := rfl
theorem lines_join {cs : List (List UInt8)} (hcs : Cps cs) : ∀ k, k < (sts cs).length → Lib.join ((List.range (k + 1)).map (lnB cs)) [10] = (cs.take (endL cs k)).flatten
  | 0, h => by
    rw [show List.range (0 + 1) = [0] from rfl, List.map_cons, List.map_nil, Lib.join_one]
    unfold lnB sub
    rw [stN_zero, List.drop_zero, Nat.sub_zero]
  | k + 1, h => by
    rw [List.range_succ, List.map_append, List.map_cons, List.map_nil, join_snoc _ _ _ (by simp), lines_join hcs k (by omega)]
    obtain ⟨h1, c, hc, h10⟩ := stN_ten h
    have he : endL cs k = stN cs (k + 1) - 1 := by unfold endL; rw [if_pos h]; rfl
    have hle : stN cs (k + 1) ≤ endL cs (k + 1) := st_end cs h
    obtain ⟨b, hb, hbn⟩ := (hcs c (List.mem_of_getElem? hc)).rn_low (by omega)
    have hb10 : b = 10 := by
      apply UInt8.toNat_inj.1
      rw [hbn, h10]
      rfl
    subst hb10
    have e1 : cs.take (endL cs (k + 1)) = cs.take (endL cs k) ++ (([[10]] : List (List UInt8)) ++ sub cs (stN cs (k + 1)) (endL cs (k + 1))) := by
      rw [he]
      unfold sub
      have e2 : cs.take (endL cs (k + 1)) = cs.take (stN cs (k + 1)) ++ (cs.drop (stN cs (k + 1))).take (endL cs (k + 1) - stN cs (k + 1)) := by
        rw [← List.take_add]
        congr 1
        omega
      have e3 : cs.take (stN cs (k + 1)) = cs.take (stN cs (k + 1) - 1) ++ [[10]] := by
        have e4 : stN cs (k + 1) = stN cs (k + 1) - 1 + 1 := by omega
        conv => lhs; rw [e4]
        rw [List.take_add_one, hc, hb]
        rfl
      rw [e2]
      conv => lhs; rw [e3]
      rw [List.append_assoc]
    rw [e1, List.flatten_append, List.flatten_append]
    unfold lnB
    simp
theorem last_end (cs : List (List UInt8)) : endL cs ((sts cs).length - 1) = cs.length := by
  unfold endL
  rw [if_neg (by have := sts_pos cs; omega)]
theorem lines_all {cs : List (List UInt8)} (hcs : Cps cs) : Lib.join ((List.range (sts cs).length).map (lnB cs)) [10] = cs.flatten := by
  have h := lines_join hcs ((sts cs).length - 1) (by have := sts_pos cs; omega)
  rw [show (sts cs).length - 1 + 1 = (sts cs).length by have := sts_pos cs; omega, last_end, List.take_length] at h
  exact h
theorem index_none' {l : List UInt8} {c : UInt8} (h : c ∉ l) : Lib.indexByte l c = -1 := by
  induction l with
  | nil => rfl
  | cons b q ih =>
    rw [List.mem_cons] at h
    have h1 : ¬ b = c := fun e => h (.inl e.symm)
    have h2 := ih (fun e => h (.inr e))
    simp [Lib.indexByte, h1, h2]
end Go.Proofs.YtdnbhomjfgpcfaaDoor
