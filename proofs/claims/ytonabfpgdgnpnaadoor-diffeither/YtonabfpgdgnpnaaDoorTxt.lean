/- Texts as lists of code points. -/
import Derived.Lib.ValidLaws
import Derived.Lib.TrimUEq
import Derived.Lib.RuneCount
namespace Go.Proofs.YtonabfpgdgnpnaaDoor
set_option linter.unusedVariables false
set_option linter.unusedSimpArgs false
open Go.Lib

/-- a code point is read alike whatever stands behind it -/
theorem decN_same {n n' b0 b1 b2 b3 c1 c2 c3 : Nat} (hg : ¬ ((decodeN n b0 b1 b2 b3).1 = 65533 ∧ (decodeN n b0 b1 b2 b3).2 = 1)) (hn : (decodeN n b0 b1 b2 b3).2 ≤ n')
    (h1 : 1 < (decodeN n b0 b1 b2 b3).2 → c1 = b1) (h2 : 2 < (decodeN n b0 b1 b2 b3).2 → c2 = b2) (h3 : 3 < (decodeN n b0 b1 b2 b3).2 → c3 = b3) : decodeN n' b0 c1 c2 c3 = decodeN n b0 b1 b2 b3 := by
  by_cases a0 : b0 < 128
  · simp [decodeN, a0]
  by_cases a1 : b0 / 32 = 6 ∧ (1 < n ∧ b1 / 64 = 2)
  · have e : decodeN n b0 b1 b2 b3 = (if b0 % 32 * 64 + b1 % 64 ≥ 128 then (b0 % 32 * 64 + b1 % 64, 2) else (65533, 1)) := by unfold decodeN; rw [if_neg a0, if_pos a1]
    rw [e] at hg hn h1 h2 h3 ⊢
    by_cases q : b0 % 32 * 64 + b1 % 64 ≥ 128
    · rw [if_pos q] at hn h1 h2 h3 ⊢
      simp only at hn h1
      have := h1 (by decide)
      subst this
      unfold decodeN
      rw [if_neg a0, if_pos ⟨a1.1, by omega, a1.2.2⟩, if_pos q]
    · rw [if_neg q] at hg; simp at hg
  by_cases a2 : b0 / 16 = 14 ∧ (1 < n ∧ b1 / 64 = 2) ∧ (2 < n ∧ b2 / 64 = 2)
  · have e : decodeN n b0 b1 b2 b3 = (if b0 % 16 * 4096 + b1 % 64 * 64 + b2 % 64 ≥ 2048 ∧ (b0 % 16 * 4096 + b1 % 64 * 64 + b2 % 64 < 55296 ∨ (57344 ≤ b0 % 16 * 4096 + b1 % 64 * 64 + b2 % 64 ∧ b0 % 16 * 4096 + b1 % 64 * 64 + b2 % 64 ≤ 1114111)) then (b0 % 16 * 4096 + b1 % 64 * 64 + b2 % 64, 3) else (65533, 1)) := by unfold decodeN; rw [if_neg a0, if_neg a1, if_pos a2]
    rw [e] at hg hn h1 h2 h3 ⊢
    by_cases q : b0 % 16 * 4096 + b1 % 64 * 64 + b2 % 64 ≥ 2048 ∧ (b0 % 16 * 4096 + b1 % 64 * 64 + b2 % 64 < 55296 ∨ (57344 ≤ b0 % 16 * 4096 + b1 % 64 * 64 + b2 % 64 ∧ b0 % 16 * 4096 + b1 % 64 * 64 + b2 % 64 ≤ 1114111))
    · rw [if_pos q] at hn h1 h2 h3 ⊢
      simp only at hn h1 h2
      have e1 := h1 (by decide)
      have e2 := h2 (by decide)
      subst e1 e2
      unfold decodeN
      rw [if_neg a0, if_neg (by omega), if_pos ⟨a2.1, ⟨by omega, a2.2.1.2⟩, by omega, a2.2.2.2⟩, if_pos q]
    · rw [if_neg q] at hg; simp at hg
  by_cases a3 : b0 / 8 = 30 ∧ (1 < n ∧ b1 / 64 = 2) ∧ (2 < n ∧ b2 / 64 = 2) ∧ (3 < n ∧ b3 / 64 = 2)
  · have e : decodeN n b0 b1 b2 b3 = (if b0 % 8 * 262144 + b1 % 64 * 4096 + b2 % 64 * 64 + b3 % 64 ≥ 65536 ∧ (b0 % 8 * 262144 + b1 % 64 * 4096 + b2 % 64 * 64 + b3 % 64 < 55296 ∨ (57344 ≤ b0 % 8 * 262144 + b1 % 64 * 4096 + b2 % 64 * 64 + b3 % 64 ∧ b0 % 8 * 262144 + b1 % 64 * 4096 + b2 % 64 * 64 + b3 % 64 ≤ 1114111)) then (b0 % 8 * 262144 + b1 % 64 * 4096 + b2 % 64 * 64 + b3 % 64, 4) else (65533, 1)) := by unfold decodeN; rw [if_neg a0, if_neg a1, if_neg a2, if_pos a3]
    rw [e] at hg hn h1 h2 h3 ⊢
    by_cases q : b0 % 8 * 262144 + b1 % 64 * 4096 + b2 % 64 * 64 + b3 % 64 ≥ 65536 ∧ (b0 % 8 * 262144 + b1 % 64 * 4096 + b2 % 64 * 64 + b3 % 64 < 55296 ∨ (57344 ≤ b0 % 8 * 262144 + b1 % 64 * 4096 + b2 % 64 * 64 + b3 % 64 ∧ b0 % 8 * 262144 + b1 % 64 * 4096 + b2 % 64 * 64 + b3 % 64 ≤ 1114111))
    · rw [if_pos q] at hn h1 h2 h3 ⊢
      simp only at hn h1 h2 h3
      have e1 := h1 (by decide)
      have e2 := h2 (by decide)
      have e3 := h3 (by decide)
      subst e1 e2 e3
      unfold decodeN
      rw [if_neg a0, if_neg (by omega), if_neg (by omega), if_pos ⟨a3.1, ⟨by omega, a3.2.1.2⟩, ⟨by omega, a3.2.2.1.2⟩, by omega, a3.2.2.2.2⟩, if_pos q]
    · rw [if_neg q] at hg; simp at hg
  · exfalso
    apply hg
    unfold decodeN
    rw [if_neg a0, if_neg a1, if_neg a2, if_neg a3]
    exact ⟨rfl, rfl⟩
theorem decN_width (n b0 b1 b2 b3 : Nat) (hn : 1 ≤ n) : 1 ≤ (decodeN n b0 b1 b2 b3).2 ∧ (decodeN n b0 b1 b2 b3).2 ≤ n := by
  unfold decodeN
  repeat' split
  all_goals simp <;> omega
/-- these bytes are one code point -/
structure Cp (c : List UInt8) : Prop where
  ne : c ≠ []
  ok : ¬ ((decodeL c).1 = 65533 ∧ (decodeL c).2 = 1)
  all : (decodeL c).2 = c.length
theorem dec_width (l : List UInt8) (h : l ≠ []) : 1 ≤ (decodeL l).2 ∧ (decodeL l).2 ≤ l.length := by
  rw [decodeL_N]
  exact decN_width _ _ _ _ _ (List.length_pos_iff.2 h)
theorem dec_same {l m : List UInt8} (hg : ¬ ((decodeL l).1 = 65533 ∧ (decodeL l).2 = 1)) (hne : l ≠ []) (hk : (decodeL l).2 ≤ m.length) (h : m.take (decodeL l).2 = l.take (decodeL l).2) : decodeL m = decodeL l := by
  have hw := dec_width l hne
  have get : ∀ i, i < (decodeL l).2 → m.getD i 0 = l.getD i 0 := by
    intro i hi
    have h1 : (m.take (decodeL l).2)[i]? = (l.take (decodeL l).2)[i]? := by rw [h]
    rw [List.getElem?_take_of_lt hi, List.getElem?_take_of_lt hi] at h1
    simp [List.getD_eq_getElem?_getD, h1]
  have e0 := get 0 (by omega)
  have eq := decodeL_N l
  rw [decodeL_N m, decodeL_N l, e0]
  exact decN_same (by rw [← eq]; exact hg) (by rw [← eq]; exact hk) (fun hi => by rw [get 1 (by rw [eq]; exact hi)]) (fun hi => by rw [get 2 (by rw [eq]; exact hi)]) (fun hi => by rw [get 3 (by rw [eq]; exact hi)])
theorem Cp.front {c : List UInt8} (h : Cp c) (m : List UInt8) : decodeL (c ++ m) = decodeL c := by
  refine dec_same h.ok h.ne ?_ ?_
  · rw [h.all, List.length_append]; omega
  · rw [h.all, List.take_left, List.take_of_length_le (Nat.le_refl _)]
theorem cp_take {l : List UInt8} (hne : l ≠ []) (hg : ¬ ((decodeL l).1 = 65533 ∧ (decodeL l).2 = 1)) : Cp (l.take (decodeL l).2) := by
  have hw := dec_width l hne
  have hlen : (l.take (decodeL l).2).length = (decodeL l).2 := by rw [List.length_take]; omega
  have e : decodeL (l.take (decodeL l).2) = decodeL l := dec_same hg hne (by rw [hlen]; exact Nat.le_refl _) (by rw [List.take_take, Nat.min_self])
  refine ⟨fun h => ?_, by rw [e]; exact hg, by rw [e, hlen]⟩
  rw [h] at hlen
  simp at hlen
  omega
/-- all are code points -/
def Cps (cs : List (List UInt8)) : Prop := ∀ c ∈ cs, Cp c
theorem Cps.nil : Cps [] := fun c h => by cases h
theorem Cps.cons {c : List UInt8} {cs : List (List UInt8)} (h : Cp c) (hs : Cps cs) : Cps (c :: cs) := fun d hd => by
  rcases List.mem_cons.1 hd with rfl | hd
  · exact h
  · exact hs d hd
theorem Cps.tail {c : List UInt8} {cs : List (List UInt8)} (h : Cps (c :: cs)) : Cps cs := fun d hd => h d (List.mem_cons_of_mem _ hd)
theorem Cps.head {c : List UInt8} {cs : List (List UInt8)} (h : Cps (c :: cs)) : Cp c := h c (List.mem_cons_self ..)
theorem Cps.append {cs ds : List (List UInt8)} (h : Cps cs) (k : Cps ds) : Cps (cs ++ ds) := fun d hd => (List.mem_append.1 hd).elim (h d) (k d)
theorem Cps.take {cs : List (List UInt8)} (h : Cps cs) (n : Nat) : Cps (cs.take n) := fun d hd => h d (List.mem_of_mem_take hd)
theorem Cps.drop {cs : List (List UInt8)} (h : Cps cs) (n : Nat) : Cps (cs.drop n) := fun d hd => h d (List.mem_of_mem_drop hd)
theorem flat_valid {cs : List (List UInt8)} (h : Cps cs) : validD cs.flatten = true := by
  induction cs with
  | nil => rfl
  | cons c cs ih =>
    have hc := h.head
    rw [List.flatten_cons, validD_step _ (by simp [hc.ne]), hc.front]
    rw [if_neg hc.ok, hc.all, List.drop_left]
    exact ih h.tail
theorem valid_flat : ∀ (k : Nat) (l : List UInt8), l.length ≤ k → validD l = true → ∃ cs, Cps cs ∧ l = cs.flatten
  | 0, l, hk, _ => by
    obtain rfl : l = [] := List.length_eq_zero_iff.1 (by omega)
    exact ⟨[], Cps.nil, rfl⟩
  | k + 1, l, hk, hv => by
    by_cases hne : l = []
    · subst hne; exact ⟨[], Cps.nil, rfl⟩
    rw [validD_step l hne] at hv
    split at hv
    · cases hv
    · rename_i hg
      have hw := dec_width l hne
      obtain ⟨cs, h1, h2⟩ := valid_flat k (l.drop (decodeL l).2) (by rw [List.length_drop]; omega) hv
      exact ⟨l.take (decodeL l).2 :: cs, Cps.cons (cp_take hne hg) h1, by rw [List.flatten_cons, ← h2, List.take_append_drop]⟩
theorem flat_inj : ∀ {cs ds : List (List UInt8)}, Cps cs → Cps ds → cs.flatten = ds.flatten → cs = ds
  | [], [], _, _, _ => rfl
  | [], d :: ds, _, hd, h => by
    have := hd.head.ne
    rw [List.flatten_nil, List.flatten_cons] at h
    exact absurd (List.append_eq_nil_iff.1 h.symm).1 this
  | c :: cs, [], hc, _, h => by
    have := hc.head.ne
    rw [List.flatten_nil, List.flatten_cons] at h
    exact absurd (List.append_eq_nil_iff.1 h).1 this
  | c :: cs, d :: ds, hc, hd, h => by
    rw [List.flatten_cons, List.flatten_cons] at h
    have e1 := hc.head.front cs.flatten
    have e2 := hd.head.front ds.flatten
    rw [h, e2] at e1
    have hl : c.length = d.length := by rw [← hc.head.all, ← hd.head.all, e1]
    obtain ⟨rfl, h2⟩ := List.append_inj h hl
    rw [flat_inj hc.tail hd.tail h2]
/-- a text is these code points -/
structure Tx (s : ByteArray) (cs : List (List UInt8)) : Prop where
  cps : Cps cs
  eq : s.data.toList = cs.flatten
theorem tx_of_valid {s : ByteArray} (h : validD s.data.toList = true) : ∃ cs, Tx s cs := by
  obtain ⟨cs, h1, h2⟩ := valid_flat _ s.data.toList (Nat.le_refl _) h
  exact ⟨cs, h1, h2⟩
theorem Tx.valid {s : ByteArray} {cs : List (List UInt8)} (h : Tx s cs) : validD s.data.toList = true := by
  rw [h.eq]; exact flat_valid h.cps
theorem Tx.inj {s : ByteArray} {cs ds : List (List UInt8)} (h : Tx s cs) (k : Tx s ds) : cs = ds := flat_inj h.cps k.cps (h.eq.symm.trans k.eq)
theorem Tx.size {s : ByteArray} {cs : List (List UInt8)} (h : Tx s cs) : s.size = cs.flatten.length := by
  rw [← h.eq]; exact size_eq s
theorem count_from (s : ByteArray) : ∀ (ds : List (List UInt8)) (fuel pos : Nat), Cps ds → s.data.toList.drop pos = ds.flatten → ds.flatten.length ≤ fuel → runeCountFrom s fuel pos = ds.length
  | [], fuel, pos, _, h, _ => by
    have hp : ¬ pos < s.size := by
      have := congrArg List.length h
      rw [List.length_drop, ← size_eq] at this
      simp at this
      omega
    rw [runeCountFrom_end s fuel pos hp]
    rfl
  | d :: ds, fuel, pos, hd, h, hf => by
    have hc := hd.head
    have hl := congrArg List.length h
    rw [List.length_drop, ← size_eq, List.flatten_cons, List.length_append] at hl
    rw [List.flatten_cons, List.length_append] at hf
    have hpos : 0 < d.length := List.length_pos_iff.2 hc.ne
    have hp : pos < s.size := by omega
    cases fuel with
    | zero => omega
    | succ fuel =>
      have hdec : (Utf8.decode s pos).2 = d.length := by rw [← decodeL_drop, h, List.flatten_cons, hc.front, hc.all]
      have hdrop : s.data.toList.drop (pos + d.length) = ds.flatten := by
        rw [← List.drop_drop, h, List.flatten_cons, List.drop_left]
      show (if pos < s.size then 1 + runeCountFrom s fuel (pos + (Utf8.decode s pos).2) else 0) = _
      rw [if_pos hp, hdec, count_from s ds fuel (pos + d.length) hd.tail hdrop (by omega), List.length_cons]
      omega
theorem Tx.count {s : ByteArray} {cs : List (List UInt8)} (h : Tx s cs) : runeCount s = cs.length :=
  count_from s cs s.size 0 h.cps (by rw [List.drop_zero]; exact h.eq) (by rw [h.size]; exact Nat.le_refl _)
/-- where the first n code points end -/
def placeOf (cs : List (List UInt8)) (n : Nat) : Nat := (cs.take n).flatten.length
theorem placeOf_zero (cs : List (List UInt8)) : placeOf cs 0 = 0 := by simp [placeOf]
theorem placeOf_le (cs : List (List UInt8)) (n : Nat) : placeOf cs n ≤ cs.flatten.length := by
  unfold placeOf
  have h : cs.flatten = (cs.take n).flatten ++ (cs.drop n).flatten := by rw [← List.flatten_append, List.take_append_drop]
  rw [h, List.length_append]
  omega
theorem drop_place {s : ByteArray} {cs : List (List UInt8)} (h : Tx s cs) (n : Nat) : s.data.toList.drop (placeOf cs n) = (cs.drop n).flatten := by
  have e : cs.flatten = (cs.take n).flatten ++ (cs.drop n).flatten := by rw [← List.flatten_append, List.take_append_drop]
  rw [h.eq, e]
  unfold placeOf
  rw [List.drop_left]
theorem take_place {s : ByteArray} {cs : List (List UInt8)} (h : Tx s cs) (n : Nat) : s.data.toList.take (placeOf cs n) = (cs.take n).flatten := by
  have e : cs.flatten = (cs.take n).flatten ++ (cs.drop n).flatten := by rw [← List.flatten_append, List.take_append_drop]
  rw [h.eq, e]
  unfold placeOf
  rw [List.take_left]
theorem placeOf_next {s : ByteArray} {cs : List (List UInt8)} (h : Tx s cs) {n : Nat} (hn : n < cs.length) : placeOf cs (n + 1) = placeOf cs n + (Utf8.decode s (placeOf cs n)).2 ∧ placeOf cs n < s.size := by
  obtain ⟨c, hc⟩ : ∃ c, cs[n]? = some c := ⟨_, List.getElem?_eq_getElem hn⟩
  have hd := drop_place h n
  have e : cs.drop n = c :: cs.drop (n + 1) := by
    rw [List.drop_eq_getElem_cons hn]
    rw [(List.getElem?_eq_some_iff.1 hc).2]
  have hcp := h.cps c (List.mem_of_getElem? hc)
  have hw : (Utf8.decode s (placeOf cs n)).2 = c.length := by rw [← decodeL_drop, hd, e, List.flatten_cons, hcp.front, hcp.all]
  constructor
  · rw [hw]
    unfold placeOf
    rw [List.take_add_one, hc, List.flatten_append, List.length_append]
    simp
  · have hl := congrArg List.length hd
    rw [List.length_drop, ← size_eq, e, List.flatten_cons, List.length_append] at hl
    have := List.length_pos_iff.2 hcp.ne
    omega
end Go.Proofs.YtonabfpgdgnpnaaDoor
