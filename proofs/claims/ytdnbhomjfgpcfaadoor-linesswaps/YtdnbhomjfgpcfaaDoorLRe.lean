/- strings.ReplaceAll does what Swap's edit does. -/
import Derived.Test.YtdnbhomjfgpcfaaDoorLB
import Derived.Test.YtdnbhomjfgpcfaaDoorLA
import Derived.Lib.Replace
import Derived.Lib.IndexMore
namespace Go.Proofs.YtdnbhomjfgpcfaaDoor
set_option linter.unusedVariables false
set_option linter.unusedSimpArgs false
open Go.ChangeShapes Go.WideShapes Go.ChangeAt Go.RowKit Go.Joins Go.Deep

theorem rn_inj2 {c d : List UInt8} (hc : Cp c) (hd : Cp d) (h : rn c = rn d) : c = d := by
  have e1 := enc_cp hc
  have e2 := enc_cp hd
  unfold rn at h
  rw [h, e2] at e1
  have := congrArg (fun b : ByteArray => b.data.toList) e1
  simpa using this.symm
theorem cp_pre {c d m n : List UInt8} (hc : Cp c) (hd : Cp d) (h : c ++ m = d ++ n) : c = d ∧ m = n := by
  have e1 := hc.front m
  have e2 := hd.front n
  rw [h, e2] at e1
  have hl : c.length = d.length := by rw [← hc.all, ← hd.all, e1]
  exact List.append_inj h hl
theorem pre_flat : ∀ {cp cs : List (List UInt8)}, Cps cp → Cps cs → cp.flatten <+: cs.flatten → cp <+: cs
  | [], _, _, _, _ => List.nil_prefix
  | d :: cp, [], hp, _, h => by
    have h1 := h.length_le
    have h2 := List.length_pos_iff.2 hp.head.ne
    simp at h1
    exact absurd h1.1 hp.head.ne
  | d :: cp, c :: cs, hp, hc, h => by
    obtain ⟨t, ht⟩ := h
    rw [List.flatten_cons, List.flatten_cons, List.append_assoc] at ht
    obtain ⟨rfl, h2⟩ := cp_pre hp.head hc.head ht
    have := pre_flat hp.tail hc.tail ⟨t, h2⟩
    exact List.cons_prefix_cons.2 ⟨rfl, this⟩
theorem flat_pre {cp cs : List (List UInt8)} (h : cp <+: cs) : cp.flatten <+: cs.flatten := by
  obtain ⟨t, rfl⟩ := h
  rw [List.flatten_append]
  exact List.prefix_append _ _
theorem at_bound : ∀ {cs cp : List (List UInt8)} {j : Nat}, Cps cs → Cps cp → cp ≠ [] → cp.flatten <+: cs.flatten.drop j → ∃ i, i ≤ cs.length ∧ j = ((cs.take i).flatten).length ∧ cp <+: cs.drop i
  | [], cp, j, _, hp, hne, h => by
    exfalso
    cases cp with
    | nil => exact hne rfl
    | cons d cp =>
      have h1 := h.length_le
      simp at h1
      exact hp.head.ne h1.1
  | c :: cs, cp, j, hc, hp, hne, h => by
    by_cases h0 : j = 0
    · subst h0
      exact ⟨0, by simp, by simp, pre_flat hp hc h⟩
    by_cases h1 : j < c.length
    · exfalso
      cases cp with
      | nil => exact hne rfl
      | cons d cp =>
        rw [List.flatten_cons, List.flatten_cons, List.drop_append_of_le_length (by omega)] at h
        obtain ⟨b, l, hbl⟩ : ∃ b l, d = b :: l := by
          cases hd : d with
          | nil => exact absurd hd hp.head.ne
          | cons b l => exact ⟨b, l, rfl⟩
        have hj : c.drop j = c[j] :: c.drop (j + 1) := List.drop_eq_getElem_cons h1
        rw [hbl, hj, List.cons_append, List.cons_append] at h
        have e := (List.cons_prefix_cons.1 h).1
        rcases hc.head.bytes with ⟨b1, e1, _, _⟩ | ⟨b1, l1, e1, _, _, hl, _⟩
        · rw [e1] at h1
          simp at h1
          omega
        · have hm : c[j] ∈ l1 := by
            have h2 : c[j]? = some c[j] := List.getElem?_eq_getElem h1
            obtain ⟨j', rfl⟩ : ∃ j', j = j' + 1 := ⟨j - 1, by omega⟩
            have h3 : l1[j']? = some c[j' + 1] := by
              rw [← h2]
              conv => rhs; rw [e1]
              simp
            exact List.mem_of_getElem? h3
          have hcont := hl _ hm
          rw [← e] at hcont
          rcases hp.head.bytes with ⟨b2, e2, h2, _⟩ | ⟨b2, l2, e2, h2, _, _, _⟩
          · rw [hbl] at e2
            injection e2 with e3 _
            rw [← e3] at h2
            omega
          · rw [hbl] at e2
            injection e2 with e3 _
            rw [← e3] at h2
            omega
    · rw [List.flatten_cons, List.drop_append, List.drop_of_length_le (by omega), List.nil_append] at h
      obtain ⟨i, hi, hj, hpre⟩ := at_bound hc.tail hp hne h
      exact ⟨i + 1, by simp; omega, by rw [List.take_succ_cons, List.flatten_cons, List.length_append, ← hj]; omega, by rw [List.drop_succ_cons]; exact hpre⟩
theorem rni_pre : ∀ {cp ds : List (List UInt8)}, Cps cp → Cps ds → (rni cp <+: rni ds → cp <+: ds)
  | [], _, _, _, _ => List.nil_prefix
  | d :: cp, [], hp, _, h => by
    have := h.length_le
    simp [rni] at this
  | d :: cp, c :: ds, hp, hc, h => by
    have h2 : ((rn d : Int) :: rni cp) <+: ((rn c : Int) :: rni ds) := h
    obtain ⟨e, h3⟩ := List.cons_prefix_cons.1 h2
    obtain rfl := rn_inj2 hp.head hc.head (by omega)
    exact List.cons_prefix_cons.2 ⟨rfl, rni_pre hp.tail hc.tail h3⟩
theorem pre_rni {cp ds : List (List UInt8)} (h : cp <+: ds) : rni cp <+: rni ds := by
  obtain ⟨t, rfl⟩ := h
  unfold rni
  rw [List.map_append]
  exact List.prefix_append _ _
theorem rni_drop (cs : List (List UInt8)) (i : Nat) : (rni cs).drop i = rni (cs.drop i) := by unfold rni; rw [List.map_drop]
theorem app_rep_k2 (X : List At) : ∀ (i : Nat) (cs : List (List UInt8)), i ≤ cs.length → At.app (List.replicate i .k ++ X) cs = cs.take i ++ At.app X (cs.drop i)
  | 0, cs, _ => by simp
  | i + 1, [], h => by simp at h
  | i + 1, c :: cs, h => by
    rw [List.replicate_succ, List.cons_append]
    simp only [At.app]
    rw [app_rep_k2 X i cs (by simpa using h)]
    rfl
theorem app_rep_d2 (X : List At) : ∀ (i : Nat) (cs : List (List UInt8)), i ≤ cs.length → At.app (List.replicate i .d ++ X) cs = At.app X (cs.drop i)
  | 0, cs, _ => by simp
  | i + 1, [], h => by simp at h
  | i + 1, c :: cs, h => by
    rw [List.replicate_succ, List.cons_append]
    simp only [At.app]
    rw [app_rep_d2 X i cs (by simpa using h)]
    rfl
theorem app_map_p (X : List At) (ws cs : List (List UInt8)) : At.app (ws.map .p ++ X) cs = ws ++ At.app X cs := by
  induction ws with
  | nil => rfl
  | cons c ws ih => rw [List.map_cons, List.cons_append]; simp only [At.app]; rw [ih]; rfl
theorem rep_swap {cp cw : List (List UInt8)} (hp : Cps cp) (hne : cp ≠ []) : ∀ (n : Nat) (cs : List (List UInt8)), cs.length ≤ n → Cps cs → (At.app (swA (rni cp) cw (rni cs)) cs).flatten = Lib.replaceK cp.flatten cw.flatten (Lib.count cs.flatten cp.flatten) cs.flatten := by
  have hP : 0 < (rni cp).length := by rw [rni_len]; exact List.length_pos_iff.2 hne
  have hold : cp.flatten ≠ [] := by
    cases cp with
    | nil => exact absurd rfl hne
    | cons d cp => rw [List.flatten_cons]; intro h; exact hp.head.ne (List.append_eq_nil_iff.1 h).1
  intro n
  induction n with
  | zero =>
    intro cs hl hc
    have : cs = [] := List.length_eq_zero_iff.1 (by omega)
    subst this
    have h0 : Lib.index ([] : List UInt8) cp.flatten = -1 := by
      rcases Lib.index_spec [] cp.flatten with ⟨h, _⟩ | ⟨i, _, hi, ho, _⟩
      · exact h
      · exfalso
        unfold Lib.occAt at ho
        exact hold (List.prefix_nil.1 (by simpa using List.isPrefixOf_iff_prefix.1 ho))
    have e : At.app (swA (rni cp) cw (rni [])) [] = [] := by
      rw [show rni ([] : List (List UInt8)) = [] from rfl, swA_nil]
      simp [At.app]
    rw [e, List.flatten_nil, Lib.count_miss h0]
    rfl
  | succ n ih =>
    intro cs hl hc
    rcases Lib.index_spec cs.flatten cp.flatten with ⟨hi, hno⟩ | ⟨j, hi, hjl, ho, hbefore⟩
    · have hmiss : ∀ i, 0 ≤ i → i < 0 + cs.length → ¬ rni cp <+: (rni cs).drop i := fun i _ hi2 h => by
        rw [rni_drop] at h
        have h2 := flat_pre (rni_pre hp (hc.drop i) h)
        have h3 := hno ((cs.take i).flatten).length (by
          have := congrArg List.length (show (cs.take i).flatten ++ (cs.drop i).flatten = cs.flatten by rw [← List.flatten_append, List.take_append_drop])
          rw [List.length_append] at this
          omega)
        unfold Lib.occAt at h3
        rw [show cs.flatten.drop ((cs.take i).flatten).length = (cs.drop i).flatten by
          conv => lhs; rw [show cs.flatten = (cs.take i).flatten ++ (cs.drop i).flatten by rw [← List.flatten_append, List.take_append_drop]]
          rw [List.drop_left]] at h3
        rw [List.isPrefixOf_iff_prefix.2 h2] at h3
        cases h3
      have hs := swA_skip (ws := cw) hP (A := 0) cs.length (by rw [rni_len]; omega) hmiss
      rw [List.drop_zero, Nat.zero_add, List.drop_of_length_le (by rw [rni_len]; exact Nat.le_refl _), swA_nil] at hs
      rw [hs, app_rep_k2 [] cs.length cs (Nat.le_refl _), List.take_length, List.drop_length, Lib.count_miss hi]
      simp [At.app, Lib.replaceK]
    · have hpre := List.isPrefixOf_iff_prefix.1 ho
      obtain ⟨i, hil, hj, hcp⟩ := at_bound hc hp hne hpre
      obtain ⟨t, ht⟩ := hcp
      have hcs : cs = cs.take i ++ (cp ++ t) := by rw [ht, List.take_append_drop]
      have hmiss : ∀ k, 0 ≤ k → k < 0 + i → ¬ rni cp <+: (rni cs).drop k := fun k _ hk h => by
        rw [rni_drop] at h
        have h2 := flat_pre (rni_pre hp (hc.drop k) h)
        have e1 : cs.flatten = (cs.take k).flatten ++ (cs.drop k).flatten := by rw [← List.flatten_append, List.take_append_drop]
        have hlt : ((cs.take k).flatten).length < j := by
          rw [hj]
          have e2 : cs.take i = cs.take k ++ (cs.drop k).take (i - k) := by
            rw [← List.take_add]
            congr 1
            omega
          rw [e2, List.flatten_append, List.length_append]
          obtain ⟨d, r, hdr⟩ : ∃ d r, (cs.drop k).take (i - k) = d :: r := by
            cases hq : (cs.drop k).take (i - k) with
            | nil =>
              exfalso
              have := congrArg List.length hq
              rw [List.length_take, List.length_drop] at this
              simp at this
              omega
            | cons d r => exact ⟨d, r, rfl⟩
          have hd : Cp d := hc d (List.mem_of_mem_drop (List.mem_of_mem_take (hdr ▸ List.mem_cons_self ..)))
          have := List.length_pos_iff.2 hd.ne
          rw [hdr, List.flatten_cons, List.length_append]
          omega
        have h3 := hbefore _ hlt
        unfold Lib.occAt at h3
        rw [e1, List.drop_left, List.isPrefixOf_iff_prefix.2 h2] at h3
        cases h3
      have hs := swA_skip (ws := cw) hP (A := 0) i (by rw [rni_len]; omega) hmiss
      rw [List.drop_zero, Nat.zero_add] at hs
      have hhit : rni cp <+: (rni cs).drop i := by rw [rni_drop, ← ht]; exact pre_rni (List.prefix_append _ _)
      rw [swA_hit hP hhit, rni_drop, ← ht, rni_drop] at hs
      have hdt : (cp ++ t).drop (rni cp).length = t := by rw [rni_len, List.drop_left]
      rw [hdt] at hs
      have htl : t.length ≤ n := by
        have h1 := congrArg List.length ht
        rw [List.length_append, List.length_drop] at h1
        have h2 := List.length_pos_iff.2 hne
        omega
      have htc : Cps t := fun c hc2 => hc c (List.mem_of_mem_drop (ht ▸ List.mem_append_right _ hc2))
      have ihh := ih t htl htc
      rw [hs, app_rep_k2 _ i cs hil, ← ht, app_map_p, app_rep_d2 _ _ _ (by rw [rni_len, List.length_append]; omega), rni_len, List.drop_left, List.flatten_append, List.flatten_append, ihh]
      rw [Lib.count_hit hold hi, Nat.add_comm 1, Lib.replaceK_hit _ _ _ _ _ hi]
      have e1 : cs.flatten = (cs.take i).flatten ++ (cp.flatten ++ t.flatten) := by
        conv => lhs; rw [hcs]
        rw [List.flatten_append, List.flatten_append]
      have e2 : cs.flatten.take j = (cs.take i).flatten := by rw [e1, hj, List.take_left]
      have e3 : cs.flatten.drop (j + cp.flatten.length) = t.flatten := by
        rw [e1, hj, ← List.drop_drop, List.drop_left, List.drop_left]
      rw [e2, e3, List.append_assoc]
theorem replaceK_same {o : List UInt8} : ∀ (k : Nat) (s : List UInt8), Lib.replaceK o o k s = s
  | 0, s => rfl
  | k + 1, s => by
    rcases Lib.index_spec s o with ⟨hi, _⟩ | ⟨j, hi, hjl, ho, _⟩
    · rw [Lib.replaceK, if_pos (by rw [hi]; rfl)]
    · rw [Lib.replaceK_hit _ _ _ _ _ hi, replaceK_same k]
      obtain ⟨t, ht⟩ := List.isPrefixOf_iff_prefix.1 ho
      rw [← List.drop_drop, ← ht, List.drop_left, List.append_assoc, ht, List.take_append_drop]
theorem swap_all {s p v : ByteArray} {cs cp cw : List (List UInt8)} (hs : Tx s cs) (hp : Tx p cp) (hv : Tx v cw) (hne : cp ≠ []) : (⟨(Lib.replaceAll s.data.toList p.data.toList v.data.toList).toArray⟩ : ByteArray) = tb (At.app (swA (rni cp) cw (rni cs)) cs) := by
  have h := rep_swap (cw := cw) hp.cps hne cs.length cs (Nat.le_refl _) hs.cps
  unfold tb
  rw [h, hs.eq, hp.eq, hv.eq]
  unfold Lib.replaceAll Lib.replace
  by_cases e : cp.flatten = cw.flatten
  · rw [if_pos (by simp [e]), ← e, replaceK_same]
  · rw [if_neg (by simp [e])]
    unfold Lib.replaceNum
    rw [if_pos (.inl (by omega))]
end Go.Proofs.YtdnbhomjfgpcfaaDoor
