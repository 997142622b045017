/- The two ways around are one edit: the walk. -/
import Derived.Test.YtidblnjohkadhaaDoorFrm0
import Derived.Test.YtidblnjohkadhaaDoorNar
namespace Go.Proofs.YtidblnjohkadhaaDoor
set_option linter.unusedVariables false
set_option linter.unusedSimpArgs false
open Go.ChangeShapes Go.WideShapes Go.ChangeAt Go.RowKit Go.Joins Go.Deep

theorem traB_ed {la lb : List Pt} (h : traB la lb = true) : ∃ n ta tb, IsEd la n ta ∧ IsEd lb n tb := by
  unfold traB at h
  cases ha : sizeL la with
  | none => rw [ha] at h; cases h
  | some x =>
    obtain ⟨f, t, k⟩ := x
    rw [ha] at h
    simp only [decide_eq_true_eq] at h
    unfold checkE at h
    cases hb : sizeL lb with
    | none => rw [hb] at h; simp at h
    | some y =>
      obtain ⟨f2, t2, k2⟩ := y
      rw [hb] at h
      simp only at h
      have hf : f2 = f := by
        by_cases hh : f2 = f
        · exact hh
        · rw [if_neg hh] at h; omega
      subst hf
      exact ⟨_, _, _, (size_ed ha).1, (size_ed hb).1⟩
theorem comB_ed {la lb : List Pt} (h : comB la lb = true) : ∃ n m t, IsEd la n m ∧ IsEd lb m t := by
  unfold comB at h
  cases ha : sizeL la with
  | none => rw [ha] at h; cases h
  | some x =>
    obtain ⟨f, t, k⟩ := x
    rw [ha] at h
    simp only [decide_eq_true_eq] at h
    unfold checkE at h
    cases hb : sizeL lb with
    | none => rw [hb] at h; simp at h
    | some y =>
      obtain ⟨f2, t2, k2⟩ := y
      rw [hb] at h
      simp only at h
      have hf : f2 = t := by
        by_cases hh : f2 = t
        · exact hh
        · rw [if_neg hh] at h; omega
      subst hf
      exact ⟨_, _, _, (size_ed ha).1, (size_ed hb).1⟩
theorem ed_uniq {l : List Pt} {f t f2 t2 : Nat} (h : IsEd l f t) (k : IsEd l f2 t2) : f = f2 ∧ t = t2 := ⟨h.2.1.symm.trans k.2.1, h.2.2.1.symm.trans k.2.2.1⟩
set_option maxRecDepth 100000 in
set_option maxHeartbeats 4000000 in
theorem square_law (a : Option Addr) (la : List Pt) (ca : Nat) (b : Option Addr) (lb : List Pt) (cb : Nat) (w : World) (hT : UT w) (ea : Edit w a la ca) (eb : Edit w b lb cb) : Calls Tryd.prog 12 #[.slice a la.length ca, .slice b lb.length cb] w fun r w' => r = .returned (.bool true) ∧ Below w.heap.size w w' := by
  have HU : Hid (∀ W, Below w.heap.size w W → UT W) := hide (fun W h => hT.call h)
  have HB0 := hide (Below.refl w.heap.size w)
  have Ea : Hid (∀ W, Below w.heap.size w W → Edit W a la ca) := hide (fun W h => ea.call h)
  have Ta := hide (⟨ea.txt, ea.cap, ea.max, ea.num⟩ : _ ∧ _ ∧ _ ∧ _)
  have Eb : Hid (∀ W, Below w.heap.size w W → Edit W b lb cb) := hide (fun W h => eb.call h)
  have Tb := hide (⟨eb.txt, eb.cap, eb.max, eb.num⟩ : _ ∧ _ ∧ _ ∧ _)
  have hbL : Below w.heap.size w (w.alloc (.cells #[.slice a la.length ca, .slice b lb.length cb] 22)) := (Below.refl _ _).alloc (Nat.le_refl _) _
  have HLT := hide (narrow_any w.heap.size [⟨a, la, ca⟩, ⟨b, lb, cb⟩] (w.alloc (.cells #[.slice a la.length ca, .slice b lb.length cb] 22)) (RowAt.new w 22 _) (by
    intro e he
    simp only [List.mem_cons, List.not_mem_nil, or_false] at he
    rcases he with rfl | rfl
    · exact (ea.call hbL).pts
    · exact (eb.call hbL).pts
    ) (by
    intro e he
    simp only [List.mem_cons, List.not_mem_nil, or_false] at he
    rcases he with rfl | rfl
    · exact Nat.le_trans ea.cap ea.max
    · exact Nat.le_trans eb.cap eb.max
    ) (by
    intro e he
    simp only [List.mem_cons, List.not_mem_nil, or_false] at he
    rcases he with rfl | rfl
    · exact ea.txt2
    · exact eb.txt2
    ) (by simp))
  have HBL := hide hbL
  obtain ⟨na, hna⟩ : ∃ z, la.length = z := ⟨_, rfl⟩
  obtain ⟨nb, hnb⟩ : ∃ z, lb.length = z := ⟨_, rfl⟩
  simp only [hna, hnb] at HLT HBL ⊢
  have Na := hide hna
  have Nb := hide hnb
  clear hT hbL ea hna eb hnb
  go_enter Tryd.func12, Tryd.ntmps12
  go_wp2_with fail
  refine Calls.mono (unhide HLT) ?_
  rintro r w1 ⟨⟨lb_, rfl, hlb⟩, hb1⟩
  have HB1 := hide ((unhide HBL).trans (hb1.mono (unhide HBL).size))
  have HLB := hide hlb
  clear hb1 HLT hlb HBL
  cases lb_ with
  | false =>
    go_wp2_with fail
    refine Calls.mono (awake_any _ (unhide HU _ (unhide HB1))) ?_
    rintro r wa ⟨rfl, hba⟩
    have HBa := hide ((unhide HB1).trans (hba.mono (unhide HB1).size))
    clear hba
    go_wp2_with fail
    go_ret
    exact ⟨rfl, unhide HBa⟩
  | true =>
    have qa : Hid (na ≤ 200) := hide (by have h := (unhide HLB rfl).1 ⟨a, la, ca⟩ (by simp); rw [← unhide Na]; exact h)
    have qb : Hid (nb ≤ 200) := hide (by have h := (unhide HLB rfl).1 ⟨b, lb, cb⟩ (by simp); rw [← unhide Nb]; exact h)
    have HWS := hide (unhide HLB rfl).2
    clear HLB
    go_wp2_with fail
    refine Calls.mono (transform_at (w := w1) (unhide HU _ (unhide HB1)) (unhide Ea _ (unhide HB1)) (unhide Eb _ (unhide HB1)) (unhide Na) (unhide Nb) (by have h1 := unhide qa; have h2 := unhide qb; omega) (Below.refl w1.heap.size w1)) ?_
    rintro r w2 ⟨h_, hb_⟩
    have HB2 := hide ((unhide HB1).trans (hb_.mono (unhide HB1).size))
    clear hb_
    cases ht : traB la lb with
    | false =>
      rcases h_ with ⟨⟨_, rfl⟩ | ⟨h_, _⟩, _⟩
      · clear ht
        go_wp2_with fail
        refine Calls.mono (awake_any _ (unhide HU _ (unhide HB2))) ?_
        rintro r wa ⟨rfl, hba⟩
        have HBa := hide ((unhide HB2).trans (hba.mono (unhide HB2).size))
        clear hba
        go_wp2_with fail
        go_ret
        exact ⟨rfl, unhide HBa⟩
      · rw [ht] at h_; cases h_
    | true =>
      obtain ⟨nn, ta, tb, hEa, hEb⟩ := traB_ed ht
      have Da := hide hEa
      have Db := hide hEb
      obtain ⟨lu, lv, n1, n2, e1, e2, m1, m2, f1, f2, t12, h_⟩ := tra_ok h_ hEa hEb
      have HLU : Hid (lu.length ≤ 803 ∧ lv.length ≤ 803) := hide (by have h1 := unhide qa; have h2 := unhide qb; have h3 := unhide Na; have h4 := unhide Nb; omega)
      have E_1 := hide e1
      have E_2 := hide e2
      obtain ⟨TT, hTT⟩ : ∃ z, At.toN (atomsL lu) = z := ⟨_, rfl⟩
      rw [hTT] at h_
      clear n1 n2 e1 e2 m1 m2 f1 f2 t12 hTT ht hEa hEb
      rcases h_ with ⟨_, rfl⟩ | ⟨d1, d2, v1, v2, rfl, o1, o2⟩
      · skip
        go_wp2_with fail
        refine Calls.mono (awake_any _ (unhide HU _ (unhide HB2))) ?_
        rintro r wa ⟨rfl, hba⟩
        have HBa := hide ((unhide HB2).trans (hba.mono (unhide HB2).size))
        clear hba
        go_wp2_with fail
        go_ret
        exact ⟨rfl, unhide HBa⟩
      obtain ⟨u, cu, hvu, hEu⟩ := o1.edit (ed_txt d1) (by have := (unhide HLU).1; omega)
      subst hvu
      have Ou2 := hide hEu
      obtain ⟨nu, hnu⟩ : ∃ z, lu.length = z := ⟨_, rfl⟩
      rw [hnu]
      have Nu := hide hnu
      clear hEu hnu o1
      obtain ⟨v_, cv_, hvv_, hEv_⟩ := o2.edit (ed_txt d2) (by have := (unhide HLU).2; omega)
      subst hvv_
      have Ov_2 := hide hEv_
      obtain ⟨nv_, hnv_⟩ : ∃ z, lv.length = z := ⟨_, rfl⟩
      rw [hnv_]
      have Nv_ := hide hnv_
      clear hEv_ hnv_ o2
      have Du := hide d1
      have Dv := hide d2
      clear d1 d2
      go_wp2_with fail
      refine Calls.mono (compose_at (w := w2) (unhide HU _ (unhide HB2)) (unhide Ea _ (unhide HB2)) (unhide Ov_2) (unhide Na) (unhide Nv_) (by have h1 := unhide qa; have h2 := unhide HLU; have h3 := unhide Nv_; omega) (Below.refl w2.heap.size w2)) ?_
      rintro r w3 ⟨⟨h_, _⟩, hb_⟩
      have HB3 := hide ((unhide HB2).trans (hb_.mono (unhide HB2).size))
      have Ou3 := hide ((unhide Ou2).call hb_)
      clear Ou2
      have Ov_3 := hide ((unhide Ov_2).call hb_)
      clear Ov_2
      clear hb_
      rcases h_ with ⟨h_, _⟩ | ⟨_, v, lx, rfl, ov, nf_, at_, ln_⟩
      · rw [ed_comB (unhide Da) (unhide Dv)] at h_; cases h_
      have hEc := ed_comp (unhide Da) (unhide Dv) nf_ at_
      have hlc : lx.length ≤ 3000 := by have h1 := unhide qa; have h2 := unhide HLU; have h3 := unhide Na; have h4 := unhide Nv_; omega
      obtain ⟨x, cx, hvx, hEx⟩ := ov.edit (ed_txt hEc) (by omega)
      subst hvx
      have Ox3 := hide hEx
      obtain ⟨nx, hnx⟩ : ∃ z, lx.length = z := ⟨_, rfl⟩
      rw [hnx]
      have Nx := hide hnx
      clear hEx hnx ov
      have Dx := hide hEc
      have Ax := hide at_
      have Fx := hide nf_
      clear nf_ at_ ln_ hEc hlc
      go_wp2_with fail
      refine Calls.mono (compose_at (w := w3) (unhide HU _ (unhide HB3)) (unhide Eb _ (unhide HB3)) (unhide Ou3) (unhide Nb) (unhide Nu) (by have h1 := unhide qb; have h2 := unhide HLU; have h3 := unhide Nu; omega) (Below.refl w3.heap.size w3)) ?_
      rintro r w4 ⟨⟨h_, _⟩, hb_⟩
      have HB4 := hide ((unhide HB3).trans (hb_.mono (unhide HB3).size))
      have Ou4 := hide ((unhide Ou3).call hb_)
      clear Ou3
      have Ov_4 := hide ((unhide Ov_3).call hb_)
      clear Ov_3
      have Ox4 := hide ((unhide Ox3).call hb_)
      clear Ox3
      clear hb_
      rcases h_ with ⟨h_, _⟩ | ⟨_, v, ly, rfl, ov, nf_, at_, ln_⟩
      · rw [ed_comB (unhide Db) (unhide Du)] at h_; cases h_
      have hEc := ed_comp (unhide Db) (unhide Du) nf_ at_
      have hlc : ly.length ≤ 3000 := by have h1 := unhide qb; have h2 := unhide HLU; have h3 := unhide Nb; have h4 := unhide Nu; omega
      obtain ⟨y, cy, hvy, hEy⟩ := ov.edit (ed_txt hEc) (by omega)
      subst hvy
      have Oy4 := hide hEy
      obtain ⟨ny, hny⟩ : ∃ z, ly.length = z := ⟨_, rfl⟩
      rw [hny]
      have Ny := hide hny
      clear hEy hny ov
      have Dy := hide hEc
      have Ay := hide at_
      have Fy := hide nf_
      clear nf_ at_ ln_ hEc hlc
      have hll : lx = ly := by
        refine nf_unique _ _ _ _ (unhide Fx) (unhide Fy) ?_
        rw [unhide Ax, unhide Ay, unhide E_1, unhide E_2, At.can_comp_right, At.can_comp_right]
        exact At.can_of_sw (At.square _ _ (by rw [(unhide Da).2.1, (unhide Db).2.1]))
      have LL := hide hll
      clear hll
      go_wp2_with fail
      refine Calls.mono (rsame_at (w := w4) (unhide Ox4) (unhide Oy4) (unhide LL) (unhide Nx) (unhide Ny) (Below.refl w4.heap.size w4)) ?_
      rintro r w5 ⟨rfl, hb_⟩
      have HB5 := hide ((unhide HB4).trans (hb_.mono (unhide HB4).size))
      have Ou5 := hide ((unhide Ou4).call hb_)
      clear Ou4
      have Ov_5 := hide ((unhide Ov_4).call hb_)
      clear Ov_4
      have Ox5 := hide ((unhide Ox4).call hb_)
      clear Ox4
      have Oy5 := hide ((unhide Oy4).call hb_)
      clear Oy4
      clear hb_
      go_wp2_with fail
      refine Calls.mono (awake_any _ (unhide HU _ (unhide HB5))) ?_
      rintro r wa ⟨rfl, hba⟩
      have HBa := hide ((unhide HB5).trans (hba.mono (unhide HB5).size))
      clear hba
      go_wp2_with fail
      go_ret
      exact ⟨rfl, unhide HBa⟩
end Go.Proofs.YtidblnjohkadhaaDoor
