/- An edit that changes nothing is nothing to others: the walk. -/
import Derived.Test.YtidblnjohkadhaaDoorDia0
namespace Go.Proofs.YtidblnjohkadhaaDoor
set_option linter.unusedVariables false
set_option linter.unusedSimpArgs false
open Go.ChangeShapes Go.WideShapes Go.ChangeAt Go.RowKit Go.Joins Go.Deep

set_option maxRecDepth 100000 in
set_option maxHeartbeats 4000000 in
theorem nothing_law (e : Option Addr) (le : List Pt) (ce : Nat) (w : World) (hT : UT w) (ee : Edit w e le ce) : Calls Tryd.prog 17 #[.slice e le.length ce] w fun r w' => r = .returned (.bool true) ∧ Below w.heap.size w w' := by
  have HU : Hid (∀ W, Below w.heap.size w W → UT W) := hide (fun W h => hT.call h)
  have HB0 := hide (Below.refl w.heap.size w)
  have Ee : Hid (∀ W, Below w.heap.size w W → Edit W e le ce) := hide (fun W h => ee.call h)
  have Te := hide (⟨ee.txt, ee.cap, ee.max, ee.num⟩ : _ ∧ _ ∧ _ ∧ _)
  have hbL : Below w.heap.size w (w.alloc (.cells #[.slice e le.length ce] 22)) := (Below.refl _ _).alloc (Nat.le_refl _) _
  have HLT := hide (light_any w.heap.size [⟨e, le, ce⟩] (w.alloc (.cells #[.slice e le.length ce] 22)) (RowAt.new w 22 _) (by
    intro e he
    simp only [List.mem_cons, List.not_mem_nil, or_false] at he
    rcases he with rfl
    · exact (ee.call hbL).pts
    ) (by
    intro e he
    simp only [List.mem_cons, List.not_mem_nil, or_false] at he
    rcases he with rfl
    · exact Nat.le_trans ee.cap ee.max
    ) (by simp))
  have HBL := hide hbL
  obtain ⟨ne, hne⟩ : ∃ z, le.length = z := ⟨_, rfl⟩
  simp only [hne] at HLT HBL ⊢
  have Ne := hide hne
  clear hT hbL ee hne
  go_enter Tryd.func17, Tryd.ntmps17
  go_wp2_with fail
  refine Calls.mono (unhide HLT) ?_
  rintro r w1 ⟨⟨lb_, rfl, hlb⟩, hb1⟩
  have HB1 := hide ((unhide HBL).trans (hb1.mono (unhide HBL).size))
  have HLB := hide hlb
  clear hb1 HLT hlb HBL
  cases lb_ with
  | false =>
    go_wp2_with fail
    refine Calls.mono (awake_any _ (unhide HU _ (unhide HB1))) ?_
    rintro r wa ⟨rfl, hba⟩
    have HBa := hide ((unhide HB1).trans (hba.mono (unhide HB1).size))
    clear hba
    go_wp2_with fail
    go_ret
    exact ⟨rfl, unhide HBa⟩
  | true =>
    have qe : Hid (ne ≤ 200) := hide (by have h := (unhide HLB rfl).1 ⟨e, le, ce⟩ (by simp); rw [← unhide Ne]; exact h)
    have HWS := hide (unhide HLB rfl).2
    clear HLB
    go_wp2_with fail
    refine Calls.mono (size_at (w := w1) (unhide HU _ (unhide HB1)) (unhide Ee _ (unhide HB1)) (unhide Ne) (Below.refl w1.heap.size w1)) ?_
    rintro r w2 ⟨rfl, hb_⟩
    have HB2 := hide ((unhide HB1).trans (hb_.mono (unhide HB1).size))
    clear hb_
    cases hsz : sizeL le with
    | none =>
      have e_ : szVal le = .tuple #[.int .i64 0, .int .i64 0, .int .i64 30] := by unfold szVal; rw [hsz]
      rw [e_]
      clear e_ hsz
      go_wp2_with fail
      refine Calls.mono (awake_any _ (unhide HU _ (unhide HB2))) ?_
      rintro r wa ⟨rfl, hba⟩
      have HBa := hide ((unhide HB2).trans (hba.mono (unhide HB2).size))
      clear hba
      go_wp2_with fail
      go_ret
      exact ⟨rfl, unhide HBa⟩
    | some x =>
      obtain ⟨ff, tt, kk⟩ := x
      obtain ⟨hEe, hff, htt⟩ := size_ed hsz
      have e_ : szVal le = .tuple #[.int .i64 ((ff.toNat : Nat) : Int), .int .i64 ((tt.toNat : Nat) : Int), .int .i64 0] := by unfold szVal; rw [hsz, hff, htt]
      rw [e_]
      clear e_ hsz hff htt
      obtain ⟨F, hF⟩ : ∃ z, ff.toNat = z := ⟨_, rfl⟩
      obtain ⟨T, hT'⟩ : ∃ z, tt.toNat = z := ⟨_, rfl⟩
      rw [hF, hT'] at hEe ⊢
      have D := hide hEe
      have hFl := hEe.2.2.2.1
      have hTl := hEe.2.2.2.2
      clear hEe hF hT' ff tt kk
      go_wp2_with fail
      refine Calls.mono (edsame_at (w := w2) (unhide HU _ (unhide HB2)) hFl (Below.refl w2.heap.size w2)) ?_
      rintro r w3 ⟨⟨v, rfl, ov⟩, hb_⟩
      have HB3 := hide ((unhide HB2).trans (hb_.mono (unhide HB2).size))
      clear hb_
      have SF := hide (same_ed hFl)
      obtain ⟨ls, hls⟩ : ∃ z, repL (F : Int) 0 0 ByteArray.empty = z := ⟨_, rfl⟩
      rw [hls] at ov SF
      clear hls
      obtain ⟨s, cs, hvs, hEs⟩ := ov.edit (ed_txt (unhide SF).1) (by have := (unhide SF).2.2; omega)
      subst hvs
      have Os3 := hide hEs
      obtain ⟨ns, hns⟩ : ∃ z, ls.length = z := ⟨_, rfl⟩
      rw [hns]
      have Ns := hide hns
      clear hEs hns ov
      go_wp2_with fail
      refine Calls.mono (edsame_at (w := w3) (unhide HU _ (unhide HB3)) hTl (Below.refl w3.heap.size w3)) ?_
      rintro r w4 ⟨⟨v, rfl, ov⟩, hb_⟩
      have HB4 := hide ((unhide HB3).trans (hb_.mono (unhide HB3).size))
      have Os4 := hide ((unhide Os3).call hb_)
      clear Os3
      clear hb_
      have ST := hide (same_ed hTl)
      obtain ⟨lt, hlt⟩ : ∃ z, repL (T : Int) 0 0 ByteArray.empty = z := ⟨_, rfl⟩
      rw [hlt] at ov ST
      clear hlt
      obtain ⟨t, ct, hvt, hEt⟩ := ov.edit (ed_txt (unhide ST).1) (by have := (unhide ST).2.2; omega)
      subst hvt
      have Ot4 := hide hEt
      obtain ⟨nt, hnt⟩ : ∃ z, lt.length = z := ⟨_, rfl⟩
      rw [hnt]
      have Nt := hide hnt
      clear hEt hnt ov
      go_wp2_with fail
      refine Calls.mono (compose_at (w := w4) (unhide HU _ (unhide HB4)) (unhide Os4) (unhide Ee _ (unhide HB4)) (unhide Ns) (unhide Ne) (by have h1 := unhide qe; have h2 := (unhide SF).2.2; have h3 := (unhide ST).2.2; have h4 := unhide Ns; have h5 := unhide Nt; omega) (Below.refl w4.heap.size w4)) ?_
      rintro r w5 ⟨⟨h_, _⟩, hb_⟩
      have HB5 := hide ((unhide HB4).trans (hb_.mono (unhide HB4).size))
      have Os5 := hide ((unhide Os4).call hb_)
      clear Os4
      have Ot5 := hide ((unhide Ot4).call hb_)
      clear Ot4
      clear hb_
      rcases h_ with ⟨h_, _⟩ | ⟨_, v, lx, rfl, ov, nf_, at_, ln_⟩
      · rw [ed_comB (unhide SF).1 (unhide D)] at h_; cases h_
      have hle : lx = le := by
        refine nf_unique _ _ _ _ nf_ (unhide D).1 ?_
        rw [at_, (unhide SF).2.1, At.comp_same F _ (unhide D).2.1, nf_can (unhide D).1]
      have LX := hide hle
      have hdx : IsEd lx F T := by rw [hle]; exact unhide D
      have hlx : lx.length ≤ 4398046511104 := by rw [hle, unhide Ne]; have := unhide qe; omega
      obtain ⟨x, cx, hvx, hEx⟩ := ov.edit (ed_txt hdx) (hlx)
      subst hvx
      have Ox5 := hide hEx
      obtain ⟨nx, hnx⟩ : ∃ z, lx.length = z := ⟨_, rfl⟩
      rw [hnx]
      have Nx := hide hnx
      clear hEx hnx ov
      clear nf_ at_ ln_ hle hdx hlx
      go_wp2_with fail
      refine Calls.mono (compose_at (w := w5) (unhide HU _ (unhide HB5)) (unhide Ee _ (unhide HB5)) (unhide Ot5) (unhide Ne) (unhide Nt) (by have h1 := unhide qe; have h2 := (unhide SF).2.2; have h3 := (unhide ST).2.2; have h4 := unhide Ns; have h5 := unhide Nt; omega) (Below.refl w5.heap.size w5)) ?_
      rintro r w6 ⟨⟨h_, _⟩, hb_⟩
      have HB6 := hide ((unhide HB5).trans (hb_.mono (unhide HB5).size))
      have Os6 := hide ((unhide Os5).call hb_)
      clear Os5
      have Ot6 := hide ((unhide Ot5).call hb_)
      clear Ot5
      have Ox6 := hide ((unhide Ox5).call hb_)
      clear Ox5
      clear hb_
      rcases h_ with ⟨h_, _⟩ | ⟨_, v, ly, rfl, ov, nf_, at_, ln_⟩
      · rw [ed_comB (unhide D) (unhide ST).1] at h_; cases h_
      have hle : ly = le := by
        refine nf_unique _ _ _ _ nf_ (unhide D).1 ?_
        have hc := At.comp_end (atomsL le)
        rw [(unhide D).2.2.1] at hc
        rw [at_, (unhide ST).2.1, hc, nf_can (unhide D).1]
      have LY := hide hle
      have hdx : IsEd ly F T := by rw [hle]; exact unhide D
      have hlx : ly.length ≤ 4398046511104 := by rw [hle, unhide Ne]; have := unhide qe; omega
      obtain ⟨y, cy, hvy, hEy⟩ := ov.edit (ed_txt hdx) (hlx)
      subst hvy
      have Oy6 := hide hEy
      obtain ⟨ny, hny⟩ : ∃ z, ly.length = z := ⟨_, rfl⟩
      rw [hny]
      have Ny := hide hny
      clear hEy hny ov
      clear nf_ at_ ln_ hle hdx hlx
      go_wp2_with fail
      refine Calls.mono (transform_at (w := w6) (unhide HU _ (unhide HB6)) (unhide Ee _ (unhide HB6)) (unhide Os6) (unhide Ne) (unhide Ns) (by have h1 := unhide qe; have h2 := (unhide SF).2.2; have h3 := (unhide ST).2.2; have h4 := unhide Ns; have h5 := unhide Nt; omega) (Below.refl w6.heap.size w6)) ?_
      rintro r w7 ⟨h_, hb_⟩
      have HB7 := hide ((unhide HB6).trans (hb_.mono (unhide HB6).size))
      have Os7 := hide ((unhide Os6).call hb_)
      clear Os6
      have Ot7 := hide ((unhide Ot6).call hb_)
      clear Ot6
      have Ox7 := hide ((unhide Ox6).call hb_)
      clear Ox6
      have Oy7 := hide ((unhide Oy6).call hb_)
      clear Oy6
      clear hb_
      obtain ⟨lu, lv, n1, n2, e1, e2, m1, m2, f1, f2, t12, h_⟩ := tra_ok h_ (unhide D) (unhide SF).1
      have a1 := At.one_same (atomsL le)
      have a2 := At.two_same (atomsL le)
      rw [(unhide D).2.1] at a1 a2
      rw [(unhide D).2.2.1] at a2
      rw [(unhide SF).2.1, a1, nf_can (unhide D).1] at e1
      rw [(unhide SF).2.1, a2] at e2
      have hu : lu = le := nf_unique _ _ _ _ n1 (unhide D).1 e1
      have hv : lv = lt := by
        refine nf_unique _ _ _ _ n2 (unhide ST).1.1 ?_
        rw [e2, (unhide ST).2.1]
        exact nf_rep T
      rcases h_ with ⟨h_, _⟩ | ⟨d1, d2, v1, v2, rfl, o1, o2⟩
      · rw [hu, (unhide D).2.2.1] at h_; omega
      have LU := hide hu
      have LV := hide hv
      have hl1 : lu.length ≤ 4398046511104 := by rw [hu, unhide Ne]; have := unhide qe; omega
      have hl2 : lv.length ≤ 4398046511104 := by rw [hv]; have := (unhide ST).2.2; have := unhide Nt; omega
      obtain ⟨u, cu, hvu, hEu⟩ := o1.edit (ed_txt d1) (hl1)
      subst hvu
      have Ou7 := hide hEu
      obtain ⟨nu, hnu⟩ : ∃ z, lu.length = z := ⟨_, rfl⟩
      rw [hnu]
      have Nu := hide hnu
      clear hEu hnu o1
      obtain ⟨v_, cv_, hvv_, hEv_⟩ := o2.edit (ed_txt d2) (hl2)
      subst hvv_
      have Ov_7 := hide hEv_
      obtain ⟨nv_, hnv_⟩ : ∃ z, lv.length = z := ⟨_, rfl⟩
      rw [hnv_]
      have Nv_ := hide hnv_
      clear hEv_ hnv_ o2
      clear n1 n2 e1 e2 m1 m2 f1 f2 t12 a1 a2 hu hv d1 d2 hl1 hl2
      go_wp2_with fail
      refine Calls.mono (rsame_at (w := w7) (unhide Ox7) (unhide Ee _ (unhide HB7)) (unhide LX) (unhide Nx) (unhide Ne) (Below.refl w7.heap.size w7)) ?_
      rintro r w8 ⟨rfl, hb_⟩
      have HB8 := hide ((unhide HB7).trans (hb_.mono (unhide HB7).size))
      have Os8 := hide ((unhide Os7).call hb_)
      clear Os7
      have Ot8 := hide ((unhide Ot7).call hb_)
      clear Ot7
      have Ox8 := hide ((unhide Ox7).call hb_)
      clear Ox7
      have Oy8 := hide ((unhide Oy7).call hb_)
      clear Oy7
      have Ou8 := hide ((unhide Ou7).call hb_)
      clear Ou7
      have Ov_8 := hide ((unhide Ov_7).call hb_)
      clear Ov_7
      clear hb_
      go_wp2_with fail
      refine Calls.mono (rsame_at (w := w8) (unhide Oy8) (unhide Ee _ (unhide HB8)) (unhide LY) (unhide Ny) (unhide Ne) (Below.refl w8.heap.size w8)) ?_
      rintro r w9 ⟨rfl, hb_⟩
      have HB9 := hide ((unhide HB8).trans (hb_.mono (unhide HB8).size))
      have Os9 := hide ((unhide Os8).call hb_)
      clear Os8
      have Ot9 := hide ((unhide Ot8).call hb_)
      clear Ot8
      have Ox9 := hide ((unhide Ox8).call hb_)
      clear Ox8
      have Oy9 := hide ((unhide Oy8).call hb_)
      clear Oy8
      have Ou9 := hide ((unhide Ou8).call hb_)
      clear Ou8
      have Ov_9 := hide ((unhide Ov_8).call hb_)
      clear Ov_8
      clear hb_
      go_wp2_with fail
      refine Calls.mono (rsame_at (w := w9) (unhide Ou9) (unhide Ee _ (unhide HB9)) (unhide LU) (unhide Nu) (unhide Ne) (Below.refl w9.heap.size w9)) ?_
      rintro r w10 ⟨rfl, hb_⟩
      have HB10 := hide ((unhide HB9).trans (hb_.mono (unhide HB9).size))
      have Os10 := hide ((unhide Os9).call hb_)
      clear Os9
      have Ot10 := hide ((unhide Ot9).call hb_)
      clear Ot9
      have Ox10 := hide ((unhide Ox9).call hb_)
      clear Ox9
      have Oy10 := hide ((unhide Oy9).call hb_)
      clear Oy9
      have Ou10 := hide ((unhide Ou9).call hb_)
      clear Ou9
      have Ov_10 := hide ((unhide Ov_9).call hb_)
      clear Ov_9
      clear hb_
      go_wp2_with fail
      refine Calls.mono (rsame_at (w := w10) (unhide Ov_10) (unhide Ot10) (unhide LV) (unhide Nv_) (unhide Nt) (Below.refl w10.heap.size w10)) ?_
      rintro r w11 ⟨rfl, hb_⟩
      have HB11 := hide ((unhide HB10).trans (hb_.mono (unhide HB10).size))
      have Os11 := hide ((unhide Os10).call hb_)
      clear Os10
      have Ot11 := hide ((unhide Ot10).call hb_)
      clear Ot10
      have Ox11 := hide ((unhide Ox10).call hb_)
      clear Ox10
      have Oy11 := hide ((unhide Oy10).call hb_)
      clear Oy10
      have Ou11 := hide ((unhide Ou10).call hb_)
      clear Ou10
      have Ov_11 := hide ((unhide Ov_10).call hb_)
      clear Ov_10
      clear hb_
      go_wp2_with fail
      refine Calls.mono (awake_any _ (unhide HU _ (unhide HB11))) ?_
      rintro r wa ⟨rfl, hba⟩
      have HBa := hide ((unhide HB11).trans (hba.mono (unhide HB11).size))
      clear hba
      go_wp2_with fail
      go_ret
      exact ⟨rfl, unhide HBa⟩
end Go.Proofs.YtidblnjohkadhaaDoor
