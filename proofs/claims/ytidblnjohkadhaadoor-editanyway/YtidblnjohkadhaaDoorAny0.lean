/- Composition of three goes together in any way: the walk. -/
import Derived.Test.YtidblnjohkadhaaDoorSqu0
namespace Go.Proofs.YtidblnjohkadhaaDoor
set_option linter.unusedVariables false
set_option linter.unusedSimpArgs false
open Go.ChangeShapes Go.WideShapes Go.ChangeAt Go.RowKit Go.Joins Go.Deep

set_option maxRecDepth 100000 in
set_option maxHeartbeats 4000000 in
theorem anyway_law (a : Option Addr) (la : List Pt) (ca : Nat) (b : Option Addr) (lb : List Pt) (cb : Nat) (c : Option Addr) (lc : List Pt) (cc : Nat) (w : World) (hT : UT w) (ea : Edit w a la ca) (eb : Edit w b lb cb) (ec : Edit w c lc cc) : Calls Tryd.prog 14 #[.slice a la.length ca, .slice b lb.length cb, .slice c lc.length cc] w fun r w' => r = .returned (.bool true) ∧ Below w.heap.size w w' := by
  have HU : Hid (∀ W, Below w.heap.size w W → UT W) := hide (fun W h => hT.call h)
  have HB0 := hide (Below.refl w.heap.size w)
  have Ea : Hid (∀ W, Below w.heap.size w W → Edit W a la ca) := hide (fun W h => ea.call h)
  have Ta := hide (⟨ea.txt, ea.cap, ea.max, ea.num⟩ : _ ∧ _ ∧ _ ∧ _)
  have Eb : Hid (∀ W, Below w.heap.size w W → Edit W b lb cb) := hide (fun W h => eb.call h)
  have Tb := hide (⟨eb.txt, eb.cap, eb.max, eb.num⟩ : _ ∧ _ ∧ _ ∧ _)
  have Ec : Hid (∀ W, Below w.heap.size w W → Edit W c lc cc) := hide (fun W h => ec.call h)
  have Tc := hide (⟨ec.txt, ec.cap, ec.max, ec.num⟩ : _ ∧ _ ∧ _ ∧ _)
  have hbL : Below w.heap.size w (w.alloc (.cells #[.slice a la.length ca, .slice b lb.length cb, .slice c lc.length cc] 22)) := (Below.refl _ _).alloc (Nat.le_refl _) _
  have HLT := hide (narrow_any w.heap.size [⟨a, la, ca⟩, ⟨b, lb, cb⟩, ⟨c, lc, cc⟩] (w.alloc (.cells #[.slice a la.length ca, .slice b lb.length cb, .slice c lc.length cc] 22)) (RowAt.new w 22 _) (by
    intro e he
    simp only [List.mem_cons, List.not_mem_nil, or_false] at he
    rcases he with rfl | rfl | rfl
    · exact (ea.call hbL).pts
    · exact (eb.call hbL).pts
    · exact (ec.call hbL).pts
    ) (by
    intro e he
    simp only [List.mem_cons, List.not_mem_nil, or_false] at he
    rcases he with rfl | rfl | rfl
    · exact Nat.le_trans ea.cap ea.max
    · exact Nat.le_trans eb.cap eb.max
    · exact Nat.le_trans ec.cap ec.max
    ) (by
    intro e he
    simp only [List.mem_cons, List.not_mem_nil, or_false] at he
    rcases he with rfl | rfl | rfl
    · exact ea.txt2
    · exact eb.txt2
    · exact ec.txt2
    ) (by simp))
  have HBL := hide hbL
  obtain ⟨na, hna⟩ : ∃ z, la.length = z := ⟨_, rfl⟩
  obtain ⟨nb, hnb⟩ : ∃ z, lb.length = z := ⟨_, rfl⟩
  obtain ⟨nc, hnc⟩ : ∃ z, lc.length = z := ⟨_, rfl⟩
  simp only [hna, hnb, hnc] at HLT HBL ⊢
  have Na := hide hna
  have Nb := hide hnb
  have Nc := hide hnc
  clear hT hbL ea hna eb hnb ec hnc
  go_enter Tryd.func14, Tryd.ntmps14
  go_wp2_with fail
  refine Calls.mono (unhide HLT) ?_
  rintro r w1 ⟨⟨lb_, rfl, hlb⟩, hb1⟩
  have HB1 := hide ((unhide HBL).trans (hb1.mono (unhide HBL).size))
  have HLB := hide hlb
  clear hb1 HLT hlb HBL
  cases lb_ with
  | false =>
    go_wp2_with fail
    refine Calls.mono (awake_any _ (unhide HU _ (unhide HB1))) ?_
    rintro r wa ⟨rfl, hba⟩
    have HBa := hide ((unhide HB1).trans (hba.mono (unhide HB1).size))
    clear hba
    go_wp2_with fail
    go_ret
    exact ⟨rfl, unhide HBa⟩
  | true =>
    have qa : Hid (na ≤ 200) := hide (by have h := (unhide HLB rfl).1 ⟨a, la, ca⟩ (by simp); rw [← unhide Na]; exact h)
    have qb : Hid (nb ≤ 200) := hide (by have h := (unhide HLB rfl).1 ⟨b, lb, cb⟩ (by simp); rw [← unhide Nb]; exact h)
    have qc : Hid (nc ≤ 200) := hide (by have h := (unhide HLB rfl).1 ⟨c, lc, cc⟩ (by simp); rw [← unhide Nc]; exact h)
    have HWS := hide (unhide HLB rfl).2
    clear HLB
    go_wp2_with fail
    refine Calls.mono (compose_at (w := w1) (unhide HU _ (unhide HB1)) (unhide Ea _ (unhide HB1)) (unhide Eb _ (unhide HB1)) (unhide Na) (unhide Nb) (by have h1 := unhide qa; have h2 := unhide qb; omega) (Below.refl w1.heap.size w1)) ?_
    rintro r w2 ⟨⟨h_, _⟩, hb_⟩
    have HB2 := hide ((unhide HB1).trans (hb_.mono (unhide HB1).size))
    clear hb_
    rcases h_ with ⟨_, rfl⟩ | ⟨ht, v, lx, rfl, ov, nf_, at_, ln_⟩
    · skip
      go_wp2_with fail
      refine Calls.mono (compose_at (w := w2) (unhide HU _ (unhide HB2)) (unhide Eb _ (unhide HB2)) (unhide Ec _ (unhide HB2)) (unhide Nb) (unhide Nc) (by have h1 := unhide qb; have h2 := unhide qc; omega) (Below.refl w2.heap.size w2)) ?_
      rintro r w3 ⟨⟨h_, _⟩, hb_⟩
      have HB3 := hide ((unhide HB2).trans (hb_.mono (unhide HB2).size))
      clear hb_
      rcases h_ with ⟨_, rfl⟩ | ⟨_, v, ly, rfl, _, _, _, _⟩
      · skip
        go_wp2_with fail
        refine Calls.mono (awake_any _ (unhide HU _ (unhide HB3))) ?_
        rintro r wa ⟨rfl, hba⟩
        have HBa := hide ((unhide HB3).trans (hba.mono (unhide HB3).size))
        clear hba
        go_wp2_with fail
        go_ret
        exact ⟨rfl, unhide HBa⟩
      · skip
        go_wp2_with fail
        refine Calls.mono (awake_any _ (unhide HU _ (unhide HB3))) ?_
        rintro r wa ⟨rfl, hba⟩
        have HBa := hide ((unhide HB3).trans (hba.mono (unhide HB3).size))
        clear hba
        go_wp2_with fail
        go_ret
        exact ⟨rfl, unhide HBa⟩
    obtain ⟨fa, fb, fc, hEa, hEb⟩ := comB_ed ht
    have Da := hide hEa
    have Db := hide hEb
    clear ht hEa hEb
    have hEc := ed_comp (unhide Da) (unhide Db) nf_ at_
    have hlc : lx.length ≤ 803 := by have h1 := unhide qa; have h2 := unhide qb; have h3 := unhide Na; have h4 := unhide Nb; omega
    obtain ⟨x, cx, hvx, hEx⟩ := ov.edit (ed_txt hEc) (by omega)
    subst hvx
    have Ox2 := hide hEx
    obtain ⟨nx, hnx⟩ : ∃ z, lx.length = z := ⟨_, rfl⟩
    rw [hnx]
    have Nx := hide hnx
    clear hEx hnx ov
    have Dx := hide hEc
    have Ax := hide at_
    have Fx := hide nf_
    have HLX := hide hlc
    clear nf_ at_ ln_ hEc hlc
    go_wp2_with fail
    refine Calls.mono (compose_at (w := w2) (unhide HU _ (unhide HB2)) (unhide Eb _ (unhide HB2)) (unhide Ec _ (unhide HB2)) (unhide Nb) (unhide Nc) (by have h1 := unhide qb; have h2 := unhide qc; omega) (Below.refl w2.heap.size w2)) ?_
    rintro r w3 ⟨⟨h_, _⟩, hb_⟩
    have HB3 := hide ((unhide HB2).trans (hb_.mono (unhide HB2).size))
    have Ox3 := hide ((unhide Ox2).call hb_)
    clear Ox2
    clear hb_
    rcases h_ with ⟨_, rfl⟩ | ⟨ht, v, ly, rfl, ov, nf_, at_, ln_⟩
    · skip
      go_wp2_with fail
      refine Calls.mono (awake_any _ (unhide HU _ (unhide HB3))) ?_
      rintro r wa ⟨rfl, hba⟩
      have HBa := hide ((unhide HB3).trans (hba.mono (unhide HB3).size))
      clear hba
      go_wp2_with fail
      go_ret
      exact ⟨rfl, unhide HBa⟩
    obtain ⟨f2, f3, fd, hEb2, hEc2⟩ := comB_ed ht
    obtain ⟨rfl, rfl⟩ := ed_uniq hEb2 (unhide Db)
    have Dc := hide hEc2
    clear ht hEb2 hEc2
    have hEc := ed_comp (unhide Db) (unhide Dc) nf_ at_
    have hlc : ly.length ≤ 803 := by have h1 := unhide qb; have h2 := unhide qc; have h3 := unhide Nb; have h4 := unhide Nc; omega
    obtain ⟨y, cy, hvy, hEy⟩ := ov.edit (ed_txt hEc) (by omega)
    subst hvy
    have Oy3 := hide hEy
    obtain ⟨ny, hny⟩ : ∃ z, ly.length = z := ⟨_, rfl⟩
    rw [hny]
    have Ny := hide hny
    clear hEy hny ov
    have Dy := hide hEc
    have Ay := hide at_
    have Fy := hide nf_
    have HLY := hide hlc
    clear nf_ at_ ln_ hEc hlc
    go_wp2_with fail
    refine Calls.mono (compose_at (w := w3) (unhide HU _ (unhide HB3)) (unhide Ox3) (unhide Ec _ (unhide HB3)) (unhide Nx) (unhide Nc) (by have h1 := unhide HLX; have h2 := unhide qc; have h3 := unhide Nx; omega) (Below.refl w3.heap.size w3)) ?_
    rintro r w4 ⟨⟨h_, _⟩, hb_⟩
    have HB4 := hide ((unhide HB3).trans (hb_.mono (unhide HB3).size))
    have Ox4 := hide ((unhide Ox3).call hb_)
    clear Ox3
    have Oy4 := hide ((unhide Oy3).call hb_)
    clear Oy3
    clear hb_
    rcases h_ with ⟨h_, _⟩ | ⟨_, v, lp, rfl, ov, nf_, at_, ln_⟩
    · rw [ed_comB (unhide Dx) (unhide Dc)] at h_; cases h_
    have hEc := ed_comp (unhide Dx) (unhide Dc) nf_ at_
    have hlc : lp.length ≤ 3000 := by have h1 := unhide HLX; have h2 := unhide qc; have h3 := unhide Nx; have h4 := unhide Nc; omega
    obtain ⟨p, cp, hvp, hEp⟩ := ov.edit (ed_txt hEc) (by omega)
    subst hvp
    have Op4 := hide hEp
    obtain ⟨np, hnp⟩ : ∃ z, lp.length = z := ⟨_, rfl⟩
    rw [hnp]
    have Np := hide hnp
    clear hEp hnp ov
    have Dp := hide hEc
    have Ap := hide at_
    have Fp := hide nf_
    clear nf_ at_ ln_ hEc hlc
    go_wp2_with fail
    refine Calls.mono (compose_at (w := w4) (unhide HU _ (unhide HB4)) (unhide Ea _ (unhide HB4)) (unhide Oy4) (unhide Na) (unhide Ny) (by have h1 := unhide HLY; have h2 := unhide qa; have h3 := unhide Ny; omega) (Below.refl w4.heap.size w4)) ?_
    rintro r w5 ⟨⟨h_, _⟩, hb_⟩
    have HB5 := hide ((unhide HB4).trans (hb_.mono (unhide HB4).size))
    have Ox5 := hide ((unhide Ox4).call hb_)
    clear Ox4
    have Oy5 := hide ((unhide Oy4).call hb_)
    clear Oy4
    have Op5 := hide ((unhide Op4).call hb_)
    clear Op4
    clear hb_
    rcases h_ with ⟨h_, _⟩ | ⟨_, v, lr_, rfl, ov, nf_, at_, ln_⟩
    · rw [ed_comB (unhide Da) (unhide Dy)] at h_; cases h_
    have hEc := ed_comp (unhide Da) (unhide Dy) nf_ at_
    have hlc : lr_.length ≤ 3000 := by have h1 := unhide HLY; have h2 := unhide qa; have h3 := unhide Na; have h4 := unhide Ny; omega
    obtain ⟨r_, cr_, hvr_, hEr_⟩ := ov.edit (ed_txt hEc) (by omega)
    subst hvr_
    have Or_5 := hide hEr_
    obtain ⟨nr_, hnr_⟩ : ∃ z, lr_.length = z := ⟨_, rfl⟩
    rw [hnr_]
    have Nr_ := hide hnr_
    clear hEr_ hnr_ ov
    have Dr_ := hide hEc
    have Ar_ := hide at_
    have Fr_ := hide nf_
    clear nf_ at_ ln_ hEc hlc
    have hll : lp = lr_ := by
      refine nf_unique _ _ _ _ (unhide Fp) (unhide Fr_) ?_
      rw [unhide Ap, unhide Ar_, unhide Ax, unhide Ay, At.can_comp_right, At.can_comp_left, At.comp_assoc _ _ _ (by rw [(unhide Da).2.2.1, (unhide Db).2.1]) (by rw [(unhide Db).2.2.1, (unhide Dc).2.1])]
    have LL := hide hll
    clear hll
    go_wp2_with fail
    refine Calls.mono (rsame_at (w := w5) (unhide Op5) (unhide Or_5) (unhide LL) (unhide Np) (unhide Nr_) (Below.refl w5.heap.size w5)) ?_
    rintro r w6 ⟨rfl, hb_⟩
    have HB6 := hide ((unhide HB5).trans (hb_.mono (unhide HB5).size))
    have Ox6 := hide ((unhide Ox5).call hb_)
    clear Ox5
    have Oy6 := hide ((unhide Oy5).call hb_)
    clear Oy5
    have Op6 := hide ((unhide Op5).call hb_)
    clear Op5
    have Or_6 := hide ((unhide Or_5).call hb_)
    clear Or_5
    clear hb_
    go_wp2_with fail
    refine Calls.mono (awake_any _ (unhide HU _ (unhide HB6))) ?_
    rintro r wa ⟨rfl, hba⟩
    have HBa := hide ((unhide HB6).trans (hba.mono (unhide HB6).size))
    clear hba
    go_wp2_with fail
    go_ret
    exact ⟨rfl, unhide HBa⟩
end Go.Proofs.YtidblnjohkadhaaDoor
