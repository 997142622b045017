/- Whatever is answered is an edit in its one form, of the right size: the walk. -/
import Derived.Test.YtidblnjohkadhaaDoorDia0
namespace Go.Proofs.YtidblnjohkadhaaDoor
set_option linter.unusedVariables false
set_option linter.unusedSimpArgs false
open Go.ChangeShapes Go.WideShapes Go.ChangeAt Go.RowKit Go.Joins Go.Deep

theorem ed_szVal {l : List Pt} {f t : Nat} (h : IsEd l f t) : szVal l = .tuple #[.int .i64 (f : Int), .int .i64 (t : Int), .int .i64 0] := by unfold szVal; rw [ed_size h]
theorem comB_no {la lb : List Pt} {n m k t : Nat} (h1 : IsEd la n m) (h2 : IsEd lb k t) (hne : m ≠ k) : comB la lb = false := by
  unfold comB
  rw [ed_size h1]
  simp only [decide_eq_false_iff_not]
  unfold checkE
  rw [ed_size h2]
  simp only
  rw [if_neg (by omega)]
  decide
theorem traB_no {la lb : List Pt} {n m k t : Nat} (h1 : IsEd la n m) (h2 : IsEd lb k t) (hne : n ≠ k) : traB la lb = false := by
  unfold traB
  rw [ed_size h1]
  simp only [decide_eq_false_iff_not]
  unfold checkE
  rw [ed_size h2]
  simp only
  rw [if_neg (by omega)]
  decide
/-- Norm of an edit is that edit -/
theorem norm_ed {l : List Pt} {f t : Nat} (h : IsEd l f t) : normL l = l := by
  have hf := fitA_all (ed_fit h)
  have hl := ed_len h
  have q := norm_good l (by show ((fitA l).length : Int) ≤ _; rw [hf]; omega)
  refine nf_unique _ _ _ _ q.1 h.1 ?_
  rw [q.2]
  show At.can (fitA l) = _
  rw [hf, nf_can h.1]
theorem ed_sumT {l : List Pt} {f t : Nat} (h : IsEd l f t) : sumT l ≤ 140737488355328 := by
  have hl := ed_len h
  have : ∀ m : List Pt, (∀ p ∈ m, Fit1 p) → sumT m ≤ 4 * (atomsL m).length := by
    intro m
    induction m with
    | nil => intro _; simp [sumT]
    | cons p m ih =>
      intro hm
      have h1 := ih (fun q hq => hm q (List.mem_cons_of_mem _ hq))
      have h2 := (hm p (List.mem_cons_self ..)).txt
      have e : sumT (p :: m) = p.text.size + sumT m := by simp [sumT]
      rw [e, atomsL, List.length_append]
      omega
  have := this l (ed_fit h)
  omega
set_option maxRecDepth 100000 in
set_option maxHeartbeats 4000000 in
theorem form_law (a : Option Addr) (la : List Pt) (ca : Nat) (b : Option Addr) (lb : List Pt) (cb : Nat) (w : World) (hT : UT w) (ea : Edit w a la ca) (eb : Edit w b lb cb) : Calls Tryd.prog 18 #[.slice a la.length ca, .slice b lb.length cb] w fun r w' => r = .returned (.bool true) ∧ Below w.heap.size w w' := by
  have HU : Hid (∀ W, Below w.heap.size w W → UT W) := hide (fun W h => hT.call h)
  have HB0 := hide (Below.refl w.heap.size w)
  have Ea : Hid (∀ W, Below w.heap.size w W → Edit W a la ca) := hide (fun W h => ea.call h)
  have Ta := hide (⟨ea.txt, ea.cap, ea.max, ea.num⟩ : _ ∧ _ ∧ _ ∧ _)
  have Eb : Hid (∀ W, Below w.heap.size w W → Edit W b lb cb) := hide (fun W h => eb.call h)
  have Tb := hide (⟨eb.txt, eb.cap, eb.max, eb.num⟩ : _ ∧ _ ∧ _ ∧ _)
  have hbL : Below w.heap.size w (w.alloc (.cells #[.slice a la.length ca, .slice b lb.length cb] 22)) := (Below.refl _ _).alloc (Nat.le_refl _) _
  have HLT := hide (light_any w.heap.size [⟨a, la, ca⟩, ⟨b, lb, cb⟩] (w.alloc (.cells #[.slice a la.length ca, .slice b lb.length cb] 22)) (RowAt.new w 22 _) (by
    intro e he
    simp only [List.mem_cons, List.not_mem_nil, or_false] at he
    rcases he with rfl | rfl
    · exact (ea.call hbL).pts
    · exact (eb.call hbL).pts
    ) (by
    intro e he
    simp only [List.mem_cons, List.not_mem_nil, or_false] at he
    rcases he with rfl | rfl
    · exact Nat.le_trans ea.cap ea.max
    · exact Nat.le_trans eb.cap eb.max
    ) (by simp))
  have HBL := hide hbL
  obtain ⟨na, hna⟩ : ∃ z, la.length = z := ⟨_, rfl⟩
  obtain ⟨nb, hnb⟩ : ∃ z, lb.length = z := ⟨_, rfl⟩
  simp only [hna, hnb] at HLT HBL ⊢
  have Na := hide hna
  have Nb := hide hnb
  clear hT hbL ea hna eb hnb
  go_enter Tryd.func18, Tryd.ntmps18
  go_wp2_with fail
  refine Calls.mono (unhide HLT) ?_
  rintro r w1 ⟨⟨lb_, rfl, hlb⟩, hb1⟩
  have HB1 := hide ((unhide HBL).trans (hb1.mono (unhide HBL).size))
  have HLB := hide hlb
  clear hb1 HLT hlb HBL
  cases lb_ with
  | false =>
    go_wp2_with fail
    refine Calls.mono (awake_any _ (unhide HU _ (unhide HB1))) ?_
    rintro r wa ⟨rfl, hba⟩
    have HBa := hide ((unhide HB1).trans (hba.mono (unhide HB1).size))
    clear hba
    go_wp2_with fail
    go_ret
    exact ⟨rfl, unhide HBa⟩
  | true =>
    have qa : Hid (na ≤ 200) := hide (by have h := (unhide HLB rfl).1 ⟨a, la, ca⟩ (by simp); rw [← unhide Na]; exact h)
    have qb : Hid (nb ≤ 200) := hide (by have h := (unhide HLB rfl).1 ⟨b, lb, cb⟩ (by simp); rw [← unhide Nb]; exact h)
    have HWS := hide (unhide HLB rfl).2
    clear HLB
    go_wp2_with fail
    refine Calls.mono (size_at (w := w1) (unhide HU _ (unhide HB1)) (unhide Ea _ (unhide HB1)) (unhide Na) (Below.refl w1.heap.size w1)) ?_
    rintro r w2 ⟨rfl, hb_⟩
    have HB2 := hide ((unhide HB1).trans (hb_.mono (unhide HB1).size))
    clear hb_
    cases hsza : sizeL la with
    | none =>
      have e_ : szVal la = .tuple #[.int .i64 0, .int .i64 0, .int .i64 30] := by unfold szVal; rw [hsza]
      rw [e_]
      clear e_ hsza
      go_wp2_with fail
      refine Calls.mono (size_at (w := w2) (unhide HU _ (unhide HB2)) (unhide Eb _ (unhide HB2)) (unhide Nb) (Below.refl w2.heap.size w2)) ?_
      rintro r w3 ⟨rfl, hb_⟩
      have HB3 := hide ((unhide HB2).trans (hb_.mono (unhide HB2).size))
      clear hb_
      cases hszb : sizeL lb with
      | none =>
        have e_ : szVal lb = .tuple #[.int .i64 0, .int .i64 0, .int .i64 30] := by unfold szVal; rw [hszb]
        rw [e_]
        clear e_ hszb
        go_wp2_with fail
        refine Calls.mono (awake_any _ (unhide HU _ (unhide HB3))) ?_
        rintro r wa ⟨rfl, hba⟩
        have HBa := hide ((unhide HB3).trans (hba.mono (unhide HB3).size))
        clear hba
        go_wp2_with fail
        go_ret
        exact ⟨rfl, unhide HBa⟩
      | some x =>
        obtain ⟨ff, tt, kk⟩ := x
        have e_ : szVal lb = .tuple #[.int .i64 ff, .int .i64 tt, .int .i64 0] := by unfold szVal; rw [hszb]
        rw [e_]
        clear e_ hszb
        go_wp2_with fail
        refine Calls.mono (awake_any _ (unhide HU _ (unhide HB3))) ?_
        rintro r wa ⟨rfl, hba⟩
        have HBa := hide ((unhide HB3).trans (hba.mono (unhide HB3).size))
        clear hba
        go_wp2_with fail
        go_ret
        exact ⟨rfl, unhide HBa⟩
    | some x =>
      obtain ⟨ff, tt, kk⟩ := x
      obtain ⟨hE_, hx1, hx2⟩ := size_ed hsza
      clear hx1 hx2
      obtain ⟨Fa, hF⟩ : ∃ z, ff.toNat = z := ⟨_, rfl⟩
      obtain ⟨Ta, hT'⟩ : ∃ z, tt.toNat = z := ⟨_, rfl⟩
      rw [hF, hT'] at hE_
      rw [ed_szVal hE_]
      have Da := hide hE_
      clear hsza hE_ hF hT' ff tt kk
      go_wp2_with fail
      refine Calls.mono (size_at (w := w2) (unhide HU _ (unhide HB2)) (unhide Eb _ (unhide HB2)) (unhide Nb) (Below.refl w2.heap.size w2)) ?_
      rintro r w3 ⟨rfl, hb_⟩
      have HB3 := hide ((unhide HB2).trans (hb_.mono (unhide HB2).size))
      clear hb_
      cases hszb : sizeL lb with
      | none =>
        have e_ : szVal lb = .tuple #[.int .i64 0, .int .i64 0, .int .i64 30] := by unfold szVal; rw [hszb]
        rw [e_]
        clear e_ hszb
        go_wp2_with fail
        refine Calls.mono (awake_any _ (unhide HU _ (unhide HB3))) ?_
        rintro r wa ⟨rfl, hba⟩
        have HBa := hide ((unhide HB3).trans (hba.mono (unhide HB3).size))
        clear hba
        go_wp2_with fail
        go_ret
        exact ⟨rfl, unhide HBa⟩
      | some x =>
        obtain ⟨ff, tt, kk⟩ := x
        obtain ⟨hE_, hx1, hx2⟩ := size_ed hszb
        clear hx1 hx2
        obtain ⟨Fb, hF⟩ : ∃ z, ff.toNat = z := ⟨_, rfl⟩
        obtain ⟨Tb, hT'⟩ : ∃ z, tt.toNat = z := ⟨_, rfl⟩
        rw [hF, hT'] at hE_
        rw [ed_szVal hE_]
        have Db := hide hE_
        clear hszb hE_ hF hT' ff tt kk
        have tai : (Ta : Int) ≤ 1099511627776 := by have := (unhide Da).2.2.2.2; omega
        have tbi : (Tb : Int) ≤ 1099511627776 := by have := (unhide Db).2.2.2.2; omega
        have fai : (Fa : Int) ≤ 1099511627776 := by have := (unhide Da).2.2.2.1; omega
        have fbi : (Fb : Int) ≤ 1099511627776 := by have := (unhide Db).2.2.2.1; omega
        go_wp2_with fail
        refine Calls.mono (compose_at (w := w3) (unhide HU _ (unhide HB3)) (unhide Ea _ (unhide HB3)) (unhide Eb _ (unhide HB3)) (unhide Na) (unhide Nb) (by have h1 := unhide qa; have h2 := unhide qb; omega) (Below.refl w3.heap.size w3)) ?_
        rintro r w4 ⟨⟨h_, _⟩, hb_⟩
        have HB4 := hide ((unhide HB3).trans (hb_.mono (unhide HB3).size))
        clear hb_
        by_cases hme : Ta = Fb
        · subst hme
          rcases h_ with ⟨h_, _⟩ | ⟨_, v, lc, rfl, ov, nf_, at_, ln_⟩
          · rw [ed_comB (unhide Da) (unhide Db)] at h_; cases h_
          have hEc := ed_comp (unhide Da) (unhide Db) nf_ at_
          have hlc : lc.length ≤ 3000 := by have h1 := unhide qa; have h2 := unhide qb; have h3 := unhide Na; have h4 := unhide Nb; omega
          obtain ⟨x, cx, hvx, hEx⟩ := ov.edit (ed_txt hEc) (by omega)
          subst hvx
          have Ox4 := hide hEx
          obtain ⟨nx, hnx⟩ : ∃ z, lc.length = z := ⟨_, rfl⟩
          rw [hnx]
          have Nx := hide hnx
          clear hEx hnx ov
          have Dx := hide hEc
          have HLC := hide hlc
          clear nf_ at_ ln_ hEc hlc
          go_wp2_with fail
          refine Calls.mono (size_at (w := w4) (unhide HU _ (unhide HB4)) (unhide Ox4) (unhide Nx) (Below.refl w4.heap.size w4)) ?_
          rintro r w5 ⟨rfl, hb_⟩
          have HB5 := hide ((unhide HB4).trans (hb_.mono (unhide HB4).size))
          have Ox5 := hide ((unhide Ox4).call hb_)
          clear Ox4
          clear hb_
          rw [ed_szVal (unhide Dx)]
          go_wp2_with fail
          refine Calls.mono (norm_at (w := w5) (unhide HU _ (unhide HB5)) (unhide Ox5) (unhide Nx) (by have h1 := unhide HLC; have h2 := unhide Nx; omega) (ed_sumT (unhide Dx)) (Below.refl w5.heap.size w5)) ?_
          rintro r w6 ⟨⟨v, rfl, ov⟩, hb_⟩
          have HB6 := hide ((unhide HB5).trans (hb_.mono (unhide HB5).size))
          have Ox6 := hide ((unhide Ox5).call hb_)
          clear Ox5
          clear hb_
          rw [norm_ed (unhide Dx)] at ov
          have hlc := unhide HLC
          obtain ⟨z, cz, hvz, hEz⟩ := ov.edit (ed_txt (unhide Dx)) (by omega)
          subst hvz
          have Oz6 := hide hEz
          obtain ⟨nz, hnz⟩ : ∃ z, lc.length = z := ⟨_, rfl⟩
          rw [hnz]
          have Nz := hide hnz
          clear hEz hnz ov
          clear hlc
          go_wp2_with fail
          refine Calls.mono (rsame_at (w := w6) (unhide Oz6) (unhide Ox6) rfl (unhide Nz) (unhide Nx) (Below.refl w6.heap.size w6)) ?_
          rintro r w7 ⟨rfl, hb_⟩
          have HB7 := hide ((unhide HB6).trans (hb_.mono (unhide HB6).size))
          have Ox7 := hide ((unhide Ox6).call hb_)
          clear Ox6
          have Oz7 := hide ((unhide Oz6).call hb_)
          clear Oz6
          clear hb_
          go_wp2_with fail
          refine Calls.mono (transform_at (w := w7) (unhide HU _ (unhide HB7)) (unhide Ea _ (unhide HB7)) (unhide Eb _ (unhide HB7)) (unhide Na) (unhide Nb) (by have h1 := unhide qa; have h2 := unhide qb; omega) (Below.refl w7.heap.size w7)) ?_
          rintro r w8 ⟨h_, hb_⟩
          have HB8 := hide ((unhide HB7).trans (hb_.mono (unhide HB7).size))
          clear hb_
          by_cases hfe : Fa = Ta
          · subst hfe
            obtain ⟨lu, lv, n1, n2, e1, e2, m1, m2, f1, f2, t12, h_⟩ := tra_ok h_ (unhide Da) (unhide Db)
            have hl1 : lu.length ≤ 4398046511104 := by have h1 := unhide qa; have h2 := unhide qb; have h3 := unhide Na; have h4 := unhide Nb; omega
            have hl2 : lv.length ≤ 4398046511104 := by have h1 := unhide qa; have h2 := unhide qb; have h3 := unhide Na; have h4 := unhide Nb; omega
            obtain ⟨TT, hTT⟩ : ∃ z, At.toN (atomsL lu) = z := ⟨_, rfl⟩
            rw [hTT] at h_
            clear n1 n2 e1 e2 m1 m2 f1 f2 t12 hTT
            rcases h_ with ⟨_, rfl⟩ | ⟨d1, d2, v1, v2, rfl, o1, o2⟩
            · skip
              clear hl1 hl2
              go_wp2_with fail
              refine Calls.mono (awake_any _ (unhide HU _ (unhide HB8))) ?_
              rintro r wa ⟨rfl, hba⟩
              have HBa := hide ((unhide HB8).trans (hba.mono (unhide HB8).size))
              clear hba
              go_wp2_with fail
              go_ret
              exact ⟨rfl, unhide HBa⟩
            obtain ⟨u, cu, hvu, hEu⟩ := o1.edit (ed_txt d1) (hl1)
            subst hvu
            have Ou8 := hide hEu
            obtain ⟨nu, hnu⟩ : ∃ z, lu.length = z := ⟨_, rfl⟩
            rw [hnu]
            have Nu := hide hnu
            clear hEu hnu o1
            obtain ⟨v_, cv_, hvv_, hEv_⟩ := o2.edit (ed_txt d2) (hl2)
            subst hvv_
            have Ov_8 := hide hEv_
            obtain ⟨nv_, hnv_⟩ : ∃ z, lv.length = z := ⟨_, rfl⟩
            rw [hnv_]
            have Nv_ := hide hnv_
            clear hEv_ hnv_ o2
            have Du := hide d1
            have Dv := hide d2
            clear d1 d2 hl1 hl2
            go_wp2_with fail
            refine Calls.mono (size_at (w := w8) (unhide HU _ (unhide HB8)) (unhide Ou8) (unhide Nu) (Below.refl w8.heap.size w8)) ?_
            rintro r w9 ⟨rfl, hb_⟩
            have HB9 := hide ((unhide HB8).trans (hb_.mono (unhide HB8).size))
            have Ou9 := hide ((unhide Ou8).call hb_)
            clear Ou8
            have Ov_9 := hide ((unhide Ov_8).call hb_)
            clear Ov_8
            clear hb_
            rw [ed_szVal (unhide Du)]
            go_wp2_with fail
            refine Calls.mono (size_at (w := w9) (unhide HU _ (unhide HB9)) (unhide Ov_9) (unhide Nv_) (Below.refl w9.heap.size w9)) ?_
            rintro r w10 ⟨rfl, hb_⟩
            have HB10 := hide ((unhide HB9).trans (hb_.mono (unhide HB9).size))
            have Ou10 := hide ((unhide Ou9).call hb_)
            clear Ou9
            have Ov_10 := hide ((unhide Ov_9).call hb_)
            clear Ov_9
            clear hb_
            rw [ed_szVal (unhide Dv)]
            go_wp2_with fail
            refine Calls.mono (awake_any _ (unhide HU _ (unhide HB10))) ?_
            rintro r wa ⟨rfl, hba⟩
            have HBa := hide ((unhide HB10).trans (hba.mono (unhide HB10).size))
            clear hba
            go_wp2_with fail
            go_ret
            exact ⟨rfl, unhide HBa⟩
          · rcases h_ with ⟨⟨_, rfl⟩ | ⟨h_, _⟩, _⟩
            rotate_left
            · rw [traB_no (unhide Da) (unhide Db) hfe] at h_; cases h_
            have hfe2 : ((Fa : Int) == (Ta : Int)) = false := by simp; omega
            have hfe3 : ((Fa : Int) != (Ta : Int)) = true := by simp; omega
            have hfe4 : ¬ (Fa : Int) = (Ta : Int) := by omega
            clear hfe
            go_wp2_with fail
            refine Calls.mono (awake_any _ (unhide HU _ (unhide HB8))) ?_
            rintro r wa ⟨rfl, hba⟩
            have HBa := hide ((unhide HB8).trans (hba.mono (unhide HB8).size))
            clear hba
            go_wp2_with fail
            go_ret
            exact ⟨rfl, unhide HBa⟩
        · rcases h_ with ⟨_, rfl⟩ | ⟨h_, _⟩
          rotate_left
          · rw [comB_no (unhide Da) (unhide Db) hme] at h_; cases h_
          have hme2 : ((Ta : Int) == (Fb : Int)) = false := by simp; omega
          have hme3 : ¬ (Ta : Int) = (Fb : Int) := by omega
          clear hme
          go_wp2_with fail
          refine Calls.mono (transform_at (w := w4) (unhide HU _ (unhide HB4)) (unhide Ea _ (unhide HB4)) (unhide Eb _ (unhide HB4)) (unhide Na) (unhide Nb) (by have h1 := unhide qa; have h2 := unhide qb; omega) (Below.refl w4.heap.size w4)) ?_
          rintro r w5 ⟨h_, hb_⟩
          have HB5 := hide ((unhide HB4).trans (hb_.mono (unhide HB4).size))
          clear hb_
          by_cases hfe : Fa = Fb
          · subst hfe
            obtain ⟨lu, lv, n1, n2, e1, e2, m1, m2, f1, f2, t12, h_⟩ := tra_ok h_ (unhide Da) (unhide Db)
            have hl1 : lu.length ≤ 4398046511104 := by have h1 := unhide qa; have h2 := unhide qb; have h3 := unhide Na; have h4 := unhide Nb; omega
            have hl2 : lv.length ≤ 4398046511104 := by have h1 := unhide qa; have h2 := unhide qb; have h3 := unhide Na; have h4 := unhide Nb; omega
            obtain ⟨TT, hTT⟩ : ∃ z, At.toN (atomsL lu) = z := ⟨_, rfl⟩
            rw [hTT] at h_
            clear n1 n2 e1 e2 m1 m2 f1 f2 t12 hTT
            rcases h_ with ⟨_, rfl⟩ | ⟨d1, d2, v1, v2, rfl, o1, o2⟩
            · skip
              clear hl1 hl2
              go_wp2_with fail
              refine Calls.mono (awake_any _ (unhide HU _ (unhide HB5))) ?_
              rintro r wa ⟨rfl, hba⟩
              have HBa := hide ((unhide HB5).trans (hba.mono (unhide HB5).size))
              clear hba
              go_wp2_with fail
              go_ret
              exact ⟨rfl, unhide HBa⟩
            obtain ⟨u, cu, hvu, hEu⟩ := o1.edit (ed_txt d1) (hl1)
            subst hvu
            have Ou5 := hide hEu
            obtain ⟨nu, hnu⟩ : ∃ z, lu.length = z := ⟨_, rfl⟩
            rw [hnu]
            have Nu := hide hnu
            clear hEu hnu o1
            obtain ⟨v_, cv_, hvv_, hEv_⟩ := o2.edit (ed_txt d2) (hl2)
            subst hvv_
            have Ov_5 := hide hEv_
            obtain ⟨nv_, hnv_⟩ : ∃ z, lv.length = z := ⟨_, rfl⟩
            rw [hnv_]
            have Nv_ := hide hnv_
            clear hEv_ hnv_ o2
            have Du := hide d1
            have Dv := hide d2
            clear d1 d2 hl1 hl2
            go_wp2_with fail
            refine Calls.mono (size_at (w := w5) (unhide HU _ (unhide HB5)) (unhide Ou5) (unhide Nu) (Below.refl w5.heap.size w5)) ?_
            rintro r w6 ⟨rfl, hb_⟩
            have HB6 := hide ((unhide HB5).trans (hb_.mono (unhide HB5).size))
            have Ou6 := hide ((unhide Ou5).call hb_)
            clear Ou5
            have Ov_6 := hide ((unhide Ov_5).call hb_)
            clear Ov_5
            clear hb_
            rw [ed_szVal (unhide Du)]
            go_wp2_with fail
            refine Calls.mono (size_at (w := w6) (unhide HU _ (unhide HB6)) (unhide Ov_6) (unhide Nv_) (Below.refl w6.heap.size w6)) ?_
            rintro r w7 ⟨rfl, hb_⟩
            have HB7 := hide ((unhide HB6).trans (hb_.mono (unhide HB6).size))
            have Ou7 := hide ((unhide Ou6).call hb_)
            clear Ou6
            have Ov_7 := hide ((unhide Ov_6).call hb_)
            clear Ov_6
            clear hb_
            rw [ed_szVal (unhide Dv)]
            go_wp2_with fail
            refine Calls.mono (awake_any _ (unhide HU _ (unhide HB7))) ?_
            rintro r wa ⟨rfl, hba⟩
            have HBa := hide ((unhide HB7).trans (hba.mono (unhide HB7).size))
            clear hba
            go_wp2_with fail
            go_ret
            exact ⟨rfl, unhide HBa⟩
          · rcases h_ with ⟨⟨_, rfl⟩ | ⟨h_, _⟩, _⟩
            rotate_left
            · rw [traB_no (unhide Da) (unhide Db) hfe] at h_; cases h_
            have hfe2 : ((Fa : Int) == (Fb : Int)) = false := by simp; omega
            have hfe3 : ((Fa : Int) != (Fb : Int)) = true := by simp; omega
            have hfe4 : ¬ (Fa : Int) = (Fb : Int) := by omega
            clear hfe
            go_wp2_with fail
            refine Calls.mono (awake_any _ (unhide HU _ (unhide HB5))) ?_
            rintro r wa ⟨rfl, hba⟩
            have HBa := hide ((unhide HB5).trans (hba.mono (unhide HB5).size))
            clear hba
            go_wp2_with fail
            go_ret
            exact ⟨rfl, unhide HBa⟩
end Go.Proofs.YtidblnjohkadhaaDoor
