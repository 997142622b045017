/- Two edits come together both ways: the walk. -/
import Derived.Test.YtidblnjohkadhaaDoorSam
namespace Go.Proofs.YtidblnjohkadhaaDoor
set_option linter.unusedVariables false
set_option linter.unusedSimpArgs false
open Go.ChangeShapes Go.WideShapes Go.ChangeAt Go.RowKit Go.Joins Go.Deep

theorem to_le (x : List At) : At.toN x ≤ At.fromN x + At.putsN x := by
  induction x with
  | nil => simp [At.toN]
  | cons s x ih => cases s <;> simp only [At.toN, At.fromN, At.putsN] <;> omega
theorem wt_nonneg (l : List Pt) : 0 ≤ wt l := by
  unfold wt
  induction l with
  | nil => simp
  | cons p l ih => simp only [List.map_cons, List.sum_cons]; omega
theorem wt_cons (p : Pt) (l : List Pt) : wt (p :: l) = min (p.text.size : Int) 4096 + wt l := by simp [wt]
theorem wt_sum {l : List Pt} (h : wt l ≤ 4095) : (sumT l : Int) = wt l := by
  induction l with
  | nil => simp [sumT, wt]
  | cons p l ih =>
    rw [wt_cons] at h ⊢
    have h0 := wt_nonneg l
    have := ih (by omega)
    have e : sumT (p :: l) = p.text.size + sumT l := by simp [sumT]
    rw [e]
    push_cast
    omega
theorem puts_sum {l : List Pt} (h : ∀ p ∈ l, Fit1 p) : At.putsN (atomsL l) ≤ sumT l := by
  induction l with
  | nil => simp [atomsL, At.putsN, sumT]
  | cons p l ih =>
    have h1 := ih (fun q hq => h q (List.mem_cons_of_mem _ hq))
    have e : sumT (p :: l) = p.text.size + sumT l := by simp [sumT]
    rw [atomsL, At.puts_app, e]
    have hg := (h p (List.mem_cons_self ..)).1
    rcases hg.cases with ⟨_, _, ea⟩ | ⟨_, _, ea⟩ | ⟨_, cs, h3, h4, ea⟩
    · rw [ea, puts_rep_k]; omega
    · rw [ea, puts_rep_d]; omega
    · rw [ea, puts_map]
      have := h3.cps.len
      rw [← h3.size] at this
      omega
theorem puts_wt {l : List Pt} (h : ∀ p ∈ l, Fit1 p) (hw : wt l ≤ 0) : At.putsN (atomsL l) = 0 := by
  have h0 := wt_nonneg l
  have h1 := puts_sum h
  have h2 := wt_sum (l := l) (by omega)
  omega
/-- few texts: what both make is in the limit -/
theorem light_limit {a b : Option Addr} {la lb : List Pt} {ca cb n ta tb : Nat} (hw : wtS [⟨a, la, ca⟩, ⟨b, lb, cb⟩] ≤ 4096) (h1 : IsEd la n ta) (h2 : IsEd lb n tb) (hn : n ≤ 4096) : At.toN (At.one (atomsL la) (atomsL lb)) ≤ 1099511627776 := by
  have hs := At.sizes (atomsL la) (atomsL lb) (by rw [h1.2.1, h2.2.1])
  have e : wtS [⟨a, la, ca⟩, ⟨b, lb, cb⟩] = wt la + wt lb := by simp [wtS]
  rw [e] at hw
  have wa := wt_nonneg la
  have wb := wt_nonneg lb
  have t1 := to_le (At.one (atomsL la) (atomsL lb))
  have t2 := to_le (At.two (atomsL la) (atomsL lb))
  rw [hs.1, hs.2.2.2.1, h2.2.2.1] at t1
  rw [← hs.2.2.1, hs.2.1, hs.2.2.2.2, h1.2.2.1] at t2
  by_cases ka : wt la ≤ 0
  · have := puts_wt (ed_fit h1) ka
    have := h2.2.2.2.2
    omega
  · by_cases kb : wt lb ≤ 0
    · have := puts_wt (ed_fit h2) kb
      have := h1.2.2.2.2
      omega
    · have p1 := puts_sum (ed_fit h1)
      have p2 := puts_sum (ed_fit h2)
      have s1 := wt_sum (l := la) (by omega)
      have s2 := wt_sum (l := lb) (by omega)
      have t3 := to_le (atomsL lb)
      rw [h2.2.2.1, h2.2.1] at t3
      omega
theorem Tx.few {s : ByteArray} {cs : List (List UInt8)} (h : Tx s cs) {k : Nat} (hk : s.size ≤ k) : cs.length ≤ k := by
  have := h.cps.len
  rw [← h.size] at this
  omega
set_option maxRecDepth 100000 in
set_option maxHeartbeats 4000000 in
theorem diamond_law (a : Option Addr) (la : List Pt) (ca : Nat) (b : Option Addr) (lb : List Pt) (cb : Nat) (s : ByteArray) (w : World) (hT : UT w) (ea : Edit w a la ca) (eb : Edit w b lb cb) (hs : s.size ≤ 140737488351232) : Calls Tryd.prog 11 #[.slice a la.length ca, .slice b lb.length cb, .string s] w fun r w' => r = .returned (.bool true) ∧ Below w.heap.size w w' := by
  have HU : Hid (∀ W, Below w.heap.size w W → UT W) := hide (fun W h => hT.call h)
  have HB0 := hide (Below.refl w.heap.size w)
  have Ea : Hid (∀ W, Below w.heap.size w W → Edit W a la ca) := hide (fun W h => ea.call h)
  have Ta := hide (⟨ea.txt, ea.cap, ea.max, ea.num⟩ : _ ∧ _ ∧ _ ∧ _)
  have Eb : Hid (∀ W, Below w.heap.size w W → Edit W b lb cb) := hide (fun W h => eb.call h)
  have Tb := hide (⟨eb.txt, eb.cap, eb.max, eb.num⟩ : _ ∧ _ ∧ _ ∧ _)
  have hbL : Below w.heap.size w (w.alloc (.cells #[.slice a la.length ca, .slice b lb.length cb] 22)) := (Below.refl _ _).alloc (Nat.le_refl _) _
  have HLT := hide (light_any w.heap.size [⟨a, la, ca⟩, ⟨b, lb, cb⟩] (w.alloc (.cells #[.slice a la.length ca, .slice b lb.length cb] 22)) (RowAt.new w 22 _) (by
    intro e he
    simp only [List.mem_cons, List.not_mem_nil, or_false] at he
    rcases he with rfl | rfl
    · exact (ea.call hbL).pts
    · exact (eb.call hbL).pts
    ) (by
    intro e he
    simp only [List.mem_cons, List.not_mem_nil, or_false] at he
    rcases he with rfl | rfl
    · exact Nat.le_trans ea.cap ea.max
    · exact Nat.le_trans eb.cap eb.max
    ) (by simp))
  have HBL := hide hbL
  have HS := hide hs
  obtain ⟨na, hna⟩ : ∃ z, la.length = z := ⟨_, rfl⟩
  obtain ⟨nb, hnb⟩ : ∃ z, lb.length = z := ⟨_, rfl⟩
  simp only [hna, hnb] at HLT HBL ⊢
  have Na := hide hna
  have Nb := hide hnb
  clear hT hbL ea hna eb hnb hs
  go_enter Tryd.func11, Tryd.ntmps11
  go_wp2_with fail
  refine Calls.mono (unhide HLT) ?_
  rintro r w1 ⟨⟨lb_, rfl, hlb⟩, hb1⟩
  have HB1 := hide ((unhide HBL).trans (hb1.mono (unhide HBL).size))
  have HLB := hide hlb
  clear hb1 HLT hlb HBL
  cases lb_ with
  | false =>
    go_wp2_with fail
    refine Calls.mono (awake_any _ (unhide HU _ (unhide HB1))) ?_
    rintro r wa ⟨rfl, hba⟩
    have HBa := hide ((unhide HB1).trans (hba.mono (unhide HB1).size))
    clear hba
    go_wp2_with fail
    go_ret
    exact ⟨rfl, unhide HBa⟩
  | true =>
    have qa : Hid (na ≤ 200) := hide (by have h := (unhide HLB rfl).1 ⟨a, la, ca⟩ (by simp); rw [← unhide Na]; exact h)
    have qb : Hid (nb ≤ 200) := hide (by have h := (unhide HLB rfl).1 ⟨b, lb, cb⟩ (by simp); rw [← unhide Nb]; exact h)
    have HWS := hide (unhide HLB rfl).2
    clear HLB
    by_cases hsz : (4096 : Int) < (s.size : Int)
    · skip
      go_wp2_with fail
      refine Calls.mono (awake_any _ (unhide HU _ (unhide HB1))) ?_
      rintro r wa ⟨rfl, hba⟩
      have HBa := hide ((unhide HB1).trans (hba.mono (unhide HB1).size))
      clear hba
      go_wp2_with fail
      go_ret
      exact ⟨rfl, unhide HBa⟩
    · have hs48 : Hid (s.size ≤ 281474976710656) := hide (by have := unhide HS; omega)
      have hsm : Hid (s.size ≤ 4096) := hide (by omega)
      obtain ⟨sz, hsz2⟩ : ∃ z, s.size = z := ⟨_, rfl⟩
      rw [hsz2] at hsz
      go_wp2_with fail
      refine Calls.mono (apply_at s (unhide HU _ (unhide HB1)) (unhide Ea _ (unhide HB1)) (unhide Na) (unhide hs48) (unhide HB1)) ?_
      rintro r w2 ⟨h_, hb_⟩
      have Hw2 := hide hb_
      clear hb_
      clear hsz2
      rcases h_ with ⟨h2, rfl⟩ | ⟨h2, S1, c0, x0, x1, rfl⟩
      · clear h2
        go_wp2_with fail
        refine Calls.mono (apply_at s (unhide HU _ (unhide Hw2)) (unhide Eb _ (unhide Hw2)) (unhide Nb) (unhide hs48) (unhide Hw2)) ?_
        rintro r w3 ⟨h_, hb_⟩
        have Hw3 := hide hb_
        clear hb_
        rcases h_ with ⟨h3, rfl⟩ | ⟨h3, S2, c1, x2, x3, rfl⟩
        · clear h3
          go_wp2_with fail
          refine Calls.mono (awake_any _ (unhide HU _ (unhide Hw3))) ?_
          rintro r wa ⟨rfl, hba⟩
          have HBa := hide ((unhide Hw3).trans (hba.mono (unhide Hw3).size))
          clear hba
          go_wp2_with fail
          go_ret
          exact ⟨rfl, unhide HBa⟩
        · clear h3 x2 x3
          go_wp2_with fail
          refine Calls.mono (awake_any _ (unhide HU _ (unhide Hw3))) ?_
          rintro r wa ⟨rfl, hba⟩
          have HBa := hide ((unhide Hw3).trans (hba.mono (unhide Hw3).size))
          clear hba
          go_wp2_with fail
          go_ret
          exact ⟨rfl, unhide HBa⟩
      · obtain ⟨cs, ta, y0, hEa⟩ := isOf_ed h2
        obtain rfl : c0 = cs := x0.inj y0
        have X0 := hide x0
        have X1 := hide x1
        have HEA := hide hEa
        clear h2 x0 x1 y0 hEa
        go_wp2_with fail
        refine Calls.mono (apply_at s (unhide HU _ (unhide Hw2)) (unhide Eb _ (unhide Hw2)) (unhide Nb) (unhide hs48) (unhide Hw2)) ?_
        rintro r w3 ⟨h_, hb_⟩
        have Hw3 := hide hb_
        clear hb_
        rcases h_ with ⟨h3, rfl⟩ | ⟨h3, S2, c1, x2, x3, rfl⟩
        · clear h3
          go_wp2_with fail
          refine Calls.mono (awake_any _ (unhide HU _ (unhide Hw3))) ?_
          rintro r wa ⟨rfl, hba⟩
          have HBa := hide ((unhide Hw3).trans (hba.mono (unhide Hw3).size))
          clear hba
          go_wp2_with fail
          go_ret
          exact ⟨rfl, unhide HBa⟩
        · obtain ⟨cs, tb, y0, hEb⟩ := isOf_ed h3
          obtain rfl : c1 = cs := x2.inj y0
          obtain rfl : c1 = c0 := x2.inj (unhide X0)
          have HEB := hide hEb
          have X2 := hide x3
          have HLIM := hide (light_limit (unhide HWS) (unhide HEA) hEb ((unhide X0).few (unhide hsm)))
          clear h3 x2 x3 y0 hEb
          have HLA : Hid ((At.app (atomsL la) c1).length = ta) := hide (by rw [At.app_len _ _ (unhide HEA).2.1.symm]; exact (unhide HEA).2.2.1)
          have HLB' : Hid ((At.app (atomsL lb) c1).length = tb) := hide (by rw [At.app_len _ _ (unhide HEB).2.1.symm]; exact (unhide HEB).2.2.1)
          go_wp2_with fail
          refine Calls.mono (transform_at (unhide HU _ (unhide Hw3)) (unhide Ea _ (unhide Hw3)) (unhide Eb _ (unhide Hw3)) (unhide Na) (unhide Nb) (by have := unhide qa; have := unhide qb; omega) (unhide Hw3)) ?_
          rintro r w4 ⟨h4, hb4⟩
          have Hw4 := hide hb4
          obtain ⟨p1, p2, n1, n2, e1, e2, m1, m2, f1, f2, t12, h4⟩ := tra_ok h4 (unhide HEA) (unhide HEB)
          rcases h4 with ⟨h4, _⟩ | ⟨d1, d2, v1, v2, rfl, o1, o2⟩
          · exfalso
            rw [e1, ← At.toN_sw (At.can_sw _)] at h4
            have := unhide HLIM
            omega
          have M1 : Hid (p1.length ≤ 803 ∧ p2.length ≤ 803) := hide (by have h1 := unhide qa; have h2 := unhide qb; have h3 := unhide Na; have h4 := unhide Nb; omega)
          have E_1 := hide e1
          have E_2 := hide e2
          have D1 := hide d1
          have D2 := hide d2
          obtain ⟨ap, cp, hvp, hEp⟩ := o1.edit (ed_txt d1) (by have := (unhide M1).1; omega)
          subst hvp
          have Ep := hide hEp
          obtain ⟨np, hnp⟩ : ∃ z, p1.length = z := ⟨_, rfl⟩
          rw [hnp]
          have Np := hide hnp
          clear hEp hnp o1
          obtain ⟨aq, cq, hvq, hEq⟩ := o2.edit (ed_txt d2) (by have := (unhide M1).2; omega)
          subst hvq
          have Eq := hide hEq
          obtain ⟨nq, hnq⟩ : ∃ z, p2.length = z := ⟨_, rfl⟩
          rw [hnq]
          have Nq := hide hnq
          clear hEq hnq o2
          clear hb4 n1 n2 e1 e2 m1 m2 f1 f2 t12 d1 d2 HLIM
          have Ep' : Hid (∀ W, Below w4.heap.size w4 W → Edit W ap p1 cp) := hide (fun W h => (unhide Ep).call h)
          have Eq' : Hid (∀ W, Below w4.heap.size w4 W → Edit W aq p2 cq) := hide (fun W h => (unhide Eq).call h)
          have H44 := hide (Below.refl w4.heap.size w4)
          clear Ep Eq
          go_wp2_with fail
          refine Calls.mono (apply_at (w := w4) S1 (unhide HU _ (unhide Hw4)) (unhide Eq' _ (unhide H44)) (unhide Nq) ((unhide X1).small (unhide HLA) (unhide HEA).2.2.2.2) (unhide H44)) ?_
          rintro r w5 ⟨h5, hb5⟩
          have H45 := hide hb5
          clear hb5 H44
          rcases h5 with ⟨h5, _⟩ | ⟨_, S3, c5, x5, x6, rfl⟩
          · have hh := unhide D2
            rw [← unhide HLA] at hh
            rw [ed_isOf (unhide X1) hh] at h5; cases h5
          obtain rfl : c5 = At.app (atomsL la) c1 := x5.inj (unhide X1)
          have X6 := hide x6
          clear x5 x6
          have Hw5 := hide ((unhide Hw4).trans ((unhide H45).mono (unhide Hw4).size))
          go_wp2_with fail
          refine Calls.mono (apply_at (w := w4) S2 (unhide HU _ (unhide Hw5)) (unhide Ep' _ (unhide H45)) (unhide Np) ((unhide X2).small (unhide HLB') (unhide HEB).2.2.2.2) (unhide H45)) ?_
          rintro r w6 ⟨h6, hb6⟩
          have H46 := hide hb6
          clear hb6 Hw5
          rcases h6 with ⟨h6, _⟩ | ⟨_, S4, c6, x7, x8, rfl⟩
          · have hh := unhide D1
            rw [← unhide HLB'] at hh
            rw [ed_isOf (unhide X2) hh] at h6; cases h6
          obtain rfl : c6 = At.app (atomsL lb) c1 := x7.inj (unhide X2)
          have hsame : S4 = S3 := by
            refine x8.same ?_
            have hx := unhide X6
            rw [unhide E_2, At.app_can] at hx
            rw [unhide E_1, At.app_can, ← At.diamond _ _ _ (unhide HEA).2.1.symm (unhide HEB).2.1.symm]
            exact hx
          subst hsame
          clear x7 x8 X6
          have Hw6 := hide ((unhide Hw4).trans ((unhide H46).mono (unhide Hw4).size))
          go_wp2_with fail
          refine Calls.mono (compose_at (w := w4) (unhide HU _ (unhide Hw6)) (unhide Ea _ (unhide Hw6)) (unhide Eq' _ (unhide H46)) (unhide Na) (unhide Nq) (by have := unhide qa; have := (unhide M1).2; have := unhide Nq; omega) (unhide H46)) ?_
          rintro r w7 ⟨⟨h7, _⟩, hb7⟩
          have H47 := hide hb7
          clear hb7
          rcases h7 with ⟨h7, _⟩ | ⟨_, v7, l7, rfl, o7, nf7, at7, ln7⟩
          · rw [ed_comB (unhide HEA) (unhide D2)] at h7; cases h7
          have hE7 := ed_comp (unhide HEA) (unhide D2) nf7 at7
          have D7 := hide hE7
          have A7 : Hid (atomsL l7 = At.can (At.comp (atomsL la) (At.two (atomsL la) (atomsL lb)))) := hide (by rw [at7, unhide E_2, At.can_comp_right])
          have M7 : Hid (l7.length ≤ 3000) := hide (by have h1 := unhide qa; have h2 := (unhide M1).2; have h3 := unhide Na; have h4 := unhide Nq; omega)
          obtain ⟨ak, ck, hvk, hEk⟩ := o7.edit (ed_txt hE7) (by have := unhide M7; omega)
          subst hvk
          have Ek := hide hEk
          obtain ⟨nk, hnk⟩ : ∃ z, l7.length = z := ⟨_, rfl⟩
          rw [hnk]
          have Nk := hide hnk
          clear hEk hnk o7
          have Ek' : Hid (∀ W, Below w7.heap.size w7 W → Edit W ak l7 ck) := hide (fun W h => (unhide Ek).call h)
          clear hE7 nf7 at7 ln7 Ek Hw6
          have Hw7 := hide ((unhide Hw4).trans ((unhide H47).mono (unhide Hw4).size))
          have H77 := hide (Below.refl w7.heap.size w7)
          go_wp2_with fail
          refine Calls.mono (compose_at (w := w7) (unhide HU _ (unhide Hw7)) (unhide Eb _ (unhide Hw7)) (unhide Ep' _ (unhide H47)) (unhide Nb) (unhide Np) (by have := unhide qb; have := (unhide M1).1; have := unhide Np; omega) (unhide H77)) ?_
          rintro r w8 ⟨⟨h8, _⟩, hb8⟩
          have H78 := hide hb8
          clear hb8 H77
          rcases h8 with ⟨h8, _⟩ | ⟨_, v8, l8, rfl, o8, nf8, at8, ln8⟩
          · rw [ed_comB (unhide HEB) (unhide D1)] at h8; cases h8
          have hE8 := ed_comp (unhide HEB) (unhide D1) nf8 at8
          have hll : l8 = l7 := by
            refine nf_unique _ _ _ _ nf8 (unhide D7).1 ?_
            rw [at8, unhide E_1, At.can_comp_right, unhide A7]
            exact (At.can_of_sw (At.square _ _ (by rw [(unhide HEA).2.1, (unhide HEB).2.1]))).symm
          have M8 : Hid (l8.length ≤ 3000) := hide (by rw [hll]; exact unhide M7)
          have D8 := hide hE8
          have LL := hide hll
          obtain ⟨aj, cj, hvj, hEj⟩ := o8.edit (ed_txt hE8) (by have := unhide M8; omega)
          subst hvj
          have Ej := hide hEj
          obtain ⟨nj, hnj⟩ : ∃ z, l8.length = z := ⟨_, rfl⟩
          rw [hnj]
          have Nj := hide hnj
          clear hEj hnj o8
          clear hE8 nf8 at8 ln8 hll
          have Hw8 := hide ((unhide Hw7).trans ((unhide H78).mono (unhide Hw7).size))
          have Ej' : Hid (∀ W, Below w8.heap.size w8 W → Edit W aj l8 cj) := hide (fun W h => (unhide Ej).call h)
          have H88 := hide (Below.refl w8.heap.size w8)
          clear Ej
          go_wp2_with fail
          refine Calls.mono (rsame_at (w := w8) (unhide Ek' _ (unhide H78)) (unhide Ej' _ (unhide H88)) (unhide LL).symm (unhide Nk) (unhide Nj) (unhide H88)) ?_
          rintro r w9 ⟨rfl, hb9⟩
          have H89 := hide hb9
          clear hb9 H88
          go_wp2_with fail
          refine Calls.mono (count_at (w := w8) (unhide X0) (unhide hs48) (unhide H89)) ?_
          rintro r w10 ⟨rfl, hb10⟩
          have H810 := hide hb10
          clear hb10 H89
          have HU8 : Hid (∀ W, Below w8.heap.size w8 W → UT W) := hide (fun W h => unhide HU _ ((unhide Hw8).trans (h.mono (unhide Hw8).size)))
          go_wp2_with fail
          refine Calls.mono (check_at (w := w8) (unhide HU8 _ (unhide H810)) ((unhide Ek' _ (unhide H78)).call (unhide H810)) (unhide Nk) (unhide H810)) ?_
          rintro r w11 ⟨rfl, hb11⟩
          rw [ed_check (unhide D7)]
          have H811 := hide hb11
          clear hb11 H810
          go_wp2_with fail
          refine Calls.mono (count_at (w := w8) (unhide X0) (unhide hs48) (unhide H811)) ?_
          rintro r w12 ⟨rfl, hb12⟩
          have H812 := hide hb12
          clear hb12 H811
          go_wp2_with fail
          refine Calls.mono (check_at (w := w8) (unhide HU8 _ (unhide H812)) (unhide Ej' _ (unhide H812)) (unhide Nj) (unhide H812)) ?_
          rintro r w13 ⟨rfl, hb13⟩
          rw [ed_check (unhide D8)]
          have Hw13 := hide ((unhide Hw8).trans (hb13.mono (unhide Hw8).size))
          clear hb13 H812
          go_wp2_with fail
          refine Calls.mono (awake_any _ (unhide HU _ (unhide Hw13))) ?_
          rintro r wa ⟨rfl, hba⟩
          have HBa := hide ((unhide Hw13).trans (hba.mono (unhide Hw13).size))
          clear hba
          go_wp2_with fail
          go_ret
          exact ⟨rfl, unhide HBa⟩
end Go.Proofs.YtidblnjohkadhaaDoor
