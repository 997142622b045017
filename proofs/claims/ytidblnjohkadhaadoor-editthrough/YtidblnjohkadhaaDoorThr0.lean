/- Behind a composed edit as behind both: the walk. -/
import Derived.Test.YtidblnjohkadhaaDoorSqu0
import Derived.Test.YtidblnjohkadhaaDoorNar2
import Derived.Test.YtidblnjohkadhaaDoorWof
namespace Go.Proofs.YtidblnjohkadhaaDoor
set_option linter.unusedVariables false
set_option linter.unusedSimpArgs false
open Go.ChangeShapes Go.WideShapes Go.ChangeAt Go.RowKit Go.Joins Go.Deep

set_option maxRecDepth 100000 in
set_option maxHeartbeats 4000000 in
theorem eq_two (a b c d : Int) (w : World) : (Op.equalIn 10000 55 (.agg #[.int .i64 a, .int .i64 b]) (.agg #[.int .i64 c, .int .i64 d])).run Tryd.prog w = .ok (a == c && b == d) w := by
  have u3 := Tryd.underlying3
  have a3 := Tryd.isAgg3
  have z3 := Tryd.sizeOf3
  rw [show (10000 : Nat) = 9999 + 1 from rfl, Op.equalIn]
  simp only [Sem.run_bind, run_underlying Tryd.underlying55, Result.andThen_ok]
  simp only [Std.Legacy.Range.forIn_eq_forIn_range', Std.Legacy.Range.size, Nat.sub_zero, Nat.add_sub_cancel, Nat.div_one, List.range'_succ, List.range'_zero, List.forIn_cons, List.forIn_nil]
  go_simp
  by_cases h1 : a = c <;> by_cases h2 : b = d <;> simp [h1, h2]
theorem puts_le (x : List At) : At.putsN x ≤ At.toN x := by
  induction x with
  | nil => simp [At.putsN]
  | cons s x ih => cases s <;> simp only [At.toN, At.putsN] <;> omega
/-- few code points: Transform is in the limit -/
theorem one_limit {la lb c1 : List Pt} {n ta tb m : Nat} (h1 : IsEd la n ta) (h2 : IsEd lb n tb) (e1 : atomsL c1 = At.can (At.one (atomsL la) (atomsL lb))) (hp : At.putsN (atomsL la) ≤ m) (hb : tb + m ≤ 1099511627776) : At.toN (atomsL c1) ≤ 1099511627776 := by
  have hs := At.sizes (atomsL la) (atomsL lb) (by rw [h1.2.1, h2.2.1])
  rw [e1, ← At.toN_sw (At.can_sw _)]
  have h := to_le (At.one (atomsL la) (atomsL lb))
  rw [hs.1, hs.2.2.2.1, h2.2.2.1] at h
  omega
theorem one_puts {la lb c1 : List Pt} {n ta tb : Nat} (h1 : IsEd la n ta) (h2 : IsEd lb n tb) (e1 : atomsL c1 = At.can (At.one (atomsL la) (atomsL lb))) : At.putsN (atomsL c1) = At.putsN (atomsL la) := by
  have hs := At.sizes (atomsL la) (atomsL lb) (by rw [h1.2.1, h2.2.1])
  rw [e1, ← At.putsN_sw (At.can_sw _), hs.2.2.2.1]
set_option maxRecDepth 100000 in
set_option maxHeartbeats 4000000 in
theorem through_law (a : Option Addr) (la : List Pt) (ca : Nat) (b : Option Addr) (lb : List Pt) (cb : Nat) (c : Option Addr) (lc : List Pt) (cc : Nat) (w : World) (hT : UT w) (ea : Edit w a la ca) (eb : Edit w b lb cb) (ec : Edit w c lc cc) : Calls Tryd.prog 15 #[.slice a la.length ca, .slice b lb.length cb, .slice c lc.length cc] w fun r w' => r = .returned (.bool true) ∧ Below w.heap.size w w' := by
  have HU : Hid (∀ W, Below w.heap.size w W → UT W) := hide (fun W h => hT.call h)
  have HB0 := hide (Below.refl w.heap.size w)
  have Ea : Hid (∀ W, Below w.heap.size w W → Edit W a la ca) := hide (fun W h => ea.call h)
  have Ta := hide (⟨ea.txt, ea.cap, ea.max, ea.num⟩ : _ ∧ _ ∧ _ ∧ _)
  have Eb : Hid (∀ W, Below w.heap.size w W → Edit W b lb cb) := hide (fun W h => eb.call h)
  have Tb := hide (⟨eb.txt, eb.cap, eb.max, eb.num⟩ : _ ∧ _ ∧ _ ∧ _)
  have Ec : Hid (∀ W, Below w.heap.size w W → Edit W c lc cc) := hide (fun W h => ec.call h)
  have Tc := hide (⟨ec.txt, ec.cap, ec.max, ec.num⟩ : _ ∧ _ ∧ _ ∧ _)
  have hbL : Below w.heap.size w (w.alloc (.cells #[.slice a la.length ca, .slice b lb.length cb, .slice c lc.length cc] 22)) := (Below.refl _ _).alloc (Nat.le_refl _) _
  have HLT := hide (narrow2_any w.heap.size [⟨a, la, ca⟩, ⟨b, lb, cb⟩, ⟨c, lc, cc⟩] (w.alloc (.cells #[.slice a la.length ca, .slice b lb.length cb, .slice c lc.length cc] 22)) (RowAt.new w 22 _) (by
    intro e he
    simp only [List.mem_cons, List.not_mem_nil, or_false] at he
    rcases he with rfl | rfl | rfl
    · exact (ea.call hbL).pts
    · exact (eb.call hbL).pts
    · exact (ec.call hbL).pts
    ) (by
    intro e he
    simp only [List.mem_cons, List.not_mem_nil, or_false] at he
    rcases he with rfl | rfl | rfl
    · exact Nat.le_trans ea.cap ea.max
    · exact Nat.le_trans eb.cap eb.max
    · exact Nat.le_trans ec.cap ec.max
    ) (by
    intro e he
    simp only [List.mem_cons, List.not_mem_nil, or_false] at he
    rcases he with rfl | rfl | rfl
    · exact ea.txt2
    · exact eb.txt2
    · exact ec.txt2
    ) (by simp))
  have HBL := hide hbL
  obtain ⟨na, hna⟩ : ∃ z, la.length = z := ⟨_, rfl⟩
  obtain ⟨nb, hnb⟩ : ∃ z, lb.length = z := ⟨_, rfl⟩
  obtain ⟨nc, hnc⟩ : ∃ z, lc.length = z := ⟨_, rfl⟩
  simp only [hna, hnb, hnc] at HLT HBL ⊢
  have Na := hide hna
  have Nb := hide hnb
  have Nc := hide hnc
  clear hT hbL ea hna eb hnb ec hnc
  go_enter Tryd.func15, Tryd.ntmps15
  go_wp2_with fail
  refine Calls.mono (unhide HLT) ?_
  rintro r w1 ⟨⟨lb_, rfl, hlb⟩, hb1⟩
  have HB1 := hide ((unhide HBL).trans (hb1.mono (unhide HBL).size))
  have HLB := hide hlb
  clear hb1 HLT hlb HBL
  cases lb_ with
  | false =>
    go_wp2_with fail
    refine Calls.mono (awake_any _ (unhide HU _ (unhide HB1))) ?_
    rintro r wa ⟨rfl, hba⟩
    have HBa := hide ((unhide HB1).trans (hba.mono (unhide HB1).size))
    clear hba
    go_wp2_with fail
    go_ret
    exact ⟨rfl, unhide HBa⟩
  | true =>
    have qa : Hid (na ≤ 200) := hide (by have h := (unhide HLB rfl).1 ⟨a, la, ca⟩ (by simp); rw [← unhide Na]; exact h)
    have qb : Hid (nb ≤ 200) := hide (by have h := (unhide HLB rfl).1 ⟨b, lb, cb⟩ (by simp); rw [← unhide Nb]; exact h)
    have qc : Hid (nc ≤ 200) := hide (by have h := (unhide HLB rfl).1 ⟨c, lc, cc⟩ (by simp); rw [← unhide Nc]; exact h)
    have HNS := hide (unhide HLB rfl).2.2
    clear HLB
    go_wp2_with fail
    refine Calls.mono (compose_at (w := w1) (unhide HU _ (unhide HB1)) (unhide Eb _ (unhide HB1)) (unhide Ec _ (unhide HB1)) (unhide Nb) (unhide Nc) (by have h1 := unhide qb; have h2 := unhide qc; omega) (Below.refl w1.heap.size w1)) ?_
    rintro r w2 ⟨⟨h_, _⟩, hb_⟩
    have HB2 := hide ((unhide HB1).trans (hb_.mono (unhide HB1).size))
    clear hb_
    rcases h_ with ⟨_, rfl⟩ | ⟨ht, v, lv, rfl, ov, nf_, at_, ln_⟩
    · skip
      go_wp2_with fail
      refine Calls.mono (transform_at (w := w2) (unhide HU _ (unhide HB2)) (unhide Ea _ (unhide HB2)) (unhide Eb _ (unhide HB2)) (unhide Na) (unhide Nb) (by have h1 := unhide qa; have h2 := unhide qb; omega) (Below.refl w2.heap.size w2)) ?_
      rintro r w3 ⟨h_, hb_⟩
      have HB3 := hide ((unhide HB2).trans (hb_.mono (unhide HB2).size))
      clear hb_
      rcases h_ with ⟨⟨_, rfl⟩ | ⟨_, c1, c2, _, _, _, _, _, _, ⟨_, rfl⟩ | ⟨_, v1, v2, rfl, _, _⟩⟩, _⟩
      · skip
        go_wp2_with fail
        refine Calls.mono (awake_any _ (unhide HU _ (unhide HB3))) ?_
        rintro r wa ⟨rfl, hba⟩
        have HBa := hide ((unhide HB3).trans (hba.mono (unhide HB3).size))
        clear hba
        go_wp2_with fail
        go_ret
        exact ⟨rfl, unhide HBa⟩
      · skip
        go_wp2_with fail
        refine Calls.mono (awake_any _ (unhide HU _ (unhide HB3))) ?_
        rintro r wa ⟨rfl, hba⟩
        have HBa := hide ((unhide HB3).trans (hba.mono (unhide HB3).size))
        clear hba
        go_wp2_with fail
        go_ret
        exact ⟨rfl, unhide HBa⟩
      · skip
        go_wp2_with fail
        refine Calls.mono (awake_any _ (unhide HU _ (unhide HB3))) ?_
        rintro r wa ⟨rfl, hba⟩
        have HBa := hide ((unhide HB3).trans (hba.mono (unhide HB3).size))
        clear hba
        go_wp2_with fail
        go_ret
        exact ⟨rfl, unhide HBa⟩
    obtain ⟨fb, fc, fd, hEb, hEc⟩ := comB_ed ht
    have Db := hide hEb
    have Dc := hide hEc
    clear ht hEb hEc
    have hEv := ed_comp (unhide Db) (unhide Dc) nf_ at_
    have hlc : lv.length ≤ 803 := by have h1 := unhide qb; have h2 := unhide qc; have h3 := unhide Nb; have h4 := unhide Nc; omega
    obtain ⟨v_, cv_, hvv_, hEv_⟩ := ov.edit (ed_txt hEv) (by omega)
    subst hvv_
    have Ov_2 := hide hEv_
    obtain ⟨nv_, hnv_⟩ : ∃ z, lv.length = z := ⟨_, rfl⟩
    rw [hnv_]
    have Nv_ := hide hnv_
    clear hEv_ hnv_ ov
    have Dv := hide hEv
    have Av := hide at_
    have HLV := hide hlc
    clear nf_ at_ ln_ hEv hlc
    go_wp2_with fail
    refine Calls.mono (transform_at (w := w2) (unhide HU _ (unhide HB2)) (unhide Ea _ (unhide HB2)) (unhide Eb _ (unhide HB2)) (unhide Na) (unhide Nb) (by have h1 := unhide qa; have h2 := unhide qb; omega) (Below.refl w2.heap.size w2)) ?_
    rintro r w3 ⟨h_, hb_⟩
    have HB3 := hide ((unhide HB2).trans (hb_.mono (unhide HB2).size))
    have Ov_3 := hide ((unhide Ov_2).call hb_)
    clear Ov_2
    clear hb_
    cases ht : traB la lb with
    | false =>
      rcases h_ with ⟨⟨_, rfl⟩ | ⟨h_, _⟩, _⟩
      · clear ht
        go_wp2_with fail
        refine Calls.mono (awake_any _ (unhide HU _ (unhide HB3))) ?_
        rintro r wa ⟨rfl, hba⟩
        have HBa := hide ((unhide HB3).trans (hba.mono (unhide HB3).size))
        clear hba
        go_wp2_with fail
        go_ret
        exact ⟨rfl, unhide HBa⟩
      · rw [ht] at h_; cases h_
    | true =>
      obtain ⟨nn, ta, tb, hEa, hEb⟩ := traB_ed ht
      obtain ⟨rfl, rfl⟩ := ed_uniq hEb (unhide Db)
      have Da := hide hEa
      have hna := unhide HNS ⟨a, la, ca⟩ (by simp) _ _ _ (ed_size hEa)
      have hnc := unhide HNS ⟨c, lc, cc⟩ (by simp) _ _ _ (ed_size (unhide Dc))
      have HPU : Hid (At.putsN (atomsL la) ≤ 400) := hide (by have h1 := puts_le (atomsL la); rw [hEa.2.2.1] at h1; omega)
      have HTC : Hid (fd ≤ 400) := hide (by omega)
      obtain ⟨lx, l2, n1, n2, e1, e2, m1, m2, f1, f2, t12, h_⟩ := tra_ok h_ hEa hEb
      have HLX : Hid (lx.length ≤ 803) := hide (by have h1 := unhide qa; have h2 := unhide qb; have h3 := unhide Na; have h4 := unhide Nb; omega)
      have HPX := hide (one_puts hEa hEb e1)
      have E_x := hide e1
      obtain ⟨TT, hTT⟩ : ∃ z, At.toN (atomsL lx) = z := ⟨_, rfl⟩
      rw [hTT] at h_
      clear n1 n2 e1 e2 m1 m2 f1 f2 t12 hTT ht hEa hEb hna hnc
      rcases h_ with ⟨_, rfl⟩ | ⟨d1, _, v1, v2, rfl, o1, _⟩
      · skip
        go_wp2_with fail
        refine Calls.mono (awake_any _ (unhide HU _ (unhide HB3))) ?_
        rintro r wa ⟨rfl, hba⟩
        have HBa := hide ((unhide HB3).trans (hba.mono (unhide HB3).size))
        clear hba
        go_wp2_with fail
        go_ret
        exact ⟨rfl, unhide HBa⟩
      obtain ⟨x, cx, hvx, hEx⟩ := o1.edit (ed_txt d1) (by have := unhide HLX; omega)
      subst hvx
      have Ox3 := hide hEx
      obtain ⟨nx, hnx⟩ : ∃ z, lx.length = z := ⟨_, rfl⟩
      rw [hnx]
      have Nx := hide hnx
      clear hEx hnx o1
      have Dx := hide d1
      clear d1
      go_wp2_with fail
      refine Calls.mono (transform_at (w := w3) (unhide HU _ (unhide HB3)) (unhide Ox3) (unhide Ec _ (unhide HB3)) (unhide Nx) (unhide Nc) (by have h1 := unhide qc; have h2 := unhide HLX; have h3 := unhide Nx; omega) (Below.refl w3.heap.size w3)) ?_
      rintro r w4 ⟨h_, hb_⟩
      have HB4 := hide ((unhide HB3).trans (hb_.mono (unhide HB3).size))
      have Ov_4 := hide ((unhide Ov_3).call hb_)
      clear Ov_3
      have Ox4 := hide ((unhide Ox3).call hb_)
      clear Ox3
      clear hb_
      obtain ⟨ly, l2, n1, n2, e1, e2, m1, m2, f1, f2, t12, h_⟩ := tra_ok h_ (unhide Dx) (unhide Dc)
      have HLY : Hid (ly.length ≤ 3000) := hide (by have h1 := unhide qc; have h2 := unhide HLX; have h3 := unhide Nc; omega)
      have E_y := hide e1
      have hlim := one_limit (unhide Dx) (unhide Dc) e1 (m := 400) (by rw [unhide HPX]; exact unhide HPU) (by have := unhide HTC; omega)
      rcases h_ with ⟨h_, _⟩ | ⟨d1, _, v1, v2, rfl, o1, _⟩
      · exfalso; omega
      obtain ⟨Ty, hTT⟩ : ∃ z, At.toN (atomsL ly) = z := ⟨_, rfl⟩
      rw [hTT] at d1
      clear n1 n2 e1 e2 m1 m2 f1 f2 t12 hTT hlim
      obtain ⟨y, cy, hvy, hEy⟩ := o1.edit (ed_txt d1) (by have := unhide HLY; omega)
      subst hvy
      have Oy4 := hide hEy
      obtain ⟨ny, hny⟩ : ∃ z, ly.length = z := ⟨_, rfl⟩
      rw [hny]
      have Ny := hide hny
      clear hEy hny o1
      have Dy := hide d1
      clear d1
      go_wp2_with fail
      refine Calls.mono (transform_at (w := w4) (unhide HU _ (unhide HB4)) (unhide Ea _ (unhide HB4)) (unhide Ov_4) (unhide Na) (unhide Nv_) (by have h1 := unhide qa; have h2 := unhide HLV; have h3 := unhide Nv_; omega) (Below.refl w4.heap.size w4)) ?_
      rintro r w5 ⟨h_, hb_⟩
      have HB5 := hide ((unhide HB4).trans (hb_.mono (unhide HB4).size))
      have Ov_5 := hide ((unhide Ov_4).call hb_)
      clear Ov_4
      have Ox5 := hide ((unhide Ox4).call hb_)
      clear Ox4
      have Oy5 := hide ((unhide Oy4).call hb_)
      clear Oy4
      clear hb_
      obtain ⟨lz, l2, n1, n2, e1, e2, m1, m2, f1, f2, t12, h_⟩ := tra_ok h_ (unhide Da) (unhide Dv)
      have HLZ : Hid (lz.length ≤ 3000) := hide (by have h1 := unhide qa; have h2 := unhide HLV; have h3 := unhide Na; omega)
      have E_z := hide e1
      have hlim := one_limit (unhide Da) (unhide Dv) e1 (m := 400) (unhide HPU) (by have := unhide HTC; omega)
      rcases h_ with ⟨h_, _⟩ | ⟨d1, _, v1, v2, rfl, o1, _⟩
      · exfalso; omega
      obtain ⟨Tz, hTT⟩ : ∃ z, At.toN (atomsL lz) = z := ⟨_, rfl⟩
      rw [hTT] at d1
      clear n1 n2 e1 e2 m1 m2 f1 f2 t12 hTT hlim
      obtain ⟨z, cz, hvz, hEz⟩ := o1.edit (ed_txt d1) (by have := unhide HLZ; omega)
      subst hvz
      have Oz5 := hide hEz
      obtain ⟨nz, hnz⟩ : ∃ z, lz.length = z := ⟨_, rfl⟩
      rw [hnz]
      have Nz := hide hnz
      clear hEz hnz o1
      have Dz := hide d1
      clear d1
      have HPE : Hid (At.putsN (atomsL ly) = At.putsN (atomsL lz)) := hide (by rw [one_puts (unhide Dx) (unhide Dc) (unhide E_y), unhide HPX, one_puts (unhide Da) (unhide Dv) (unhide E_z)])
      have HDE : Hid (At.dropsN (atomsL ly) = At.dropsN (atomsL lz)) := hide (by
        rw [unhide E_y, ← At.dropsN_sw (At.can_sw _), unhide E_z, ← At.dropsN_sw (At.can_sw _), unhide E_x, unhide Av]
        rw [At.drops_sw (At.can_sw _).symm (At.Sw.refl _), At.drops_one _ _ _ (by rw [(unhide Da).2.1, (unhide Db).2.1]) (by rw [(unhide Db).2.2.1, (unhide Dc).2.1])]
        exact At.drops_sw (At.Sw.refl _) (At.can_sw _))
      go_wp2_with fail
      refine Calls.mono (size_at (w := w5) (unhide HU _ (unhide HB5)) (unhide Oz5) (unhide Nz) (Below.refl w5.heap.size w5)) ?_
      rintro r w6 ⟨rfl, hb_⟩
      have HB6 := hide ((unhide HB5).trans (hb_.mono (unhide HB5).size))
      have Ov_6 := hide ((unhide Ov_5).call hb_)
      clear Ov_5
      have Ox6 := hide ((unhide Ox5).call hb_)
      clear Ox5
      have Oy6 := hide ((unhide Oy5).call hb_)
      clear Oy5
      have Oz6 := hide ((unhide Oz5).call hb_)
      clear Oz5
      clear hb_
      rw [ed_szVal (unhide Dz)]
      go_wp2_with fail
      refine Calls.mono (size_at (w := w6) (unhide HU _ (unhide HB6)) (unhide Oy6) (unhide Ny) (Below.refl w6.heap.size w6)) ?_
      rintro r w7 ⟨rfl, hb_⟩
      have HB7 := hide ((unhide HB6).trans (hb_.mono (unhide HB6).size))
      have Ov_7 := hide ((unhide Ov_6).call hb_)
      clear Ov_6
      have Ox7 := hide ((unhide Ox6).call hb_)
      clear Ox6
      have Oy7 := hide ((unhide Oy6).call hb_)
      clear Oy6
      have Oz7 := hide ((unhide Oz6).call hb_)
      clear Oz6
      clear hb_
      rw [ed_szVal (unhide Dy)]
      go_wp2_with fail
      refine Calls.mono (weightOf_at (w := w7) (unhide HU _ (unhide HB7)) (unhide Oy7) (unhide Ny) (by have := unhide HLY; omega) (unhide Dy) (Below.refl w7.heap.size w7)) ?_
      rintro r w8 ⟨rfl, hb_⟩
      have HB8 := hide ((unhide HB7).trans (hb_.mono (unhide HB7).size))
      have Ov_8 := hide ((unhide Ov_7).call hb_)
      clear Ov_7
      have Ox8 := hide ((unhide Ox7).call hb_)
      clear Ox7
      have Oy8 := hide ((unhide Oy7).call hb_)
      clear Oy7
      have Oz8 := hide ((unhide Oz7).call hb_)
      clear Oz7
      clear hb_
      rw [unhide HPE, unhide HDE]
      obtain ⟨pz, hpz⟩ : ∃ z : Int, (At.putsN (atomsL lz) : Int) = z := ⟨_, rfl⟩
      obtain ⟨dz, hdz⟩ : ∃ z : Int, (At.dropsN (atomsL lz) : Int) = z := ⟨_, rfl⟩
      have HPZ := hide hpz
      have HDZ := hide hdz
      rw [hpz, hdz]
      clear hpz hdz
      go_wp2_with fail
      refine Calls.mono (weightOf_at (w := w8) (unhide HU _ (unhide HB8)) (unhide Oz8) (unhide Nz) (by have := unhide HLZ; omega) (unhide Dz) (Below.refl w8.heap.size w8)) ?_
      rintro r w9 ⟨rfl, hb_⟩
      have HB9 := hide ((unhide HB8).trans (hb_.mono (unhide HB8).size))
      have Ov_9 := hide ((unhide Ov_8).call hb_)
      clear Ov_8
      have Ox9 := hide ((unhide Ox8).call hb_)
      clear Ox8
      have Oy9 := hide ((unhide Oy8).call hb_)
      clear Oy8
      have Oz9 := hide ((unhide Oz8).call hb_)
      clear Oz8
      clear hb_
      rw [unhide HPZ, unhide HDZ]
      have eqz := fun w => eq_two pz dz pz dz w
      simp only [BEq.rfl, Bool.and_self] at eqz
      have HBz : Hid (Below w.heap.size w ((w9.alloc (.cells #[.int .i64 pz, .int .i64 dz] 55)).alloc (.cells #[.int .i64 pz, .int .i64 dz] 55))) := hide (((unhide HB9).alloc (unhide HB9).size _).alloc (Nat.le_trans (unhide HB9).size ((Below.refl w9.heap.size w9).alloc (Nat.le_refl _) _).size) _)
      go_wp2_with fail
      refine Calls.mono (awake_any _ (unhide HU _ (unhide HBz))) ?_
      rintro r wa ⟨rfl, hba⟩
      have HBa := hide ((unhide HBz).trans (hba.mono (unhide HBz).size))
      clear hba
      go_wp2_with fail
      go_ret
      exact ⟨rfl, unhide HBa⟩
end Go.Proofs.YtidblnjohkadhaaDoor
