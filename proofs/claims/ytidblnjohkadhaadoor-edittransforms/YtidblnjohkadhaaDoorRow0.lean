/- A composed edit makes what both make: the walk. -/
import Derived.Test.YtidblnjohkadhaaDoorAwk
import Derived.Test.YtidblnjohkadhaaDoorLgt
namespace Go.Proofs.YtidblnjohkadhaaDoor
set_option linter.unusedVariables false
set_option linter.unusedSimpArgs false
open Go.ChangeShapes Go.WideShapes Go.ChangeAt Go.RowKit Go.Joins Go.Deep

theorem Edit.call {w w' : World} {a : Option Addr} {l : List Pt} {c : Nat} (h : Edit w a l c) (hb : Below w.heap.size w w') : Edit w' a l c := ⟨h.pts.call hb, h.at_.call hb, h.cap, h.max, h.txt, h.num⟩
theorem OwnP.edit {w : World} {B : Nat} {v : Value} {l : List Pt} (h : OwnP w B v l) (ht : ∀ p ∈ l, p.text.size ≤ 140737488351232) (hn : l.length ≤ 4398046511104) : ∃ a c, v = .slice a l.length c ∧ Edit w a l c := by
  obtain ⟨a, c, e, h1, h2, h3, h4⟩ := h.open
  exact ⟨a, c, e, h1, h2, h3, h4, ht, hn⟩
theorem ed_txt {l : List Pt} {f t : Nat} (h : IsEd l f t) : ∀ p ∈ l, p.text.size ≤ 140737488351232 := fun p hp => by
  have h1 := ed_fit h p hp
  have := h1.1.size
  have := h1.2
  omega
theorem Edit.txt2 {w : World} {a : Option Addr} {l : List Pt} {c : Nat} (h : Edit w a l c) : ∀ p ∈ l, p.text.size ≤ 281474976710656 := fun p hp => by have := h.txt p hp; omega
theorem ed_comp {la lb c : List Pt} {n m t : Nat} (h1 : IsEd la n m) (h2 : IsEd lb m t) (h3 : NfG 0 c) (h4 : atomsL c = At.can (At.comp (atomsL la) (atomsL lb))) : IsEd c n t := by
  have hs : At.toN (atomsL la) = At.fromN (atomsL lb) := by rw [h1.2.2.1, h2.2.1]
  refine ⟨h3, ?_, ?_, h1.2.2.2.1, h2.2.2.2.2⟩
  · rw [h4, ← At.fromN_sw (At.can_sw _), At.comp_from _ _ hs, h1.2.1]
  · rw [h4, ← At.toN_sw (At.can_sw _), At.comp_to _ _ hs, h2.2.2.1]
theorem Tx.small {s : ByteArray} {cs : List (List UInt8)} (h : Tx s cs) {n : Nat} (hl : cs.length = n) (hn : n ≤ 1099511627776) : s.size ≤ 281474976710656 := by
  have h1 := h.cps.most
  rw [← h.size] at h1
  omega
theorem Tx.same {s t : ByteArray} {cs : List (List UInt8)} (h : Tx s cs) (k : Tx t cs) : s = t := by rw [h.bytes, k.bytes]
/-- Apply, whatever comes of it -/
theorem apply_at {w W : World} {a : Option Addr} {l : List Pt} {c n : Nat} (s : ByteArray) (hU : UT W) (he : Edit W a l c) (hn : l.length = n) (hs : s.size ≤ 281474976710656) (hb : Below w.heap.size w W) :
    Calls Tryd.prog 39 #[.slice a n c, .string s] W fun r w' => AplR l s r ∧ Below w.heap.size w w' := by
  subst hn
  refine Calls.mono (apply_any a l c s W hU he.pts (Nat.le_trans he.cap he.max) he.txt2 hs) ?_
  rintro r w' ⟨h, h2⟩
  exact ⟨h, hb.trans (h2.mono hb.size)⟩
theorem compose_at {w W : World} {a b : Option Addr} {la lb : List Pt} {ca cb na nb : Nat} (hU : UT W) (ha : Edit W a la ca) (hb' : Edit W b lb cb) (hna : la.length = na) (hnb : lb.length = nb) (hl : na + nb ≤ 1099511627776) (hb : Below w.heap.size w W) :
    Calls Tryd.prog 44 #[.slice a na ca, .slice b nb cb] W fun r w' => ComR W w' la lb r ∧ Below w.heap.size w w' := by
  subst hna hnb
  refine Calls.mono (compose_any a b la lb ca cb W hU ha.pts hb'.pts ha.at_ hb'.at_ ha.cap hb'.cap ha.max hb'.max ha.txt2 hb'.txt2 hl) ?_
  rintro r w' h
  exact ⟨h, hb.trans (h.2.mono hb.size)⟩
theorem transform_at {w W : World} {a b : Option Addr} {la lb : List Pt} {ca cb na nb : Nat} (hU : UT W) (ha : Edit W a la ca) (hb' : Edit W b lb cb) (hna : la.length = na) (hnb : lb.length = nb) (hl : na + nb ≤ 1099511627776) (hb : Below w.heap.size w W) :
    Calls Tryd.prog 46 #[.slice a na ca, .slice b nb cb] W fun r w' => TraR W w' la lb r ∧ Below w.heap.size w w' := by
  subst hna hnb
  refine Calls.mono (transform_any a b la lb ca cb W hU ha.pts hb'.pts ha.at_ hb'.at_ ha.cap hb'.cap ha.max hb'.max ha.txt2 hb'.txt2 hl) ?_
  rintro r w' h
  exact ⟨h, hb.trans (h.2.mono hb.size)⟩
/-- what Apply made is an edit's text -/
theorem apl_ok {l : List Pt} {s : ByteArray} (h : isOfB l s = true) : ∃ cs t, Tx s cs ∧ IsEd l cs.length t := isOf_ed h
set_option maxRecDepth 100000 in
set_option maxHeartbeats 4000000 in
theorem row_law (a : Option Addr) (la : List Pt) (ca : Nat) (b : Option Addr) (lb : List Pt) (cb : Nat) (s : ByteArray) (w : World) (hT : UT w) (ea : Edit w a la ca) (eb : Edit w b lb cb) (hs : s.size ≤ 140737488351232) : Calls Tryd.prog 13 #[.slice a la.length ca, .slice b lb.length cb, .string s] w fun r w' => r = .returned (.bool true) ∧ Below w.heap.size w w' := by
  have HU : Hid (∀ W, Below w.heap.size w W → UT W) := hide (fun W h => hT.call h)
  have HB0 := hide (Below.refl w.heap.size w)
  have Ea : Hid (∀ W, Below w.heap.size w W → Edit W a la ca) := hide (fun W h => ea.call h)
  have Ta := hide (⟨ea.txt, ea.cap, ea.max, ea.num⟩ : _ ∧ _ ∧ _ ∧ _)
  have Eb : Hid (∀ W, Below w.heap.size w W → Edit W b lb cb) := hide (fun W h => eb.call h)
  have Tb := hide (⟨eb.txt, eb.cap, eb.max, eb.num⟩ : _ ∧ _ ∧ _ ∧ _)
  have hbL : Below w.heap.size w (w.alloc (.cells #[.slice a la.length ca, .slice b lb.length cb] 22)) := (Below.refl _ _).alloc (Nat.le_refl _) _
  have HLT := hide (light_any w.heap.size [⟨a, la, ca⟩, ⟨b, lb, cb⟩] (w.alloc (.cells #[.slice a la.length ca, .slice b lb.length cb] 22)) (RowAt.new w 22 _) (by
    intro e he
    simp only [List.mem_cons, List.not_mem_nil, or_false] at he
    rcases he with rfl | rfl
    · exact (ea.call hbL).pts
    · exact (eb.call hbL).pts
    ) (by
    intro e he
    simp only [List.mem_cons, List.not_mem_nil, or_false] at he
    rcases he with rfl | rfl
    · exact Nat.le_trans ea.cap ea.max
    · exact Nat.le_trans eb.cap eb.max
    ) (by simp))
  have HBL := hide hbL
  have HS := hide hs
  obtain ⟨na, hna⟩ : ∃ z, la.length = z := ⟨_, rfl⟩
  obtain ⟨nb, hnb⟩ : ∃ z, lb.length = z := ⟨_, rfl⟩
  simp only [hna, hnb] at HLT HBL ⊢
  have Na := hide hna
  have Nb := hide hnb
  clear hT hbL ea hna eb hnb hs
  go_enter Tryd.func13, Tryd.ntmps13
  go_wp2_with fail
  refine Calls.mono (unhide HLT) ?_
  rintro r w1 ⟨⟨lb_, rfl, hlb⟩, hb1⟩
  have HB1 := hide ((unhide HBL).trans (hb1.mono (unhide HBL).size))
  have HLB := hide hlb
  clear hb1 HLT hlb HBL
  cases lb_ with
  | false =>
    go_wp2_with fail
    refine Calls.mono (awake_any _ (unhide HU _ (unhide HB1))) ?_
    rintro r wa ⟨rfl, hba⟩
    have HBa := hide ((unhide HB1).trans (hba.mono (unhide HB1).size))
    clear hba
    go_wp2_with fail
    go_ret
    exact ⟨rfl, unhide HBa⟩
  | true =>
    have qa : Hid (na ≤ 200) := hide (by have h := (unhide HLB rfl).1 ⟨a, la, ca⟩ (by simp); rw [← unhide Na]; exact h)
    have qb : Hid (nb ≤ 200) := hide (by have h := (unhide HLB rfl).1 ⟨b, lb, cb⟩ (by simp); rw [← unhide Nb]; exact h)
    have HWS := hide (unhide HLB rfl).2
    clear HLB
    by_cases hsz : (4096 : Int) < (s.size : Int)
    · skip
      go_wp2_with fail
      refine Calls.mono (awake_any _ (unhide HU _ (unhide HB1))) ?_
      rintro r wa ⟨rfl, hba⟩
      have HBa := hide ((unhide HB1).trans (hba.mono (unhide HB1).size))
      clear hba
      go_wp2_with fail
      go_ret
      exact ⟨rfl, unhide HBa⟩
    · have hs48 : Hid (s.size ≤ 281474976710656) := hide (by have := unhide HS; omega)
      obtain ⟨sz, hsz2⟩ : ∃ z, s.size = z := ⟨_, rfl⟩
      rw [hsz2] at hsz
      go_wp2_with fail
      refine Calls.mono (apply_at s (unhide HU _ (unhide HB1)) (unhide Ea _ (unhide HB1)) (unhide Na) (unhide hs48) (unhide HB1)) ?_
      rintro r w2 ⟨h2, hb2⟩
      have HB2 := hide hb2
      clear hb2 hsz2
      rcases h2 with ⟨h2, rfl⟩ | ⟨h2, S1, c0, x0, x1, rfl⟩
      · clear h2
        go_wp2_with fail
        refine Calls.mono (apply_at ByteArray.empty (unhide HU _ (unhide HB2)) (unhide Eb _ (unhide HB2)) (unhide Nb) (by simp) (unhide HB2)) ?_
        rintro r w3 ⟨h3, hb3⟩
        have HB3 := hide hb3
        clear hb3
        rcases h3 with ⟨h3, rfl⟩ | ⟨h3, S2, c1, x2, x3, rfl⟩
        · clear h3
          go_wp2_with fail
          refine Calls.mono (awake_any _ (unhide HU _ (unhide HB3))) ?_
          rintro r wa ⟨rfl, hba⟩
          have HBa := hide ((unhide HB3).trans (hba.mono (unhide HB3).size))
          clear hba
          go_wp2_with fail
          go_ret
          exact ⟨rfl, unhide HBa⟩
        · clear h3 x2 x3
          go_wp2_with fail
          refine Calls.mono (awake_any _ (unhide HU _ (unhide HB3))) ?_
          rintro r wa ⟨rfl, hba⟩
          have HBa := hide ((unhide HB3).trans (hba.mono (unhide HB3).size))
          clear hba
          go_wp2_with fail
          go_ret
          exact ⟨rfl, unhide HBa⟩
      · obtain ⟨cs, ta, y0, hEa⟩ := isOf_ed h2
        obtain rfl : c0 = cs := x0.inj y0
        have hlen1 : (At.app (atomsL la) c0).length = ta := by rw [At.app_len _ _ hEa.2.1.symm]; exact hEa.2.2.1
        have HS1 : Hid (S1.size ≤ 281474976710656) := hide (x1.small hlen1 hEa.2.2.2.2)
        have X0 := hide x0
        have X1 := hide x1
        have HEA := hide hEa
        have HL1 := hide hlen1
        clear h2 x0 x1 y0 hEa hlen1
        go_wp2_with fail
        refine Calls.mono (apply_at S1 (unhide HU _ (unhide HB2)) (unhide Eb _ (unhide HB2)) (unhide Nb) (unhide HS1) (unhide HB2)) ?_
        rintro r w3 ⟨h3, hb3⟩
        have HB3 := hide hb3
        clear hb3
        rcases h3 with ⟨h3, rfl⟩ | ⟨h3, S2, c1, x2, x3, rfl⟩
        · clear h3
          go_wp2_with fail
          refine Calls.mono (awake_any _ (unhide HU _ (unhide HB3))) ?_
          rintro r wa ⟨rfl, hba⟩
          have HBa := hide ((unhide HB3).trans (hba.mono (unhide HB3).size))
          clear hba
          go_wp2_with fail
          go_ret
          exact ⟨rfl, unhide HBa⟩
        · obtain ⟨cs, tb, y0, hEb⟩ := isOf_ed h3
          obtain rfl : c1 = cs := x2.inj y0
          obtain rfl : c1 = At.app (atomsL la) c0 := x2.inj (unhide X1)
          rw [unhide HL1] at hEb
          have HEB := hide hEb
          have X3 := hide x3
          have HCB := hide (ed_comB (unhide HEA) hEb)
          clear h3 x2 x3 y0 hEb
          go_wp2_with fail
          refine Calls.mono (compose_at (unhide HU _ (unhide HB3)) (unhide Ea _ (unhide HB3)) (unhide Eb _ (unhide HB3)) (unhide Na) (unhide Nb) (by have := unhide qa; have := unhide qb; omega) (unhide HB3)) ?_
          rintro r w4 ⟨⟨h4, _⟩, hb4⟩
          have HB4 := hide hb4
          clear hb4
          rcases h4 with ⟨h4, _⟩ | ⟨_, v4, lc, rfl, o4, nf4, at4, ln4⟩
          · rw [unhide HCB] at h4; cases h4
          have hEc := ed_comp (unhide HEA) (unhide HEB) nf4 at4
          obtain ⟨a4, c4, hv4, hE4⟩ := o4.edit (ed_txt hEc) (by have h1 := unhide qa; have h2 := unhide qb; have h3 := unhide Na; have h4 := unhide Nb; omega)
          subst hv4
          have E4 := hide hE4
          have HEC := hide hEc
          have HAT := hide at4
          clear o4 nf4 at4 ln4 hEc hE4 HCB
          obtain ⟨n4, hn4⟩ : ∃ z, lc.length = z := ⟨_, rfl⟩
          rw [hn4]
          have N4 := hide hn4
          clear hn4
          go_wp2_with fail
          refine Calls.mono (apply_at s (unhide HU _ (unhide HB4)) (unhide E4) (unhide N4) (unhide hs48) (unhide HB4)) ?_
          rintro r w5 ⟨h5, hb5⟩
          have HB5 := hide hb5
          clear hb5
          rcases h5 with ⟨h5, _⟩ | ⟨_, S3, c5, x5, x6, rfl⟩
          · rw [ed_isOf (unhide X0) (unhide HEC)] at h5; cases h5
          obtain rfl : c5 = c0 := x5.inj (unhide X0)
          have hsame : S3 = S2 := by
            refine x6.same ?_
            rw [unhide HAT, At.app_can, At.app_comp _ _ _ (unhide HEA).2.1.symm (by rw [(unhide HEA).2.2.1, (unhide HEB).2.1])]
            exact unhide X3
          subst hsame
          clear x5 x6
          go_wp2_with fail
          refine Calls.mono (awake_any _ (unhide HU _ (unhide HB5))) ?_
          rintro r wa ⟨rfl, hba⟩
          have HBa := hide ((unhide HB5).trans (hba.mono (unhide HB5).size))
          clear hba
          go_wp2_with fail
          go_ret
          exact ⟨rfl, unhide HBa⟩
end Go.Proofs.YtidblnjohkadhaaDoor
