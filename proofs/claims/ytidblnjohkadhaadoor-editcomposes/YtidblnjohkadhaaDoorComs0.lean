/- The one edit that does what any two do: the walk. -/
import Derived.Test.YtidblnjohkadhaaDoorRco
import Derived.Test.YtidblnjohkadhaaDoorNar2
namespace Go.Proofs.YtidblnjohkadhaaDoor
set_option linter.unusedVariables false
set_option linter.unusedSimpArgs false
open Go.ChangeShapes Go.WideShapes Go.ChangeAt Go.RowKit Go.Joins Go.Deep

theorem comB_ed {la lb : List Pt} (h : comB la lb = true) : ∃ n m t, IsEd la n m ∧ IsEd lb m t := by
  unfold comB at h
  cases ha : sizeL la with
  | none => rw [ha] at h; cases h
  | some x =>
    obtain ⟨f, t, k⟩ := x
    rw [ha] at h
    simp only [decide_eq_true_eq] at h
    unfold checkE at h
    cases hb : sizeL lb with
    | none => rw [hb] at h; simp at h
    | some y =>
      obtain ⟨f2, t2, k2⟩ := y
      rw [hb] at h
      simp only at h
      have hf : f2 = t := by
        by_cases hh : f2 = t
        · exact hh
        · rw [if_neg hh] at h; omega
      subst hf
      exact ⟨_, _, _, (size_ed ha).1, (size_ed hb).1⟩
theorem ed_uniq {l : List Pt} {f t f2 t2 : Nat} (h : IsEd l f t) (k : IsEd l f2 t2) : f = f2 ∧ t = t2 := ⟨h.2.1.symm.trans k.2.1, h.2.2.1.symm.trans k.2.2.1⟩
theorem edit_nil (w : World) : Edit w none [] 0 := ⟨.inl rfl, by first | exact AtB.none _ | (unfold AtB; simp), Nat.le_refl _, by unfold maxLen; omega, (fun p hp => by cases hp), by simp⟩
set_option maxRecDepth 100000 in
set_option maxHeartbeats 4000000 in
theorem rcompose_no {a b : Option Addr} {la lb : List Pt} {ca cb : Nat} {w : World} (ea : Edit w a la ca) (eb : Edit w b lb cb) (hn : comB la lb = false) :
    Calls Tryd.prog 45 #[.slice a la.length ca, .slice b lb.length cb] w fun r w' => r = .returned (.tuple #[.slice none 0 0, .int .i64 30]) ∧ Below w.heap.size w w' := by
  have HSA := hide (rsize_at (w := w) ea rfl (Below.refl _ _))
  have HSB : Hid (∀ W, Below w.heap.size w W → Calls Tryd.prog 24 #[.slice b lb.length cb] W fun r w' => r = .returned (szVal lb) ∧ Below W.heap.size W w') := hide (fun W hW => rsize_at (w := W) (eb.call hW) rfl (Below.refl _ _))
  obtain ⟨na, hna⟩ : ∃ z, la.length = z := ⟨_, rfl⟩
  obtain ⟨nb, hnb⟩ : ∃ z, lb.length = z := ⟨_, rfl⟩
  rw [hna] at HSA ⊢
  rw [hnb] at HSB ⊢
  clear hna hnb ea eb
  unfold comB at hn
  unfold szVal at HSA HSB
  cases hza : sizeL la with
  | none =>
    rw [hza] at HSA
    dsimp only at HSA
    clear hn hza
    cases hzb : sizeL lb with
    | none =>
      rw [hzb] at HSB
      dsimp only at HSB
      clear hzb
      go_enter Tryd.func45, Tryd.ntmps45
      go_wp2_with fail
      refine Calls.mono (unhide HSA) ?_
      rintro r w1 ⟨rfl, hb1⟩
      have HB1 := hide hb1
      clear hb1 HSA
      go_wp2_with fail
      refine Calls.mono (unhide HSB _ (unhide HB1)) ?_
      rintro r w2 ⟨rfl, hb2⟩
      have HB2 := hide ((unhide HB1).trans (hb2.mono (unhide HB1).size))
      clear hb2 HSB HB1
      go_wp2_with fail
      go_ret2
      exact ⟨rfl, unhide HB2⟩
    | some z =>
      obtain ⟨f, t, k⟩ := z
      rw [hzb] at HSB
      dsimp only at HSB
      clear hzb
      go_enter Tryd.func45, Tryd.ntmps45
      go_wp2_with fail
      refine Calls.mono (unhide HSA) ?_
      rintro r w1 ⟨rfl, hb1⟩
      have HB1 := hide hb1
      clear hb1 HSA
      go_wp2_with fail
      refine Calls.mono (unhide HSB _ (unhide HB1)) ?_
      rintro r w2 ⟨rfl, hb2⟩
      have HB2 := hide ((unhide HB1).trans (hb2.mono (unhide HB1).size))
      clear hb2 HSB HB1
      go_wp2_with fail
      go_ret2
      exact ⟨rfl, unhide HB2⟩
  | some y =>
    obtain ⟨f, t, k⟩ := y
    rw [hza] at HSA hn
    dsimp only at HSA hn
    unfold checkE at hn
    clear hza
    cases hzb : sizeL lb with
    | none =>
      rw [hzb] at HSB
      dsimp only at HSB
      clear hzb hn
      go_enter Tryd.func45, Tryd.ntmps45
      go_wp2_with fail
      refine Calls.mono (unhide HSA) ?_
      rintro r w1 ⟨rfl, hb1⟩
      have HB1 := hide hb1
      clear hb1 HSA
      go_wp2_with fail
      refine Calls.mono (unhide HSB _ (unhide HB1)) ?_
      rintro r w2 ⟨rfl, hb2⟩
      have HB2 := hide ((unhide HB1).trans (hb2.mono (unhide HB1).size))
      clear hb2 HSB HB1
      go_wp2_with fail
      go_ret2
      exact ⟨rfl, unhide HB2⟩
    | some z =>
      obtain ⟨f2, t2, k2⟩ := z
      rw [hzb] at HSB hn
      dsimp only at HSB hn
      have hne : (f2 == t) = false := by
        have h1 : ¬ f2 = t := fun e => by simp [e] at hn
        simpa using h1
      clear hzb hn
      go_enter Tryd.func45, Tryd.ntmps45
      go_wp2_with fail
      refine Calls.mono (unhide HSA) ?_
      rintro r w1 ⟨rfl, hb1⟩
      have HB1 := hide hb1
      clear hb1 HSA
      go_wp2_with fail
      refine Calls.mono (unhide HSB _ (unhide HB1)) ?_
      rintro r w2 ⟨rfl, hb2⟩
      have HB2 := hide ((unhide HB1).trans (hb2.mono (unhide HB1).size))
      clear hb2 HSB HB1
      go_wp2_with fail
      go_ret2
      exact ⟨rfl, unhide HB2⟩
set_option maxRecDepth 100000 in
set_option maxHeartbeats 4000000 in
theorem composes_law (a : Option Addr) (la : List Pt) (ca : Nat) (b : Option Addr) (lb : List Pt) (cb : Nat) (w : World) (hT : UT w) (ea : Edit w a la ca) (eb : Edit w b lb cb) : Calls Tryd.prog 8 #[.slice a la.length ca, .slice b lb.length cb] w fun r w' => r = .returned (.bool true) ∧ Below w.heap.size w w' := by
  have HU : Hid (∀ W, Below w.heap.size w W → UT W) := hide (fun W h => hT.call h)
  have HB0 := hide (Below.refl w.heap.size w)
  have Ea : Hid (∀ W, Below w.heap.size w W → Edit W a la ca) := hide (fun W h => ea.call h)
  have Ta := hide (⟨ea.txt, ea.cap, ea.max, ea.num⟩ : _ ∧ _ ∧ _ ∧ _)
  have Eb : Hid (∀ W, Below w.heap.size w W → Edit W b lb cb) := hide (fun W h => eb.call h)
  have Tb := hide (⟨eb.txt, eb.cap, eb.max, eb.num⟩ : _ ∧ _ ∧ _ ∧ _)
  have hbL : Below w.heap.size w (w.alloc (.cells #[.slice a la.length ca, .slice b lb.length cb] 22)) := (Below.refl _ _).alloc (Nat.le_refl _) _
  have HLT := hide (narrow2_any w.heap.size [⟨a, la, ca⟩, ⟨b, lb, cb⟩] (w.alloc (.cells #[.slice a la.length ca, .slice b lb.length cb] 22)) (RowAt.new w 22 _) (by
    intro e he
    simp only [List.mem_cons, List.not_mem_nil, or_false] at he
    rcases he with rfl | rfl
    · exact (ea.call hbL).pts
    · exact (eb.call hbL).pts
    ) (by
    intro e he
    simp only [List.mem_cons, List.not_mem_nil, or_false] at he
    rcases he with rfl | rfl
    · exact Nat.le_trans ea.cap ea.max
    · exact Nat.le_trans eb.cap eb.max
    ) (by
    intro e he
    simp only [List.mem_cons, List.not_mem_nil, or_false] at he
    rcases he with rfl | rfl
    · exact ea.txt2
    · exact eb.txt2
    ) (by simp))
  have HBL := hide hbL
  obtain ⟨na, hna⟩ : ∃ z, la.length = z := ⟨_, rfl⟩
  obtain ⟨nb, hnb⟩ : ∃ z, lb.length = z := ⟨_, rfl⟩
  simp only [hna, hnb] at HLT HBL ⊢
  have Na := hide hna
  have Nb := hide hnb
  clear hT hbL ea hna eb hnb
  go_enter Tryd.func8, Tryd.ntmps8
  go_wp2_with fail
  refine Calls.mono (unhide HLT) ?_
  rintro r w1 ⟨⟨lb_, rfl, hlb⟩, hb1⟩
  have HB1 := hide ((unhide HBL).trans (hb1.mono (unhide HBL).size))
  have HLB := hide hlb
  clear hb1 HLT hlb HBL
  cases lb_ with
  | false =>
    go_wp2_with fail
    refine Calls.mono (awake_any _ (unhide HU _ (unhide HB1))) ?_
    rintro r wa ⟨rfl, hba⟩
    have HBa := hide ((unhide HB1).trans (hba.mono (unhide HB1).size))
    clear hba
    go_wp2_with fail
    go_ret
    exact ⟨rfl, unhide HBa⟩
  | true =>
    have qa : Hid (na ≤ 200) := hide (by have h := (unhide HLB rfl).1 ⟨a, la, ca⟩ (by simp); rw [← unhide Na]; exact h)
    have qb : Hid (nb ≤ 200) := hide (by have h := (unhide HLB rfl).1 ⟨b, lb, cb⟩ (by simp); rw [← unhide Nb]; exact h)
    have HNS := hide (unhide HLB rfl).2.2
    clear HLB
    go_wp2_with fail
    refine Calls.mono (compose_at (w := w1) (unhide HU _ (unhide HB1)) (unhide Ea _ (unhide HB1)) (unhide Eb _ (unhide HB1)) (unhide Na) (unhide Nb) (by have h1 := unhide qa; have h2 := unhide qb; omega) (Below.refl w1.heap.size w1)) ?_
    rintro r w2 ⟨⟨h_, _⟩, hb_⟩
    have HB2 := hide ((unhide HB1).trans (hb_.mono (unhide HB1).size))
    clear hb_
    rcases h_ with ⟨hno, rfl⟩ | ⟨ht, v, lx, rfl, ov, nf_, at_, ln_⟩
    · have HNO := hide hno
      clear hno
      have HRC := hide (fun W hW => rcompose_no (unhide Ea W hW) (unhide Eb W hW) (unhide HNO))
      rw [unhide Na, unhide Nb] at HRC
      go_wp2_with fail
      refine Calls.mono (unhide HRC _ (unhide HB2)) ?_
      rintro r w3 ⟨rfl, hb_⟩
      have HB3 := hide ((unhide HB2).trans (hb_.mono (unhide HB2).size))
      clear hb_
      go_wp2_with fail
      refine Calls.mono (rsame_at (w := w3) (edit_nil _) (edit_nil _) rfl rfl rfl (Below.refl w3.heap.size w3)) ?_
      rintro r w4 ⟨rfl, hb_⟩
      have HB4 := hide ((unhide HB3).trans (hb_.mono (unhide HB3).size))
      clear hb_
      go_wp2_with fail
      refine Calls.mono (awake_any _ (unhide HU _ (unhide HB4))) ?_
      rintro r wa ⟨rfl, hba⟩
      have HBa := hide ((unhide HB4).trans (hba.mono (unhide HB4).size))
      clear hba
      go_wp2_with fail
      go_ret
      exact ⟨rfl, unhide HBa⟩
    obtain ⟨fa, fb, fc, hEa, hEb⟩ := comB_ed ht
    have Da := hide hEa
    have Db := hide hEb
    have hna := unhide HNS ⟨a, la, ca⟩ (by simp) _ _ _ (ed_size hEa)
    have hnb := unhide HNS ⟨b, lb, cb⟩ (by simp) _ _ _ (ed_size hEb)
    have HRC := hide (fun W hW => rcompose_ed a b la lb ca cb fa fb fc W (unhide Ea W hW) (unhide Eb W hW) (unhide Da) (unhide Db) (by omega) (by omega) (by omega) (by have := unhide qa; have := unhide Na; omega) (by have := unhide qb; have := unhide Nb; omega))
    rw [unhide Na, unhide Nb] at HRC
    clear ht hEa hEb hna hnb
    have hEc := ed_comp (unhide Da) (unhide Db) nf_ at_
    have hlc : lx.length ≤ 803 := by have h1 := unhide qa; have h2 := unhide qb; have h3 := unhide Na; have h4 := unhide Nb; omega
    obtain ⟨x, cx, hvx, hEx⟩ := ov.edit (ed_txt hEc) (by omega)
    subst hvx
    have Ox2 := hide hEx
    obtain ⟨nx, hnx⟩ : ∃ z, lx.length = z := ⟨_, rfl⟩
    rw [hnx]
    have Nx := hide hnx
    clear hEx hnx ov
    have Dx := hide hEc
    have Ax := hide (And.intro nf_ at_)
    have HLX := hide hlc
    clear nf_ at_ ln_ hEc hlc
    go_wp2_with fail
    refine Calls.mono (unhide HRC _ (unhide HB2)) ?_
    rintro r w3 ⟨v2, L, rfl, ho_, hn_, ha_, hb_⟩
    have HB3 := hide ((unhide HB2).trans (hb_.mono (unhide HB2).size))
    have Ox3 := hide ((unhide Ox2).call hb_)
    clear Ox2
    clear hb_
    obtain rfl : L = lx := nf_unique _ _ _ _ hn_ (unhide Ax).1 (by rw [ha_, (unhide Ax).2])
    obtain ⟨y, cy, hvy, hEy⟩ := OwnP.edit ho_ (ed_txt (unhide Dx)) (by have := unhide HLX; omega)
    rw [unhide Nx] at hvy
    subst hvy
    have Oy4 := hide hEy
    clear hEy hn_ ha_ ho_
    go_wp2_with fail
    refine Calls.mono (rsame_at (w := w3) (unhide Ox3) (unhide Oy4) rfl (unhide Nx) (unhide Nx) (Below.refl w3.heap.size w3)) ?_
    rintro r w4 ⟨rfl, hb_⟩
    have HB4 := hide ((unhide HB3).trans (hb_.mono (unhide HB3).size))
    have Ox4 := hide ((unhide Ox3).call hb_)
    clear Ox3
    have Oy4 := hide ((unhide Oy4).call hb_)
    clear Oy4
    clear hb_
    go_wp2_with fail
    refine Calls.mono (awake_any _ (unhide HU _ (unhide HB4))) ?_
    rintro r wa ⟨rfl, hba⟩
    have HBa := hide ((unhide HB4).trans (hba.mono (unhide HB4).size))
    clear hba
    go_wp2_with fail
    go_ret
    exact ⟨rfl, unhide HBa⟩
end Go.Proofs.YtidblnjohkadhaaDoor
