/- The example. -/
import Derived.Test.YtihiengejpjbkaaDoorUUn
namespace Go.Proofs.YtihiengejpjbkaaDoor
set_option linter.unusedVariables false
set_option linter.unusedSimpArgs false
open Go.ChangeShapes Go.WideShapes Go.ChangeAt Go.RowKit Go.Joins Go.Deep

theorem e1_at : repO 2 1 0 ⟨#[120]⟩ = repL 2 1 0 ⟨#[120]⟩ ∧ atomsL (repL 2 1 0 ⟨#[120]⟩) = [.k, .p [120], .k] ∧ IsEd (repL 2 1 0 ⟨#[120]⟩) 2 3 ∧ (repL 2 1 0 ⟨#[120]⟩).length ≤ 11 := by
  have q := rep_ed (tx_ascii [120] (by decide)) (n := 2) (at_ := 1) (k := 0) (by decide) (by decide) (by decide) (by decide) (by decide) (by decide) (by decide)
  have e : atomsL (repL 2 1 0 ⟨#[120]⟩) = [.k, .p [120], .k] := q.2.1
  refine ⟨?_, e, ⟨q.1, ?_, ?_, by decide, by decide⟩, q.2.2⟩
  · unfold repO
    rw [if_pos (repB_true (tx_ascii [120] (by decide)) (by decide) (by decide) (by decide) (by decide) (by decide) (by decide) (by decide))]
  · rw [e]; rfl
  · rw [e]; rfl
theorem e2_at : repO 3 0 0 ⟨#[121]⟩ = repL 3 0 0 ⟨#[121]⟩ ∧ atomsL (repL 3 0 0 ⟨#[121]⟩) = [.p [121], .k, .k, .k] ∧ IsEd (repL 3 0 0 ⟨#[121]⟩) 3 4 ∧ (repL 3 0 0 ⟨#[121]⟩).length ≤ 11 := by
  have q := rep_ed (tx_ascii [121] (by decide)) (n := 3) (at_ := 0) (k := 0) (by decide) (by decide) (by decide) (by decide) (by decide) (by decide) (by decide)
  have e : atomsL (repL 3 0 0 ⟨#[121]⟩) = [.p [121], .k, .k, .k] := q.2.1
  refine ⟨?_, e, ⟨q.1, ?_, ?_, by decide, by decide⟩, q.2.2⟩
  · unfold repO
    rw [if_pos (repB_true (tx_ascii [121] (by decide)) (by decide) (by decide) (by decide) (by decide) (by decide) (by decide) (by decide))]
  · rw [e]; rfl
  · rw [e]; rfl
theorem i1_at : At.can (At.inv [.k, .p [120], .k] [[97], [98]]) = [.k, .d, .k] := by simp [At.inv, At.can, At.canG]
theorem b1_at : beh [[.k, .d, .k]] [.p [121], .k, .k, .k] = [[.k, .k, .d, .k]] := by simp [beh, At.one, At.two, At.can, At.canG]
theorem i2_at : At.can (At.inv [.k, .k, .d, .k] [[121], [97], [120], [98]]) = [.k, .k, .p [120], .k] := by simp [At.inv, At.can, At.canG]
theorem a1_at : At.app [.k, .k, .d, .k] [[121], [97], [120], [98]] = [[121], [97], [98]] := rfl
theorem a2_at : At.app [.k, .k, .p [120], .k] [[121], [97], [98]] = [[121], [97], [120], [98]] := rfl
theorem ats_one {P : List Pe} {x : List At} (h : ats P = [x]) : ∃ p, P = [p] ∧ atomsL p.l = x := by
  have hl : P.length = 1 := by rw [← ats_len, h]; rfl
  match P, hl with
  | [p], _ => exact ⟨p, rfl, by simpa [ats] using h⟩
theorem pushP_nil (p : Pe) : pushP [] p = [p] := rfl
theorem ats_sing (p : Pe) : ats [p] = [atomsL p.l] := by simp [ats]
theorem PeOk.edit {w : World} {p : Pe} {f t : Nat} (h : PeOk w p) (hed : IsEd p.l f t) (hl : f + t ≤ 4398046511104) : ∃ a c, p.v = .slice a p.l.length c ∧ Edit w a p.l c := h.own.edit (ed_txt hed) (by have := nf_len hed.1; rw [hed.2.1, hed.2.2.1] at this; omega)
theorem run_ab : Lib.runeCount ⟨#[97, 98]⟩ = 2 := (tx_ascii [97, 98] (by decide)).count
set_option maxRecDepth 100000 in
set_option maxHeartbeats 4000000 in
theorem awake_any (w : World) (hT : UT w) : Calls Tryd.prog 11 #[] w fun r w' => r = .returned (.bool true) ∧ Below w.heap.size w w' := by
  have HU : Hid (∀ W, Below w.heap.size w W → UT W) := hide (fun W h => hT.call h)
  clear hT
  go_enter Tryd.func11, Tryd.ntmps11
  go_wp2_with fail
  refine Calls.mono (begun_any ⟨#[97, 98]⟩ w (by decide) (by rw [run_ab]; decide)) ?_
  intro r w1 h1
  obtain ⟨g, vb, va, rfl, hh, b1⟩ := h1.shape
  rw [run_ab] at hh
  have H1 := hide hh
  have B1 := hide b1
  clear h1 hh b1
  go_wp2_with fail
  refine Calls.mono (lreplace_any 2 1 0 ⟨#[120]⟩ w1 (unhide HU _ (unhide B1)) (by decide) (by decide) (by decide)) ?_
  rintro r w2 ⟨v, rfl, ov, b2⟩
  rw [e1_at.1] at ov
  obtain ⟨a2, c2, rfl, E2⟩ := ov.edit (ed_txt e1_at.2.2.1) (by have := e1_at.2.2.2; omega)
  have B2 := hide ((unhide B1).trans (b2.mono (unhide B1).size))
  have H2 := hide ((unhide H1).call b2)
  have HE2 := hide E2
  obtain ⟨m2, hm2⟩ : ∃ z, (repL 2 1 0 ⟨#[120]⟩).length = z := ⟨_, rfl⟩
  rw [hm2]
  have HM2 := hide hm2
  clear ov b2 E2 hm2
  go_wp2_with fail
  refine Calls.mono (mine_ok w.heap.size g m2 3 vb va _ a2 (repL 2 1 0 ⟨#[120]⟩) c2 ⟨#[97, 98]⟩ [[97], [98]] w2 (unhide H2) (unhide HU _ (unhide B2)) (unhide HE2) (unhide HM2) (tx_ascii [97, 98] (by decide)) e1_at.2.2.1 (by rfl) (by decide) (by decide) (by have := unhide HM2; have := e1_at.2.2.2; omega)) ?_
  intro r w3 h3
  obtain ⟨p, vb3, rfl, at3, pk3, hh3, on3⟩ := h3.shape
  rw [e1_at.2.1, i1_at] at at3
  have H3 := hide hh3
  have B3 := hide ((unhide B2).trans (((unhide H2).low on3).mono (Nat.le_refl _)))
  have A3 := hide at3
  clear h3 at3 pk3 hh3 on3
  go_wp2_with fail
  refine Calls.mono (lreplace_any 3 0 0 ⟨#[121]⟩ w3 (unhide HU _ (unhide B3)) (by decide) (by decide) (by decide)) ?_
  rintro r w4 ⟨v, rfl, ov, b4⟩
  rw [e2_at.1] at ov
  obtain ⟨a4, c4, rfl, E4⟩ := ov.edit (ed_txt e2_at.2.2.1) (by have := e2_at.2.2.2; omega)
  have B4 := hide ((unhide B3).trans (b4.mono (unhide B3).size))
  have H4 := hide ((unhide H3).call b4)
  have HE4 := hide E4
  obtain ⟨m4, hm4⟩ : ∃ z, (repL 3 0 0 ⟨#[121]⟩).length = z := ⟨_, rfl⟩
  rw [hm4]
  have HM4 := hide hm4
  have HPB : Hid (ats (pushP [] p) = [[.k, .d, .k]]) := hide (by rw [pushP_nil, ats_sing, unhide A3])
  clear ov b4 E4 hm4
  go_wp2_with fail
  refine Calls.mono (theirs_ok w.heap.size g m4 3 4 100 10 vb3 _ _ a4 (repL 3 0 0 ⟨#[121]⟩) c4 w4 (unhide H4) (unhide HU _ (unhide B4)) (unhide HE4) (unhide HM4) e2_at.2.2.1 (by rfl) (by decide) (by simp [pushP_len]) (by simp) (by decide) (by show Sz 100 (ats (pushP [] p)); rw [unhide HPB]; intro x hx; rw [List.mem_singleton] at hx; subst hx; decide) (by intro x hx; simp [ats] at hx) (by show Chain 3 (ats (pushP [] p)); rw [unhide HPB]; exact ⟨rfl, trivial⟩) (by simp [ats, Chain]) (by rw [e2_at.2.1]; decide) (by decide) (by decide)) ?_
  intro r w5 h5
  obtain ⟨vb5, va5, P5, Q5, rfl, ap5, aq5, hh5, on5⟩ := h5.shape
  have B5 := hide ((unhide B4).trans ((unhide H4).low on5))
  rw [e2_at.2.1] at ap5 aq5
  have hap : ats P5 = [[.k, .k, .d, .k]] := by rw [ap5]; show beh (ats (pushP [] p)) _ = _; rw [unhide HPB, b1_at]
  have haq : ats Q5 = [] := by rw [aq5]; rfl
  obtain ⟨p5, rfl, hp5⟩ := ats_one hap
  have hq5 : Q5 = [] := List.eq_nil_of_length_eq_zero (by rw [← ats_len, haq]; rfl)
  subst hq5
  have H5 := hide hh5
  have hpk5 := hh5.eb p5 (by simp)
  have hed5 : IsEd p5.l 4 3 := ⟨hpk5.nf, by rw [hp5]; rfl, by rw [hp5]; rfl, by decide, by decide⟩
  have HED5 := hide hed5
  have AP5 := hide hp5
  clear h5 ap5 aq5 hh5 on5 hap haq hp5 hpk5 hed5 HPB
  go_wp2_with fail
  refine Calls.mono (undo_ok w.heap.size g 3 vb5 va5 ⟨((4 : Nat) : Int), [p5], []⟩ [] p5 ⟨#[121, 97, 120, 98]⟩ [[121], [97], [120], [98]] w5 (unhide H5) (fun W hW => unhide HU W ((unhide B5).trans hW)) rfl (by decide) (by simp) (tx_ascii [121, 97, 120, 98] (by decide)) (unhide HED5) rfl (by decide) (by decide)) ?_
  intro r w6 h6
  obtain ⟨q6, vb6, va6, rfl, at6, pq6, pp6, hh6, on6⟩ := h6.shape
  rw [unhide AP5, i2_at] at at6
  have B6 := hide ((unhide B5).trans ((unhide H5).low on6))
  have H6 := hide hh6
  have A6 := hide at6
  have PP6 := hide pp6
  have hed6 : IsEd q6.l 3 4 := ⟨pq6.nf, by rw [at6]; rfl, by rw [at6]; rfl, by decide, by decide⟩
  have HED6 := hide hed6
  obtain ⟨u6, d6, hu6, Eu6⟩ := pp6.edit (unhide HED5) (by decide)
  obtain ⟨n6, hn6⟩ : ∃ z, p5.l.length = z := ⟨_, rfl⟩
  rw [hn6] at hu6
  have HU6 := hide hu6
  have HN6 := hide hn6
  rw [hu6]
  clear h6 at6 pq6 pp6 hh6 on6 hed6 hu6 Eu6 hn6
  go_wp2_with fail
  refine Calls.mono (redo_ok w.heap.size g 4 vb6 va6 ⟨((3 : Nat) : Int), [], pushP [] q6⟩ [] q6 ⟨#[121, 97, 98]⟩ [[121], [97], [98]] w6 (unhide H6) (fun W hW => unhide HU W ((unhide B6).trans hW)) rfl (by decide) (by simp) (tx_ascii [121, 97, 98] (by decide)) (unhide HED6) rfl (by decide) (by decide)) ?_
  intro r w7 h7
  obtain ⟨q7, vb7, va7, rfl, at7, pq7, pp7, hh7, on7⟩ := h7.shape
  have B7 := hide ((unhide B6).trans ((unhide H6).low on7))
  have H7 := hide hh7
  have PP67 := hide ((unhide PP6).keep on7 ((unhide H6).far (unhide PP6).own))
  have PP7 := hide pp7
  obtain ⟨u7, d7, hu7, Eu7⟩ := pp7.edit (unhide HED6) (by decide)
  obtain ⟨n7, hn7⟩ : ∃ z, q6.l.length = z := ⟨_, rfl⟩
  rw [hn7] at hu7
  have HU7 := hide hu7
  have HN7 := hide hn7
  have HE7 := hide Eu7
  rw [hu7]
  obtain ⟨u6', d6', hu6', Eu6'⟩ := (unhide PP67).edit (unhide HED5) (by decide)
  rw [unhide HU6, unhide HN6] at hu6'
  injection hu6' with z1 z2 z3
  subst z1 z3
  have HE6 := hide Eu6'
  clear h7 at7 pq7 pp7 hh7 on7 hu7 Eu7 hn7 Eu6'
  go_wp2_with fail
  refine Calls.mono (applied_any u6 p5.l d6 n6 3 ⟨#[121, 97, 120, 98]⟩ [[121], [97], [120], [98]] w7 (unhide HU _ (unhide B7)) (unhide HE6) (unhide HN6) (tx_ascii [121, 97, 120, 98] (by decide)) (unhide HED5)) ?_
  rintro r w8 ⟨S8, rfl, x8, b8⟩
  rw [unhide AP5, a1_at] at x8
  obtain rfl : S8 = ⟨#[121, 97, 98]⟩ := x8.same (tx_ascii [121, 97, 98] (by decide))
  have B8 := hide ((unhide B7).trans (b8.mono (unhide B7).size))
  have H8 := hide ((unhide H7).call b8)
  have HE8 := hide ((unhide HE7).call b8)
  clear x8 b8
  go_wp2_with fail
  refine Calls.mono (applied_any u7 q6.l d7 n7 4 ⟨#[121, 97, 98]⟩ [[121], [97], [98]] w8 (unhide HU _ (unhide B8)) (unhide HE8) (unhide HN7) (tx_ascii [121, 97, 98] (by decide)) (unhide HED6)) ?_
  rintro r w9 ⟨S9, rfl, x9, b9⟩
  rw [unhide A6, a2_at] at x9
  obtain rfl : S9 = ⟨#[121, 97, 120, 98]⟩ := x9.same (tx_ascii [121, 97, 120, 98] (by decide))
  have B9 := hide ((unhide B8).trans (b9.mono (unhide B8).size))
  have h9 := (unhide H8).call b9
  have KS := hide (size_ok g 4 w9 (h9.row.cell 0) (h9.row.cell 1))
  clear x9 b9 h9
  go_wp2_with fail
  refine Calls.mono (unhide KS) ?_
  rintro r w10 ⟨rfl, rfl⟩
  go_wp2_with fail
  go_ret
  exact ⟨rfl, unhide B9⟩
end Go.Proofs.YtihiengejpjbkaaDoor
