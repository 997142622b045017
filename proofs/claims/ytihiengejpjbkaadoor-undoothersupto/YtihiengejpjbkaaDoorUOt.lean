/- UndoOthers, where what comes in is of bulk at most 2^20. -/
import Derived.Test.YtihiengejpjbkaaDoorUSh
import Derived.Test.YtihiengejpjbkaaDoorBck0
import Derived.Test.YtihiengejpjbkaaDoorSam
namespace Go.Proofs.YtihiengejpjbkaaDoor
set_option linter.unusedVariables false
set_option linter.unusedSimpArgs false
open Go.ChangeShapes Go.WideShapes Go.ChangeAt Go.RowKit Go.Joins Go.Deep

theorem to_le (x : List At) : At.toN x ≤ At.fromN x + At.putsN x := by
  induction x with
  | nil => simp [At.toN]
  | cons s x ih => cases s <;> simp only [At.toN, At.fromN, At.putsN] <;> omega
theorem puts_sum {l : List Pt} (h : ∀ p ∈ l, Fit1 p) : At.putsN (atomsL l) ≤ sumT l := by
  induction l with
  | nil => simp [atomsL, At.putsN, sumT]
  | cons p l ih =>
    have h1 := ih (fun q hq => h q (List.mem_cons_of_mem _ hq))
    have e : sumT (p :: l) = p.text.size + sumT l := by simp [sumT]
    rw [atomsL, At.puts_app, e]
    have hg := (h p (List.mem_cons_self ..)).1
    rcases hg.cases with ⟨_, _, ea⟩ | ⟨_, _, ea⟩ | ⟨_, cs, h3, h4, ea⟩
    · rw [ea, puts_rep_k]; omega
    · rw [ea, puts_rep_d]; omega
    · rw [ea, puts_map]
      have := h3.cps.len
      rw [← h3.size] at this
      omega
theorem Tx.few {s : ByteArray} {cs : List (List UInt8)} (h : Tx s cs) : cs.length ≤ s.size := by
  have := h.cps.len
  rw [← h.size] at this
  omega
theorem ed_to {l : List Pt} {f t : Nat} (h : IsEd l f t) : t ≤ f + sumT l := by
  have h1 := to_le (atomsL l)
  have h2 := puts_sum (ed_fit h)
  rw [h.2.1, h.2.2.1] at h1
  omega
theorem ed_puts {l : List Pt} {f t : Nat} (h : IsEd l f t) : At.putsN (atomsL l) ≤ sumT l := puts_sum (ed_fit h)
theorem one_to {x e : List At} (h : At.fromN x = At.fromN e) : At.toN (At.can (At.one x e)) ≤ At.toN x + At.putsN e := by
  have hs := At.sizes x e h
  have := two_to h
  rw [At.can_to] at this ⊢
  omega
theorem dos_two {w : World} {a b : Option Addr} {l m : List Pt} {c d nl nm : Nat} (he : Edit w a l c) (hf : Edit w b m d) (hl : l.length = nl) (hm : m.length = nm) :
    Dos (w.alloc (.cells #[.int .i64 0, .int .i64 0, .slice a nl c, .int .i64 0, .int .i64 0, .slice b nm d] 34)) (some ⟨w.heap.size, 0, none⟩) [⟨0, 0, a, l, c⟩, ⟨0, 0, b, m, d⟩] := by
  have b0 : Below w.heap.size w (w.alloc (.cells #[.int .i64 0, .int .i64 0, .slice a nl c, .int .i64 0, .int .i64 0, .slice b nm d] 34)) := (Below.refl _ _).alloc (Nat.le_refl _) _
  have hr := RowAt.new w 34 [.int .i64 0, .int .i64 0, .slice a nl c, .int .i64 0, .int .i64 0, .slice b nm d]
  refine ⟨fun q hq => ?_, .inr ⟨_, _, rfl, hr.lt, fun i q hi f u hu => ?_⟩⟩
  · simp only [List.mem_cons, List.not_mem_nil, or_false] at hq
    rcases hq with rfl | rfl
    · exact he.call b0
    · exact hf.call b0
  · match i, hi with
    | 0, hi =>
      obtain rfl : (⟨0, 0, a, l, c⟩ : Dl) = q := by simpa using hi
      have h1 := hr.cell f
      rw [show (0 : Nat) + 0 * 3 + f = f by omega, h1, ← hl]
      have hf3 : f < 3 := by have := (List.getElem?_eq_some_iff.1 hu).1; simpa [Dl.cs] using this
      match f, hf3, hu with
      | 0, _, hu => exact hu
      | 1, _, hu => exact hu
      | 2, _, hu => exact hu
    | 1, hi =>
      obtain rfl : (⟨0, 0, b, m, d⟩ : Dl) = q := by simpa using hi
      have hf3 : f < 3 := by have := (List.getElem?_eq_some_iff.1 hu).1; simpa [Dl.cs] using this
      have h1 := hr.cell (3 + f)
      rw [show (0 : Nat) + 1 * 3 + f = 3 + f by omega, h1, ← hm]
      match f, hf3, hu with
      | 0, _, hu => exact hu
      | 1, _, hu => exact hu
      | 2, _, hu => exact hu
    | i + 2, hi => simp at hi
set_option maxRecDepth 100000 in
set_option maxHeartbeats 4000000 in
theorem others_law (s : ByteArray) (a : Option Addr) (l : List Pt) (c : Nat) (b : Option Addr) (m : List Pt) (d : Nat) (w : World) (hT : UT w) (he : Edit w a l c) (hf : Edit w b m d) (hk : s.size + sumT l + sumT m ≤ 1048576) : Calls Tryd.prog 5 #[.string s, .slice a l.length c, .slice b m.length d] w fun r w' => r = .returned (.bool true) ∧ Below w.heap.size w w' := by
  have HU : Hid (∀ W, Below w.heap.size w W → UT W) := hide (fun W h => hT.call h)
  have HE : Hid (∀ W, Below w.heap.size w W → Edit W a l c) := hide (fun W h => he.call h)
  have HF : Hid (∀ W, Below w.heap.size w W → Edit W b m d) := hide (fun W h => hf.call h)
  have HK := hide hk
  have HS0 : Hid (s.size ≤ 281474976710656) := hide (by omega)
  obtain ⟨nl, hnl⟩ : ∃ z, l.length = z := ⟨_, rfl⟩
  obtain ⟨nm, hnm⟩ : ∃ z, m.length = z := ⟨_, rfl⟩
  have b0 : Below w.heap.size w (w.alloc (.cells #[.int .i64 0, .int .i64 0, .slice a nl c, .int .i64 0, .int .i64 0, .slice b nm d] 34)) := (Below.refl _ _).alloc (Nat.le_refl _) _
  have KS := hide (short_any s _ _ 2 _ (dos_two he hf hnl hnm) (by simp) (by decide))
  have HB := hide b0
  have NL := hide hnl
  have NM := hide hnm
  rw [hnl, hnm]
  clear hT he hf b0 hnl hnm hk
  go_enter Tryd.func5, Tryd.ntmps5
  go_wp2_with fail
  refine Calls.mono (unhide KS) ?_
  rintro r w1 ⟨⟨bb, rfl, hsh⟩, b1⟩
  have B1 := hide ((unhide HB).trans (b1.mono (unhide HB).size))
  have HSH := hide hsh
  clear b1 KS HB hsh
  cases bb with
  | false =>
    go_wp2_with fail
    refine Calls.mono (awake_any _ (unhide HU _ (unhide B1))) ?_
    rintro r wa ⟨rfl, hba⟩
    have HBa := hide ((unhide B1).trans (hba.mono (unhide B1).size))
    clear hba
    go_wp2_with fail
    go_ret
    exact ⟨rfl, unhide HBa⟩
  | true =>
    have QL : Hid (nl ≤ 100 ∧ nm ≤ 100) := hide ⟨by rw [← unhide NL]; exact (unhide HSH rfl).2.2.1 ⟨0, 0, a, l, c⟩ (by simp), by rw [← unhide NM]; exact (unhide HSH rfl).2.2.1 ⟨0, 0, b, m, d⟩ (by simp)⟩
    clear HSH
    go_wp2_with fail
    refine Calls.mono (apply_at (w := w1) s (unhide HU _ (unhide B1)) (unhide HE _ (unhide B1)) (unhide NL) (unhide HS0) (Below.refl _ _)) ?_
    rintro r w2 ⟨h2, b2⟩
    have B2 := hide ((unhide B1).trans (b2.mono (unhide B1).size))
    clear b2
    rcases h2 with ⟨h2, rfl⟩ | ⟨h2, S, cs, hx, hS, rfl⟩
    · clear h2
      go_wp2_with fail
      refine Calls.mono (apply_at (w := w2) ByteArray.empty (unhide HU _ (unhide B2)) (unhide HF _ (unhide B2)) (unhide NM) (by decide) (Below.refl _ _)) ?_
      rintro r w3 ⟨h3, b3⟩
      have B3 := hide ((unhide B2).trans (b3.mono (unhide B2).size))
      clear b3
      rcases h3 with ⟨h3, rfl⟩ | ⟨h3, S3, cs3, hx3, hS3, rfl⟩
      · clear h3
        go_wp2_with fail
        refine Calls.mono (awake_any _ (unhide HU _ (unhide B3))) ?_
        rintro r wa ⟨rfl, hba⟩
        have HBa := hide ((unhide B3).trans (hba.mono (unhide B3).size))
        clear hba
        go_wp2_with fail
        go_ret
        exact ⟨rfl, unhide HBa⟩
      · clear h3 hx3 hS3
        go_wp2_with fail
        refine Calls.mono (awake_any _ (unhide HU _ (unhide B3))) ?_
        rintro r wa ⟨rfl, hba⟩
        have HBa := hide ((unhide B3).trans (hba.mono (unhide B3).size))
        clear hba
        go_wp2_with fail
        go_ret
        exact ⟨rfl, unhide HBa⟩
    · obtain ⟨cs', t, hx', hed⟩ := isOf_ed h2
      obtain rfl : cs = cs' := hx.inj hx'
      have hlS : (At.app (atomsL l) cs).length = t := by rw [At.app_len _ _ hed.2.1.symm]; exact hed.2.2.1
      have HSS : Hid (S.size ≤ 281474976710656) := hide (hS.small hlS hed.2.2.2.2)
      have HED := hide hed
      have HX := hide hx
      have HXS := hide hS
      have HLS := hide hlS
      clear h2 hx hx' hS hed hlS
      go_wp2_with fail
      refine Calls.mono (apply_at (w := w2) S (unhide HU _ (unhide B2)) (unhide HF _ (unhide B2)) (unhide NM) (unhide HSS) (Below.refl _ _)) ?_
      rintro r w3 ⟨h3, b3⟩
      have B3 := hide ((unhide B2).trans (b3.mono (unhide B2).size))
      clear b3
      rcases h3 with ⟨h3, rfl⟩ | ⟨h3, S2, cs2, hx2, hS2, rfl⟩
      · clear h3
        go_wp2_with fail
        refine Calls.mono (awake_any _ (unhide HU _ (unhide B3))) ?_
        rintro r wa ⟨rfl, hba⟩
        have HBa := hide ((unhide B3).trans (hba.mono (unhide B3).size))
        clear hba
        go_wp2_with fail
        go_ret
        exact ⟨rfl, unhide HBa⟩
      · obtain ⟨cs3, u, hx3, hed2⟩ := isOf_ed h3
        obtain rfl : cs2 = cs3 := hx2.inj hx3
        obtain rfl : At.app (atomsL l) cs = cs2 := (unhide HXS).inj hx2
        rw [unhide HLS] at hed2
        have hlS2 : (At.app (atomsL m) (At.app (atomsL l) cs)).length = u := by rw [At.app_len _ _ (by rw [unhide HLS, hed2.2.1])]; exact hed2.2.2.1
        have HD2 := hide hed2
        have HX2 := hide hS2
        have HL2 := hide hlS2
        have hnum : cs.length + sumT l + sumT m ≤ 1048576 := by have h1 := (unhide HX).few; have h2 := unhide HK; omega
        have hnt : t ≤ cs.length + sumT l := ed_to (unhide HED)
        have hnu : u ≤ t + sumT m := ed_to hed2
        have HNUM := hide (And.intro hnum (And.intro hnt hnu))
        have HI : Hid (At.fromN (At.can (At.inv (atomsL l) cs)) = t ∧ At.toN (At.can (At.inv (atomsL l) cs)) = cs.length) := hide (by
          have hs := At.inv_sizes (atomsL l) cs (unhide HED).2.1.symm
          rw [At.can_from, At.can_to, hs.1, hs.2, (unhide HED).2.1, (unhide HED).2.2.1]
          exact ⟨rfl, rfl⟩)
        clear h3 hx2 hx3 hS2 hed2 hlS2
        clear hnum hnt hnu
        go_wp2_with fail
        refine Calls.mono (begun_any s w3 (by have := unhide HS0; omega) (by rw [(unhide HX).count]; have := unhide HNUM; omega)) ?_
        intro r w4 h4
        obtain ⟨g, vb, va, rfl, hh, b4⟩ := h4.shape
        rw [(unhide HX).count] at hh
        have B4 := hide ((unhide B3).trans (b4.mono (unhide B3).size))
        have H4 := hide (hh.base (unhide B3).size)
        clear h4 hh b4
        go_wp2_with fail
        refine Calls.mono (mine_ok w.heap.size g nl t vb va _ a l c s cs w4 (unhide H4) (unhide HU _ (unhide B4)) (unhide HE _ (unhide B4)) (unhide NL) (unhide HX) (unhide HED) rfl (by have := unhide HNUM; omega) (by simp) (by have := unhide QL; omega)) ?_
        intro r w5 h5
        obtain ⟨p, vb5, rfl, at5, pk5, hh5, on5⟩ := h5.shape
        have B5 := hide ((unhide B4).trans ((unhide H4).low on5))
        have H5 := hide hh5
        have HPB : Hid (ats (pushP [] p) = [At.can (At.inv (atomsL l) cs)]) := hide (by rw [pushP_nil, ats_sing, at5])
        clear h5 at5 pk5 hh5 on5
        go_wp2_with fail
        refine Calls.mono (theirs_ok w.heap.size g nm t u 1048576 1048576 vb5 _ _ b m d w5 (unhide H5) (unhide HU _ (unhide B5)) (unhide HF _ (unhide B5)) (unhide NM) (unhide HD2) (by rfl) (by have := unhide HNUM; omega) (by simp [pushP_len]) (by simp) (by decide) (by show Sz 1048576 (ats (pushP [] p)); rw [unhide HPB]; intro x hx; rw [List.mem_singleton] at hx; subst hx; rw [(unhide HI).1, (unhide HI).2]; have := unhide HNUM; omega) (by intro x hx; simp [ats] at hx) (by show Chain t (ats (pushP [] p)); rw [unhide HPB]; exact ⟨(unhide HI).1, trivial⟩) (by simp [ats, Chain]) (by have h1 := ed_puts (unhide HD2); have := unhide HNUM; omega) (by have := unhide HNUM; omega) (by have := unhide HNUM; omega)) ?_
        intro r w6 h6
        obtain ⟨vb6, va6, P6, Q6, rfl, ap6, aq6, hh6, on6⟩ := h6.shape
        have B6 := hide ((unhide B5).trans ((unhide H5).low on6))
        have hap : ats P6 = [At.can (At.one (At.can (At.inv (atomsL l) cs)) (atomsL m))] := by rw [ap6]; show beh (ats (pushP [] p)) _ = _; rw [unhide HPB]; rfl
        have haq : ats Q6 = [] := by rw [aq6]; rfl
        obtain ⟨p6, rfl, hp6⟩ := ats_one hap
        have hq6 : Q6 = [] := List.eq_nil_of_length_eq_zero (by rw [← ats_len, haq]; rfl)
        subst hq6
        have H6 := hide hh6
        have hpk6 := hh6.eb p6 (by simp)
        have hIF : At.fromN (At.can (At.inv (atomsL l) cs)) = At.fromN (atomsL m) := by rw [(unhide HI).1, (unhide HD2).2.1]
        have hsz6 := At.sizes _ _ hIF
        have hto6 := one_to hIF
        rw [(unhide HI).2] at hto6
        obtain ⟨v6, hv6⟩ : ∃ z, At.toN (At.can (At.one (At.can (At.inv (atomsL l) cs)) (atomsL m))) = z := ⟨_, rfl⟩
        rw [hv6] at hto6
        have hput := ed_puts (unhide HD2)
        have hv6b : v6 ≤ 1048576 := by have := unhide HNUM; omega
        have hed6 : IsEd p6.l u v6 := ⟨hpk6.nf, by rw [hp6, At.can_from, hsz6.1]; exact (unhide HD2).2.2.1, by rw [hp6]; exact hv6, by have := unhide HNUM; omega, by omega⟩
        have HED6 := hide hed6
        have AP6 := hide hp6
        have HV6 := hide (And.intro hv6 hv6b)
        have HIF := hide hIF
        clear h6 ap6 aq6 hh6 on6 hap haq hp6 hpk6 hed6 HPB hsz6 hto6 hv6 hput hv6b hIF
        go_wp2_with fail
        refine Calls.mono (undo_ok w.heap.size g v6 vb6 va6 ⟨((u : Nat) : Int), [p6], []⟩ [] p6 S2 (At.app (atomsL m) (At.app (atomsL l) cs)) w6 (unhide H6) (fun W hW => unhide HU W ((unhide B6).trans hW)) rfl (by decide) (by simp) (unhide HX2) (by rw [unhide HL2]; exact unhide HED6) (by rw [unhide HL2]) (by rw [unhide HL2]; have := unhide HNUM; omega) (by have := unhide HV6; omega)) ?_
        intro r w7 h7
        obtain ⟨q7, vb7, va7, rfl, at7, pq7, pp7, hh7, on7⟩ := h7.shape
        have B7 := hide ((unhide B6).trans ((unhide H6).low on7))
        obtain ⟨u7, d7, hu7, Eu7⟩ := pp7.edit (unhide HED6) (by have := unhide HNUM; have := unhide HV6; omega)
        obtain ⟨n7, hn7⟩ : ∃ z, p6.l.length = z := ⟨_, rfl⟩
        rw [hn7] at hu7
        have HN7 := hide hn7
        have HE7 := hide Eu7
        rw [hu7]
        clear h7 at7 pq7 pp7 hh7 on7 hu7 Eu7 hn7
        go_wp2_with fail
        refine Calls.mono (invert_at (w := w7) s (unhide HU _ (unhide B7)) (unhide HE _ (unhide B7)) (unhide NL) (by have := unhide QL; omega) (unhide HS0) (Below.refl _ _)) ?_
        rintro r w8 ⟨h8, b8⟩
        have B8 := hide ((unhide B7).trans (b8.mono (unhide B7).size))
        have HE8 := hide ((unhide HE7).call b8)
        rcases h8 with ⟨h8, _⟩ | ⟨_, v, li, cs8, x8, rfl, ov, nf_, at_, ln_⟩
        · exfalso
          rw [ed_isOf (unhide HX) (unhide HED)] at h8
          cases h8
        obtain rfl : cs8 = cs := x8.inj (unhide HX)
        have hedi := ed_inv (unhide HED) nf_ at_
        have hlen : li.length ≤ t + cs8.length := by have := nf_len nf_; rw [hedi.2.1, hedi.2.2.1] at this; exact this
        obtain ⟨ai, ci, rfl, Ei⟩ := ov.edit (ed_txt hedi) (by have := unhide HNUM; omega)
        obtain ⟨ni, hni⟩ : ∃ z, li.length = z := ⟨_, rfl⟩
        rw [hni] at hlen ⊢
        have HNI := hide hni
        have HEI := hide Ei
        have HDI := hide hedi
        have HAI := hide at_
        have HLI := hide hlen
        clear b8 x8 ov nf_ at_ ln_ hedi hlen Ei hni HE7
        go_wp2_with fail
        refine Calls.mono (transform_at (w := w8) (unhide HU _ (unhide B8)) (unhide HEI) (unhide HF _ (unhide B8)) (unhide HNI) (unhide NM) (by have := unhide HLI; have := unhide HNUM; have := unhide QL; omega) (Below.refl _ _)) ?_
        rintro r w9 ⟨h9, b9⟩
        have B9 := hide ((unhide B8).trans (b9.mono (unhide B8).size))
        have HE9 := hide ((unhide HE8).call b9)
        obtain ⟨c1, c2, nf1, nf2, e1, e2, _, _, f1, f2, t12, hr⟩ := tra_ok h9 (unhide HDI) (unhide HD2)
        rw [unhide HAI] at e1 e2
        have hto : At.toN (atomsL c1) ≤ 1048576 := by rw [e1, (unhide HV6).1]; exact (unhide HV6).2
        rcases hr with ⟨hr, _⟩ | ⟨_, d2, v1, v2, rfl, o1, o2⟩
        · exfalso
          omega
        obtain ⟨a1, k1, rfl⟩ : ∃ a1 k1, v1 = .slice a1 c1.length k1 := by obtain ⟨x, y, e, _⟩ := o1.open; exact ⟨x, y, e⟩
        have hlen2 : c2.length ≤ cs8.length + At.toN (atomsL c1) := by have := nf_len nf2; rw [d2.2.1, d2.2.2.1] at this; exact this
        obtain ⟨a2, k2, rfl, E2⟩ := o2.edit (ed_txt d2) (by have := unhide HNUM; omega)
        obtain ⟨n1, hn1⟩ : ∃ z, c1.length = z := ⟨_, rfl⟩
        obtain ⟨n2, hn2⟩ : ∃ z, c2.length = z := ⟨_, rfl⟩
        rw [hn1, hn2]
        have HN2 := hide hn2
        have HE2 := hide E2
        have HDM : Hid (At.app (atomsL c2) cs8 = At.app (atomsL p6.l) (At.app (atomsL m) (At.app (atomsL l) cs8))) := hide (by
          have k := At.diamond (At.can (At.inv (atomsL l) cs8)) (atomsL m) (At.app (atomsL l) cs8) (by rw [unhide HLS, (unhide HI).1]) (by rw [unhide HLS, (unhide HD2).2.1])
          rw [At.app_can, At.inv_app _ _ (unhide HED).2.1.symm] at k
          rw [e2, unhide AP6, At.app_can, At.app_can]
          exact k)
        have HDD := hide d2
        clear h9 b9 nf1 nf2 e1 e2 f1 f2 t12 hto d2 o1 o2 hlen2 E2 hn1 hn2
        go_wp2_with fail
        refine Calls.mono (apply_at (w := w9) s (unhide HU _ (unhide B9)) (unhide HE2) (unhide HN2) (unhide HS0) (Below.refl _ _)) ?_
        rintro r w10 ⟨h10, b10⟩
        have B10 := hide ((unhide B9).trans (b10.mono (unhide B9).size))
        have HE10 := hide ((unhide HE9).call b10)
        rcases h10 with ⟨h10, _⟩ | ⟨_, S10, x, hx10, hS10, rfl⟩
        · exfalso
          rw [ed_isOf (unhide HX) (unhide HDD)] at h10
          cases h10
        obtain rfl : x = cs8 := hx10.inj (unhide HX)
        have HT10 := hide hS10
        clear b10 hx10 hS10 HE9
        go_wp2_with fail
        refine Calls.mono (apply_at (w := w10) S2 (unhide HU _ (unhide B10)) (unhide HE10) (unhide HN7) ((unhide HX2).small (unhide HL2) (unhide HD2).2.2.2.2) (Below.refl _ _)) ?_
        rintro r w11 ⟨h11, b11⟩
        have B11 := hide ((unhide B10).trans (b11.mono (unhide B10).size))
        rcases h11 with ⟨h11, _⟩ | ⟨_, S11, x, hx11, hS11, rfl⟩
        · exfalso
          rw [ed_isOf (unhide HX2) (by rw [unhide HL2]; exact unhide HED6)] at h11
          cases h11
        obtain rfl : x = _ := hx11.inj (unhide HX2)
        rw [← unhide HDM] at hS11
        obtain rfl : S11 = S10 := hS11.same (unhide HT10)
        clear b11 hx11 hS11 HT10
        go_wp2_with fail
        refine Calls.mono (awake_any _ (unhide HU _ (unhide B11))) ?_
        rintro r wa ⟨rfl, hba⟩
        have HBa := hide ((unhide B11).trans (hba.mono (unhide B11).size))
        clear hba
        go_wp2_with fail
        go_ret
        exact ⟨rfl, unhide HBa⟩
end Go.Proofs.YtihiengejpjbkaaDoor
