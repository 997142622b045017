/- UndoFits, where what comes in is of bulk at most 2^20. -/
import Derived.Test.YtihiengejpjbkaaDoorUSt
namespace Go.Proofs.YtihiengejpjbkaaDoor
set_option linter.unusedVariables false
set_option linter.unusedSimpArgs false
open Go.ChangeShapes Go.WideShapes Go.ChangeAt Go.RowKit Go.Joins Go.Deep

theorem mod_le (k : Int) (F : Nat) (h : F ≤ 1099511627776) : ∃ j : Nat, wrap64 ((IntKind.u64.wrap k).tmod ((F : Int) + 1)) = (j : Int) ∧ j ≤ F := by
  have h0 : 0 ≤ IntKind.u64.wrap k := wrap_u64_nonneg k
  rw [Int.tmod_eq_emod_of_nonneg h0]
  have g1 := Int.emod_nonneg (IntKind.u64.wrap k) (show (F : Int) + 1 ≠ 0 by omega)
  have g2 := Int.emod_lt_of_pos (IntKind.u64.wrap k) (show (0 : Int) < (F : Int) + 1 by omega)
  generalize IntKind.u64.wrap k % ((F : Int) + 1) = x at *
  refine ⟨x.toNat, ?_, by omega⟩
  unfold wrap64
  omega
def FiR (w W : World) (g : Nat) (s : ByteArray) (M : Nat) : Prop := ∃ vb va H cs, FiS w W g vb va H s cs M
theorem FiR.shape {w W : World} {g : Nat} {s : ByteArray} {M : Nat} (h : FiR w W g s M) : ∃ vb va H cs, FiS w W g vb va H s cs M := h
theorem pile_cases (P : List Pe) : P = [] ∨ ∃ Q p, P = Q ++ [p] := by
  rcases List.eq_nil_or_concat P with h | ⟨Q, p, h⟩
  · exact .inl h
  · exact .inr ⟨Q, p, by rw [h]; simp⟩
set_option maxRecDepth 100000 in
set_option maxHeartbeats 4000000 in
theorem fits_law (s : ByteArray) (a0 : Option Addr) (L : List Dl) (c0 : Nat) (w : World) (hT : UT w) (hD : Dos w a0 L) (hc : L.length ≤ c0) (hm : c0 ≤ maxLen) (hk : s.size + sumD L ≤ 1048576) : Calls Tryd.prog 7 #[.string s, .slice a0 L.length c0] w fun r w' => r = .returned (.bool true) ∧ Below w.heap.size w w' := by
  have HU : Hid (∀ W, Below w.heap.size w W → UT W) := hide (fun W h => hT.call h)
  have KS := hide (short_any s a0 L c0 w hD hc hm)
  have HDO := hide hD
  have HK := hide hk
  have hs0 : s.size ≤ 1048576 := by omega
  have HS0 := hide hs0
  obtain ⟨n, hn⟩ : ∃ n, L.length = n := ⟨_, rfl⟩
  rw [hn] at hc KS ⊢
  have HN0 := hide hn
  unfold maxLen at hm
  clear hT hD hn hk hs0
  go_enter Tryd.func7, Tryd.ntmps7
  go_wp2_with fail
  refine Calls.mono (unhide KS) ?_
  rintro r w1 ⟨⟨bb, rfl, hsh⟩, b1⟩
  have B1 := hide b1
  have HSH := hide hsh
  clear b1 KS hsh
  cases bb with
  | false =>
    go_wp2_with fail
    refine Calls.mono (awake_any _ (unhide HU _ (unhide B1))) ?_
    rintro r wa ⟨rfl, hba⟩
    have HBa := hide ((unhide B1).trans (hba.mono (unhide B1).size))
    clear hba
    go_wp2_with fail
    go_ret
    exact ⟨rfl, unhide HBa⟩
  | true =>
    have KV := hide (valid_any s w1 (unhide HU _ (unhide B1)) (by have := unhide HS0; omega))
    cases hv : Lib.validD s.data.toList with
    | false =>
      rw [hv] at KV
      clear hv
      go_wp2_with fail
      refine Calls.mono (unhide KV) ?_
      rintro r w2 ⟨rfl, b2⟩
      have B2 := hide ((unhide B1).trans (b2.mono (unhide B1).size))
      clear b2 KV
      go_wp2_with fail
      refine Calls.mono (awake_any _ (unhide HU _ (unhide B2))) ?_
      rintro r wa ⟨rfl, hba⟩
      have HBa := hide ((unhide B2).trans (hba.mono (unhide B2).size))
      clear hba
      go_wp2_with fail
      go_ret
      exact ⟨rfl, unhide HBa⟩
    | true =>
      obtain ⟨cs0, hx0⟩ := tx_of_valid hv
      rw [hv] at KV
      have HX0 := hide hx0
      have hnI : n ≤ 120 := by rw [← unhide HN0]; exact (unhide HSH rfl).2.1
      have H100 : Hid (∀ d ∈ L, d.l.length ≤ 100) := hide (unhide HSH rfl).2.2.1
      have hfew := hx0.few
      have HFEW := hide hfew
      clear hv hx0 HSH hc hm hfew
      go_wp2_with fail
      refine Calls.mono (unhide KV) ?_
      rintro r w2 ⟨rfl, b2⟩
      have B2 := hide ((unhide B1).trans (b2.mono (unhide B1).size))
      clear b2 KV
      go_wp2_with fail
      refine Calls.mono (begun_any s w2 (by have := unhide HS0; omega) (by rw [(unhide HX0).count]; have := unhide HFEW; have := unhide HS0; omega)) ?_
      intro r w4 h4
      obtain ⟨g, vb, va, rfl, hh, b4⟩ := h4.shape
      rw [(unhide HX0).count] at hh
      have F4 : Hid (FiR w w4 g s (Mk s L 0)) := hide ⟨vb, va, _, cs0, FiS.begun (hh.base (unhide B2).size) (unhide HX0) (by have := unhide HFEW; simp [Mk, sumD]; omega) ((unhide B2).trans (b4.mono (unhide B2).size))⟩
      clear h4 hh b4 B1 B2
      go_wp2_with fail
      go_loopw [0, 28] (fun sv i wr => ∃ (k : Nat) (sk : ByteArray), k ≤ n ∧ i = .int .i64 (k : Int) ∧ sv = .string sk ∧ Hid (FiR w wr g sk (Mk s L k))) (fun _ i _ => ((n : Int) - intOf i).toNat)
      case atStart => exact ⟨0, _, by omega, by simp, rfl, F4⟩
      case round =>
        clear F4
        obtain ⟨k, sk, hk, rfl, rfl, HM⟩ := hrel
        by_cases c1 : (k : Int) < (n : Int)
        · obtain ⟨vb, va, H, cs, hF⟩ := (unhide HM).shape
          obtain ⟨d, hd⟩ : ∃ d, L[k]? = some d := ⟨_, List.getElem?_eq_getElem (by rw [unhide HN0]; omega)⟩
          have hx := ((unhide HDO).call hF.bel).2
          rcases hx with h0 | ⟨b, off, rfl, hlt, hx⟩
          · exfalso; rw [h0] at hd; simp at hd
          have q0 : wr.cell? ⟨b, off + k * 3, none⟩ = some (.int .i64 d.op) := hx k d hd 0 _ rfl
          have q1 : wr.cell? ⟨b, off + k * 3 + 1, none⟩ = some (.int .i64 d.n) := hx k d hd 1 _ rfl
          have q2 : wr.cell? ⟨b, off + k * 3 + 2, none⟩ = some (.slice d.a d.l.length d.c) := hx k d hd 2 _ rfl
          have hmem := List.mem_of_getElem? hd
          have HMK := hide (Mk_next (s := s) hd)
          have HMB : Hid (Mk s L k + sumT d.l ≤ 1048576) := hide (by have h1 := Mk_next (s := s) hd; have h2 := Mk_le s L (k + 1); have h3 := unhide HK; omega)
          have H1 := hide ((unhide H100) d hmem)
          have HED : Hid (∀ W, Below w.heap.size w W → Edit W d.a d.l d.c) := hide (fun W hW => ((unhide HDO).1 d hmem).call hW)
          have HSK : Hid (sk.size ≤ 281474976710656) := hide (hF.tx.small rfl (by have := hF.m; have := unhide HMB; omega))
          obtain ⟨kd, hkd, hkd2⟩ := mod_le d.op 4 (by omega)
          simp at hkd
          have k0 : (0 : Int) ≤ (k : Int) := by omega
          have hal : Below wr.heap.size wr (wr.alloc (.cells #[.int .i64 d.op, .int .i64 d.n, .slice d.a d.l.length d.c] 34)) := (Below.refl _ _).alloc (Nat.le_refl _) _
          have hF := hF.call hal
          obtain ⟨m, hmm⟩ : ∃ z, d.l.length = z := ⟨_, rfl⟩
          rw [hmm] at q2 H1 hF
          have HN := hide hmm
          clear HM hd hx hmem hlt hal hmm
          by_cases e3 : kd = 3
          · subst e3
            rcases pile_cases H.back with h0 | ⟨Q, p, h0⟩
            · have KU := hide (hF.undo0 h0)
              have F0 := hide hF
              clear hF h0
              go_wp2_with fail
              refine Calls.mono (unhide KU) ?_
              rintro r w3 ⟨rfl, b3⟩
              have F3 := hide ((unhide F0).call b3)
              clear b3 F0 KU
              go_wp2_with fail
              exact ⟨⟨k + 1, sk, by omega, by simp, rfl, hide ⟨_, _, _, _, (unhide F3).mono (by rw [unhide HMK]; omega)⟩⟩, by simp [intOf]; omega⟩
            · have hK := hF.undo (unhide HU) (by have := unhide HMB; omega) h0
              have HD := hide hK.1
              have KU := hide hK.2
              have HX := hide hF.tx
              clear hF h0 hK
              go_wp2_with fail
              refine Calls.mono (unhide KU) ?_
              intro r w3 h3
              obtain ⟨vb3, va3, H3, a, c, rfl, hv, E, _, hbel, hF⟩ := h3.shape
              rw [hv]
              obtain ⟨l, hl⟩ : ∃ l, p.l = l := ⟨_, rfl⟩
              rw [hl] at HD E hF ⊢
              obtain ⟨n1, hn1⟩ : ∃ z, l.length = z := ⟨_, rfl⟩
              rw [hn1]
              have HE := hide E
              have HN := hide hn1
              have BW := hide hbel
              have HF : Hid (∀ S W', Below w3.heap.size w3 W' → Tx S (At.app (atomsL l) cs) → FiS w W' g vb3 va3 H3 S (At.app (atomsL l) cs) (Mk s L k)) := hide (fun S W' hb hS => (hF S hS).call hb)
              clear h3 hv E hF hl hn1 KU hbel
              go_wp2_with fail
              refine Calls.mono (apply_at (w := w3) sk (unhide HU _ (unhide BW)) (unhide HE) (unhide HN) (unhide HSK) (Below.refl _ _)) ?_
              rintro r w4 ⟨h4, b4⟩
              rcases h4 with ⟨h4, _⟩ | ⟨_, S, c1, x1, x2, rfl⟩
              · exfalso
                rw [ed_isOf (unhide HX) (unhide HD)] at h4
                cases h4
              obtain rfl : c1 = cs := x1.inj (unhide HX)
              have hF4 := unhide HF S w4 b4 x2
              clear b4 x1 x2 HE HF BW
              obtain ⟨u, hu⟩ : ∃ u, (At.app (atomsL l) c1).length = u := ⟨_, rfl⟩
              have hn4 := hF4.n
              rw [hu] at hn4
              have hSz : S.size ≤ 281474976710656 := hF4.tx.small hu (by have := hF4.m; rw [hu] at this; have := unhide HMB; omega)
              have KC : Hid (∀ W, Calls Tryd.prog 13 #[.string S] W fun e w' => e = .returned (.int .i64 (u : Int)) ∧ Below W.heap.size W w') := hide (fun W => by have := counts_any S W (by omega); rw [hF4.tx.count, hu] at this; exact this)
              have KS := hide (size_ok g (u : Int) w4 (hF4.hi.row.cell 0) (by have := hF4.hi.row.cell 1; rw [hn4] at this; exact this))
              have F4 := hide hF4
              clear hF4 hn4 hu hSz
              go_wp2_with fail
              refine Calls.mono (unhide KS) ?_
              rintro r w5 ⟨rfl, rfl⟩
              go_wp2_with fail
              refine Calls.mono (unhide KC _) ?_
              rintro r w6 ⟨rfl, b6⟩
              have F6 := hide ((unhide F4).call b6)
              clear b6 F4 KS
              go_wp2_with fail
              refine Calls.mono (unhide KC _) ?_
              rintro r w7 ⟨rfl, b7⟩
              have F7 := hide ((unhide F6).call b7)
              clear b7 F6 KC
              by_cases hbig : (600 : Int) < (u : Int)
              · have B7 := hide (unhide F7).bel
                go_wp2_with fail
                refine Calls.mono (awake_any _ (unhide HU _ (unhide B7))) ?_
                rintro r wa ⟨rfl, hba⟩
                have HBa := hide ((unhide B7).trans (hba.mono (unhide B7).size))
                clear hba
                go_wp2_with fail
                go_ret
                exact ⟨rfl, unhide HBa⟩
              · go_wp2_with fail
                exact ⟨⟨k + 1, _, by omega, by simp, rfl, hide ⟨_, _, _, _, (unhide F7).mono (by rw [unhide HMK]; omega)⟩⟩, by simp [intOf]; omega⟩
          · by_cases e4 : kd = 4
            · subst e4
              rcases pile_cases H.again with h0 | ⟨Q, p, h0⟩
              · have KU := hide (hF.redo0 h0)
                have F0 := hide hF
                clear hF h0
                go_wp2_with fail
                refine Calls.mono (unhide KU) ?_
                rintro r w3 ⟨rfl, b3⟩
                have F3 := hide ((unhide F0).call b3)
                clear b3 F0 KU
                go_wp2_with fail
                exact ⟨⟨k + 1, sk, by omega, by simp, rfl, hide ⟨_, _, _, _, (unhide F3).mono (by rw [unhide HMK]; omega)⟩⟩, by simp [intOf]; omega⟩
              · have hK := hF.redo (unhide HU) (by have := unhide HMB; omega) h0
                have HD := hide hK.1
                have KU := hide hK.2
                have HX := hide hF.tx
                clear hF h0 hK
                go_wp2_with fail
                refine Calls.mono (unhide KU) ?_
                intro r w3 h3
                obtain ⟨vb3, va3, H3, a, c, rfl, hv, E, _, hbel, hF⟩ := h3.shape
                rw [hv]
                obtain ⟨l, hl⟩ : ∃ l, p.l = l := ⟨_, rfl⟩
                rw [hl] at HD E hF ⊢
                obtain ⟨n1, hn1⟩ : ∃ z, l.length = z := ⟨_, rfl⟩
                rw [hn1]
                have HE := hide E
                have HN := hide hn1
                have BW := hide hbel
                have HF : Hid (∀ S W', Below w3.heap.size w3 W' → Tx S (At.app (atomsL l) cs) → FiS w W' g vb3 va3 H3 S (At.app (atomsL l) cs) (Mk s L k)) := hide (fun S W' hb hS => (hF S hS).call hb)
                clear h3 hv E hF hl hn1 KU hbel
                go_wp2_with fail
                refine Calls.mono (apply_at (w := w3) sk (unhide HU _ (unhide BW)) (unhide HE) (unhide HN) (unhide HSK) (Below.refl _ _)) ?_
                rintro r w4 ⟨h4, b4⟩
                rcases h4 with ⟨h4, _⟩ | ⟨_, S, c1, x1, x2, rfl⟩
                · exfalso
                  rw [ed_isOf (unhide HX) (unhide HD)] at h4
                  cases h4
                obtain rfl : c1 = cs := x1.inj (unhide HX)
                have hF4 := unhide HF S w4 b4 x2
                clear b4 x1 x2 HE HF BW
                obtain ⟨u, hu⟩ : ∃ u, (At.app (atomsL l) c1).length = u := ⟨_, rfl⟩
                have hn4 := hF4.n
                rw [hu] at hn4
                have hSz : S.size ≤ 281474976710656 := hF4.tx.small hu (by have := hF4.m; rw [hu] at this; have := unhide HMB; omega)
                have KC : Hid (∀ W, Calls Tryd.prog 13 #[.string S] W fun e w' => e = .returned (.int .i64 (u : Int)) ∧ Below W.heap.size W w') := hide (fun W => by have := counts_any S W (by omega); rw [hF4.tx.count, hu] at this; exact this)
                have KS := hide (size_ok g (u : Int) w4 (hF4.hi.row.cell 0) (by have := hF4.hi.row.cell 1; rw [hn4] at this; exact this))
                have F4 := hide hF4
                clear hF4 hn4 hu hSz
                go_wp2_with fail
                refine Calls.mono (unhide KS) ?_
                rintro r w5 ⟨rfl, rfl⟩
                go_wp2_with fail
                refine Calls.mono (unhide KC _) ?_
                rintro r w6 ⟨rfl, b6⟩
                have F6 := hide ((unhide F4).call b6)
                clear b6 F4 KS
                go_wp2_with fail
                refine Calls.mono (unhide KC _) ?_
                rintro r w7 ⟨rfl, b7⟩
                have F7 := hide ((unhide F6).call b7)
                clear b7 F6 KC
                by_cases hbig : (600 : Int) < (u : Int)
                · have B7 := hide (unhide F7).bel
                  go_wp2_with fail
                  refine Calls.mono (awake_any _ (unhide HU _ (unhide B7))) ?_
                  rintro r wa ⟨rfl, hba⟩
                  have HBa := hide ((unhide B7).trans (hba.mono (unhide B7).size))
                  clear hba
                  go_wp2_with fail
                  go_ret
                  exact ⟨rfl, unhide HBa⟩
                · go_wp2_with fail
                  exact ⟨⟨k + 1, _, by omega, by simp, rfl, hide ⟨_, _, _, _, (unhide F7).mono (by rw [unhide HMK]; omega)⟩⟩, by simp [intOf]; omega⟩
            · have f3 : ((kd : Int) == 3) = false := by simp; omega
              have f4 : ((kd : Int) == 4) = false := by simp; omega
              clear e3 e4
              have BW := hide hF.bel
              have FK := hide hF
              have HX := hide hF.tx
              have HE := hide (unhide HED _ hF.bel)
              clear hF
              have hrow := RowAt.new wr 34 [.int .i64 d.op, .int .i64 d.n, .slice d.a m d.c]
              have HR := hide hrow
              clear hrow
              go_wp2_with fail
              refine Calls.mono (apply_at sk (unhide HU _ (unhide BW)) (unhide HE) (unhide HN) (unhide HSK) (Below.refl _ _)) ?_
              rintro r w3 ⟨h3, b3⟩
              have F3 := hide ((unhide FK).call b3)
              have E3 := hide ((unhide HE).call b3)
              have q3 := ((unhide HR).below b3 (unhide HR).lt).cell 0
              simp only [List.getElem?_cons_zero] at q3
              clear b3 FK HE BW HR
              rcases h3 with ⟨h3, rfl⟩ | ⟨h3, S3, c3, x3, y3, rfl⟩
              · clear h3
                go_wp2_with fail
                exact ⟨⟨k + 1, sk, by omega, by simp, rfl, hide ⟨_, _, _, _, (unhide F3).mono (by rw [unhide HMK]; omega)⟩⟩, by simp [intOf]; omega⟩
              · obtain ⟨c4, t, x4, hed⟩ := isOf_ed h3
                obtain rfl : c4 = cs := x4.inj (unhide HX)
                have HD := hide hed
                clear h3 x3 y3 x4 hed
                go_wp2_with fail
                · refine Calls.mono ((unhide F3).mine (unhide HU _ (unhide F3).bel) (unhide E3) (unhide HN) (unhide HD) (unhide HMB) (by have := unhide H1; omega)) ?_
                  intro r w5 h5
                  obtain ⟨vb5, va5, H5, rfl, hbel, hF5⟩ := h5.shape
                  have BW := hide hbel
                  have HE := hide (unhide HED _ hbel)
                  have HF : Hid (∀ S W', Below w5.heap.size w5 W' → Tx S (At.app (atomsL d.l) c4) → FiS w W' g vb5 va5 H5 S (At.app (atomsL d.l) c4) (Mk s L k + sumT d.l)) := hide (fun S W' hb hS => (hF5 S hS).call hb)
                  obtain ⟨cs, hcs⟩ : ∃ z, c4 = z := ⟨_, rfl⟩
                  rw [hcs] at HF HX HD
                  clear h5 hbel hF5 F3 E3
                  go_wp2_with fail
                  refine Calls.mono (apply_at (w := w5) sk (unhide HU _ (unhide BW)) (unhide HE) (unhide HN) (unhide HSK) (Below.refl _ _)) ?_
                  rintro r w4 ⟨h4, b4⟩
                  rcases h4 with ⟨h4, _⟩ | ⟨_, S, c1, x1, x2, rfl⟩
                  · exfalso
                    rw [ed_isOf (unhide HX) (unhide HD)] at h4
                    cases h4
                  obtain rfl : c1 = cs := x1.inj (unhide HX)
                  have hF4 := unhide HF S w4 b4 x2
                  clear b4 x1 x2 HE HF BW
                  obtain ⟨u, hu⟩ : ∃ u, (At.app (atomsL d.l) c1).length = u := ⟨_, rfl⟩
                  have hn4 := hF4.n
                  rw [hu] at hn4
                  have hSz : S.size ≤ 281474976710656 := hF4.tx.small hu (by have := hF4.m; rw [hu] at this; have := unhide HMB; omega)
                  have KC : Hid (∀ W, Calls Tryd.prog 13 #[.string S] W fun e w' => e = .returned (.int .i64 (u : Int)) ∧ Below W.heap.size W w') := hide (fun W => by have := counts_any S W (by omega); rw [hF4.tx.count, hu] at this; exact this)
                  have KS := hide (size_ok g (u : Int) w4 (hF4.hi.row.cell 0) (by have := hF4.hi.row.cell 1; rw [hn4] at this; exact this))
                  have F4 := hide hF4
                  clear hF4 hn4 hu hSz
                  go_wp2_with fail
                  refine Calls.mono (unhide KS) ?_
                  rintro r w5 ⟨rfl, rfl⟩
                  go_wp2_with fail
                  refine Calls.mono (unhide KC _) ?_
                  rintro r w6 ⟨rfl, b6⟩
                  have F6 := hide ((unhide F4).call b6)
                  clear b6 F4 KS
                  go_wp2_with fail
                  refine Calls.mono (unhide KC _) ?_
                  rintro r w7 ⟨rfl, b7⟩
                  have F7 := hide ((unhide F6).call b7)
                  clear b7 F6 KC
                  by_cases hbig : (600 : Int) < (u : Int)
                  · have B7 := hide (unhide F7).bel
                    go_wp2_with fail
                    refine Calls.mono (awake_any _ (unhide HU _ (unhide B7))) ?_
                    rintro r wa ⟨rfl, hba⟩
                    have HBa := hide ((unhide B7).trans (hba.mono (unhide B7).size))
                    clear hba
                    go_wp2_with fail
                    go_ret
                    exact ⟨rfl, unhide HBa⟩
                  · go_wp2_with fail
                    exact ⟨⟨k + 1, _, by omega, by simp, rfl, hide ⟨_, _, _, _, (unhide F7).mono (by rw [unhide HMK]; exact Nat.le_refl _)⟩⟩, by simp [intOf]; omega⟩
                · refine Calls.mono ((unhide F3).theirs (unhide HU _ (unhide F3).bel) (unhide E3) (unhide HN) (unhide HD) (unhide HMB)) ?_
                  intro r w5 h5
                  obtain ⟨vb5, va5, H5, rfl, hbel, hF5⟩ := h5.shape
                  have BW := hide hbel
                  have HE := hide (unhide HED _ hbel)
                  have HF : Hid (∀ S W', Below w5.heap.size w5 W' → Tx S (At.app (atomsL d.l) c4) → FiS w W' g vb5 va5 H5 S (At.app (atomsL d.l) c4) (Mk s L k + sumT d.l)) := hide (fun S W' hb hS => (hF5 S hS).call hb)
                  obtain ⟨cs, hcs⟩ : ∃ z, c4 = z := ⟨_, rfl⟩
                  rw [hcs] at HF HX HD
                  clear h5 hbel hF5 F3 E3
                  go_wp2_with fail
                  refine Calls.mono (apply_at (w := w5) sk (unhide HU _ (unhide BW)) (unhide HE) (unhide HN) (unhide HSK) (Below.refl _ _)) ?_
                  rintro r w4 ⟨h4, b4⟩
                  rcases h4 with ⟨h4, _⟩ | ⟨_, S, c1, x1, x2, rfl⟩
                  · exfalso
                    rw [ed_isOf (unhide HX) (unhide HD)] at h4
                    cases h4
                  obtain rfl : c1 = cs := x1.inj (unhide HX)
                  have hF4 := unhide HF S w4 b4 x2
                  clear b4 x1 x2 HE HF BW
                  obtain ⟨u, hu⟩ : ∃ u, (At.app (atomsL d.l) c1).length = u := ⟨_, rfl⟩
                  have hn4 := hF4.n
                  rw [hu] at hn4
                  have hSz : S.size ≤ 281474976710656 := hF4.tx.small hu (by have := hF4.m; rw [hu] at this; have := unhide HMB; omega)
                  have KC : Hid (∀ W, Calls Tryd.prog 13 #[.string S] W fun e w' => e = .returned (.int .i64 (u : Int)) ∧ Below W.heap.size W w') := hide (fun W => by have := counts_any S W (by omega); rw [hF4.tx.count, hu] at this; exact this)
                  have KS := hide (size_ok g (u : Int) w4 (hF4.hi.row.cell 0) (by have := hF4.hi.row.cell 1; rw [hn4] at this; exact this))
                  have F4 := hide hF4
                  clear hF4 hn4 hu hSz
                  go_wp2_with fail
                  refine Calls.mono (unhide KS) ?_
                  rintro r w5 ⟨rfl, rfl⟩
                  go_wp2_with fail
                  refine Calls.mono (unhide KC _) ?_
                  rintro r w6 ⟨rfl, b6⟩
                  have F6 := hide ((unhide F4).call b6)
                  clear b6 F4 KS
                  go_wp2_with fail
                  refine Calls.mono (unhide KC _) ?_
                  rintro r w7 ⟨rfl, b7⟩
                  have F7 := hide ((unhide F6).call b7)
                  clear b7 F6 KC
                  by_cases hbig : (600 : Int) < (u : Int)
                  · have B7 := hide (unhide F7).bel
                    go_wp2_with fail
                    refine Calls.mono (awake_any _ (unhide HU _ (unhide B7))) ?_
                    rintro r wa ⟨rfl, hba⟩
                    have HBa := hide ((unhide B7).trans (hba.mono (unhide B7).size))
                    clear hba
                    go_wp2_with fail
                    go_ret
                    exact ⟨rfl, unhide HBa⟩
                  · go_wp2_with fail
                    exact ⟨⟨k + 1, _, by omega, by simp, rfl, hide ⟨_, _, _, _, (unhide F7).mono (by rw [unhide HMK]; exact Nat.le_refl _)⟩⟩, by simp [intOf]; omega⟩
        · obtain rfl : n = k := by omega
          obtain ⟨vb, va, H, cs, hF⟩ := (unhide HM).shape
          have B9 := hide hF.bel
          clear hF HM
          go_wp2_with fail
          refine Calls.mono (awake_any _ (unhide HU _ (unhide B9))) ?_
          rintro r wa ⟨rfl, hba⟩
          have HBa := hide ((unhide B9).trans (hba.mono (unhide B9).size))
          clear hba
          go_wp2_with fail
          go_ret
          exact ⟨rfl, unhide HBa⟩
end Go.Proofs.YtihiengejpjbkaaDoor
