/- LinesSwaps. -/
import Derived.Test.YtdnbhomjfgpcfaaDoorLB
import Derived.Test.YtdnbhomjfgpcfaaDoorLA
import Derived.Test.YtdnbhomjfgpcfaaDoorLSr
import Derived.Test.YtdnbhomjfgpcfaaDoorLRe
import Derived.Test.YtdnbhomjfgpcfaaDoorLRl
import Derived.Test.YtdnbhomjfgpcfaaDoorSam
namespace Go.Proofs.YtdnbhomjfgpcfaaDoor
set_option linter.unusedVariables false
set_option linter.unusedSimpArgs false
open Go.ChangeShapes Go.WideShapes Go.ChangeAt Go.RowKit Go.Joins Go.Deep

set_option maxRecDepth 100000 in
set_option maxHeartbeats 4000000 in
theorem swaps_law (s t u : ByteArray) (w : World) (hT : UT w) (hM : MaxS w) (hs0 : s.size ≤ 140737488351232) (ht0 : t.size ≤ 140737488351232) (hu0 : u.size ≤ 140737488351232) : Calls Tryd.prog 6 #[.string s, .string t, .string u] w fun r w' => r = .returned (.bool true) ∧ Below w.heap.size w w' := by
  have HM := hide hM
  clear hM
  have HU : Hid (∀ W, Below w.heap.size w W → UT W) := hide (fun W h => hT.call h)
  have bP : Below w.heap.size w (w.alloc (.cells #[.string s, .string t, .string u] 9)) := (Below.refl _ _).alloc (Nat.le_refl _) _
  have KS := hide (long_any w.heap.size (.slice (some ⟨w.heap.size, 0, none⟩) 3 3) [s, t, u] (w.alloc (.cells #[.string s, .string t, .string u] 9)) (own_row (RowAt.new w 9 [.string s, .string t, .string u]) (Nat.le_refl _) (by show 3 ≤ maxLen; unfold maxLen; omega)) (by simp))
  have B1 := hide bP
  clear hT bP
  obtain ⟨w1, hw1⟩ : ∃ z, w.alloc (.cells #[.string s, .string t, .string u] 9) = z := ⟨_, rfl⟩
  have HW1 := hide hw1
  rw [hw1] at KS B1
  clear hw1
  have KV := hide (valid_any s w1 (unhide HU _ (unhide B1)) (by omega))
  go_enter Tryd.func6, Tryd.ntmps6
  go_wp2_with fail
  try rw [unhide HW1]
  clear HW1
  refine Calls.mono (unhide KS) ?_
  rintro r w2 ⟨rfl, rfl⟩
  cases hlb : longB [s, t, u] with
  | true =>
    have KA := hide (awake_any w1 (unhide HU _ (unhide B1)))
    go_wp2_with fail
    refine Calls.mono (unhide KA) ?_
    rintro r w9 ⟨rfl, b9⟩
    have B9 := hide ((unhide B1).trans (b9.mono (unhide B1).size))
    clear b9
    go_wp2_with fail
    go_ret
    exact ⟨rfl, unhide B9⟩
  | false =>
    have hszs : s.size ≤ 2048 ∧ t.size ≤ 2048 ∧ u.size ≤ 2048 := by simpa [longB] using hlb
    have hsz : s.size ≤ 2048 := hszs.1
    clear hlb
    go_wp2_with fail
    refine Calls.mono (unhide KV) ?_
    rintro r w2 ⟨rfl, b2⟩
    have B2 := hide ((unhide B1).trans (b2.mono (unhide B1).size))
    clear b2
    cases hv : Lib.validD s.data.toList with
    | false =>
      have KA := hide (awake_any w2 (unhide HU _ (unhide B2)))
      go_wp2_with fail
      refine Calls.mono (unhide KA) ?_
      rintro r w9 ⟨rfl, b9⟩
      have B9 := hide ((unhide B2).trans (b9.mono (unhide B2).size))
      clear b9
      go_wp2_with fail
      go_ret
      exact ⟨rfl, unhide B9⟩
    | true =>
      obtain ⟨cs, hx⟩ := tx_of_valid hv
      have hfew : cs.length ≤ 2048 := by have := hx.cps.len; rw [← hx.size] at this; omega
      have HX := hide hx
      have KR := hide (rnew_any s w2 (by omega))
      clear hv hx
      go_wp2_with fail
      refine Calls.mono (unhide KR) ?_
      rintro r w3 ⟨h3, b3⟩
      have B3 := hide ((unhide B2).trans (b3.mono (unhide B2).size))
      clear b3 KR
      rcases h3 with ⟨hv, rfl⟩ | ⟨cs2, g2, vr2, hx2, rfl, hi2⟩
      · exfalso
        have h9 := (unhide HX).valid
        rw [hv] at h9
        cases h9
      · obtain rfl : cs = cs2 := (unhide HX).inj hx2
        have HJ3 := hide hi2
        have KI := hide (index_any s cs w3 (unhide HU _ (unhide B3)) (by omega) (unhide HX))
        clear hx2 hi2
        go_wp2_with fail
        refine Calls.mono (unhide KI) ?_
        rintro r w4 ⟨g, vr, vs, rfl, hi, b4⟩
        have HJ := hide ((unhide HJ3).call b4)
        have HI := hide hi
        have B4 := hide ((unhide B3).trans (b4.mono (unhide B3).size))
        clear b4 hi KI HJ3
        have ht : t.size ≤ 2048 := hszs.2.1
        have hu : u.size ≤ 2048 := hszs.2.2
        have KF := hide (swap_ok (unhide HI) t u (unhide HU _ (unhide B4)) (by omega) (by omega) (by omega))
        clear hszs
        go_wp2_with fail
        refine Calls.mono (unhide KF) ?_
        rintro r w5 ⟨h5, b5⟩
        have KX := hide (rswap_ok ((unhide HJ).call b5) t u (by omega) (by omega) (by omega))
        have B5 := hide ((unhide B4).trans (b5.mono (unhide B4).size))
        have C5 := hide b5
        clear KF b5
        rcases h5 with ⟨hv, rfl⟩ | ⟨cp, hx, h5⟩
        · have HV := hide hv
          clear hv
          go_wp2_with fail
          refine Calls.mono (unhide KX) ?_
          rintro r w6 ⟨h6, b6⟩
          have B6 := hide ((unhide B5).trans (b6.mono (unhide B5).size))
          clear b6 KX
          rcases h6 with ⟨-, rfl⟩ | ⟨cp, hx, _⟩
          · clear HV
            have KE := hide (rsame_true none none [] 0 0 0 w6 (.inl rfl) (.inl rfl) rfl (by decide))
            go_wp2_with fail
            refine Calls.mono (unhide KE) ?_
            rintro r w7 ⟨rfl, b7⟩
            have B7 := hide ((unhide B6).trans (b7.mono (unhide B6).size))
            clear b7 KE
            have KA := hide (awake_any w7 (unhide HU _ (unhide B7)))
            go_wp2_with fail
            refine Calls.mono (unhide KA) ?_
            rintro r w9 ⟨rfl, b9⟩
            have B9 := hide ((unhide B7).trans (b9.mono (unhide B7).size))
            clear b9
            go_wp2_with fail
            go_ret
            exact ⟨rfl, unhide B9⟩
          · exfalso
            have h9 := hx.valid
            rw [unhide HV] at h9
            cases h9
        have HXP := hide hx
        clear hx
        rcases h5 with ⟨hv, rfl⟩ | ⟨cw, hx, h5⟩
        · have HV := hide hv
          clear hv
          go_wp2_with fail
          refine Calls.mono (unhide KX) ?_
          rintro r w6 ⟨h6, b6⟩
          have B6 := hide ((unhide B5).trans (b6.mono (unhide B5).size))
          clear b6 KX
          rcases h6 with ⟨hv, rfl⟩ | ⟨cp2, hx2, h6⟩
          · exfalso
            have h9 := (unhide HXP).valid
            rw [hv] at h9
            cases h9
          rcases h6 with ⟨-, rfl⟩ | ⟨cw, hx, _⟩
          · clear HV hx2
            have KE := hide (rsame_true none none [] 0 0 0 w6 (.inl rfl) (.inl rfl) rfl (by decide))
            go_wp2_with fail
            refine Calls.mono (unhide KE) ?_
            rintro r w7 ⟨rfl, b7⟩
            have B7 := hide ((unhide B6).trans (b7.mono (unhide B6).size))
            clear b7 KE
            have KA := hide (awake_any w7 (unhide HU _ (unhide B7)))
            go_wp2_with fail
            refine Calls.mono (unhide KA) ?_
            rintro r w9 ⟨rfl, b9⟩
            have B9 := hide ((unhide B7).trans (b9.mono (unhide B7).size))
            clear b9
            go_wp2_with fail
            go_ret
            exact ⟨rfl, unhide B9⟩
          · exfalso
            have h9 := hx.valid
            rw [unhide HV] at h9
            cases h9
        have HXW := hide hx
        clear hx
        rcases h5 with ⟨h0, rfl⟩ | ⟨h0, v, l, rfl, ho, nf, ea⟩
        · have H0 := hide h0
          clear h0
          go_wp2_with fail
          refine Calls.mono (unhide KX) ?_
          rintro r w6 ⟨h6, b6⟩
          have B6 := hide ((unhide B5).trans (b6.mono (unhide B5).size))
          clear b6 KX
          rcases h6 with ⟨hv, rfl⟩ | ⟨cp2, hx2, ⟨hv, rfl⟩ | ⟨cw2, hx3, ⟨-, rfl⟩ | ⟨h2, _⟩⟩⟩
          · exfalso
            have h9 := (unhide HXP).valid
            rw [hv] at h9
            cases h9
          · exfalso
            have h9 := (unhide HXW).valid
            rw [hv] at h9
            cases h9
          · clear H0 hx2 hx3
            have KE := hide (rsame_true none none [] 0 0 0 w6 (.inl rfl) (.inl rfl) rfl (by decide))
            go_wp2_with fail
            refine Calls.mono (unhide KE) ?_
            rintro r w7 ⟨rfl, b7⟩
            have B7 := hide ((unhide B6).trans (b7.mono (unhide B6).size))
            clear b7 KE
            have KA := hide (awake_any w7 (unhide HU _ (unhide B7)))
            go_wp2_with fail
            refine Calls.mono (unhide KA) ?_
            rintro r w9 ⟨rfl, b9⟩
            have B9 := hide ((unhide B7).trans (b9.mono (unhide B7).size))
            clear b9
            go_wp2_with fail
            go_ret
            exact ⟨rfl, unhide B9⟩
          · exfalso
            obtain rfl := (unhide HXP).inj hx2
            exact h2 (unhide H0)
        have hP : 0 < (rni cp).length := by rw [rni_len]; exact List.length_pos_iff.2 h0
        have ef := swA_from (ws := cw) hP (rni cs).length (rni cs) (Nat.le_refl _)
        have et := (swA_puts (ws := cw) hP (rni cs).length (rni cs) (Nat.le_refl _)).2.1
        have hcw : cw.length ≤ 2048 := by have h1 := (unhide HXW).cps.len; rw [← (unhide HXW).size] at h1; omega
        have ht2 : At.toN (swA (rni cp) cw (rni cs)) ≤ 4196352 := Nat.le_trans et (by rw [rni_len]; have := Nat.mul_le_mul (Nat.succ_le_succ hcw) hfew; omega)
        have hed : IsEd l cs.length (At.toN (swA (rni cp) cw (rni cs))) := can_ed nf ea (by rw [ef, rni_len]) rfl (by omega) (by omega)
        obtain ⟨a1, c1, rfl, he⟩ := ed_own ho hed (by omega)
        have hcap := he.cap
        have hmx := he.max
        have HL := hide (And.intro nf (And.intro ea (And.intro hed h0)))
        obtain ⟨m, hm⟩ : ∃ z, l.length = z := ⟨_, rfl⟩
        have HMM := hide hm
        have HE5 := hide he
        rw [hm] at hcap ⊢
        have h1t : 1 ≤ t.size := by have h1 := (unhide HXP).cps.len; rw [← (unhide HXP).size] at h1; have := List.length_pos_iff.2 h0; omega
        clear hP ef et hcw ht2 hed ho he nf ea h0 hm
        go_wp2_with fail
        refine Calls.mono (unhide KX) ?_
        rintro r w6 ⟨h6, b6⟩
        have B6 := hide ((unhide B5).trans (b6.mono (unhide B5).size))
        have HE6 := hide ((unhide HE5).call b6)
        clear b6 KX HE5
        rcases h6 with ⟨hv, rfl⟩ | ⟨cp2, hx2, ⟨hv, rfl⟩ | ⟨cw2, hx3, ⟨h2, _⟩ | ⟨_, v2, l2, rfl, ho2, nf2, ea2⟩⟩⟩
        · exfalso
          have h9 := (unhide HXP).valid
          rw [hv] at h9
          cases h9
        · exfalso
          have h9 := (unhide HXW).valid
          rw [hv] at h9
          cases h9
        · exfalso
          obtain rfl := (unhide HXP).inj hx2
          exact (unhide HL).2.2.2 h2
        obtain rfl := (unhide HXP).inj hx2
        obtain rfl := (unhide HXW).inj hx3
        obtain rfl : l = l2 := nf_unique _ _ _ _ (unhide HL).1 nf2 ((unhide HL).2.1.trans ea2.symm)
        have hto := hide (unhide HL).2.2.1.2.2.2.2
        obtain ⟨a2, c2, rfl, he2⟩ := ed_own ho2 (unhide HL).2.2.1 (by have := (unhide HL).2.2.1.2.2.2.1; have := unhide hto; omega)
        have KE := hide (rsame_true a1 a2 l c1 c2 m w6 (unhide HE6).pts he2.pts (unhide HMM) (by omega))
        rw [unhide HMM]
        clear hx2 hx3 ho2 nf2 ea2 he2 hto
        go_wp2_with fail
        refine Calls.mono (unhide KE) ?_
        rintro r w7 ⟨rfl, b7⟩
        have B7 := hide ((unhide B6).trans (b7.mono (unhide B6).size))
        have HE7 := hide ((unhide HE6).call b7)
        clear b7 KE HE6
        obtain ⟨q, hq⟩ : ∃ z, u.size * s.size = z := ⟨_, rfl⟩
        have hq2 : q ≤ 4194304 := by have := Nat.mul_le_mul hu hsz; omega
        have hqI : (u.size : Int) * (s.size : Int) = (q : Int) := by rw [← hq]; push_cast; rfl
        clear hq
        by_cases hbig : 65536 < q
        · have hbI : (65536 : Int) < (q : Int) := by omega
          have KA := hide (awake_any w7 (unhide HU _ (unhide B7)))
          go_wp2_with fail
          refine Calls.mono (unhide KA) ?_
          rintro r w9 ⟨rfl, b9⟩
          have B9 := hide ((unhide B7).trans (b9.mono (unhide B7).size))
          clear b9
          go_wp2_with fail
          go_ret
          exact ⟨rfl, unhide B9⟩
        · have hbI : ¬ (65536 : Int) < (q : Int) := by omega
          have KQ := hide (applied_any a1 l c1 m _ s cs w7 (unhide HU _ (unhide B7)) (unhide HE7) (unhide HMM) (unhide HX) (unhide HL).2.2.1)
          go_wp2_with fail
          refine Calls.mono (unhide KQ) ?_
          rintro r w8 ⟨S, rfl, hS, b8⟩
          have B8 := hide ((unhide B7).trans (b8.mono (unhide B7).size))
          clear b8 KQ
          have KP := hide (repl_any s t u w8 ((unhide HM).call (unhide B8)) (by omega) (by omega) h1t)
          rw [swap_all (unhide HX) (unhide HXP) (unhide HXW) (unhide HL).2.2.2, show tb (At.app (swA (rni cp) cw (rni cs)) cs) = S by rw [hS.bytes, (unhide HL).2.1, At.app_can]; rfl] at KP
          clear hS
          go_wp2_with fail
          refine Calls.mono (unhide KP) ?_
          rintro r w9 ⟨rfl, b9⟩
          have B9 := hide ((unhide B8).trans (b9.mono (unhide B8).size))
          clear b9 KP
          have KA := hide (awake_any w9 (unhide HU _ (unhide B9)))
          go_wp2_with fail
          refine Calls.mono (unhide KA) ?_
          rintro r w9 ⟨rfl, b9⟩
          have B9 := hide ((unhide B9).trans (b9.mono (unhide B9).size))
          clear b9
          go_wp2_with fail
          go_ret
          exact ⟨rfl, unhide B9⟩
end Go.Proofs.YtdnbhomjfgpcfaaDoor
