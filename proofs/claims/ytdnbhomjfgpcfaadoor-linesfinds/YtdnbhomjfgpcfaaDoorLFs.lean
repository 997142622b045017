/- LinesFinds. -/
import Derived.Test.YtdnbhomjfgpcfaaDoorLB
import Derived.Test.YtdnbhomjfgpcfaaDoorLA
import Derived.Test.YtdnbhomjfgpcfaaDoorLFn
namespace Go.Proofs.YtdnbhomjfgpcfaaDoor
set_option linter.unusedVariables false
set_option linter.unusedSimpArgs false
open Go.ChangeShapes Go.WideShapes Go.ChangeAt Go.RowKit Go.Joins Go.Deep

set_option maxRecDepth 100000 in
set_option maxHeartbeats 4000000 in
theorem finds_law (s t : ByteArray) (w : World) (hT : UT w) (hs0 : s.size ≤ 140737488351232) (ht0 : t.size ≤ 140737488351232) : Calls Tryd.prog 5 #[.string s, .string t] w fun r w' => r = .returned (.bool true) ∧ Below w.heap.size w w' := by
  have HU : Hid (∀ W, Below w.heap.size w W → UT W) := hide (fun W h => hT.call h)
  have bP : Below w.heap.size w (w.alloc (.cells #[.string s, .string t] 9)) := (Below.refl _ _).alloc (Nat.le_refl _) _
  have KS := hide (long_any w.heap.size (.slice (some ⟨w.heap.size, 0, none⟩) 2 2) [s, t] (w.alloc (.cells #[.string s, .string t] 9)) (own_row (RowAt.new w 9 [.string s, .string t]) (Nat.le_refl _) (by show 2 ≤ maxLen; unfold maxLen; omega)) (by simp))
  have B1 := hide bP
  clear hT bP
  obtain ⟨w1, hw1⟩ : ∃ z, w.alloc (.cells #[.string s, .string t] 9) = z := ⟨_, rfl⟩
  have HW1 := hide hw1
  rw [hw1] at KS B1
  clear hw1
  have KV := hide (valid_any s w1 (unhide HU _ (unhide B1)) (by omega))
  go_enter Tryd.func5, Tryd.ntmps5
  go_wp2_with fail
  try rw [unhide HW1]
  clear HW1
  refine Calls.mono (unhide KS) ?_
  rintro r w2 ⟨rfl, rfl⟩
  cases hlb : longB [s, t] with
  | true =>
    have KA := hide (awake_any w1 (unhide HU _ (unhide B1)))
    go_wp2_with fail
    refine Calls.mono (unhide KA) ?_
    rintro r w9 ⟨rfl, b9⟩
    have B9 := hide ((unhide B1).trans (b9.mono (unhide B1).size))
    clear b9
    go_wp2_with fail
    go_ret
    exact ⟨rfl, unhide B9⟩
  | false =>
    have hszs : s.size ≤ 2048 ∧ t.size ≤ 2048 := by simpa [longB] using hlb
    have hsz : s.size ≤ 2048 := hszs.1
    clear hlb
    go_wp2_with fail
    refine Calls.mono (unhide KV) ?_
    rintro r w2 ⟨rfl, b2⟩
    have B2 := hide ((unhide B1).trans (b2.mono (unhide B1).size))
    clear b2
    cases hv : Lib.validD s.data.toList with
    | false =>
      have KA := hide (awake_any w2 (unhide HU _ (unhide B2)))
      go_wp2_with fail
      refine Calls.mono (unhide KA) ?_
      rintro r w9 ⟨rfl, b9⟩
      have B9 := hide ((unhide B2).trans (b9.mono (unhide B2).size))
      clear b9
      go_wp2_with fail
      go_ret
      exact ⟨rfl, unhide B9⟩
    | true =>
      obtain ⟨cs, hx⟩ := tx_of_valid hv
      have hfew : cs.length ≤ 2048 := by have := hx.cps.len; rw [← hx.size] at this; omega
      have HX := hide hx
      have KR := hide (rnew_any s w2 (by omega))
      clear hv hx
      go_wp2_with fail
      refine Calls.mono (unhide KR) ?_
      rintro r w3 ⟨h3, b3⟩
      have B3 := hide ((unhide B2).trans (b3.mono (unhide B2).size))
      clear b3 KR
      rcases h3 with ⟨hv, rfl⟩ | ⟨cs2, g2, vr2, hx2, rfl, hi2⟩
      · exfalso
        have h9 := (unhide HX).valid
        rw [hv] at h9
        cases h9
      · obtain rfl : cs = cs2 := (unhide HX).inj hx2
        have HJ3 := hide hi2
        have KI := hide (index_any s cs w3 (unhide HU _ (unhide B3)) (by omega) (unhide HX))
        clear hx2 hi2
        go_wp2_with fail
        refine Calls.mono (unhide KI) ?_
        rintro r w4 ⟨g, vr, vs, rfl, hi, b4⟩
        have HJ := hide ((unhide HJ3).call b4)
        have HI := hide hi
        have B4 := hide ((unhide B3).trans (b4.mono (unhide B3).size))
        clear b4 hi KI HJ3
        have ht : t.size ≤ 2048 := hszs.2
        have KF := hide (find_ok (unhide HI) t (unhide HU _ (unhide B4)) (by omega) (by omega))
        go_wp2_with fail
        refine Calls.mono (unhide KF) ?_
        rintro r w5 ⟨h5, b5⟩
        have KX := hide (rfind_ok ((unhide HJ).call b5) t (by omega) (by omega))
        have B5 := hide ((unhide B4).trans (b5.mono (unhide B4).size))
        have C5 := hide b5
        clear KF b5 hszs
        rcases h5 with ⟨hv, rfl⟩ | ⟨cp, hx, ⟨h0, rfl⟩ | ⟨h0, v, rfl, ho⟩⟩
        · have HV := hide hv
          clear hv
          go_wp2_with fail
          refine Calls.mono (unhide KX) ?_
          rintro r w6 ⟨h6, b6⟩
          have B6 := hide ((unhide B5).trans (b6.mono (unhide B5).size))
          clear b6 KX
          rcases h6 with ⟨-, rfl⟩ | ⟨cp, hx, _⟩
          · clear HV
            have KE := hide (ieq_any w.heap.size w.heap.size (.slice none 0 0) (.slice none 0 0) [] [] w6 (World.ownsRow_nil _ _ _ _) (World.ownsRow_nil _ _ _ _) (by decide))
            go_wp2_with fail
            refine Calls.mono (unhide KE) ?_
            rintro r w7 ⟨rfl, b7⟩
            have B7 := hide ((unhide B6).trans (b7.mono (unhide B6).size))
            clear b7 KE
            have KA := hide (awake_any w7 (unhide HU _ (unhide B7)))
            go_wp2_with fail
            refine Calls.mono (unhide KA) ?_
            rintro r w9 ⟨rfl, b9⟩
            have B9 := hide ((unhide B7).trans (b9.mono (unhide B7).size))
            clear b9
            go_wp2_with fail
            go_ret
            exact ⟨rfl, unhide B9⟩
          · exfalso
            have h9 := hx.valid
            rw [unhide HV] at h9
            cases h9
        · have HXP := hide hx
          clear hx
          go_wp2_with fail
          refine Calls.mono (unhide KX) ?_
          rintro r w6 ⟨h6, b6⟩
          have B6 := hide ((unhide B5).trans (b6.mono (unhide B5).size))
          clear b6 KX
          rcases h6 with ⟨hv, rfl⟩ | ⟨cp2, hx2, ⟨h2, rfl⟩ | ⟨h2, v2, rfl, ho2⟩⟩
          · exfalso
            have h9 := (unhide HXP).valid
            rw [hv] at h9
            cases h9
          · clear hx2 h2 h0
            have KE := hide (ieq_any w.heap.size w.heap.size (.slice none 0 0) (.slice none 0 0) [] [] w6 (World.ownsRow_nil _ _ _ _) (World.ownsRow_nil _ _ _ _) (by decide))
            go_wp2_with fail
            refine Calls.mono (unhide KE) ?_
            rintro r w7 ⟨rfl, b7⟩
            have B7 := hide ((unhide B6).trans (b7.mono (unhide B6).size))
            clear b7 KE
            have KA := hide (awake_any w7 (unhide HU _ (unhide B7)))
            go_wp2_with fail
            refine Calls.mono (unhide KA) ?_
            rintro r w9 ⟨rfl, b9⟩
            have B9 := hide ((unhide B7).trans (b9.mono (unhide B7).size))
            clear b9
            go_wp2_with fail
            go_ret
            exact ⟨rfl, unhide B9⟩
          · exfalso
            obtain rfl := (unhide HXP).inj hx2
            exact h2 h0
        · have HXP := hide hx
          have H0 := hide h0
          obtain ⟨a1, c1, rfl, _, _⟩ := own_sl ho
          have HO := hide ho
          obtain ⟨q, hq⟩ : ∃ z, (occL cp cs).length = z := ⟨_, rfl⟩
          have HQ := hide hq
          rw [hq] at HO ⊢
          clear hx h0 ho hq
          go_wp2_with fail
          refine Calls.mono (unhide KX) ?_
          rintro r w6 ⟨h6, b6⟩
          have B6 := hide ((unhide B5).trans (b6.mono (unhide B5).size))
          have HO6 := hide (own_call (unhide HO) b6)
          clear b6 KX HO
          rcases h6 with ⟨hv, rfl⟩ | ⟨cp2, hx2, ⟨h2, rfl⟩ | ⟨h2, v2, rfl, ho2⟩⟩
          · exfalso
            have h9 := (unhide HXP).valid
            rw [hv] at h9
            cases h9
          · exfalso
            obtain rfl := (unhide HXP).inj hx2
            exact unhide H0 h2
          · obtain rfl : cp = cp2 := (unhide HXP).inj hx2
            obtain ⟨a2, c2, rfl, _, _⟩ := own_sl ho2
            have hocc := occ_len (rni cp) (rni cs) cs.length
            have KE := hide (ieq_any _ _ _ _ (occL cp cs) (occL cp cs) w6 (by rw [unhide HQ]; exact unhide HO6) ho2 (by have := occ_len (rni cp) (rni cs) cs.length; unfold occL; omega))
            rw [unhide HQ, show decide (occL cp cs = occL cp cs) = true by simp] at KE
            rw [unhide HQ]
            clear hx2 h2 ho2 hocc HO6
            go_wp2_with fail
            refine Calls.mono (unhide KE) ?_
            rintro r w7 ⟨rfl, b7⟩
            have B7 := hide ((unhide B6).trans (b7.mono (unhide B6).size))
            clear b7 KE
            have KA := hide (awake_any w7 (unhide HU _ (unhide B7)))
            go_wp2_with fail
            refine Calls.mono (unhide KA) ?_
            rintro r w9 ⟨rfl, b9⟩
            have B9 := hide ((unhide B7).trans (b9.mono (unhide B7).size))
            clear b9
            go_wp2_with fail
            go_ret
            exact ⟨rfl, unhide B9⟩
end Go.Proofs.YtdnbhomjfgpcfaaDoor
