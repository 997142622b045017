/- LinesMoves. -/
import Derived.Test.YtdnbhomjfgpcfaaDoorLB
import Derived.Test.YtdnbhomjfgpcfaaDoorLA
import Derived.Test.YtdnbhomjfgpcfaaDoorLMr
import Derived.Test.YtdnbhomjfgpcfaaDoorSam
namespace Go.Proofs.YtdnbhomjfgpcfaaDoor
set_option linter.unusedVariables false
set_option linter.unusedSimpArgs false
open Go.ChangeShapes Go.WideShapes Go.ChangeAt Go.RowKit Go.Joins Go.Deep

theorem from_kr : ∀ n, At.fromN (List.replicate n .k) = n
  | 0 => rfl
  | n + 1 => by rw [List.replicate_succ]; simp only [At.fromN]; rw [from_kr n]
theorem from_dr : ∀ n, At.fromN (List.replicate n .d) = n
  | 0 => rfl
  | n + 1 => by rw [List.replicate_succ]; simp only [At.fromN]; rw [from_dr n]
theorem toN_mp : ∀ cs : List (List UInt8), At.toN (cs.map .p) = cs.length
  | [] => rfl
  | c :: cs => by rw [List.map_cons]; simp only [At.toN]; rw [toN_mp cs]; rfl
theorem mv_isEd {cs : List (List UInt8)} {l : List Pt} {f k t : Int} (nf : NfG 0 l) (ea : atomsL l = At.can (mvA cs (stN cs f.toNat) (stN cs (f.toNat + k.toNat)) (mvP cs f.toNat k.toNat t.toNat))) (hm : movB (sts cs).length f k t = true) (hl : cs.length ≤ 1048576) : IsEd l cs.length cs.length := by
  have h := movB_has hm
  obtain ⟨h1, h2, h3⟩ := mv_place (cs := cs) (f := f.toNat) (k := k.toNat) (t := t.toNat) (by omega) (by omega) (by omega)
  obtain ⟨F, hF⟩ : ∃ z, stN cs f.toNat = z := ⟨_, rfl⟩
  obtain ⟨E, hE⟩ : ∃ z, stN cs (f.toNat + k.toNat) = z := ⟨_, rfl⟩
  obtain ⟨A, hA⟩ : ∃ z, mvP cs f.toNat k.toNat t.toNat = z := ⟨_, rfl⟩
  rw [hF, hE, hA] at ea
  rw [hF, hE] at h1 h3
  rw [hE] at h2
  rw [hA] at h3
  have e1 : At.toN (List.replicate F At.k ++ (List.replicate (E - F) At.d ++ List.replicate (cs.length - E) At.k)) = At.fromN (List.replicate A At.k ++ ((sub cs F E).map .p ++ List.replicate (cs.length - (E - F) - A) At.k)) := by
    rw [At.to_app, At.to_app, toN_kr, toN_dr, toN_kr, At.from_app, from_mapP, from_kr, from_kr]
    omega
  refine can_ed nf ea ?_ ?_ (by omega) (by omega)
  · unfold mvA
    rw [At.comp_from _ _ e1, At.from_app, At.from_app, from_kr, from_dr, from_kr]
    omega
  · unfold mvA
    rw [At.comp_to _ _ e1, At.to_app, At.to_app, toN_kr, toN_mp, toN_kr, sub_len h1 h2]
    omega
set_option maxRecDepth 100000 in
set_option maxHeartbeats 4000000 in
theorem moves_law (s : ByteArray) (i1 i2 i3 : Int) (w : World) (hT : UT w) (y1 : -9223372036854775808 ≤ i1) (x1 : i1 ≤ 9223372036854775807) (y2 : -9223372036854775808 ≤ i2) (x2 : i2 ≤ 9223372036854775807) (y3 : -9223372036854775808 ≤ i3) (x3 : i3 ≤ 9223372036854775807) (hs0 : s.size ≤ 140737488351232) : Calls Tryd.prog 7 #[.string s, .int .i64 i1, .int .i64 i2, .int .i64 i3] w fun r w' => r = .returned (.bool true) ∧ Below w.heap.size w w' := by
  have HU : Hid (∀ W, Below w.heap.size w W → UT W) := hide (fun W h => hT.call h)
  have bP : Below w.heap.size w (w.alloc (.cells #[.string s] 9)) := (Below.refl _ _).alloc (Nat.le_refl _) _
  have KS := hide (long_any w.heap.size (.slice (some ⟨w.heap.size, 0, none⟩) 1 1) [s] (w.alloc (.cells #[.string s] 9)) (own_row (RowAt.new w 9 [.string s]) (Nat.le_refl _) (by show 1 ≤ maxLen; unfold maxLen; omega)) (by simp))
  have B1 := hide bP
  clear hT bP
  obtain ⟨w1, hw1⟩ : ∃ z, w.alloc (.cells #[.string s] 9) = z := ⟨_, rfl⟩
  have HW1 := hide hw1
  rw [hw1] at KS B1
  clear hw1
  have KV := hide (valid_any s w1 (unhide HU _ (unhide B1)) (by omega))
  go_enter Tryd.func7, Tryd.ntmps7
  go_wp2_with fail
  try rw [unhide HW1]
  clear HW1
  refine Calls.mono (unhide KS) ?_
  rintro r w2 ⟨rfl, rfl⟩
  cases hlb : longB [s] with
  | true =>
    have KA := hide (awake_any w1 (unhide HU _ (unhide B1)))
    go_wp2_with fail
    refine Calls.mono (unhide KA) ?_
    rintro r w9 ⟨rfl, b9⟩
    have B9 := hide ((unhide B1).trans (b9.mono (unhide B1).size))
    clear b9
    go_wp2_with fail
    go_ret
    exact ⟨rfl, unhide B9⟩
  | false =>
    have hszs : s.size ≤ 2048 := by simpa [longB] using hlb
    have hsz : s.size ≤ 2048 := hszs
    clear hlb
    go_wp2_with fail
    refine Calls.mono (unhide KV) ?_
    rintro r w2 ⟨rfl, b2⟩
    have B2 := hide ((unhide B1).trans (b2.mono (unhide B1).size))
    clear b2
    cases hv : Lib.validD s.data.toList with
    | false =>
      have KA := hide (awake_any w2 (unhide HU _ (unhide B2)))
      go_wp2_with fail
      refine Calls.mono (unhide KA) ?_
      rintro r w9 ⟨rfl, b9⟩
      have B9 := hide ((unhide B2).trans (b9.mono (unhide B2).size))
      clear b9
      go_wp2_with fail
      go_ret
      exact ⟨rfl, unhide B9⟩
    | true =>
      obtain ⟨cs, hx⟩ := tx_of_valid hv
      have hfew : cs.length ≤ 2048 := by have := hx.cps.len; rw [← hx.size] at this; omega
      have HX := hide hx
      have KR := hide (rnew_any s w2 (by omega))
      clear hv hx
      go_wp2_with fail
      refine Calls.mono (unhide KR) ?_
      rintro r w3 ⟨h3, b3⟩
      have B3 := hide ((unhide B2).trans (b3.mono (unhide B2).size))
      clear b3 KR
      rcases h3 with ⟨hv, rfl⟩ | ⟨cs2, g2, vr2, hx2, rfl, hi2⟩
      · exfalso
        have h9 := (unhide HX).valid
        rw [hv] at h9
        cases h9
      · obtain rfl : cs = cs2 := (unhide HX).inj hx2
        have HJ3 := hide hi2
        have KI := hide (index_any s cs w3 (unhide HU _ (unhide B3)) (by omega) (unhide HX))
        clear hx2 hi2
        go_wp2_with fail
        refine Calls.mono (unhide KI) ?_
        rintro r w4 ⟨g, vr, vs, rfl, hi, b4⟩
        have HJ := hide ((unhide HJ3).call b4)
        have HI := hide hi
        have B4 := hide ((unhide B3).trans (b4.mono (unhide B3).size))
        clear b4 hi KI HJ3
        have KF := hide (move_ok (unhide HI) (unhide HX).cps i1 i2 i3 y2 x2 (unhide HU _ (unhide B4)) (by omega))
        go_wp2_with fail
        refine Calls.mono (unhide KF) ?_
        rintro r w5 ⟨h5, b5⟩
        have KX := hide (rmove_ok ((unhide HJ).call b5) (unhide HX).cps i1 i2 i3 y1 x1 y2 x2 y3 x3 (by omega))
        have B5 := hide ((unhide B4).trans (b5.mono (unhide B4).size))
        have C5 := hide b5
        clear KF b5
        rcases h5 with ⟨hm, rfl⟩ | ⟨hm, v, l, rfl, ho, nf, ea⟩
        · have HM := hide hm
          clear hm
          go_wp2_with fail
          refine Calls.mono (unhide KX) ?_
          rintro r w6 ⟨h6, b6⟩
          have B6 := hide ((unhide B5).trans (b6.mono (unhide B5).size))
          clear b6 KX
          rcases h6 with ⟨-, rfl⟩ | ⟨hm, _⟩
          · clear HM
            have KE := hide (rsame_true none none [] 0 0 0 w6 (.inl rfl) (.inl rfl) rfl (by decide))
            go_wp2_with fail
            refine Calls.mono (unhide KE) ?_
            rintro r w7 ⟨rfl, b7⟩
            have B7 := hide ((unhide B6).trans (b7.mono (unhide B6).size))
            clear b7 KE
            have KA := hide (awake_any w7 (unhide HU _ (unhide B7)))
            go_wp2_with fail
            refine Calls.mono (unhide KA) ?_
            rintro r w9 ⟨rfl, b9⟩
            have B9 := hide ((unhide B7).trans (b9.mono (unhide B7).size))
            clear b9
            go_wp2_with fail
            go_ret
            exact ⟨rfl, unhide B9⟩
          · exfalso
            rw [unhide HM] at hm
            cases hm
        have hmb := movB_has hm
        have hed : IsEd l cs.length cs.length := mv_isEd nf ea hm (by omega)
        obtain ⟨a1, c1, rfl, he⟩ := ed_own ho hed (by omega)
        have hcap := he.cap
        have hmx := he.max
        have HL := hide (And.intro nf (And.intro ea (And.intro hed hm)))
        obtain ⟨m, hm2⟩ : ∃ z, l.length = z := ⟨_, rfl⟩
        have HMM := hide hm2
        have HE5 := hide he
        rw [hm2] at hcap ⊢
        clear hmb hed ho he nf ea hm hm2
        go_wp2_with fail
        refine Calls.mono (unhide KX) ?_
        rintro r w6 ⟨h6, b6⟩
        have B6 := hide ((unhide B5).trans (b6.mono (unhide B5).size))
        have HE6 := hide ((unhide HE5).call b6)
        clear b6 KX HE5
        rcases h6 with ⟨hm, _⟩ | ⟨_, v2, l2, rfl, ho2, nf2, ea2⟩
        · exfalso
          rw [(unhide HL).2.2.2] at hm
          cases hm
        obtain rfl : l = l2 := nf_unique _ _ _ _ (unhide HL).1 nf2 ((unhide HL).2.1.trans ea2.symm)
        obtain ⟨a2, c2, rfl, he2⟩ := ed_own ho2 (unhide HL).2.2.1 (by omega)
        have KE := hide (rsame_true a1 a2 l c1 c2 m w6 (unhide HE6).pts he2.pts (unhide HMM) (by omega))
        rw [unhide HMM]
        clear ho2 nf2 ea2 he2
        go_wp2_with fail
        refine Calls.mono (unhide KE) ?_
        rintro r w7 ⟨rfl, b7⟩
        have B7 := hide ((unhide B6).trans (b7.mono (unhide B6).size))
        clear b7 KE
        have KA := hide (awake_any w7 (unhide HU _ (unhide B7)))
        go_wp2_with fail
        refine Calls.mono (unhide KA) ?_
        rintro r w9 ⟨rfl, b9⟩
        have B9 := hide ((unhide B7).trans (b9.mono (unhide B7).size))
        clear b9
        go_wp2_with fail
        go_ret
        exact ⟨rfl, unhide B9⟩
end Go.Proofs.YtdnbhomjfgpcfaaDoor
