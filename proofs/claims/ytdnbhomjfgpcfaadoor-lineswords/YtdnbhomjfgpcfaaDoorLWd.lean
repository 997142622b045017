/- LinesWords. -/
import Derived.Test.YtdnbhomjfgpcfaaDoorLB
import Derived.Test.YtdnbhomjfgpcfaaDoorLA
import Derived.Test.YtdnbhomjfgpcfaaDoorLWc
namespace Go.Proofs.YtdnbhomjfgpcfaaDoor
set_option linter.unusedVariables false
set_option linter.unusedSimpArgs false
open Go.ChangeShapes Go.WideShapes Go.ChangeAt Go.RowKit Go.Joins Go.Deep

theorem word_shape (cs : List (List UInt8)) (i : Int) : ∃ (a b e : Int), wordE cs i = .tuple #[.int .i64 a, .int .i64 b, .int .i64 e] := by
  unfold wordE
  split
  · exact ⟨_, _, _, rfl⟩
  · exact ⟨_, _, _, rfl⟩
set_option maxRecDepth 100000 in
set_option maxHeartbeats 4000000 in
theorem words_law (s : ByteArray) (p : Int) (w : World) (hT : UT w) (y1 : -9223372036854775808 ≤ p) (x1 : p ≤ 9223372036854775807) (hs0 : s.size ≤ 140737488351232) : Calls Tryd.prog 4 #[.string s, .int .i64 p] w fun r w' => r = .returned (.bool true) ∧ Below w.heap.size w w' := by
  have HU : Hid (∀ W, Below w.heap.size w W → UT W) := hide (fun W h => hT.call h)
  have bP : Below w.heap.size w (w.alloc (.cells #[.string s] 9)) := (Below.refl _ _).alloc (Nat.le_refl _) _
  have KS := hide (long_any w.heap.size (.slice (some ⟨w.heap.size, 0, none⟩) 1 1) [s] (w.alloc (.cells #[.string s] 9)) (own_row (RowAt.new w 9 [.string s]) (Nat.le_refl _) (by show 1 ≤ maxLen; unfold maxLen; omega)) (by simp))
  have B1 := hide bP
  clear hT bP
  obtain ⟨w1, hw1⟩ : ∃ z, w.alloc (.cells #[.string s] 9) = z := ⟨_, rfl⟩
  have HW1 := hide hw1
  rw [hw1] at KS B1
  clear hw1
  have KV := hide (valid_any s w1 (unhide HU _ (unhide B1)) (by omega))
  go_enter Tryd.func4, Tryd.ntmps4
  go_wp2_with fail
  try rw [unhide HW1]
  clear HW1
  refine Calls.mono (unhide KS) ?_
  rintro r w2 ⟨rfl, rfl⟩
  cases hlb : longB [s] with
  | true =>
    have KA := hide (awake_any w1 (unhide HU _ (unhide B1)))
    go_wp2_with fail
    refine Calls.mono (unhide KA) ?_
    rintro r w9 ⟨rfl, b9⟩
    have B9 := hide ((unhide B1).trans (b9.mono (unhide B1).size))
    clear b9
    go_wp2_with fail
    go_ret
    exact ⟨rfl, unhide B9⟩
  | false =>
    have hszs : s.size ≤ 2048 := by simpa [longB] using hlb
    have hsz : s.size ≤ 2048 := hszs
    clear hlb
    go_wp2_with fail
    refine Calls.mono (unhide KV) ?_
    rintro r w2 ⟨rfl, b2⟩
    have B2 := hide ((unhide B1).trans (b2.mono (unhide B1).size))
    clear b2
    cases hv : Lib.validD s.data.toList with
    | false =>
      have KA := hide (awake_any w2 (unhide HU _ (unhide B2)))
      go_wp2_with fail
      refine Calls.mono (unhide KA) ?_
      rintro r w9 ⟨rfl, b9⟩
      have B9 := hide ((unhide B2).trans (b9.mono (unhide B2).size))
      clear b9
      go_wp2_with fail
      go_ret
      exact ⟨rfl, unhide B9⟩
    | true =>
      obtain ⟨cs, hx⟩ := tx_of_valid hv
      have hfew : cs.length ≤ 2048 := by have := hx.cps.len; rw [← hx.size] at this; omega
      have HX := hide hx
      have KR := hide (rnew_any s w2 (by omega))
      clear hv hx
      go_wp2_with fail
      refine Calls.mono (unhide KR) ?_
      rintro r w3 ⟨h3, b3⟩
      have B3 := hide ((unhide B2).trans (b3.mono (unhide B2).size))
      clear b3 KR
      rcases h3 with ⟨hv, rfl⟩ | ⟨cs2, g2, vr2, hx2, rfl, hi2⟩
      · exfalso
        have h9 := (unhide HX).valid
        rw [hv] at h9
        cases h9
      · obtain rfl : cs = cs2 := (unhide HX).inj hx2
        have HJ3 := hide hi2
        have KI := hide (index_any s cs w3 (unhide HU _ (unhide B3)) (by omega) (unhide HX))
        clear hx2 hi2
        go_wp2_with fail
        refine Calls.mono (unhide KI) ?_
        rintro r w4 ⟨g, vr, vs, rfl, hi, b4⟩
        have HJ := hide ((unhide HJ3).call b4)
        have HI := hide hi
        have B4 := hide ((unhide B3).trans (b4.mono (unhide B3).size))
        clear b4 hi KI HJ3
        obtain ⟨b, c, e, z⟩ := word_shape cs p
        have KW := hide (word_ok (unhide HI) p (by omega))
        rw [z] at KW
        have HZ := hide z
        clear z
        go_wp2_with fail
        refine Calls.mono (unhide KW) ?_
        rintro r w5 ⟨rfl, b5⟩
        have KX := hide (rword_ok ((unhide HJ).call b5) p (by omega))
        rw [unhide HZ] at KX
        have B5 := hide ((unhide B4).trans (b5.mono (unhide B4).size))
        clear b5 KW
        go_wp2_with fail
        refine Calls.mono (unhide KX) ?_
        rintro r w6 ⟨rfl, b6⟩
        have B6 := hide ((unhide B5).trans (b6.mono (unhide B5).size))
        clear b6 KX
        have KA := hide (awake_any w6 (unhide HU _ (unhide B6)))
        go_wp2_with fail
        refine Calls.mono (unhide KA) ?_
        rintro r w9 ⟨rfl, b9⟩
        have B9 := hide ((unhide B6).trans (b9.mono (unhide B6).size))
        clear b9
        go_wp2_with fail
        go_ret
        exact ⟨rfl, unhide B9⟩
end Go.Proofs.YtdnbhomjfgpcfaaDoor
