/- DiffDiffs. -/
import Derived.Test.YtonabfpgdgnpnaaDoorDDi
namespace Go.Proofs.YtonabfpgdgnpnaaDoor
set_option linter.unusedVariables false
set_option linter.unusedSimpArgs false
open Go.ChangeShapes Go.WideShapes Go.ChangeAt Go.RowKit Go.Joins Go.Deep

set_option maxRecDepth 100000 in
set_option maxHeartbeats 4000000 in
theorem diffs_law (a b : ByteArray) (w : World) (hT : UT w) (h0a : a.size ≤ 140737488351232) (h0b : b.size ≤ 140737488351232) : Calls Tryd.prog 3 #[.string a, .string b] w fun r w' => r = .returned (.bool true) ∧ Below w.heap.size w w' := by
  have HU : Hid (∀ W, Below w.heap.size w W → UT W) := hide (fun W h => hT.call h)
  have bP : Below w.heap.size w (w.alloc (.cells #[.string a, .string b] 9)) := (Below.refl _ _).alloc (Nat.le_refl _) _
  have KS := hide (long_any w.heap.size (.slice (some ⟨w.heap.size, 0, none⟩) 2 2) [a, b] (w.alloc (.cells #[.string a, .string b] 9)) (own_row (RowAt.new w 9 [.string a, .string b]) (Nat.le_refl _) (by show 2 ≤ maxLen; unfold maxLen; omega)) (by simp))
  have B1 := hide bP
  obtain ⟨w1, hw1⟩ : ∃ z, w.alloc (.cells #[.string a, .string b] 9) = z := ⟨_, rfl⟩
  have HW1 := hide hw1
  rw [hw1] at KS B1
  clear hT bP hw1
  go_enter Tryd.func3, Tryd.ntmps3
  go_wp2_with fail
  try rw [unhide HW1]
  clear HW1
  refine Calls.mono (unhide KS) ?_
  rintro r w2 ⟨rfl, rfl⟩
  cases hlb : longB [a, b] with
  | true =>
    have KA := hide (awake_any w1 (unhide HU _ (unhide B1)))
    go_wp2_with fail
    refine Calls.mono (unhide KA) ?_
    rintro r w99 ⟨rfl, b99⟩
    have B99 := hide ((unhide B1).trans (b99.mono (unhide B1).size))
    clear b99
    go_wp2_with fail
    go_ret
    exact ⟨by first | rfl | (simp; done), unhide B99⟩
  | false =>
    have hszs : a.size ≤ 200 ∧ b.size ≤ 200 := by simpa [longB] using hlb
    clear hlb
    have K1 := hide (diff_any a b w1 (unhide HU _ (unhide B1)) (by omega) (by omega))
    go_wp2_with fail
    refine Calls.mono (unhide K1) ?_
    rintro r w3 ⟨h3, b3⟩
    have B3 := hide ((unhide B1).trans (b3.mono (unhide B1).size))
    have K2 := hide (rdiff_any a b w3 (by omega) (by omega))
    clear b3 K1
    rcases h3 with ⟨hf, rfl⟩ | ⟨hf, x, y, v, l, hx, hy, hxl, hyl, rfl, ho, nf, at_⟩
    · have HF := hide hf
      obtain ⟨e, he⟩ : ∃ z, firstE [a, b] = z := ⟨_, rfl⟩
      have HE := hide he
      rw [he]
      clear hf he
      go_wp2_with fail
      refine Calls.mono (unhide K2) ?_
      rintro r w4 ⟨h4, b4⟩
      have B4 := hide ((unhide B3).trans (b4.mono (unhide B3).size))
      clear b4 K2
      rcases h4 with ⟨_, rfl⟩ | ⟨h9, _⟩
      rotate_left
      · exact absurd h9 (unhide HF)
      rw [unhide HE]
      have KE := hide (rsame_true none none [] 0 0 0 w4 (.inl rfl) (.inl rfl) rfl (by decide))
      go_wp2_with fail
      refine Calls.mono (unhide KE) ?_
      rintro r w5 ⟨rfl, b5⟩
      have B5 := hide ((unhide B4).trans (b5.mono (unhide B4).size))
      clear b5 KE
      have KA := hide (awake_any w5 (unhide HU _ (unhide B5)))
      go_wp2_with fail
      refine Calls.mono (unhide KA) ?_
      rintro r w99 ⟨rfl, b99⟩
      have B99 := hide ((unhide B5).trans (b99.mono (unhide B5).size))
      clear b99
      go_wp2_with fail
      go_ret
      exact ⟨by first | rfl | (simp; done), unhide B99⟩
    obtain ⟨d1, k1⟩ := lead_ed nf at_ hxl hyl
    have HX := hide (And.intro hx (And.intro hy (And.intro hf (And.intro nf (And.intro at_ k1)))))
    obtain ⟨a1, c1, e, hp1, hc1, hm1⟩ := ho.slice
    subst e
    have HP := hide hp1
    obtain ⟨k, hk⟩ : ∃ z, l.length = z := ⟨_, rfl⟩
    have HK := hide hk
    rw [hk]
    clear hf hx hy hxl hyl ho nf at_ d1 k1 hp1 hc1 hm1 hk
    go_wp2_with fail
    refine Calls.mono (unhide K2) ?_
    rintro r w4 ⟨h4, b4⟩
    have HP4 := hide ((unhide HP).call b4)
    have B4 := hide ((unhide B3).trans (b4.mono (unhide B3).size))
    clear b4 K2 HP
    rcases h4 with ⟨h9, _⟩ | ⟨_, x2, y2, v2, l2, hx2, hy2, _, _, rfl, ho2, nf2, at2⟩
    · exact absurd (unhide HX).2.2.1 h9
    obtain rfl := (unhide HX).1.inj hx2
    obtain rfl := (unhide HX).2.1.inj hy2
    obtain rfl : l = l2 := nf_unique _ _ _ _ (unhide HX).2.2.2.1 nf2 ((unhide HX).2.2.2.2.1.trans at2.symm)
    obtain ⟨a2, c2, e, hp2, hc2, hm2⟩ := ho2.slice
    subst e
    have KE := hide (rsame_true a1 a2 l c1 c2 k w4 (unhide HP4) hp2 (unhide HK) (by have := (unhide HX).2.2.2.2.2; have := unhide HK; unfold maxLen; omega))
    rw [unhide HK]
    clear hx2 hy2 ho2 nf2 at2 hp2 hc2 hm2
    go_wp2_with fail
    refine Calls.mono (unhide KE) ?_
    rintro r w5 ⟨rfl, b5⟩
    have B5 := hide ((unhide B4).trans (b5.mono (unhide B4).size))
    clear b5 KE
    have KA := hide (awake_any w5 (unhide HU _ (unhide B5)))
    go_wp2_with fail
    refine Calls.mono (unhide KA) ?_
    rintro r w99 ⟨rfl, b99⟩
    have B99 := hide ((unhide B5).trans (b99.mono (unhide B5).size))
    clear b99
    go_wp2_with fail
    go_ret
    exact ⟨by first | rfl | (simp; done), unhide B99⟩
end Go.Proofs.YtonabfpgdgnpnaaDoor
