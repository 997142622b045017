/- DiffEither. -/
import Derived.Test.YtonabfpgdgnpnaaDoorDNm
import Derived.Test.YtonabfpgdgnpnaaDoorDB
namespace Go.Proofs.YtonabfpgdgnpnaaDoor
set_option linter.unusedVariables false
set_option linter.unusedSimpArgs false
open Go.ChangeShapes Go.WideShapes Go.ChangeAt Go.RowKit Go.Joins Go.Deep

theorem meetN_le : ∀ X Y : List Cut2, meetN X Y ≤ X.length * Y.length
  | [], Y => by rw [meetN_nil]; omega
  | x :: X, Y => by
    rw [meetN_cons, List.length_cons, Nat.succ_mul]
    have h1 := meetN_le X Y
    have h2 : Y.countP (mtB x) ≤ Y.length := List.countP_le_length
    omega
theorem first_swap3 {a b c : ByteArray} (h : firstE [a, b, c] ≠ 0) : firstE [a, c, b] ≠ 0 := by
  intro h2
  apply h
  have h3 := first_ok h2
  have e1 := h3 a (by simp)
  have e2 := h3 b (by simp)
  have e3 := h3 c (by simp)
  simp [firstE, e1, e2, e3]
set_option maxRecDepth 100000 in
set_option maxHeartbeats 4000000 in
theorem either_law (a b c : ByteArray) (w : World) (hT : UT w) (h0a : a.size ≤ 140737488351232) (h0b : b.size ≤ 140737488351232) (h0c : c.size ≤ 140737488351232) : Calls Tryd.prog 9 #[.string a, .string b, .string c] w fun r w' => r = .returned (.bool true) ∧ Below w.heap.size w w' := by
  have HU : Hid (∀ W, Below w.heap.size w W → UT W) := hide (fun W h => hT.call h)
  have bP : Below w.heap.size w (w.alloc (.cells #[.string a, .string b, .string c] 9)) := (Below.refl _ _).alloc (Nat.le_refl _) _
  have KS := hide (long_any w.heap.size (.slice (some ⟨w.heap.size, 0, none⟩) 3 3) [a, b, c] (w.alloc (.cells #[.string a, .string b, .string c] 9)) (own_row (RowAt.new w 9 [.string a, .string b, .string c]) (Nat.le_refl _) (by show 3 ≤ maxLen; unfold maxLen; omega)) (by simp))
  have B1 := hide bP
  obtain ⟨w1, hw1⟩ : ∃ z, w.alloc (.cells #[.string a, .string b, .string c] 9) = z := ⟨_, rfl⟩
  have HW1 := hide hw1
  rw [hw1] at KS B1
  clear hT bP hw1
  go_enter Tryd.func9, Tryd.ntmps9
  go_wp2_with fail
  try rw [unhide HW1]
  clear HW1
  refine Calls.mono (unhide KS) ?_
  rintro r w2 ⟨rfl, rfl⟩
  cases hlb : longB [a, b, c] with
  | true =>
    have KA := hide (awake_any w1 (unhide HU _ (unhide B1)))
    go_wp2_with fail
    refine Calls.mono (unhide KA) ?_
    rintro r w99 ⟨rfl, b99⟩
    have B99 := hide ((unhide B1).trans (b99.mono (unhide B1).size))
    clear b99
    go_wp2_with fail
    go_ret
    exact ⟨by first | rfl | (simp; done), unhide B99⟩
  | false =>
    have hszs : a.size ≤ 200 ∧ b.size ≤ 200 ∧ c.size ≤ 200 := by simpa [longB] using hlb
    clear hlb
    have K1 := hide (meet_any a b c w1 (unhide HU _ (unhide B1)) (by omega) (by omega) (by omega))
    go_wp2_with fail
    refine Calls.mono (unhide K1) ?_
    rintro r w3 ⟨h3, b3⟩
    have B3 := hide ((unhide B1).trans (b3.mono (unhide B1).size))
    have K2 := hide (meet_any a c b w3 (unhide HU _ (unhide B3)) (by omega) (by omega) (by omega))
    clear b3 K1
    rcases h3 with ⟨hf, rfl⟩ | ⟨hf, x, y, z, l, m, hx, hy, hz, hxl, hyl, hzl, nl, el, nm, em, rfl⟩
    · have HF2 := hide (first_swap3 hf)
      obtain ⟨e, he⟩ : ∃ z, firstE [a, b, c] = z := ⟨_, rfl⟩
      have hne : ¬ e = 0 := by rw [← he]; exact hf
      have hne2 : (e == 0) = false := by simp [hne]
      have hne3 : (e != 0) = true := by simp [hne]
      rw [he]
      clear hf he
      go_wp2_with fail
      refine Calls.mono (unhide K2) ?_
      rintro r w4 ⟨h4, b4⟩
      have B4 := hide ((unhide B3).trans (b4.mono (unhide B3).size))
      clear b4 K2
      rcases h4 with ⟨h9, rfl⟩ | ⟨h9, _⟩
      rotate_left
      · exact absurd h9 (unhide HF2)
      obtain ⟨e2, he2⟩ : ∃ z, firstE [a, c, b] = z := ⟨_, rfl⟩
      rw [he2] at h9 ⊢
      have hne4 : (e2 == 0) = false := by simp [h9]
      clear he2 h9
      have KA := hide (awake_any w4 (unhide HU _ (unhide B4)))
      go_wp2_with fail
      refine Calls.mono (unhide KA) ?_
      rintro r w99 ⟨rfl, b99⟩
      have B99 := hide ((unhide B4).trans (b99.mono (unhide B4).size))
      clear b99
      go_wp2_with fail
      go_ret
      exact ⟨by first | rfl | (simp; done), unhide B99⟩
    have HX := hide (And.intro hx (And.intro hy (And.intro hz (And.intro hxl (And.intro hyl (And.intro hzl hf))))))
    have HLM := hide (And.intro nl (And.intro el (And.intro nm em)))
    have hrb : meetN (sgL l).1 (sgL m).1 ≤ 4194304 := Nat.le_trans (meetN_le _ _) (by have h8 := lead_few nl el hxl hyl; have h9 := lead_few nm em hxl hzl; have := Nat.mul_le_mul h8 h9; omega)
    obtain ⟨q, hq⟩ : ∃ u, meetN (sgL l).1 (sgL m).1 = u := ⟨_, rfl⟩
    have HQ := hide hq
    rw [hq] at hrb ⊢
    clear hf hx hy hz hxl hyl hzl nl el nm em hq
    go_wp2_with fail
    refine Calls.mono (unhide K2) ?_
    rintro r w4 ⟨h4, b4⟩
    have B4 := hide ((unhide B3).trans (b4.mono (unhide B3).size))
    have K3 := hide (merge_any a b c w4 (unhide HU _ (unhide B4)) (by omega) (by omega) (by omega))
    clear b4 K2
    rcases h4 with ⟨h9, _⟩ | ⟨_, x2, z2, y2, m2, l2, hx2, hz2, hy2, _, _, _, nm2, em2, nl2, el2, rfl⟩
    · exact absurd (unhide HX).2.2.2.2.2.2 (first_swap3 h9)
    obtain rfl := (unhide HX).1.inj hx2
    obtain rfl := (unhide HX).2.1.inj hy2
    obtain rfl := (unhide HX).2.2.1.inj hz2
    obtain rfl : l = l2 := nf_unique _ _ _ _ (unhide HLM).1 nl2 ((unhide HLM).2.1.trans el2.symm)
    obtain rfl : m = m2 := nf_unique _ _ _ _ (unhide HLM).2.2.1 nm2 ((unhide HLM).2.2.2.trans em2.symm)
    rw [meetN_comm, unhide HQ]
    clear hx2 hy2 hz2 nm2 em2 nl2 el2
    go_wp2_with fail
    refine Calls.mono (unhide K3) ?_
    rintro r w5 ⟨h5, b5⟩
    have B5 := hide ((unhide B4).trans (b5.mono (unhide B4).size))
    have K4 := hide (merge_any a c b w5 (unhide HU _ (unhide B5)) (by omega) (by omega) (by omega))
    clear b5 K3
    rcases h5 with ⟨h9, _⟩ | ⟨_, x2, y2, z2, S, hx2, hy2, hz2, _, _, _, rfl, hS⟩
    · exact absurd (unhide HX).2.2.2.2.2.2 h9
    obtain rfl := (unhide HX).1.inj hx2
    obtain rfl := (unhide HX).2.1.inj hy2
    obtain rfl := (unhide HX).2.2.1.inj hz2
    have HS := hide hS
    clear hx2 hy2 hz2 hS
    go_wp2_with fail
    refine Calls.mono (unhide K4) ?_
    rintro r w6 ⟨h6, b6⟩
    have B6 := hide ((unhide B5).trans (b6.mono (unhide B5).size))
    clear b6 K4
    rcases h6 with ⟨h9, _⟩ | ⟨_, x2, z2, y2, S2, hx2, hz2, hy2, _, _, _, rfl, hS2⟩
    · exact absurd (unhide HX).2.2.2.2.2.2 (first_swap3 h9)
    obtain rfl := (unhide HX).1.inj hx2
    obtain rfl := (unhide HX).2.1.inj hy2
    obtain rfl := (unhide HX).2.2.1.inj hz2
    have HS2 := hide hS2
    clear hx2 hy2 hz2 hS2
    by_cases hq0 : q = 0
    · have hSS : S = S2 := by
        obtain ⟨dl, _⟩ := lead_ed (unhide HLM).1 (unhide HLM).2.1 (unhide HX).2.2.2.1 (unhide HX).2.2.2.2.1
        obtain ⟨dm, _⟩ := lead_ed (unhide HLM).2.2.1 (unhide HLM).2.2.2 (unhide HX).2.2.2.1 (unhide HX).2.2.2.2.2.1
        have h8 := no_meet dl dm ((unhide HQ).trans hq0)
        have ey : At.app (atomsL l) x = y := by rw [(unhide HLM).2.1, At.app_can]; exact (lead_is x y).app
        have ez : At.app (atomsL m) x = z := by rw [(unhide HLM).2.2.2, At.app_can]; exact (lead_is x z).app
        rw [ey, ez] at h8
        have s1 := unhide HS
        have s2 := unhide HS2
        rw [← (unhide HLM).2.1, ← (unhide HLM).2.2.2, At.app_can] at s1 s2
        rw [← h8] at s2
        exact s1.same s2
      subst hSS hq0
      have KA := hide (awake_any w6 (unhide HU _ (unhide B6)))
      go_wp2_with fail
      refine Calls.mono (unhide KA) ?_
      rintro r w99 ⟨rfl, b99⟩
      have B99 := hide ((unhide B6).trans (b99.mono (unhide B6).size))
      clear b99
      go_wp2_with fail
      go_ret
      exact ⟨by first | rfl | (simp; done), unhide B99⟩
    · have hqI : (0 : Int) < (q : Int) := by omega
      have KA := hide (awake_any w6 (unhide HU _ (unhide B6)))
      go_wp2_with fail
      refine Calls.mono (unhide KA) ?_
      rintro r w99 ⟨rfl, b99⟩
      have B99 := hide ((unhide B6).trans (b99.mono (unhide B6).size))
      clear b99
      go_wp2_with fail
      go_ret
      exact ⟨by first | rfl | (simp; done), unhide B99⟩
end Go.Proofs.YtonabfpgdgnpnaaDoor
