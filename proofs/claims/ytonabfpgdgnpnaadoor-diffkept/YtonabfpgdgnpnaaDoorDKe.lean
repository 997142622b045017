/- The document's Kept; DiffKept. -/
import Derived.Test.YtonabfpgdgnpnaaDoorDRw
import Derived.Test.YtonabfpgdgnpnaaDoorDSh
import Derived.Test.YtonabfpgdgnpnaaDoorDB
import Derived.Test.YtonabfpgdgnpnaaDoorWgt
import Derived.Test.YtonabfpgdgnpnaaDoorChk
namespace Go.Proofs.YtonabfpgdgnpnaaDoor
set_option linter.unusedVariables false
set_option linter.unusedSimpArgs false
open Go.ChangeShapes Go.WideShapes Go.ChangeAt Go.RowKit Go.Joins Go.Deep

theorem first_swap {a b : ByteArray} (h : firstE [a, b] ≠ 0) : firstE [b, a] ≠ 0 := by
  intro h2
  apply h
  have h3 := first_ok h2
  have e1 := h3 a (by simp)
  have e2 := h3 b (by simp)
  simp [firstE, e1, e2]
theorem lead_drops (x y : List CP) : (x.length : Int) - (At.dropsN (At.can (leadA x y)) : Int) = (lcs x y : Int) := by
  have h := (lead_is x y).drops
  have h2 := (lcs_le _ x y (Nat.le_refl _)).1
  rw [← At.dropsN_sw (At.can_sw _)]
  omega
set_option maxRecDepth 100000 in
set_option maxHeartbeats 4000000 in
theorem rkept_any (a b : ByteArray) (w : World) (hsa : a.size ≤ 1099511627776) (hsb : b.size ≤ 1099511627776) : Calls Tryd.prog 17 #[.string a, .string b] w fun r w' => KeptR a b w r w' := by
  have bP : Below w.heap.size w (w.alloc (.cells #[.string a, .string b] 9)) := (Below.refl _ _).alloc (Nat.le_refl _) _
  have KR := hide (rall_any w.heap.size (.slice (some ⟨w.heap.size, 0, none⟩) 2 2) [a, b] (w.alloc (.cells #[.string a, .string b] 9)) (own_row (RowAt.new w 9 [.string a, .string b]) (Nat.le_refl _) (by show 2 ≤ maxLen; unfold maxLen; omega)) (by simp) (by simp only [List.mem_cons, List.not_mem_nil, or_false]; rintro s (rfl | rfl) <;> assumption))
  have B1 := hide bP
  obtain ⟨w1, hw1⟩ : ∃ z, w.alloc (.cells #[.string a, .string b] 9) = z := ⟨_, rfl⟩
  have HW1 := hide hw1
  rw [hw1] at KR B1
  clear bP hw1
  obtain ⟨e, he⟩ : ∃ z, firstE [a, b] = z := ⟨_, rfl⟩
  have HE := hide he
  rw [he] at KR
  clear he
  go_enter Tryd.func17, Tryd.ntmps17
  go_wp2_with fail
  try rw [unhide HW1]
  clear HW1
  refine Calls.mono (unhide KR) ?_
  rintro r w2 ⟨rfl, b2⟩
  have B2 := hide ((unhide B1).trans (b2.mono (unhide B1).size))
  clear b2 KR
  by_cases hf : e = 0
  rotate_left
  · have he0 : (e != 0) = true := by simp [hf]
    have HF := hide hf
    clear hf
    go_wp2_with fail
    go_ret2
    exact ⟨.inl ⟨by rw [unhide HE]; exact unhide HF, by rw [unhide HE]; rfl⟩, unhide B2⟩
  subst hf
  obtain ⟨x, hx, hxl⟩ := chk_ok (first_ok (unhide HE) a (by simp))
  obtain ⟨y, hy, hyl⟩ := chk_ok (first_ok (unhide HE) b (by simp))
  have HX := hide (And.intro hx (And.intro hy (And.intro hxl hyl)))
  have K2 := hide (rchars_any a w2 hsa)
  clear hx hy hxl hyl
  go_wp2_with fail
  refine Calls.mono (unhide K2) ?_
  rintro r w3 h3
  obtain ⟨va, n1, l1, rfl, ho1, hl1, _, b3⟩ := h3
  obtain ⟨e1, e2⟩ := hl1 x (unhide HX).1
  subst e1 e2
  have HO1 := hide ho1
  have B3 := hide ((unhide B2).trans (b3.mono (unhide B2).size))
  have K3 := hide (rchars_any b w3 hsb)
  clear ho1 hl1 b3 K2
  go_wp2_with fail
  refine Calls.mono (unhide K3) ?_
  rintro r w4 h4
  obtain ⟨vb, n2, l2, rfl, ho2, hl2, _, b4⟩ := h4
  obtain ⟨e1, e2⟩ := hl2 y (unhide HX).2.1
  subst e1 e2
  have B4 := hide ((unhide B3).trans (b4.mono (unhide B3).size))
  have HO2 := hide ho2
  have HO1 := hide (own_call (unhide HO1) b4)
  have K4 := hide (rrows_any _ _ va vb x y w4 (unhide HX).1.cps (unhide HX).2.1.cps (unhide HO1) ho2 (unhide HX).2.2.1 (unhide HX).2.2.2)
  clear ho2 hl2 b4 K3
  go_wp2_with fail
  refine Calls.mono (unhide K4) ?_
  rintro r w5 h5
  obtain ⟨v, vs, X, rfl, hRR, hTX, b5⟩ := h5
  have B5 := hide ((unhide B4).trans (b5.mono (unhide B4).size))
  have hX0 := hTX.2 0 (by omega)
  obtain ⟨u, hu, hul⟩ := hRR.at_ hX0
  obtain ⟨gv, cv, e, hcv, hnX, _, _⟩ := own_rd hRR.own hu
  subst e
  obtain ⟨gl, cl, e, hcl, hnl, _, _⟩ := own_rd hul (nsv_get (lrow_at (Nat.zero_le _)))
  subst e
  rw [Nat.zero_add, List.drop_zero, List.drop_zero] at hcl
  obtain ⟨nX, hnX'⟩ : ∃ z, X.length = z := ⟨_, rfl⟩
  rw [hnX'] at hnX ⊢
  obtain ⟨m1, hm1⟩ : ∃ z, (lrow x y (0 + 0)).length = z := ⟨_, rfl⟩
  rw [hm1] at hnl hcv
  have n0 : (0 : Int) < (nX : Int) := by omega
  have m0 : (0 : Int) < (m1 : Int) := by omega
  obtain ⟨q, hq⟩ : ∃ z, lcs x y = z := ⟨_, rfl⟩
  have HQ := hide hq
  rw [hq] at hcl
  clear hRR hTX b5 hX0 hu hul hnX' hm1 hq K4 hnX hnl HO1 HO2
  go_wp2_with fail
  go_ret2
  exact ⟨.inr ⟨unhide HE, x, y, (unhide HX).1, (unhide HX).2.1, (unhide HX).2.2.1, (unhide HX).2.2.2, by rw [unhide HQ]; rfl⟩, unhide B5⟩
set_option maxRecDepth 100000 in
set_option maxHeartbeats 4000000 in
theorem kept_law (a b : ByteArray) (w : World) (hT : UT w) (h0a : a.size ≤ 140737488351232) (h0b : b.size ≤ 140737488351232) : Calls Tryd.prog 4 #[.string a, .string b] w fun r w' => r = .returned (.bool true) ∧ Below w.heap.size w w' := by
  have HU : Hid (∀ W, Below w.heap.size w W → UT W) := hide (fun W h => hT.call h)
  have bP : Below w.heap.size w (w.alloc (.cells #[.string a, .string b] 9)) := (Below.refl _ _).alloc (Nat.le_refl _) _
  have KS := hide (long_any w.heap.size (.slice (some ⟨w.heap.size, 0, none⟩) 2 2) [a, b] (w.alloc (.cells #[.string a, .string b] 9)) (own_row (RowAt.new w 9 [.string a, .string b]) (Nat.le_refl _) (by show 2 ≤ maxLen; unfold maxLen; omega)) (by simp))
  have B1 := hide bP
  obtain ⟨w1, hw1⟩ : ∃ z, w.alloc (.cells #[.string a, .string b] 9) = z := ⟨_, rfl⟩
  have HW1 := hide hw1
  rw [hw1] at KS B1
  clear hT bP hw1
  go_enter Tryd.func4, Tryd.ntmps4
  go_wp2_with fail
  try rw [unhide HW1]
  clear HW1
  refine Calls.mono (unhide KS) ?_
  rintro r w2 ⟨rfl, rfl⟩
  cases hlb : longB [a, b] with
  | true =>
    have KA := hide (awake_any w1 (unhide HU _ (unhide B1)))
    go_wp2_with fail
    refine Calls.mono (unhide KA) ?_
    rintro r w99 ⟨rfl, b99⟩
    have B99 := hide ((unhide B1).trans (b99.mono (unhide B1).size))
    clear b99
    go_wp2_with fail
    go_ret
    exact ⟨by first | rfl | (simp; done), unhide B99⟩
  | false =>
    have hszs : a.size ≤ 200 ∧ b.size ≤ 200 := by simpa [longB] using hlb
    clear hlb
    have K1 := hide (kept2_any a b w1 (unhide HU _ (unhide B1)) (by omega) (by omega))
    go_wp2_with fail
    refine Calls.mono (unhide K1) ?_
    rintro r w3 ⟨h3, b3⟩
    have B3 := hide ((unhide B1).trans (b3.mono (unhide B1).size))
    have K2 := hide (rkept_any a b w3 (by omega) (by omega))
    clear b3 K1
    rcases h3 with ⟨hf, rfl⟩ | ⟨hf, x, y, hx, hy, hxl, hyl, rfl⟩
    · have HF := hide hf
      have HF2 := hide (first_swap hf)
      obtain ⟨e, he⟩ : ∃ z, firstE [a, b] = z := ⟨_, rfl⟩
      have HE := hide he
      have hne : ¬ e = 0 := by rw [← he]; exact hf
      have hne2 : (e == 0) = false := by simp [hne]
      rw [he]
      clear hf he
      go_wp2_with fail
      refine Calls.mono (unhide K2) ?_
      rintro r w4 ⟨h4, b4⟩
      have B4 := hide ((unhide B3).trans (b4.mono (unhide B3).size))
      have K3 := hide (kept2_any b a w4 (unhide HU _ (unhide B4)) (by omega) (by omega))
      clear b4 K2
      rcases h4 with ⟨_, rfl⟩ | ⟨h9, _⟩
      rotate_left
      · exact absurd h9 (unhide HF)
      rw [unhide HE]
      go_wp2_with fail
      refine Calls.mono (unhide K3) ?_
      rintro r w5 ⟨h5, b5⟩
      have B5 := hide ((unhide B4).trans (b5.mono (unhide B4).size))
      clear b5 K3
      rcases h5 with ⟨h9, rfl⟩ | ⟨h9, _⟩
      rotate_left
      · exact absurd h9 (unhide HF2)
      obtain ⟨e2, he2⟩ : ∃ z, firstE [b, a] = z := ⟨_, rfl⟩
      rw [he2] at h9 ⊢
      have hne3 : (e2 == 0) = false := by simp [h9]
      clear he2 h9
      have KA := hide (awake_any w5 (unhide HU _ (unhide B5)))
      go_wp2_with fail
      refine Calls.mono (unhide KA) ?_
      rintro r w99 ⟨rfl, b99⟩
      have B99 := hide ((unhide B5).trans (b99.mono (unhide B5).size))
      clear b99
      go_wp2_with fail
      go_ret
      exact ⟨by first | rfl | (simp; done), unhide B99⟩
    have HX := hide (And.intro hx (And.intro hy (And.intro hxl (And.intro hyl hf))))
    obtain ⟨q, hq⟩ : ∃ z, lcs x y = z := ⟨_, rfl⟩
    have HQ := hide hq
    have hqb : q ≤ 1024 := by have h9 := lcs_small (y := y) hxl 0 0; rw [List.drop_zero, List.drop_zero] at h9; omega
    rw [hq]
    clear hf hx hy hxl hyl hq
    go_wp2_with fail
    refine Calls.mono (unhide K2) ?_
    rintro r w4 ⟨h4, b4⟩
    have B4 := hide ((unhide B3).trans (b4.mono (unhide B3).size))
    have K3 := hide (kept2_any b a w4 (unhide HU _ (unhide B4)) (by omega) (by omega))
    clear b4 K2
    rcases h4 with ⟨h9, _⟩ | ⟨_, x2, y2, hx2, hy2, _, _, rfl⟩
    · exact absurd (unhide HX).2.2.2.2 h9
    obtain rfl := (unhide HX).1.inj hx2
    obtain rfl := (unhide HX).2.1.inj hy2
    rw [unhide HQ]
    clear hx2 hy2
    go_wp2_with fail
    refine Calls.mono (unhide K3) ?_
    rintro r w5 ⟨h5, b5⟩
    have B5 := hide ((unhide B4).trans (b5.mono (unhide B4).size))
    have K4 := hide (diff_any a b w5 (unhide HU _ (unhide B5)) (by omega) (by omega))
    clear b5 K3
    rcases h5 with ⟨h9, _⟩ | ⟨_, y2, x2, hy2, hx2, _, _, rfl⟩
    · exact absurd (unhide HX).2.2.2.2 (first_swap h9)
    obtain rfl := (unhide HX).1.inj hx2
    obtain rfl := (unhide HX).2.1.inj hy2
    rw [lcs_symm _ y x (Nat.le_refl _), unhide HQ]
    clear hx2 hy2
    go_wp2_with fail
    refine Calls.mono (unhide K4) ?_
    rintro r w6 ⟨h6, b6⟩
    have B6 := hide ((unhide B5).trans (b6.mono (unhide B5).size))
    clear b6 K4
    rcases h6 with ⟨h9, _⟩ | ⟨_, x2, y2, v, l, hx2, hy2, hl1, hl2, rfl, ho, nf, at_⟩
    · exact absurd (unhide HX).2.2.2.2 h9
    obtain rfl := (unhide HX).1.inj hx2
    obtain rfl := (unhide HX).2.1.inj hy2
    obtain ⟨d1, k1⟩ := lead_ed nf at_ hl1 hl2
    obtain ⟨a1, c1, e, hp1, hc1, hm1⟩ := ho.slice
    subst e
    have KW := hide (weight_any a1 l c1 w6 (unhide HU _ (unhide B6)) hp1 (by omega) (ed_text d1))
    rw [ed_wVal d1] at KW
    have hds := lead_drops x y
    rw [← at_, unhide HQ] at hds
    have KC := hide (fun W => counts_any a W (by omega))
    have hcnt : (Lib.runeCount a : Int) = (x.length : Int) := by rw [(unhide HX).1.count]
    obtain ⟨p1, hp1'⟩ : ∃ z, At.putsN (atomsL l) = z := ⟨_, rfl⟩
    obtain ⟨p2, hp2'⟩ : ∃ z, At.dropsN (atomsL l) = z := ⟨_, rfl⟩
    rw [hp1', hp2'] at KW
    rw [hp2'] at hds
    obtain ⟨nx, hnx⟩ : ∃ z, x.length = z := ⟨_, rfl⟩
    rw [hnx] at hds hcnt
    rw [show (Lib.runeCount a) = nx by omega] at KC
    obtain ⟨k, hk⟩ : ∃ z, l.length = z := ⟨_, rfl⟩
    rw [hk] at KW ⊢
    clear hx2 hy2 hl1 hl2 ho nf at_ d1 k1 hp1 hc1 hm1 hcnt hp1' hp2' hnx hk
    go_wp2_with fail
    refine Calls.mono (unhide KW) ?_
    rintro r w7 ⟨rfl, b7⟩
    have B7 := hide ((unhide B6).trans (b7.mono (unhide B6).size))
    clear b7 KW
    go_wp2_with fail
    refine Calls.mono (unhide KC _) ?_
    rintro r w8 ⟨rfl, b8⟩
    have B8 := hide ((unhide B7).trans (b8.mono (unhide B7).size))
    clear b8 KC
    have KA := hide (awake_any w8 (unhide HU _ (unhide B8)))
    go_wp2_with fail
    refine Calls.mono (unhide KA) ?_
    rintro r w99 ⟨rfl, b99⟩
    have B99 := hide ((unhide B8).trans (b99.mono (unhide B8).size))
    clear b99
    go_wp2_with fail
    go_ret
    exact ⟨by first | rfl | (simp; done), unhide B99⟩
end Go.Proofs.YtonabfpgdgnpnaaDoor
