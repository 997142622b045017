/- DiffOne. -/
import Derived.Test.YtonabfpgdgnpnaaDoorDCk
namespace Go.Proofs.YtonabfpgdgnpnaaDoor
set_option linter.unusedVariables false
set_option linter.unusedSimpArgs false
open Go.ChangeShapes Go.WideShapes Go.ChangeAt Go.RowKit Go.Joins Go.Deep

theorem two_keeps : ∀ (y : List At), At.two (List.replicate (At.fromN y) .k) y = y
  | [] => by simp [At.fromN, At.two]
  | .k :: y => by simp only [At.fromN, List.replicate_succ, At.two]; rw [two_keeps y]
  | .d :: y => by simp only [At.fromN, List.replicate_succ, At.two]; rw [two_keeps y]
  | .p c :: y => by
    have ih := two_keeps y
    simp only [At.fromN]
    cases h : At.fromN y with
    | zero =>
      rw [h] at ih
      simp only [List.replicate_zero, At.two] at ih ⊢
      rw [ih]
    | succ n =>
      rw [h] at ih
      rw [List.replicate_succ] at ih ⊢
      simp only [At.two] at ih ⊢
      rw [ih]
theorem can_keeps (n : Nat) : At.can (List.replicate n .k) = List.replicate n .k := nf_rep n
theorem app_keeps2 (x : List CP) : At.app (List.replicate x.length .k) x = x := by
  induction x with
  | nil => rfl
  | cons c x ih => rw [List.length_cons, List.replicate_succ]; simp only [At.app]; rw [ih]
theorem merge_left (x y : List CP) : At.app (At.can (At.two (At.can (leadA x y)) (At.can (leadA x x)))) y = y := by
  have li := lead_is x y
  have h1 : At.fromN (At.can (leadA x y)) = x.length := by rw [← At.fromN_sw (At.can_sw _), li.frm]
  have h2 : At.toN (At.can (leadA x y)) = y.length := by rw [← At.toN_sw (At.can_sw _), li.to_]
  have h3 := At.two_same (At.can (leadA x y))
  rw [h1, h2] at h3
  rw [lead_same, can_keeps, h3, can_keeps, app_keeps2]
theorem merge_right (x y : List CP) : At.app (At.can (At.two (At.can (leadA x x)) (At.can (leadA x y)))) x = y := by
  have li := lead_is x y
  have h1 : At.fromN (At.can (leadA x y)) = x.length := by rw [← At.fromN_sw (At.can_sw _), li.frm]
  have h3 := two_keeps (At.can (leadA x y))
  rw [h1] at h3
  rw [lead_same, can_keeps, h3, At.app_can, At.app_can, li.app]
theorem first_three {a b c : ByteArray} : firstE [a, b, c] = 0 ↔ chkE a = 0 ∧ chkE b = 0 ∧ chkE c = 0 := by
  constructor
  · intro h
    have := first_ok h
    exact ⟨this a (by simp), this b (by simp), this c (by simp)⟩
  · rintro ⟨h1, h2, h3⟩
    rw [firstE, if_pos h1, firstE, if_pos h2, firstE, if_pos h3, firstE]
set_option maxRecDepth 100000 in
set_option maxHeartbeats 4000000 in
theorem one_law (a b : ByteArray) (w : World) (hT : UT w) (h0a : a.size ≤ 140737488351232) (h0b : b.size ≤ 140737488351232) : Calls Tryd.prog 8 #[.string a, .string b] w fun r w' => r = .returned (.bool true) ∧ Below w.heap.size w w' := by
  have HU : Hid (∀ W, Below w.heap.size w W → UT W) := hide (fun W h => hT.call h)
  have bP : Below w.heap.size w (w.alloc (.cells #[.string a, .string b] 9)) := (Below.refl _ _).alloc (Nat.le_refl _) _
  have KS := hide (long_any w.heap.size (.slice (some ⟨w.heap.size, 0, none⟩) 2 2) [a, b] (w.alloc (.cells #[.string a, .string b] 9)) (own_row (RowAt.new w 9 [.string a, .string b]) (Nat.le_refl _) (by show 2 ≤ maxLen; unfold maxLen; omega)) (by simp))
  have B1 := hide bP
  obtain ⟨w1, hw1⟩ : ∃ z, w.alloc (.cells #[.string a, .string b] 9) = z := ⟨_, rfl⟩
  have HW1 := hide hw1
  rw [hw1] at KS B1
  clear hT bP hw1
  go_enter Tryd.func8, Tryd.ntmps8
  go_wp2_with fail
  try rw [unhide HW1]
  clear HW1
  refine Calls.mono (unhide KS) ?_
  rintro r w2 ⟨rfl, rfl⟩
  cases hlb : longB [a, b] with
  | true =>
    have KA := hide (awake_any w1 (unhide HU _ (unhide B1)))
    go_wp2_with fail
    refine Calls.mono (unhide KA) ?_
    rintro r w99 ⟨rfl, b99⟩
    have B99 := hide ((unhide B1).trans (b99.mono (unhide B1).size))
    clear b99
    go_wp2_with fail
    go_ret
    exact ⟨by first | rfl | (simp; done), unhide B99⟩
  | false =>
    have hszs : a.size ≤ 200 ∧ b.size ≤ 200 := by simpa [longB] using hlb
    clear hlb
    have K2 := hide (merge_any a b a w1 (unhide HU _ (unhide B1)) (by omega) (by omega) (by omega))
    go_wp2_with fail
    refine Calls.mono (unhide K2) ?_
    rintro r w2 ⟨h2, b2⟩
    have B2 := hide ((unhide B1).trans (b2.mono (unhide B1).size))
    clear b2 K2
    rcases h2 with ⟨hf, rfl⟩ | ⟨hf, x, y, z, S, hx, hy, hz, hl1, hl2, hl3, rfl, hS⟩
    · have hbad : ¬ (chkE a = 0 ∧ chkE b = 0) := fun h => hf (first_three.2 ⟨h.1, h.2, h.1⟩)
      have hf2 : firstE [a, a, b] ≠ 0 := fun h => hbad ⟨(first_three.1 h).1, (first_three.1 h).2.2⟩
      obtain ⟨e, he⟩ : ∃ z, firstE [a, b, a] = z := ⟨_, rfl⟩
      have he0 : (e != 0) = true := by rw [← he]; simp [hf]
      have he0b : (e == 0) = false := by rw [← he]; simp [hf]
      have HBAD := hide hbad
      have HF2 := hide hf2
      rw [he]
      clear hf he hbad hf2
      have K3 := hide (merge_any a a b w2 (unhide HU _ (unhide B2)) (by omega) (by omega) (by omega))
      go_wp2_with fail
      refine Calls.mono (unhide K3) ?_
      rintro r w3 ⟨h3, b3⟩
      have B3 := hide ((unhide B2).trans (b3.mono (unhide B2).size))
      clear b3 K3
      rcases h3 with ⟨hf3, rfl⟩ | ⟨hf3, _⟩
      · obtain ⟨e2, he2⟩ : ∃ z, firstE [a, a, b] = z := ⟨_, rfl⟩
        have he2a : (e2 != 0) = true := by rw [← he2]; simp [hf3]
        rw [he2]
        have KC := hide (rchk_any a w3 (by omega))
        have KD := hide (fun W => rchk_any b W (by omega))
        obtain ⟨ca, hca⟩ : ∃ z, chkE a = z := ⟨_, rfl⟩
        obtain ⟨cb, hcb⟩ : ∃ z, chkE b = z := ⟨_, rfl⟩
        rw [hca] at KC
        rw [hcb] at KD
        have hor : (ca != 0) = true ∨ ((ca != 0) = false ∧ (cb != 0) = true) := by
          have h9 := unhide HBAD
          rw [hca, hcb] at h9
          by_cases h : ca = 0
          · exact .inr ⟨by simp [h], by simp; exact fun e => h9 ⟨h, e⟩⟩
          · exact .inl (by simp [h])
        clear hf3 he2 hca hcb
        rcases hor with h1 | ⟨h1, h2⟩
        · go_wp2_with fail
          refine Calls.mono (unhide KC) ?_
          rintro r w4 ⟨rfl, b4⟩
          have B4 := hide ((unhide B3).trans (b4.mono (unhide B3).size))
          clear b4 KC
          have KA := hide (awake_any w4 (unhide HU _ (unhide B4)))
          go_wp2_with fail
          refine Calls.mono (unhide KA) ?_
          rintro r w99 ⟨rfl, b99⟩
          have B99 := hide ((unhide B4).trans (b99.mono (unhide B4).size))
          clear b99
          go_wp2_with fail
          go_ret
          exact ⟨by first | rfl | (simp; done), unhide B99⟩
        · go_wp2_with fail
          refine Calls.mono (unhide KC) ?_
          rintro r w4 ⟨rfl, b4⟩
          have B4 := hide ((unhide B3).trans (b4.mono (unhide B3).size))
          clear b4 KC
          go_wp2_with fail
          refine Calls.mono (unhide KD _) ?_
          rintro r w5 ⟨rfl, b5⟩
          have B5 := hide ((unhide B4).trans (b5.mono (unhide B4).size))
          clear b5 KD
          have KA := hide (awake_any w5 (unhide HU _ (unhide B5)))
          go_wp2_with fail
          refine Calls.mono (unhide KA) ?_
          rintro r w99 ⟨rfl, b99⟩
          have B99 := hide ((unhide B5).trans (b99.mono (unhide B5).size))
          clear b99
          go_wp2_with fail
          go_ret
          exact ⟨by first | rfl | (simp; done), unhide B99⟩
      · exact absurd hf3 (unhide HF2)
    · obtain rfl : z = x := hz.inj hx
      rw [merge_left] at hS
      obtain rfl : S = b := hS.same hy
      have hca := (first_three.1 hf).1
      have hcb := (first_three.1 hf).2.1
      have hf2 : firstE [a, a, S] = 0 := first_three.2 ⟨hca, hca, hcb⟩
      have HF2 := hide hf2
      have HXY := hide (And.intro hx hy)
      have HCA := hide hca
      have HCB := hide hcb
      clear hf hx hy hz hl1 hl2 hl3 hS hf2 hca hcb
      have K3 := hide (merge_any a a S w2 (unhide HU _ (unhide B2)) (by omega) (by omega) (by omega))
      go_wp2_with fail
      refine Calls.mono (unhide K3) ?_
      rintro r w3 ⟨h3, b3⟩
      have B3 := hide ((unhide B2).trans (b3.mono (unhide B2).size))
      clear b3 K3
      rcases h3 with ⟨hf3, _⟩ | ⟨hf3, x3, y3, z3, S3, hx3, hy3, hz3, -, -, -, rfl, hS3⟩
      · exact absurd (unhide HF2) hf3
      · obtain rfl := (unhide HXY).1.inj hx3
        obtain rfl := (unhide HXY).1.inj hy3
        obtain rfl := (unhide HXY).2.inj hz3
        rw [merge_right] at hS3
        obtain rfl : S3 = S := hS3.same hz3
        have KC := hide (rchk_any a w3 (by omega))
        have KD := hide (fun W => rchk_any S3 W (by omega))
        rw [unhide HCA] at KC
        rw [unhide HCB] at KD
        clear hf3 hx3 hy3 hz3 hS3
        go_wp2_with fail
        refine Calls.mono (unhide KC) ?_
        rintro r w4 ⟨rfl, b4⟩
        have B4 := hide ((unhide B3).trans (b4.mono (unhide B3).size))
        clear b4 KC
        go_wp2_with fail
        refine Calls.mono (unhide KD _) ?_
        rintro r w5 ⟨rfl, b5⟩
        have B5 := hide ((unhide B4).trans (b5.mono (unhide B4).size))
        clear b5 KD
        have KA := hide (awake_any w5 (unhide HU _ (unhide B5)))
        go_wp2_with fail
        refine Calls.mono (unhide KA) ?_
        rintro r w99 ⟨rfl, b99⟩
        have B99 := hide ((unhide B5).trans (b99.mono (unhide B5).size))
        clear b99
        go_wp2_with fail
        go_ret
        exact ⟨by first | rfl | (simp; done), unhide B99⟩
end Go.Proofs.YtonabfpgdgnpnaaDoor
