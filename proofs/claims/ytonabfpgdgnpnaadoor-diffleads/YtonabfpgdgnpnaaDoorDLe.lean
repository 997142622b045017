/- DiffLeads. -/
import Derived.Test.YtonabfpgdgnpnaaDoorDAw
import Derived.Test.YtonabfpgdgnpnaaDoorLLo
import Derived.Test.YtonabfpgdgnpnaaDoorChk
import Derived.Test.YtonabfpgdgnpnaaDoorWgt
import Derived.Lib.SlicesS
namespace Go.Proofs.YtonabfpgdgnpnaaDoor
set_option linter.unusedVariables false
set_option linter.unusedSimpArgs false
open Go.ChangeShapes Go.WideShapes Go.ChangeAt Go.RowKit Go.Joins Go.Deep

theorem keeps_atoms : ∀ {l : List Pt} {a : Int}, NfG a l → changesB l = false → atomsL l = List.replicate (atomsL l).length .k
  | [], _, _, _ => rfl
  | p :: l, a, h, hc => by
    unfold changesB at hc
    rw [List.any_cons, Bool.or_eq_false_iff] at hc
    have hk : p.kind = 1 := by simpa using hc.1
    have ih := keeps_atoms h.2.2.2 (show changesB l = false from hc.2)
    rcases h.1.cases with ⟨_, _, e⟩ | ⟨k, _⟩ | ⟨k, _⟩
    · rw [atomsL, e, List.length_append, ← rep_add]
      rw [← ih, List.length_replicate]
    · omega
    · omega
theorem keeps_back : ∀ {l : List Pt} {a : Int} {n : Nat}, NfG a l → atomsL l = List.replicate n .k → changesB l = false
  | [], _, _, _, _ => rfl
  | p :: l, a, n, h, e => by
    rw [atomsL] at e
    have hm : ∀ s ∈ atoms p ++ atomsL l, s = .k := fun s hs => by rw [e] at hs; exact (List.mem_replicate.1 hs).2
    have h1 : p.kind = 1 := by
      rcases h.1.cases with ⟨k, _⟩ | ⟨_, _, e2⟩ | ⟨_, cs, _, hl, e2⟩
      · exact k
      · exfalso
        have hn := h.1.1
        have : At.d ∈ atoms p ++ atomsL l := by rw [e2]; exact List.mem_append_left _ (List.mem_replicate.2 ⟨by omega, rfl⟩)
        cases hm _ this
      · exfalso
        have hn := h.1.1
        cases cs with
        | nil => simp at hl; omega
        | cons c cs =>
          have : At.p c ∈ atoms p ++ atomsL l := by rw [e2]; exact List.mem_append_left _ (by simp)
          cases hm _ this
    have e3 : atomsL l = List.replicate (atomsL l).length .k := List.eq_replicate_iff.2 ⟨rfl, fun s hs => hm s (List.mem_append_right _ hs)⟩
    unfold changesB
    rw [List.any_cons, h1]
    exact keeps_back h.2.2.2 e3
theorem app_keeps : ∀ (x : List CP) , At.app (List.replicate x.length .k) x = x
  | [] => rfl
  | c :: x => by rw [List.length_cons, List.replicate_succ]; simp only [At.app]; rw [app_keeps x]
theorem changes_is {l : List Pt} {x y : List CP} (nf : NfG 0 l) (e : atomsL l = At.can (leadA x y)) : changesB l = decide (x ≠ y) := by
  have li := lead_is x y
  by_cases h : x = y
  · subst h
    rw [show decide (x ≠ x) = false by simp]
    rw [lead_same, At.can, nf_rep] at e
    exact keeps_back nf e
  · rw [show decide (x ≠ y) = true by simp [h]]
    cases hc : changesB l with
    | true => rfl
    | false =>
      exfalso
      have h1 := keeps_atoms nf hc
      have h2 : At.fromN (atomsL l) = x.length := by rw [e, ← At.fromN_sw (At.can_sw _), li.frm]
      rw [h1, from_rep_k] at h2
      rw [h2] at h1
      have h3 := li.app
      rw [← At.app_can, ← e, h1, app_keeps] at h3
      exact h h3
set_option maxRecDepth 100000 in
set_option maxHeartbeats 4000000 in
theorem leads_law (a b : ByteArray) (w : World) (hT : UT w) (h0a : a.size ≤ 140737488351232) (h0b : b.size ≤ 140737488351232) : Calls Tryd.prog 5 #[.string a, .string b] w fun r w' => r = .returned (.bool true) ∧ Below w.heap.size w w' := by
  have HU : Hid (∀ W, Below w.heap.size w W → UT W) := hide (fun W h => hT.call h)
  have bP : Below w.heap.size w (w.alloc (.cells #[.string a, .string b] 9)) := (Below.refl _ _).alloc (Nat.le_refl _) _
  have KS := hide (long_any w.heap.size (.slice (some ⟨w.heap.size, 0, none⟩) 2 2) [a, b] (w.alloc (.cells #[.string a, .string b] 9)) (own_row (RowAt.new w 9 [.string a, .string b]) (Nat.le_refl _) (by show 2 ≤ maxLen; unfold maxLen; omega)) (by simp))
  have B1 := hide bP
  obtain ⟨w1, hw1⟩ : ∃ z, w.alloc (.cells #[.string a, .string b] 9) = z := ⟨_, rfl⟩
  have HW1 := hide hw1
  rw [hw1] at KS B1
  clear hT bP hw1
  go_enter Tryd.func5, Tryd.ntmps5
  go_wp2_with fail
  try rw [unhide HW1]
  clear HW1
  refine Calls.mono (unhide KS) ?_
  rintro r w2 ⟨rfl, rfl⟩
  cases hlb : longB [a, b] with
  | true =>
    have KA := hide (awake_any w1 (unhide HU _ (unhide B1)))
    go_wp2_with fail
    refine Calls.mono (unhide KA) ?_
    rintro r w99 ⟨rfl, b99⟩
    have B99 := hide ((unhide B1).trans (b99.mono (unhide B1).size))
    clear b99
    go_wp2_with fail
    go_ret
    exact ⟨by first | rfl | (simp; done), unhide B99⟩
  | false =>
    have hszs : a.size ≤ 200 ∧ b.size ≤ 200 := by simpa [longB] using hlb
    clear hlb
    have KD := hide (diff_any a b w1 (unhide HU _ (unhide B1)) (by omega) (by omega))
    go_wp2_with fail
    refine Calls.mono (unhide KD) ?_
    rintro r w2 ⟨h2, b2⟩
    have B2 := hide ((unhide B1).trans (b2.mono (unhide B1).size))
    clear b2 KD
    rcases h2 with ⟨hf, rfl⟩ | ⟨hf, x, y, v, l, hx, hy, hl1, hl2, rfl, ho, nf, at_⟩
    · obtain ⟨e, he⟩ : ∃ z, firstE [a, b] = z := ⟨_, rfl⟩
      have he0 : (e != 0) = true := by rw [← he]; simp [hf]
      rw [he]
      clear hf he
      have KA := hide (awake_any w2 (unhide HU _ (unhide B2)))
      go_wp2_with fail
      refine Calls.mono (unhide KA) ?_
      rintro r w99 ⟨rfl, b99⟩
      have B99 := hide ((unhide B2).trans (b99.mono (unhide B2).size))
      clear b99
      go_wp2_with fail
      go_ret
      exact ⟨by first | rfl | (simp; done), unhide B99⟩
    · obtain ⟨d1, k1⟩ := lead_ed nf at_ hl1 hl2
      obtain ⟨a1, c1, e, hp1, hc1, hm1⟩ := ho.slice
      subst e
      have KA := hide (apply_ed (c := c1) (unhide HU _ (unhide B2)) hp1 (by omega) hx d1)
      have KC := hide (fun W (hb : Below w2.heap.size w2 W) => changes_any a1 l c1 W (hp1.call hb) (by omega))
      have hch := changes_is nf at_
      rw [hch] at KC
      obtain ⟨q, hab, hq⟩ : ∃ q, (a.toList == b.toList) = q ∧ decide (x ≠ y) = !q := by
        by_cases h : x = y
        · subst h
          obtain rfl := hx.same hy
          exact ⟨true, by simp, by simp⟩
        · have : a ≠ b := fun e => h (by subst e; exact hx.inj hy)
          exact ⟨false, (Lib.bytes_beq_false_iff a b).2 this, by simp [h]⟩
      rw [hq] at KC
      have HX := hide (And.intro hx (And.intro hy at_))
      obtain ⟨k, hk⟩ : ∃ z, l.length = z := ⟨_, rfl⟩
      rw [hk] at KA KC ⊢
      clear hf hx hy hl1 hl2 ho nf at_ d1 k1 hp1 hc1 hm1 hch hq hk
      cases q
      all_goals
        simp only [Bool.not_true, Bool.not_false] at KC
        go_wp2_with fail
        refine Calls.mono (unhide KA) ?_
        rintro r w3 ⟨S, rfl, hS, b3⟩
        have KC3 := hide (unhide KC _ b3)
        have B3 := hide ((unhide B2).trans (b3.mono (unhide B2).size))
        rw [(unhide HX).2.2, At.app_can, (lead_is x y).app] at hS
        obtain rfl : S = b := hS.same (unhide HX).2.1
        clear b3 hS KA KC
        go_wp2_with fail
        refine Calls.mono (unhide KC3) ?_
        rintro r w4 ⟨rfl, b4⟩
        have B4 := hide ((unhide B3).trans (b4.mono (unhide B3).size))
        clear b4 KC3
        have KA := hide (awake_any w4 (unhide HU _ (unhide B4)))
        go_wp2_with fail
        refine Calls.mono (unhide KA) ?_
        rintro r w99 ⟨rfl, b99⟩
        have B99 := hide ((unhide B4).trans (b99.mono (unhide B4).size))
        clear b99
        go_wp2_with fail
        go_ret
        exact ⟨by first | rfl | (simp; done), unhide B99⟩
end Go.Proofs.YtonabfpgdgnpnaaDoor
