/- Parts of the walk: Rsz, Chc0, Wid2. -/
import Derived.Test.YtonabfpgdgnpnaaDoorMz09
import Derived.Test.YtonabfpgdgnpnaaDoorMz02
import Derived.Test.YtonabfpgdgnpnaaDoorMz08
import Derived.Test.YtonabfpgdgnpnaaDoorMz12
import Derived.Test.YtonabfpgdgnpnaaDoorMz10
namespace Go.Proofs.YtonabfpgdgnpnaaDoor
set_option linter.unusedVariables false
set_option linter.unusedSimpArgs false
open Go.ChangeShapes Go.WideShapes Go.ChangeAt Go.RowKit Go.Joins Go.Deep

abbrev zrsz1 : Oper := { dst := some 17, op := Op.call { callee := Callee.value (Operand.func 54), args := #[Operand.tmp 16], argTypes := #[39] }, type := 4, pos := "ref.go:31", after := #[{ on := 0, ground := Ground.data }], guard := none }
theorem sizeL_last {l : List Pt} {j : Nat} {p : Pt} {f t k : Int} (hp : l[j]? = some p) (h : sizeL (l.take (j + 1)) = some (f, t, k)) : p.kind = k := by
  rw [sizeL_take hp] at h
  cases h0 : sizeL (l.take j) with
  | none => rw [h0] at h; cases h
  | some s =>
    obtain ⟨f0, t0, k0⟩ := s
    rw [h0] at h
    simp only [sizeStep] at h
    by_cases hfit : fitsB p = true ∧ followsB p.kind k0 = true
    · rw [if_pos hfit] at h
      by_cases hlim : 1099511627776 < (if p.kind = 2 then f0 else f0 + p.n) ∨ 1099511627776 < (if p.kind = 3 then t0 else t0 + p.n)
      · rw [if_pos hlim] at h; cases h
      · rw [if_neg hlim] at h
        simp only [Option.some.injEq, Prod.mk.injEq] at h
        exact h.2.2
    · rw [if_neg hfit] at h; cases h
theorem fits_kind {p : Pt} (h : fitsB p = true) : p.kind = 1 ∨ p.kind = 2 ∨ p.kind = 3 := by
  unfold fitsB at h
  simp only [Bool.and_eq_true, Bool.or_eq_true, decide_eq_true_eq] at h
  rcases h.2 with h2 | h2
  · rcases h2.1 with h3 | h3
    · exact .inl h3
    · exact .inr (.inr h3)
  · exact .inr (.inl h2.1)
set_option maxRecDepth 100000 in
set_option maxHeartbeats 4000000 in
theorem rsize_any (a : Option Addr) (l : List Pt) (c : Nat) (w : World) (hp : PtsAt w a l) (hc : l.length ≤ maxLen) (hs : ∀ p ∈ l, p.text.size ≤ 281474976710656) :
    Calls Tryd.prog 70 #[.slice a l.length c] w fun r w' => r = .returned (szVal l) ∧ Below w.heap.size w w' := by
  have HP := hide hp
  have HS := hide hs
  obtain ⟨n, hn⟩ : ∃ n, l.length = n := ⟨_, rfl⟩
  rw [hn] at hc ⊢
  have HN := hide hn
  have nI : (n : Int) ≤ 9223372036854775807 := by unfold maxLen at hc; omega
  clear hp hs hn
  go_enter Tryd.func70, Tryd.ntmps70
  go_wp2_with fail
  go_loopw [5, 6, 11] (fun f t i wr => ∃ k : Nat, k ≤ n ∧ i = .int .i64 (k : Int) ∧ (∃ fv tv lv : Int, f = .int .i64 fv ∧ t = .int .i64 tv ∧ Hid (sizeL (l.take k) = some (fv, tv, lv))) ∧ Hid (Below w.heap.size w wr)) (fun _ _ i _ => ((n : Int) - intOf i).toNat)
  case atStart => exact ⟨0, by omega, by simp, ⟨0, 0, 0, by simp, by simp, hide (by simp [sizeL])⟩, hide (Below.refl _ _)⟩
  case round =>
    obtain ⟨k, hk, rfl, ⟨fv, tv, lv, rfl, rfl, HSZ⟩, HB⟩ := hrel
    by_cases hlt : k < n
    · have kI : (k : Int) < (n : Int) := by omega
      obtain ⟨p, hpk⟩ : ∃ p, l[k]? = some p := ⟨_, List.getElem?_eq_getElem (by have := unhide HN; omega)⟩
      obtain ⟨b, off, rfl, e0, e1, e2⟩ := (unhide HP).at_ (unhide HB) hpk
      have HPK := hide hpk
      have HST := hide (sizeL_take hpk)
      rw [unhide HSZ] at HST
      obtain ⟨b1, b2, b3, b4⟩ := sizeL_bounds _ _ _ _ (unhide HSZ)
      have hps := unhide HS p (List.mem_of_getElem? hpk)
      have hbA : Below wr.heap.size wr (wr.alloc (.cells #[.int .i64 p.kind, .int .i64 p.n, .string p.text] 39)) := (Below.refl _ _).alloc (Nat.le_refl _) _
      have HBA := hide ((unhide HB).trans (hbA.mono (unhide HB).size))
      have HBN := hide hbA
      have HRW := hide (RowAt.new wr 39 [.int .i64 p.kind, .int .i64 p.n, .string p.text])
      have HFA : Hid (∀ W, Calls Tryd.prog 54 #[.agg #[.int .i64 p.kind, .int .i64 p.n, .string p.text]] W fun r w' => r = .returned (.bool (fitsB p)) ∧ Below W.heap.size W w') := hide (fun W => rfits_any p W hps)
      clear hpk hps hbA
      go_wp2_with fail
      obtain ⟨wA, hA⟩ : ∃ wA, wr.alloc (.cells #[.int .i64 p.kind, .int .i64 p.n, .string p.text] 39) = wA := ⟨_, rfl⟩
      rw [hA] at HBA HBN HRW ⊢
      clear hA e0 e1 e2
      obtain ⟨bb, hbb⟩ : ∃ bb, wr.heap.size = bb := ⟨_, rfl⟩
      have HBB := hide hbb
      rw [hbb] at HRW ⊢
      clear hbb
      cases hfb : fitsB p with
      | false =>
        have HFI : Hid (∀ W, Below wA.heap.size wA W → Calls Tryd.prog 54 #[.agg #[.int .i64 p.kind, .int .i64 p.n, .string p.text]] W fun r w' => r = .returned (.bool false) ∧ Below W.heap.size W w') := hide (fun W _ => by have := unhide HFA W; rw [hfb] at this; exact this)
        have HSS : Hid (∀ W, Below wA.heap.size wA W → W.cell? ⟨bb, 0, none⟩ = some (.int .i64 p.kind) ∧ W.cell? ⟨bb, 1, none⟩ = some (.int .i64 p.n) ∧ W.cell? ⟨bb, 2, none⟩ = some (.string p.text)) := hide (fun W hW => ⟨((unhide HRW).below hW (unhide HRW).lt).cell 0, ((unhide HRW).below hW (unhide HRW).lt).cell 1, ((unhide HRW).below hW (unhide HRW).lt).cell 2⟩)
        have HFN := hide hfb
        clear hfb HFA HRW HBN
        refine wp_region_T (S := fun W => W.cell? ⟨bb, 0, none⟩ = some (.int .i64 p.kind) ∧ W.cell? ⟨bb, 1, none⟩ = some (.int .i64 p.n) ∧ W.cell? ⟨bb, 2, none⟩ = some (.string p.text)) (fun i => decide (i < 32)) (by kernel_rfl) (unhide HSS _ (Below.refl _ _).drew) (fun hHeld => ?_)
        refine tk 0 (v := .agg #[.int .i64 p.kind, .int .i64 p.n, .string p.text]) rfl (Or.inl ⟨by rfl, ?_⟩) hHeld ?_
        · intro w hSw
          obtain ⟨s0, s1, s2⟩ := hSw
          first
            | rfl
            | (go_simp; done)
        try go_frame
        refine wpAnyT_one (i := 1) (o := zrsz1) (by kernel_rfl) rfl (fun K hK => ?_)
        go_simp
        refine Calls.mono (unhide HFI _ (Below.refl _ _).drew) ?_
        rintro r w2 ⟨rfl, hb2⟩
        have HK2 := hide ((Below.refl wA.heap.size wA).drew.trans (hb2.mono (Below.refl wA.heap.size wA).drew.size))
        clear hb2
        go_wp2_with fail
        refine hK.out _ _ (fun _ => unhide HSS _ (unhide HK2)) ?_
        clear hK K
        try go_frame
        refine tk 2 (v := .bool true) rfl (Or.inl ⟨by rfl, ?_⟩) (unhide HSS _ (unhide HK2)) ?_
        · intro w hSw
          obtain ⟨s0, s1, s2⟩ := hSw
          first
            | rfl
            | (go_simp; done)
        try go_frame
        refine tk 3 (v := .bool true) rfl (Or.inl ⟨by rfl, ?_⟩) (unhide HSS _ (unhide HK2)) ?_
        · intro w hSw
          obtain ⟨s0, s1, s2⟩ := hSw
          first
            | rfl
            | (go_simp; done)
        try go_frame
        refine tk 4 (v := undef) rfl (Or.inr ⟨by rfl, rfl⟩) (unhide HSS _ (unhide HK2)) ?_
        try go_frame
        refine tk 5 (v := undef) rfl (Or.inr ⟨by rfl, rfl⟩) (unhide HSS _ (unhide HK2)) ?_
        try go_frame
        refine tk 6 (v := undef) rfl (Or.inr ⟨by rfl, rfl⟩) (unhide HSS _ (unhide HK2)) ?_
        try go_frame
        refine tk 7 (v := undef) rfl (Or.inr ⟨by rfl, rfl⟩) (unhide HSS _ (unhide HK2)) ?_
        try go_frame
        refine tk 8 (v := undef) rfl (Or.inr ⟨by rfl, rfl⟩) (unhide HSS _ (unhide HK2)) ?_
        try go_frame
        refine tk 9 (v := undef) rfl (Or.inr ⟨by rfl, rfl⟩) (unhide HSS _ (unhide HK2)) ?_
        try go_frame
        refine tk 10 (v := undef) rfl (Or.inr ⟨by rfl, rfl⟩) (unhide HSS _ (unhide HK2)) ?_
        try go_frame
        refine tk 11 (v := undef) rfl (Or.inr ⟨by rfl, rfl⟩) (unhide HSS _ (unhide HK2)) ?_
        try go_frame
        refine tk 12 (v := undef) rfl (Or.inr ⟨by rfl, rfl⟩) (unhide HSS _ (unhide HK2)) ?_
        try go_frame
        refine tk 13 (v := undef) rfl (Or.inr ⟨by rfl, rfl⟩) (unhide HSS _ (unhide HK2)) ?_
        try go_frame
        refine tk 14 (v := undef) rfl (Or.inr ⟨by rfl, rfl⟩) (unhide HSS _ (unhide HK2)) ?_
        try go_frame
        refine tk 15 (v := undef) rfl (Or.inr ⟨by rfl, rfl⟩) (unhide HSS _ (unhide HK2)) ?_
        try go_frame
        refine tk 16 (v := undef) rfl (Or.inr ⟨by rfl, rfl⟩) (unhide HSS _ (unhide HK2)) ?_
        try go_frame
        refine tk 17 (v := undef) rfl (Or.inr ⟨by rfl, rfl⟩) (unhide HSS _ (unhide HK2)) ?_
        try go_frame
        refine tk 18 (v := undef) rfl (Or.inr ⟨by rfl, rfl⟩) (unhide HSS _ (unhide HK2)) ?_
        try go_frame
        refine tk 19 (v := undef) rfl (Or.inr ⟨by rfl, rfl⟩) (unhide HSS _ (unhide HK2)) ?_
        try go_frame
        refine tk 20 (v := undef) rfl (Or.inr ⟨by rfl, rfl⟩) (unhide HSS _ (unhide HK2)) ?_
        try go_frame
        refine tk 21 (v := undef) rfl (Or.inr ⟨by rfl, rfl⟩) (unhide HSS _ (unhide HK2)) ?_
        try go_frame
        refine tk 22 (v := undef) rfl (Or.inr ⟨by rfl, rfl⟩) (unhide HSS _ (unhide HK2)) ?_
        try go_frame
        refine tk 23 (v := undef) rfl (Or.inr ⟨by rfl, rfl⟩) (unhide HSS _ (unhide HK2)) ?_
        try go_frame
        refine tk 24 (v := undef) rfl (Or.inr ⟨by rfl, rfl⟩) (unhide HSS _ (unhide HK2)) ?_
        try go_frame
        refine tk 25 (v := undef) rfl (Or.inr ⟨by rfl, rfl⟩) (unhide HSS _ (unhide HK2)) ?_
        try go_frame
        refine tk 26 (v := undef) rfl (Or.inr ⟨by rfl, rfl⟩) (unhide HSS _ (unhide HK2)) ?_
        try go_frame
        refine tk 27 (v := undef) rfl (Or.inr ⟨by rfl, rfl⟩) (unhide HSS _ (unhide HK2)) ?_
        try go_frame
        refine tk 28 (v := undef) rfl (Or.inr ⟨by rfl, rfl⟩) (unhide HSS _ (unhide HK2)) ?_
        try go_frame
        refine tk 29 (v := undef) rfl (Or.inr ⟨by rfl, rfl⟩) (unhide HSS _ (unhide HK2)) ?_
        try go_frame
        refine tk 30 (v := undef) rfl (Or.inr ⟨by rfl, rfl⟩) (unhide HSS _ (unhide HK2)) ?_
        try go_frame
        refine tk 31 (v := .bool true) rfl (Or.inl ⟨by rfl, ?_⟩) (unhide HSS _ (unhide HK2)) ?_
        · intro w hSw
          obtain ⟨s0, s1, s2⟩ := hSw
          first
            | rfl
            | (go_simp; done)
        try go_frame
        refine wpAnyT_done (by kernel_rfl) ?_ _
        have HB2 := hide ((unhide HBA).trans ((unhide HK2).mono (unhide HBA).size))
        obtain ⟨r0, r1, r2⟩ := unhide HSS _ (unhide HK2)
        clear HSS HFI HBA HK2 r2
        have HB3 := HB2
        clear HB2
        have HNO : Hid (sizeL (l.take (k + 1)) = none) := hide (by rw [unhide HST]; simp [sizeStep, unhide HFN])
        go_wp2_with fail
        go_ret3
        have hz := sizeL_none (unhide HNO)
        exact ⟨by unfold szVal; rw [hz]; rfl, unhide HB3⟩
      | true =>
        have HFI : Hid (∀ W, Below wA.heap.size wA W → Calls Tryd.prog 54 #[.agg #[.int .i64 p.kind, .int .i64 p.n, .string p.text]] W fun r w' => r = .returned (.bool true) ∧ Below W.heap.size W w') := hide (fun W _ => by have := unhide HFA W; rw [hfb] at this; exact this)
        obtain ⟨n1, n2⟩ := fits_bounds hfb
        have HFB := hide hfb
        clear hfb HFA
        rcases Nat.eq_zero_or_pos k with hk0 | hk0
        · subst hk0
          have HFO : Hid (followsB p.kind lv = true) := hide (by
            have h1 := unhide HSZ
            simp [sizeL] at h1
            obtain ⟨_, _, rfl⟩ := h1
            have h2 := fits_kind (unhide HFB)
            unfold followsB
            simp
            omega)
          have HSS : Hid (∀ W, Below wA.heap.size wA W → W.cell? ⟨bb, 0, none⟩ = some (.int .i64 p.kind) ∧ W.cell? ⟨bb, 1, none⟩ = some (.int .i64 p.n) ∧ W.cell? ⟨bb, 2, none⟩ = some (.string p.text)) := hide (fun W hW => ⟨((unhide HRW).below hW (unhide HRW).lt).cell 0, ((unhide HRW).below hW (unhide HRW).lt).cell 1, ((unhide HRW).below hW (unhide HRW).lt).cell 2⟩)
          clear HRW HBN
          simp only [show ((0 : Nat) : Int) = 0 from rfl]
          refine wp_region_T (S := fun W => W.cell? ⟨bb, 0, none⟩ = some (.int .i64 p.kind) ∧ W.cell? ⟨bb, 1, none⟩ = some (.int .i64 p.n) ∧ W.cell? ⟨bb, 2, none⟩ = some (.string p.text)) (fun i => decide (i < 32)) (by kernel_rfl) (unhide HSS _ (Below.refl _ _).drew) (fun hHeld => ?_)
          refine tk 0 (v := .agg #[.int .i64 p.kind, .int .i64 p.n, .string p.text]) rfl (Or.inl ⟨by rfl, ?_⟩) hHeld ?_
          · intro w hSw
            obtain ⟨s0, s1, s2⟩ := hSw
            first
              | rfl
              | (go_simp; done)
          try go_frame
          refine wpAnyT_one (i := 1) (o := zrsz1) (by kernel_rfl) rfl (fun K hK => ?_)
          go_simp
          refine Calls.mono (unhide HFI _ (Below.refl _ _).drew) ?_
          rintro r w2 ⟨rfl, hb2⟩
          have HK2 := hide ((Below.refl wA.heap.size wA).drew.trans (hb2.mono (Below.refl wA.heap.size wA).drew.size))
          clear hb2
          go_wp2_with fail
          refine hK.out _ _ (fun _ => unhide HSS _ (unhide HK2)) ?_
          clear hK K
          try go_frame
          refine tk 2 (v := .bool false) rfl (Or.inl ⟨by rfl, ?_⟩) (unhide HSS _ (unhide HK2)) ?_
          · intro w hSw
            obtain ⟨s0, s1, s2⟩ := hSw
            first
              | rfl
              | (go_simp; done)
          try go_frame
          refine tk 3 (v := .bool false) rfl (Or.inl ⟨by rfl, ?_⟩) (unhide HSS _ (unhide HK2)) ?_
          · intro w hSw
            obtain ⟨s0, s1, s2⟩ := hSw
            first
              | rfl
              | (go_simp; done)
          try go_frame
          refine tk 4 (v := .int .i64 0) rfl (Or.inl ⟨by rfl, ?_⟩) (unhide HSS _ (unhide HK2)) ?_
          · intro w hSw
            obtain ⟨s0, s1, s2⟩ := hSw
            first
              | rfl
              | (go_simp; done)
          try go_frame
          refine tk 5 (v := .bool false) rfl (Or.inl ⟨by rfl, ?_⟩) (unhide HSS _ (unhide HK2)) ?_
          · intro w hSw
            obtain ⟨s0, s1, s2⟩ := hSw
            first
              | rfl
              | (go_simp; done)
          try go_frame
          refine tk 6 (v := .bool false) rfl (Or.inl ⟨by rfl, ?_⟩) (unhide HSS _ (unhide HK2)) ?_
          · intro w hSw
            obtain ⟨s0, s1, s2⟩ := hSw
            first
              | rfl
              | (go_simp; done)
          try go_frame
          refine tk 7 (v := undef) rfl (Or.inr ⟨by rfl, rfl⟩) (unhide HSS _ (unhide HK2)) ?_
          try go_frame
          refine tk 8 (v := undef) rfl (Or.inr ⟨by rfl, rfl⟩) (unhide HSS _ (unhide HK2)) ?_
          try go_frame
          refine tk 9 (v := undef) rfl (Or.inr ⟨by rfl, rfl⟩) (unhide HSS _ (unhide HK2)) ?_
          try go_frame
          refine tk 10 (v := undef) rfl (Or.inr ⟨by rfl, rfl⟩) (unhide HSS _ (unhide HK2)) ?_
          try go_frame
          refine tk 11 (v := undef) rfl (Or.inr ⟨by rfl, rfl⟩) (unhide HSS _ (unhide HK2)) ?_
          try go_frame
          refine tk 12 (v := undef) rfl (Or.inr ⟨by rfl, rfl⟩) (unhide HSS _ (unhide HK2)) ?_
          try go_frame
          refine tk 13 (v := undef) rfl (Or.inr ⟨by rfl, rfl⟩) (unhide HSS _ (unhide HK2)) ?_
          try go_frame
          refine tk 14 (v := undef) rfl (Or.inr ⟨by rfl, rfl⟩) (unhide HSS _ (unhide HK2)) ?_
          try go_frame
          refine tk 15 (v := undef) rfl (Or.inr ⟨by rfl, rfl⟩) (unhide HSS _ (unhide HK2)) ?_
          try go_frame
          refine tk 16 (v := undef) rfl (Or.inr ⟨by rfl, rfl⟩) (unhide HSS _ (unhide HK2)) ?_
          try go_frame
          refine tk 17 (v := undef) rfl (Or.inr ⟨by rfl, rfl⟩) (unhide HSS _ (unhide HK2)) ?_
          try go_frame
          refine tk 18 (v := undef) rfl (Or.inr ⟨by rfl, rfl⟩) (unhide HSS _ (unhide HK2)) ?_
          try go_frame
          refine tk 19 (v := undef) rfl (Or.inr ⟨by rfl, rfl⟩) (unhide HSS _ (unhide HK2)) ?_
          try go_frame
          refine tk 20 (v := undef) rfl (Or.inr ⟨by rfl, rfl⟩) (unhide HSS _ (unhide HK2)) ?_
          try go_frame
          refine tk 21 (v := undef) rfl (Or.inr ⟨by rfl, rfl⟩) (unhide HSS _ (unhide HK2)) ?_
          try go_frame
          refine tk 22 (v := undef) rfl (Or.inr ⟨by rfl, rfl⟩) (unhide HSS _ (unhide HK2)) ?_
          try go_frame
          refine tk 23 (v := undef) rfl (Or.inr ⟨by rfl, rfl⟩) (unhide HSS _ (unhide HK2)) ?_
          try go_frame
          refine tk 24 (v := undef) rfl (Or.inr ⟨by rfl, rfl⟩) (unhide HSS _ (unhide HK2)) ?_
          try go_frame
          refine tk 25 (v := undef) rfl (Or.inr ⟨by rfl, rfl⟩) (unhide HSS _ (unhide HK2)) ?_
          try go_frame
          refine tk 26 (v := undef) rfl (Or.inr ⟨by rfl, rfl⟩) (unhide HSS _ (unhide HK2)) ?_
          try go_frame
          refine tk 27 (v := undef) rfl (Or.inr ⟨by rfl, rfl⟩) (unhide HSS _ (unhide HK2)) ?_
          try go_frame
          refine tk 28 (v := undef) rfl (Or.inr ⟨by rfl, rfl⟩) (unhide HSS _ (unhide HK2)) ?_
          try go_frame
          refine tk 29 (v := undef) rfl (Or.inr ⟨by rfl, rfl⟩) (unhide HSS _ (unhide HK2)) ?_
          try go_frame
          refine tk 30 (v := .bool false) rfl (Or.inl ⟨by rfl, ?_⟩) (unhide HSS _ (unhide HK2)) ?_
          · intro w hSw
            obtain ⟨s0, s1, s2⟩ := hSw
            first
              | rfl
              | (go_simp; done)
          try go_frame
          refine tk 31 (v := .bool false) rfl (Or.inl ⟨by rfl, ?_⟩) (unhide HSS _ (unhide HK2)) ?_
          · intro w hSw
            obtain ⟨s0, s1, s2⟩ := hSw
            first
              | rfl
              | (go_simp; done)
          try go_frame
          refine wpAnyT_done (by kernel_rfl) ?_ _
          have HB2 := hide ((unhide HBA).trans ((unhide HK2).mono (unhide HBA).size))
          obtain ⟨r0, r1, r2⟩ := unhide HSS _ (unhide HK2)
          clear HSS HFI HBA HK2 r2
          have HB3 := HB2
          clear HB2
          by_cases k2 : p.kind = 2
          · rw [k2] at r0
            have K2 := hide k2
            by_cases hA : 1099511627776 < fv
            · exfalso; omega
            by_cases hB : 1099511627776 < tv + p.n
            · have HNO : Hid (sizeL (l.take (0 + 1)) = none) := hide (by rw [unhide HST]; simp only [sizeStep]; rw [if_pos ⟨unhide HFB, unhide HFO⟩]; simp only [unhide K2, if_true, show ((2 : Int) = 3) = False from by simp, if_false]; rw [if_pos (.inr hB)])
              go_wp2_with fail
              go_ret3
              have hz := sizeL_none (unhide HNO)
              exact ⟨by unfold szVal; rw [hz]; rfl, unhide HB3⟩
            have HNX : Hid (sizeL (l.take (0 + 1)) = some (fv, tv + p.n, p.kind)) := hide (by rw [unhide HST]; simp only [sizeStep]; rw [if_pos ⟨unhide HFB, unhide HFO⟩]; simp only [unhide K2, if_true, show ((2 : Int) = 3) = False from by simp, if_false]; rw [if_neg (by omega)])
            go_wp2_with fail
            exact ⟨⟨1, by omega, by simp, ⟨_, _, _, rfl, rfl, HNX⟩, HB3⟩, by simp [intOf]; omega⟩
          have k2b : (p.kind == 2) = false := by simp [k2]
          by_cases k3 : p.kind = 3
          · rw [k3] at r0
            have K3 := hide k3
            by_cases hA : 1099511627776 < fv + p.n
            · have HNO : Hid (sizeL (l.take (0 + 1)) = none) := hide (by rw [unhide HST]; simp only [sizeStep]; rw [if_pos ⟨unhide HFB, unhide HFO⟩]; simp only [unhide K3, if_true, show ((3 : Int) = 2) = False from by simp, if_false]; rw [if_pos (.inl hA)])
              go_wp2_with fail
              go_ret3
              have hz := sizeL_none (unhide HNO)
              exact ⟨by unfold szVal; rw [hz]; rfl, unhide HB3⟩
            by_cases hB : 1099511627776 < tv
            · exfalso; omega
            have HNX : Hid (sizeL (l.take (0 + 1)) = some (fv + p.n, tv, p.kind)) := hide (by rw [unhide HST]; simp only [sizeStep]; rw [if_pos ⟨unhide HFB, unhide HFO⟩]; simp only [unhide K3, if_true, show ((3 : Int) = 2) = False from by simp, if_false]; rw [if_neg (by omega)])
            go_wp2_with fail
            exact ⟨⟨1, by omega, by simp, ⟨_, _, _, rfl, rfl, HNX⟩, HB3⟩, by simp [intOf]; omega⟩
          have k3b : (p.kind == 3) = false := by simp [k3]
          by_cases hA : 1099511627776 < fv + p.n
          · have HNO : Hid (sizeL (l.take (0 + 1)) = none) := hide (by rw [unhide HST]; simp only [sizeStep]; rw [if_pos ⟨unhide HFB, unhide HFO⟩]; simp only [k2, k3, if_false]; rw [if_pos (.inl hA)])
            go_wp2_with fail
            go_ret3
            have hz := sizeL_none (unhide HNO)
            exact ⟨by unfold szVal; rw [hz]; rfl, unhide HB3⟩
          by_cases hB : 1099511627776 < tv + p.n
          · have HNO : Hid (sizeL (l.take (0 + 1)) = none) := hide (by rw [unhide HST]; simp only [sizeStep]; rw [if_pos ⟨unhide HFB, unhide HFO⟩]; simp only [k2, k3, if_false]; rw [if_pos (.inr hB)])
            go_wp2_with fail
            go_ret3
            have hz := sizeL_none (unhide HNO)
            exact ⟨by unfold szVal; rw [hz]; rfl, unhide HB3⟩
          have HNX : Hid (sizeL (l.take (0 + 1)) = some (fv + p.n, tv + p.n, p.kind)) := hide (by rw [unhide HST]; simp only [sizeStep]; rw [if_pos ⟨unhide HFB, unhide HFO⟩]; simp only [k2, k3, if_false]; rw [if_neg (by omega)])
          go_wp2_with fail
          exact ⟨⟨1, by omega, by simp, ⟨_, _, _, rfl, rfl, HNX⟩, HB3⟩, by simp [intOf]; omega⟩
        · obtain ⟨j, rfl⟩ : ∃ j, k = j + 1 := ⟨k - 1, by omega⟩
          obtain ⟨q, hq⟩ : ∃ q, l[j]? = some q := ⟨_, List.getElem?_eq_getElem (by have := unhide HN; omega)⟩
          have hlv := sizeL_last hq (unhide HSZ)
          obtain ⟨b', off', hab, f0, f1, f2⟩ := (unhide HP).at_ (unhide HB) hq
          cases hab
          rw [hlv] at f0
          have hbl : b < wr.heap.size := by
            rcases (unhide HP).call (unhide HB) with h0 | ⟨b2, off2, he, hl2, _⟩
            · rw [h0] at hq; cases hq
            · cases he; exact hl2
          have HSS : Hid (∀ W, Below wA.heap.size wA W → W.cell? ⟨bb, 0, none⟩ = some (.int .i64 p.kind) ∧ W.cell? ⟨bb, 1, none⟩ = some (.int .i64 p.n) ∧ W.cell? ⟨bb, 2, none⟩ = some (.string p.text) ∧ W.cell? ⟨b, off + j * 3, none⟩ = some (.int .i64 lv)) := hide (fun W hW => ⟨((unhide HRW).below hW (unhide HRW).lt).cell 0, ((unhide HRW).below hW (unhide HRW).lt).cell 1, ((unhide HRW).below hW (unhide HRW).lt).cell 2, by rw [hW.cell (p := ⟨b, _, none⟩) (Nat.lt_of_lt_of_le hbl (unhide HBN).size), (unhide HBN).cell (p := ⟨b, _, none⟩) hbl]; exact f0⟩)
          clear HRW HBN hbl f0 f1 f2 hlv hq HPK
          have jI : (0 : Int) ≤ (j : Int) := by omega
          have jn : (j : Int) + 1 < (n : Int) := by omega
          have jn0 : (j : Int) < (n : Int) := by omega
          have j0 : (0 : Int) < (j : Int) + 1 := by omega
          have jw : IntKind.i64.wrap (j : Int) = (j : Int) := by rw [IntKind.wrap_i64]; omega
          simp only [show ((j + 1 : Nat) : Int) = (j : Int) + 1 from by push_cast; rfl] at kI ⊢
          by_cases hsk : lv = p.kind
          · have hskb : (lv == p.kind) = true := by simp [hsk]
            have HNF : Hid (followsB p.kind lv = false) := hide (by unfold followsB; simp [hsk])
            clear hsk
            refine wp_region_T (S := fun W => W.cell? ⟨bb, 0, none⟩ = some (.int .i64 p.kind) ∧ W.cell? ⟨bb, 1, none⟩ = some (.int .i64 p.n) ∧ W.cell? ⟨bb, 2, none⟩ = some (.string p.text) ∧ W.cell? ⟨b, off + j * 3, none⟩ = some (.int .i64 lv)) (fun i => decide (i < 32)) (by kernel_rfl) (unhide HSS _ (Below.refl _ _).drew) (fun hHeld => ?_)
            refine tk 0 (v := .agg #[.int .i64 p.kind, .int .i64 p.n, .string p.text]) rfl (Or.inl ⟨by rfl, ?_⟩) hHeld ?_
            · intro w hSw
              obtain ⟨s0, s1, s2, s3⟩ := hSw
              first
                | rfl
                | (go_simp; done)
            try go_frame
            refine wpAnyT_one (i := 1) (o := zrsz1) (by kernel_rfl) rfl (fun K hK => ?_)
            go_simp
            refine Calls.mono (unhide HFI _ (Below.refl _ _).drew) ?_
            rintro r w2 ⟨rfl, hb2⟩
            have HK2 := hide ((Below.refl wA.heap.size wA).drew.trans (hb2.mono (Below.refl wA.heap.size wA).drew.size))
            clear hb2
            go_wp2_with fail
            refine hK.out _ _ (fun _ => unhide HSS _ (unhide HK2)) ?_
            clear hK K
            try go_frame
            refine tk 2 (v := .bool false) rfl (Or.inl ⟨by rfl, ?_⟩) (unhide HSS _ (unhide HK2)) ?_
            · intro w hSw
              obtain ⟨s0, s1, s2, s3⟩ := hSw
              first
                | rfl
                | (go_simp; done)
            try go_frame
            refine tk 3 (v := .bool false) rfl (Or.inl ⟨by rfl, ?_⟩) (unhide HSS _ (unhide HK2)) ?_
            · intro w hSw
              obtain ⟨s0, s1, s2, s3⟩ := hSw
              first
                | rfl
                | (go_simp; done)
            try go_frame
            refine tk 4 (v := .int .i64 ((j : Int) + 1)) rfl (Or.inl ⟨by rfl, ?_⟩) (unhide HSS _ (unhide HK2)) ?_
            · intro w hSw
              obtain ⟨s0, s1, s2, s3⟩ := hSw
              first
                | rfl
                | (go_simp; done)
            try go_frame
            refine tk 5 (v := .bool true) rfl (Or.inl ⟨by rfl, ?_⟩) (unhide HSS _ (unhide HK2)) ?_
            · intro w hSw
              obtain ⟨s0, s1, s2, s3⟩ := hSw
              first
                | rfl
                | (go_simp; done)
            try go_frame
            refine tk 6 (v := .bool true) rfl (Or.inl ⟨by rfl, ?_⟩) (unhide HSS _ (unhide HK2)) ?_
            · intro w hSw
              obtain ⟨s0, s1, s2, s3⟩ := hSw
              first
                | rfl
                | (go_simp; done)
            try go_frame
            refine tk 7 (v := .slice (some ⟨b, off, none⟩) n c) rfl (Or.inl ⟨by rfl, ?_⟩) (unhide HSS _ (unhide HK2)) ?_
            · intro w hSw
              obtain ⟨s0, s1, s2, s3⟩ := hSw
              first
                | rfl
                | (go_simp; done)
            try go_frame
            refine tk 8 (v := .int .i64 ((j : Int) + 1)) rfl (Or.inl ⟨by rfl, ?_⟩) (unhide HSS _ (unhide HK2)) ?_
            · intro w hSw
              obtain ⟨s0, s1, s2, s3⟩ := hSw
              first
                | rfl
                | (go_simp; done)
            try go_frame
            refine tk 9 (v := .int .i64 (j : Int)) rfl (Or.inl ⟨by rfl, ?_⟩) (unhide HSS _ (unhide HK2)) ?_
            · intro w hSw
              obtain ⟨s0, s1, s2, s3⟩ := hSw
              first
                | rfl
                | (go_simp; done)
            try go_frame
            refine tk 10 (v := .pointer (some ⟨b, off + j * 3, none⟩)) rfl (Or.inl ⟨by rfl, ?_⟩) (unhide HSS _ (unhide HK2)) ?_
            · intro w hSw
              obtain ⟨s0, s1, s2, s3⟩ := hSw
              first
                | rfl
                | (go_simp; done)
            try go_frame
            refine tk 11 (v := .pointer (some ⟨b, off + j * 3, none⟩)) rfl (Or.inl ⟨by rfl, ?_⟩) (unhide HSS _ (unhide HK2)) ?_
            · intro w hSw
              obtain ⟨s0, s1, s2, s3⟩ := hSw
              first
                | rfl
                | (go_simp; done)
            try go_frame
            refine tk 12 (v := .int .i64 lv) rfl (Or.inl ⟨by rfl, ?_⟩) (unhide HSS _ (unhide HK2)) ?_
            · intro w hSw
              obtain ⟨s0, s1, s2, s3⟩ := hSw
              first
                | rfl
                | (go_simp; done)
            try go_frame
            refine tk 13 (v := .pointer (some ⟨bb, 0, none⟩)) rfl (Or.inl ⟨by rfl, ?_⟩) (unhide HSS _ (unhide HK2)) ?_
            · intro w hSw
              obtain ⟨s0, s1, s2, s3⟩ := hSw
              first
                | rfl
                | (go_simp; done)
            try go_frame
            refine tk 14 (v := .int .i64 p.kind) rfl (Or.inl ⟨by rfl, ?_⟩) (unhide HSS _ (unhide HK2)) ?_
            · intro w hSw
              obtain ⟨s0, s1, s2, s3⟩ := hSw
              first
                | rfl
                | (go_simp; done)
            try go_frame
            refine tk 15 (v := .bool true) rfl (Or.inl ⟨by rfl, ?_⟩) (unhide HSS _ (unhide HK2)) ?_
            · intro w hSw
              obtain ⟨s0, s1, s2, s3⟩ := hSw
              first
                | rfl
                | (go_simp; done)
            try go_frame
            refine tk 16 (v := .bool true) rfl (Or.inl ⟨by rfl, ?_⟩) (unhide HSS _ (unhide HK2)) ?_
            · intro w hSw
              obtain ⟨s0, s1, s2, s3⟩ := hSw
              first
                | rfl
                | (go_simp; done)
            try go_frame
            refine tk 17 (v := undef) rfl (Or.inr ⟨by rfl, rfl⟩) (unhide HSS _ (unhide HK2)) ?_
            try go_frame
            refine tk 18 (v := undef) rfl (Or.inr ⟨by rfl, rfl⟩) (unhide HSS _ (unhide HK2)) ?_
            try go_frame
            refine tk 19 (v := undef) rfl (Or.inr ⟨by rfl, rfl⟩) (unhide HSS _ (unhide HK2)) ?_
            try go_frame
            refine tk 20 (v := undef) rfl (Or.inr ⟨by rfl, rfl⟩) (unhide HSS _ (unhide HK2)) ?_
            try go_frame
            refine tk 21 (v := undef) rfl (Or.inr ⟨by rfl, rfl⟩) (unhide HSS _ (unhide HK2)) ?_
            try go_frame
            refine tk 22 (v := undef) rfl (Or.inr ⟨by rfl, rfl⟩) (unhide HSS _ (unhide HK2)) ?_
            try go_frame
            refine tk 23 (v := undef) rfl (Or.inr ⟨by rfl, rfl⟩) (unhide HSS _ (unhide HK2)) ?_
            try go_frame
            refine tk 24 (v := undef) rfl (Or.inr ⟨by rfl, rfl⟩) (unhide HSS _ (unhide HK2)) ?_
            try go_frame
            refine tk 25 (v := undef) rfl (Or.inr ⟨by rfl, rfl⟩) (unhide HSS _ (unhide HK2)) ?_
            try go_frame
            refine tk 26 (v := undef) rfl (Or.inr ⟨by rfl, rfl⟩) (unhide HSS _ (unhide HK2)) ?_
            try go_frame
            refine tk 27 (v := undef) rfl (Or.inr ⟨by rfl, rfl⟩) (unhide HSS _ (unhide HK2)) ?_
            try go_frame
            refine tk 28 (v := undef) rfl (Or.inr ⟨by rfl, rfl⟩) (unhide HSS _ (unhide HK2)) ?_
            try go_frame
            refine tk 29 (v := .bool true) rfl (Or.inl ⟨by rfl, ?_⟩) (unhide HSS _ (unhide HK2)) ?_
            · intro w hSw
              obtain ⟨s0, s1, s2, s3⟩ := hSw
              first
                | rfl
                | (go_simp; done)
            try go_frame
            refine tk 30 (v := .bool true) rfl (Or.inl ⟨by rfl, ?_⟩) (unhide HSS _ (unhide HK2)) ?_
            · intro w hSw
              obtain ⟨s0, s1, s2, s3⟩ := hSw
              first
                | rfl
                | (go_simp; done)
            try go_frame
            refine tk 31 (v := .bool true) rfl (Or.inl ⟨by rfl, ?_⟩) (unhide HSS _ (unhide HK2)) ?_
            · intro w hSw
              obtain ⟨s0, s1, s2, s3⟩ := hSw
              first
                | rfl
                | (go_simp; done)
            try go_frame
            refine wpAnyT_done (by kernel_rfl) ?_ _
            have HB2 := hide ((unhide HBA).trans ((unhide HK2).mono (unhide HBA).size))
            obtain ⟨r0, r1, r2, r3⟩ := unhide HSS _ (unhide HK2)
            clear HSS HFI HBA HK2 r3 r2
            have HB3 := HB2
            clear HB2
            have HNO : Hid (sizeL (l.take ((j + 1) + 1)) = none) := hide (by rw [unhide HST]; simp [sizeStep, unhide HNF])
            go_wp2_with fail
            go_ret3
            have hz := sizeL_none (unhide HNO)
            exact ⟨by unfold szVal; rw [hz]; rfl, unhide HB3⟩
          have hskb : (lv == p.kind) = false := by simp [hsk]
          by_cases hl3 : lv = 3
          · have hl3b : (lv == 3) = true := by simp [hl3]
            by_cases hk2 : p.kind = 2
            · have hk2b : (p.kind == 2) = true := by simp [hk2]
              have HNF : Hid (followsB p.kind lv = false) := hide (by unfold followsB; simp [hk2, hl3])
              clear hsk hk2 hl3
              refine wp_region_T (S := fun W => W.cell? ⟨bb, 0, none⟩ = some (.int .i64 p.kind) ∧ W.cell? ⟨bb, 1, none⟩ = some (.int .i64 p.n) ∧ W.cell? ⟨bb, 2, none⟩ = some (.string p.text) ∧ W.cell? ⟨b, off + j * 3, none⟩ = some (.int .i64 lv)) (fun i => decide (i < 32)) (by kernel_rfl) (unhide HSS _ (Below.refl _ _).drew) (fun hHeld => ?_)
              refine tk 0 (v := .agg #[.int .i64 p.kind, .int .i64 p.n, .string p.text]) rfl (Or.inl ⟨by rfl, ?_⟩) hHeld ?_
              · intro w hSw
                obtain ⟨s0, s1, s2, s3⟩ := hSw
                first
                  | rfl
                  | (go_simp; done)
              try go_frame
              refine wpAnyT_one (i := 1) (o := zrsz1) (by kernel_rfl) rfl (fun K hK => ?_)
              go_simp
              refine Calls.mono (unhide HFI _ (Below.refl _ _).drew) ?_
              rintro r w2 ⟨rfl, hb2⟩
              have HK2 := hide ((Below.refl wA.heap.size wA).drew.trans (hb2.mono (Below.refl wA.heap.size wA).drew.size))
              clear hb2
              go_wp2_with fail
              refine hK.out _ _ (fun _ => unhide HSS _ (unhide HK2)) ?_
              clear hK K
              try go_frame
              refine tk 2 (v := .bool false) rfl (Or.inl ⟨by rfl, ?_⟩) (unhide HSS _ (unhide HK2)) ?_
              · intro w hSw
                obtain ⟨s0, s1, s2, s3⟩ := hSw
                first
                  | rfl
                  | (go_simp; done)
              try go_frame
              refine tk 3 (v := .bool false) rfl (Or.inl ⟨by rfl, ?_⟩) (unhide HSS _ (unhide HK2)) ?_
              · intro w hSw
                obtain ⟨s0, s1, s2, s3⟩ := hSw
                first
                  | rfl
                  | (go_simp; done)
              try go_frame
              refine tk 4 (v := .int .i64 ((j : Int) + 1)) rfl (Or.inl ⟨by rfl, ?_⟩) (unhide HSS _ (unhide HK2)) ?_
              · intro w hSw
                obtain ⟨s0, s1, s2, s3⟩ := hSw
                first
                  | rfl
                  | (go_simp; done)
              try go_frame
              refine tk 5 (v := .bool true) rfl (Or.inl ⟨by rfl, ?_⟩) (unhide HSS _ (unhide HK2)) ?_
              · intro w hSw
                obtain ⟨s0, s1, s2, s3⟩ := hSw
                first
                  | rfl
                  | (go_simp; done)
              try go_frame
              refine tk 6 (v := .bool true) rfl (Or.inl ⟨by rfl, ?_⟩) (unhide HSS _ (unhide HK2)) ?_
              · intro w hSw
                obtain ⟨s0, s1, s2, s3⟩ := hSw
                first
                  | rfl
                  | (go_simp; done)
              try go_frame
              refine tk 7 (v := .slice (some ⟨b, off, none⟩) n c) rfl (Or.inl ⟨by rfl, ?_⟩) (unhide HSS _ (unhide HK2)) ?_
              · intro w hSw
                obtain ⟨s0, s1, s2, s3⟩ := hSw
                first
                  | rfl
                  | (go_simp; done)
              try go_frame
              refine tk 8 (v := .int .i64 ((j : Int) + 1)) rfl (Or.inl ⟨by rfl, ?_⟩) (unhide HSS _ (unhide HK2)) ?_
              · intro w hSw
                obtain ⟨s0, s1, s2, s3⟩ := hSw
                first
                  | rfl
                  | (go_simp; done)
              try go_frame
              refine tk 9 (v := .int .i64 (j : Int)) rfl (Or.inl ⟨by rfl, ?_⟩) (unhide HSS _ (unhide HK2)) ?_
              · intro w hSw
                obtain ⟨s0, s1, s2, s3⟩ := hSw
                first
                  | rfl
                  | (go_simp; done)
              try go_frame
              refine tk 10 (v := .pointer (some ⟨b, off + j * 3, none⟩)) rfl (Or.inl ⟨by rfl, ?_⟩) (unhide HSS _ (unhide HK2)) ?_
              · intro w hSw
                obtain ⟨s0, s1, s2, s3⟩ := hSw
                first
                  | rfl
                  | (go_simp; done)
              try go_frame
              refine tk 11 (v := .pointer (some ⟨b, off + j * 3, none⟩)) rfl (Or.inl ⟨by rfl, ?_⟩) (unhide HSS _ (unhide HK2)) ?_
              · intro w hSw
                obtain ⟨s0, s1, s2, s3⟩ := hSw
                first
                  | rfl
                  | (go_simp; done)
              try go_frame
              refine tk 12 (v := .int .i64 lv) rfl (Or.inl ⟨by rfl, ?_⟩) (unhide HSS _ (unhide HK2)) ?_
              · intro w hSw
                obtain ⟨s0, s1, s2, s3⟩ := hSw
                first
                  | rfl
                  | (go_simp; done)
              try go_frame
              refine tk 13 (v := .pointer (some ⟨bb, 0, none⟩)) rfl (Or.inl ⟨by rfl, ?_⟩) (unhide HSS _ (unhide HK2)) ?_
              · intro w hSw
                obtain ⟨s0, s1, s2, s3⟩ := hSw
                first
                  | rfl
                  | (go_simp; done)
              try go_frame
              refine tk 14 (v := .int .i64 p.kind) rfl (Or.inl ⟨by rfl, ?_⟩) (unhide HSS _ (unhide HK2)) ?_
              · intro w hSw
                obtain ⟨s0, s1, s2, s3⟩ := hSw
                first
                  | rfl
                  | (go_simp; done)
              try go_frame
              refine tk 15 (v := .bool false) rfl (Or.inl ⟨by rfl, ?_⟩) (unhide HSS _ (unhide HK2)) ?_
              · intro w hSw
                obtain ⟨s0, s1, s2, s3⟩ := hSw
                first
                  | rfl
                  | (go_simp; done)
              try go_frame
              refine tk 16 (v := .bool false) rfl (Or.inl ⟨by rfl, ?_⟩) (unhide HSS _ (unhide HK2)) ?_
              · intro w hSw
                obtain ⟨s0, s1, s2, s3⟩ := hSw
                first
                  | rfl
                  | (go_simp; done)
              try go_frame
              refine tk 17 (v := .slice (some ⟨b, off, none⟩) n c) rfl (Or.inl ⟨by rfl, ?_⟩) (unhide HSS _ (unhide HK2)) ?_
              · intro w hSw
                obtain ⟨s0, s1, s2, s3⟩ := hSw
                first
                  | rfl
                  | (go_simp; done)
              try go_frame
              refine tk 18 (v := .int .i64 ((j : Int) + 1)) rfl (Or.inl ⟨by rfl, ?_⟩) (unhide HSS _ (unhide HK2)) ?_
              · intro w hSw
                obtain ⟨s0, s1, s2, s3⟩ := hSw
                first
                  | rfl
                  | (go_simp; done)
              try go_frame
              refine tk 19 (v := .int .i64 (j : Int)) rfl (Or.inl ⟨by rfl, ?_⟩) (unhide HSS _ (unhide HK2)) ?_
              · intro w hSw
                obtain ⟨s0, s1, s2, s3⟩ := hSw
                first
                  | rfl
                  | (go_simp; done)
              try go_frame
              refine tk 20 (v := .pointer (some ⟨b, off + j * 3, none⟩)) rfl (Or.inl ⟨by rfl, ?_⟩) (unhide HSS _ (unhide HK2)) ?_
              · intro w hSw
                obtain ⟨s0, s1, s2, s3⟩ := hSw
                first
                  | rfl
                  | (go_simp; done)
              try go_frame
              refine tk 21 (v := .pointer (some ⟨b, off + j * 3, none⟩)) rfl (Or.inl ⟨by rfl, ?_⟩) (unhide HSS _ (unhide HK2)) ?_
              · intro w hSw
                obtain ⟨s0, s1, s2, s3⟩ := hSw
                first
                  | rfl
                  | (go_simp; done)
              try go_frame
              refine tk 22 (v := .int .i64 lv) rfl (Or.inl ⟨by rfl, ?_⟩) (unhide HSS _ (unhide HK2)) ?_
              · intro w hSw
                obtain ⟨s0, s1, s2, s3⟩ := hSw
                first
                  | rfl
                  | (go_simp; done)
              try go_frame
              refine tk 23 (v := .bool true) rfl (Or.inl ⟨by rfl, ?_⟩) (unhide HSS _ (unhide HK2)) ?_
              · intro w hSw
                obtain ⟨s0, s1, s2, s3⟩ := hSw
                first
                  | rfl
                  | (go_simp; done)
              try go_frame
              refine tk 24 (v := .bool true) rfl (Or.inl ⟨by rfl, ?_⟩) (unhide HSS _ (unhide HK2)) ?_
              · intro w hSw
                obtain ⟨s0, s1, s2, s3⟩ := hSw
                first
                  | rfl
                  | (go_simp; done)
              try go_frame
              refine tk 25 (v := .pointer (some ⟨bb, 0, none⟩)) rfl (Or.inl ⟨by rfl, ?_⟩) (unhide HSS _ (unhide HK2)) ?_
              · intro w hSw
                obtain ⟨s0, s1, s2, s3⟩ := hSw
                first
                  | rfl
                  | (go_simp; done)
              try go_frame
              refine tk 26 (v := .int .i64 p.kind) rfl (Or.inl ⟨by rfl, ?_⟩) (unhide HSS _ (unhide HK2)) ?_
              · intro w hSw
                obtain ⟨s0, s1, s2, s3⟩ := hSw
                first
                  | rfl
                  | (go_simp; done)
              try go_frame
              refine tk 27 (v := .bool true) rfl (Or.inl ⟨by rfl, ?_⟩) (unhide HSS _ (unhide HK2)) ?_
              · intro w hSw
                obtain ⟨s0, s1, s2, s3⟩ := hSw
                first
                  | rfl
                  | (go_simp; done)
              try go_frame
              refine tk 28 (v := .bool true) rfl (Or.inl ⟨by rfl, ?_⟩) (unhide HSS _ (unhide HK2)) ?_
              · intro w hSw
                obtain ⟨s0, s1, s2, s3⟩ := hSw
                first
                  | rfl
                  | (go_simp; done)
              try go_frame
              refine tk 29 (v := .bool true) rfl (Or.inl ⟨by rfl, ?_⟩) (unhide HSS _ (unhide HK2)) ?_
              · intro w hSw
                obtain ⟨s0, s1, s2, s3⟩ := hSw
                first
                  | rfl
                  | (go_simp; done)
              try go_frame
              refine tk 30 (v := .bool true) rfl (Or.inl ⟨by rfl, ?_⟩) (unhide HSS _ (unhide HK2)) ?_
              · intro w hSw
                obtain ⟨s0, s1, s2, s3⟩ := hSw
                first
                  | rfl
                  | (go_simp; done)
              try go_frame
              refine tk 31 (v := .bool true) rfl (Or.inl ⟨by rfl, ?_⟩) (unhide HSS _ (unhide HK2)) ?_
              · intro w hSw
                obtain ⟨s0, s1, s2, s3⟩ := hSw
                first
                  | rfl
                  | (go_simp; done)
              try go_frame
              refine wpAnyT_done (by kernel_rfl) ?_ _
              have HB2 := hide ((unhide HBA).trans ((unhide HK2).mono (unhide HBA).size))
              obtain ⟨r0, r1, r2, r3⟩ := unhide HSS _ (unhide HK2)
              clear HSS HFI HBA HK2 r3 r2
              have HB3 := HB2
              clear HB2
              have HNO : Hid (sizeL (l.take ((j + 1) + 1)) = none) := hide (by rw [unhide HST]; simp [sizeStep, unhide HNF])
              go_wp2_with fail
              go_ret3
              have hz := sizeL_none (unhide HNO)
              exact ⟨by unfold szVal; rw [hz]; rfl, unhide HB3⟩
            · have hk2b : (p.kind == 2) = false := by simp [hk2]
              have HFO : Hid (followsB p.kind lv = true) := hide (by unfold followsB; simp [hk2]; omega)
              clear hsk hk2 hl3
              refine wp_region_T (S := fun W => W.cell? ⟨bb, 0, none⟩ = some (.int .i64 p.kind) ∧ W.cell? ⟨bb, 1, none⟩ = some (.int .i64 p.n) ∧ W.cell? ⟨bb, 2, none⟩ = some (.string p.text) ∧ W.cell? ⟨b, off + j * 3, none⟩ = some (.int .i64 lv)) (fun i => decide (i < 32)) (by kernel_rfl) (unhide HSS _ (Below.refl _ _).drew) (fun hHeld => ?_)
              refine tk 0 (v := .agg #[.int .i64 p.kind, .int .i64 p.n, .string p.text]) rfl (Or.inl ⟨by rfl, ?_⟩) hHeld ?_
              · intro w hSw
                obtain ⟨s0, s1, s2, s3⟩ := hSw
                first
                  | rfl
                  | (go_simp; done)
              try go_frame
              refine wpAnyT_one (i := 1) (o := zrsz1) (by kernel_rfl) rfl (fun K hK => ?_)
              go_simp
              refine Calls.mono (unhide HFI _ (Below.refl _ _).drew) ?_
              rintro r w2 ⟨rfl, hb2⟩
              have HK2 := hide ((Below.refl wA.heap.size wA).drew.trans (hb2.mono (Below.refl wA.heap.size wA).drew.size))
              clear hb2
              go_wp2_with fail
              refine hK.out _ _ (fun _ => unhide HSS _ (unhide HK2)) ?_
              clear hK K
              try go_frame
              refine tk 2 (v := .bool false) rfl (Or.inl ⟨by rfl, ?_⟩) (unhide HSS _ (unhide HK2)) ?_
              · intro w hSw
                obtain ⟨s0, s1, s2, s3⟩ := hSw
                first
                  | rfl
                  | (go_simp; done)
              try go_frame
              refine tk 3 (v := .bool false) rfl (Or.inl ⟨by rfl, ?_⟩) (unhide HSS _ (unhide HK2)) ?_
              · intro w hSw
                obtain ⟨s0, s1, s2, s3⟩ := hSw
                first
                  | rfl
                  | (go_simp; done)
              try go_frame
              refine tk 4 (v := .int .i64 ((j : Int) + 1)) rfl (Or.inl ⟨by rfl, ?_⟩) (unhide HSS _ (unhide HK2)) ?_
              · intro w hSw
                obtain ⟨s0, s1, s2, s3⟩ := hSw
                first
                  | rfl
                  | (go_simp; done)
              try go_frame
              refine tk 5 (v := .bool true) rfl (Or.inl ⟨by rfl, ?_⟩) (unhide HSS _ (unhide HK2)) ?_
              · intro w hSw
                obtain ⟨s0, s1, s2, s3⟩ := hSw
                first
                  | rfl
                  | (go_simp; done)
              try go_frame
              refine tk 6 (v := .bool true) rfl (Or.inl ⟨by rfl, ?_⟩) (unhide HSS _ (unhide HK2)) ?_
              · intro w hSw
                obtain ⟨s0, s1, s2, s3⟩ := hSw
                first
                  | rfl
                  | (go_simp; done)
              try go_frame
              refine tk 7 (v := .slice (some ⟨b, off, none⟩) n c) rfl (Or.inl ⟨by rfl, ?_⟩) (unhide HSS _ (unhide HK2)) ?_
              · intro w hSw
                obtain ⟨s0, s1, s2, s3⟩ := hSw
                first
                  | rfl
                  | (go_simp; done)
              try go_frame
              refine tk 8 (v := .int .i64 ((j : Int) + 1)) rfl (Or.inl ⟨by rfl, ?_⟩) (unhide HSS _ (unhide HK2)) ?_
              · intro w hSw
                obtain ⟨s0, s1, s2, s3⟩ := hSw
                first
                  | rfl
                  | (go_simp; done)
              try go_frame
              refine tk 9 (v := .int .i64 (j : Int)) rfl (Or.inl ⟨by rfl, ?_⟩) (unhide HSS _ (unhide HK2)) ?_
              · intro w hSw
                obtain ⟨s0, s1, s2, s3⟩ := hSw
                first
                  | rfl
                  | (go_simp; done)
              try go_frame
              refine tk 10 (v := .pointer (some ⟨b, off + j * 3, none⟩)) rfl (Or.inl ⟨by rfl, ?_⟩) (unhide HSS _ (unhide HK2)) ?_
              · intro w hSw
                obtain ⟨s0, s1, s2, s3⟩ := hSw
                first
                  | rfl
                  | (go_simp; done)
              try go_frame
              refine tk 11 (v := .pointer (some ⟨b, off + j * 3, none⟩)) rfl (Or.inl ⟨by rfl, ?_⟩) (unhide HSS _ (unhide HK2)) ?_
              · intro w hSw
                obtain ⟨s0, s1, s2, s3⟩ := hSw
                first
                  | rfl
                  | (go_simp; done)
              try go_frame
              refine tk 12 (v := .int .i64 lv) rfl (Or.inl ⟨by rfl, ?_⟩) (unhide HSS _ (unhide HK2)) ?_
              · intro w hSw
                obtain ⟨s0, s1, s2, s3⟩ := hSw
                first
                  | rfl
                  | (go_simp; done)
              try go_frame
              refine tk 13 (v := .pointer (some ⟨bb, 0, none⟩)) rfl (Or.inl ⟨by rfl, ?_⟩) (unhide HSS _ (unhide HK2)) ?_
              · intro w hSw
                obtain ⟨s0, s1, s2, s3⟩ := hSw
                first
                  | rfl
                  | (go_simp; done)
              try go_frame
              refine tk 14 (v := .int .i64 p.kind) rfl (Or.inl ⟨by rfl, ?_⟩) (unhide HSS _ (unhide HK2)) ?_
              · intro w hSw
                obtain ⟨s0, s1, s2, s3⟩ := hSw
                first
                  | rfl
                  | (go_simp; done)
              try go_frame
              refine tk 15 (v := .bool false) rfl (Or.inl ⟨by rfl, ?_⟩) (unhide HSS _ (unhide HK2)) ?_
              · intro w hSw
                obtain ⟨s0, s1, s2, s3⟩ := hSw
                first
                  | rfl
                  | (go_simp; done)
              try go_frame
              refine tk 16 (v := .bool false) rfl (Or.inl ⟨by rfl, ?_⟩) (unhide HSS _ (unhide HK2)) ?_
              · intro w hSw
                obtain ⟨s0, s1, s2, s3⟩ := hSw
                first
                  | rfl
                  | (go_simp; done)
              try go_frame
              refine tk 17 (v := .slice (some ⟨b, off, none⟩) n c) rfl (Or.inl ⟨by rfl, ?_⟩) (unhide HSS _ (unhide HK2)) ?_
              · intro w hSw
                obtain ⟨s0, s1, s2, s3⟩ := hSw
                first
                  | rfl
                  | (go_simp; done)
              try go_frame
              refine tk 18 (v := .int .i64 ((j : Int) + 1)) rfl (Or.inl ⟨by rfl, ?_⟩) (unhide HSS _ (unhide HK2)) ?_
              · intro w hSw
                obtain ⟨s0, s1, s2, s3⟩ := hSw
                first
                  | rfl
                  | (go_simp; done)
              try go_frame
              refine tk 19 (v := .int .i64 (j : Int)) rfl (Or.inl ⟨by rfl, ?_⟩) (unhide HSS _ (unhide HK2)) ?_
              · intro w hSw
                obtain ⟨s0, s1, s2, s3⟩ := hSw
                first
                  | rfl
                  | (go_simp; done)
              try go_frame
              refine tk 20 (v := .pointer (some ⟨b, off + j * 3, none⟩)) rfl (Or.inl ⟨by rfl, ?_⟩) (unhide HSS _ (unhide HK2)) ?_
              · intro w hSw
                obtain ⟨s0, s1, s2, s3⟩ := hSw
                first
                  | rfl
                  | (go_simp; done)
              try go_frame
              refine tk 21 (v := .pointer (some ⟨b, off + j * 3, none⟩)) rfl (Or.inl ⟨by rfl, ?_⟩) (unhide HSS _ (unhide HK2)) ?_
              · intro w hSw
                obtain ⟨s0, s1, s2, s3⟩ := hSw
                first
                  | rfl
                  | (go_simp; done)
              try go_frame
              refine tk 22 (v := .int .i64 lv) rfl (Or.inl ⟨by rfl, ?_⟩) (unhide HSS _ (unhide HK2)) ?_
              · intro w hSw
                obtain ⟨s0, s1, s2, s3⟩ := hSw
                first
                  | rfl
                  | (go_simp; done)
              try go_frame
              refine tk 23 (v := .bool true) rfl (Or.inl ⟨by rfl, ?_⟩) (unhide HSS _ (unhide HK2)) ?_
              · intro w hSw
                obtain ⟨s0, s1, s2, s3⟩ := hSw
                first
                  | rfl
                  | (go_simp; done)
              try go_frame
              refine tk 24 (v := .bool true) rfl (Or.inl ⟨by rfl, ?_⟩) (unhide HSS _ (unhide HK2)) ?_
              · intro w hSw
                obtain ⟨s0, s1, s2, s3⟩ := hSw
                first
                  | rfl
                  | (go_simp; done)
              try go_frame
              refine tk 25 (v := .pointer (some ⟨bb, 0, none⟩)) rfl (Or.inl ⟨by rfl, ?_⟩) (unhide HSS _ (unhide HK2)) ?_
              · intro w hSw
                obtain ⟨s0, s1, s2, s3⟩ := hSw
                first
                  | rfl
                  | (go_simp; done)
              try go_frame
              refine tk 26 (v := .int .i64 p.kind) rfl (Or.inl ⟨by rfl, ?_⟩) (unhide HSS _ (unhide HK2)) ?_
              · intro w hSw
                obtain ⟨s0, s1, s2, s3⟩ := hSw
                first
                  | rfl
                  | (go_simp; done)
              try go_frame
              refine tk 27 (v := .bool false) rfl (Or.inl ⟨by rfl, ?_⟩) (unhide HSS _ (unhide HK2)) ?_
              · intro w hSw
                obtain ⟨s0, s1, s2, s3⟩ := hSw
                first
                  | rfl
                  | (go_simp; done)
              try go_frame
              refine tk 28 (v := .bool false) rfl (Or.inl ⟨by rfl, ?_⟩) (unhide HSS _ (unhide HK2)) ?_
              · intro w hSw
                obtain ⟨s0, s1, s2, s3⟩ := hSw
                first
                  | rfl
                  | (go_simp; done)
              try go_frame
              refine tk 29 (v := .bool false) rfl (Or.inl ⟨by rfl, ?_⟩) (unhide HSS _ (unhide HK2)) ?_
              · intro w hSw
                obtain ⟨s0, s1, s2, s3⟩ := hSw
                first
                  | rfl
                  | (go_simp; done)
              try go_frame
              refine tk 30 (v := .bool false) rfl (Or.inl ⟨by rfl, ?_⟩) (unhide HSS _ (unhide HK2)) ?_
              · intro w hSw
                obtain ⟨s0, s1, s2, s3⟩ := hSw
                first
                  | rfl
                  | (go_simp; done)
              try go_frame
              refine tk 31 (v := .bool false) rfl (Or.inl ⟨by rfl, ?_⟩) (unhide HSS _ (unhide HK2)) ?_
              · intro w hSw
                obtain ⟨s0, s1, s2, s3⟩ := hSw
                first
                  | rfl
                  | (go_simp; done)
              try go_frame
              refine wpAnyT_done (by kernel_rfl) ?_ _
              have HB2 := hide ((unhide HBA).trans ((unhide HK2).mono (unhide HBA).size))
              obtain ⟨r0, r1, r2, r3⟩ := unhide HSS _ (unhide HK2)
              clear HSS HFI HBA HK2 r3 r2
              have HB3 := HB2
              clear HB2
              by_cases k2 : p.kind = 2
              · rw [k2] at r0
                have K2 := hide k2
                by_cases hA : 1099511627776 < fv
                · exfalso; omega
                by_cases hB : 1099511627776 < tv + p.n
                · have HNO : Hid (sizeL (l.take (j + 1 + 1)) = none) := hide (by rw [unhide HST]; simp only [sizeStep]; rw [if_pos ⟨unhide HFB, unhide HFO⟩]; simp only [unhide K2, if_true, show ((2 : Int) = 3) = False from by simp, if_false]; rw [if_pos (.inr hB)])
                  go_wp2_with fail
                  go_ret3
                  have hz := sizeL_none (unhide HNO)
                  exact ⟨by unfold szVal; rw [hz]; rfl, unhide HB3⟩
                have HNX : Hid (sizeL (l.take (j + 1 + 1)) = some (fv, tv + p.n, p.kind)) := hide (by rw [unhide HST]; simp only [sizeStep]; rw [if_pos ⟨unhide HFB, unhide HFO⟩]; simp only [unhide K2, if_true, show ((2 : Int) = 3) = False from by simp, if_false]; rw [if_neg (by omega)])
                go_wp2_with fail
                exact ⟨⟨j + 1 + 1, by omega, by simp, ⟨_, _, _, rfl, rfl, HNX⟩, HB3⟩, by simp [intOf]; omega⟩
              have k2b : (p.kind == 2) = false := by simp [k2]
              by_cases k3 : p.kind = 3
              · rw [k3] at r0
                have K3 := hide k3
                by_cases hA : 1099511627776 < fv + p.n
                · have HNO : Hid (sizeL (l.take (j + 1 + 1)) = none) := hide (by rw [unhide HST]; simp only [sizeStep]; rw [if_pos ⟨unhide HFB, unhide HFO⟩]; simp only [unhide K3, if_true, show ((3 : Int) = 2) = False from by simp, if_false]; rw [if_pos (.inl hA)])
                  go_wp2_with fail
                  go_ret3
                  have hz := sizeL_none (unhide HNO)
                  exact ⟨by unfold szVal; rw [hz]; rfl, unhide HB3⟩
                by_cases hB : 1099511627776 < tv
                · exfalso; omega
                have HNX : Hid (sizeL (l.take (j + 1 + 1)) = some (fv + p.n, tv, p.kind)) := hide (by rw [unhide HST]; simp only [sizeStep]; rw [if_pos ⟨unhide HFB, unhide HFO⟩]; simp only [unhide K3, if_true, show ((3 : Int) = 2) = False from by simp, if_false]; rw [if_neg (by omega)])
                go_wp2_with fail
                exact ⟨⟨j + 1 + 1, by omega, by simp, ⟨_, _, _, rfl, rfl, HNX⟩, HB3⟩, by simp [intOf]; omega⟩
              have k3b : (p.kind == 3) = false := by simp [k3]
              by_cases hA : 1099511627776 < fv + p.n
              · have HNO : Hid (sizeL (l.take (j + 1 + 1)) = none) := hide (by rw [unhide HST]; simp only [sizeStep]; rw [if_pos ⟨unhide HFB, unhide HFO⟩]; simp only [k2, k3, if_false]; rw [if_pos (.inl hA)])
                go_wp2_with fail
                go_ret3
                have hz := sizeL_none (unhide HNO)
                exact ⟨by unfold szVal; rw [hz]; rfl, unhide HB3⟩
              by_cases hB : 1099511627776 < tv + p.n
              · have HNO : Hid (sizeL (l.take (j + 1 + 1)) = none) := hide (by rw [unhide HST]; simp only [sizeStep]; rw [if_pos ⟨unhide HFB, unhide HFO⟩]; simp only [k2, k3, if_false]; rw [if_pos (.inr hB)])
                go_wp2_with fail
                go_ret3
                have hz := sizeL_none (unhide HNO)
                exact ⟨by unfold szVal; rw [hz]; rfl, unhide HB3⟩
              have HNX : Hid (sizeL (l.take (j + 1 + 1)) = some (fv + p.n, tv + p.n, p.kind)) := hide (by rw [unhide HST]; simp only [sizeStep]; rw [if_pos ⟨unhide HFB, unhide HFO⟩]; simp only [k2, k3, if_false]; rw [if_neg (by omega)])
              go_wp2_with fail
              exact ⟨⟨j + 1 + 1, by omega, by simp, ⟨_, _, _, rfl, rfl, HNX⟩, HB3⟩, by simp [intOf]; omega⟩
          · have hl3b : (lv == 3) = false := by simp [hl3]
            have HFO : Hid (followsB p.kind lv = true) := hide (by unfold followsB; simp [hl3]; omega)
            clear hsk hl3
            refine wp_region_T (S := fun W => W.cell? ⟨bb, 0, none⟩ = some (.int .i64 p.kind) ∧ W.cell? ⟨bb, 1, none⟩ = some (.int .i64 p.n) ∧ W.cell? ⟨bb, 2, none⟩ = some (.string p.text) ∧ W.cell? ⟨b, off + j * 3, none⟩ = some (.int .i64 lv)) (fun i => decide (i < 32)) (by kernel_rfl) (unhide HSS _ (Below.refl _ _).drew) (fun hHeld => ?_)
            refine tk 0 (v := .agg #[.int .i64 p.kind, .int .i64 p.n, .string p.text]) rfl (Or.inl ⟨by rfl, ?_⟩) hHeld ?_
            · intro w hSw
              obtain ⟨s0, s1, s2, s3⟩ := hSw
              first
                | rfl
                | (go_simp; done)
            try go_frame
            refine wpAnyT_one (i := 1) (o := zrsz1) (by kernel_rfl) rfl (fun K hK => ?_)
            go_simp
            refine Calls.mono (unhide HFI _ (Below.refl _ _).drew) ?_
            rintro r w2 ⟨rfl, hb2⟩
            have HK2 := hide ((Below.refl wA.heap.size wA).drew.trans (hb2.mono (Below.refl wA.heap.size wA).drew.size))
            clear hb2
            go_wp2_with fail
            refine hK.out _ _ (fun _ => unhide HSS _ (unhide HK2)) ?_
            clear hK K
            try go_frame
            refine tk 2 (v := .bool false) rfl (Or.inl ⟨by rfl, ?_⟩) (unhide HSS _ (unhide HK2)) ?_
            · intro w hSw
              obtain ⟨s0, s1, s2, s3⟩ := hSw
              first
                | rfl
                | (go_simp; done)
            try go_frame
            refine tk 3 (v := .bool false) rfl (Or.inl ⟨by rfl, ?_⟩) (unhide HSS _ (unhide HK2)) ?_
            · intro w hSw
              obtain ⟨s0, s1, s2, s3⟩ := hSw
              first
                | rfl
                | (go_simp; done)
            try go_frame
            refine tk 4 (v := .int .i64 ((j : Int) + 1)) rfl (Or.inl ⟨by rfl, ?_⟩) (unhide HSS _ (unhide HK2)) ?_
            · intro w hSw
              obtain ⟨s0, s1, s2, s3⟩ := hSw
              first
                | rfl
                | (go_simp; done)
            try go_frame
            refine tk 5 (v := .bool true) rfl (Or.inl ⟨by rfl, ?_⟩) (unhide HSS _ (unhide HK2)) ?_
            · intro w hSw
              obtain ⟨s0, s1, s2, s3⟩ := hSw
              first
                | rfl
                | (go_simp; done)
            try go_frame
            refine tk 6 (v := .bool true) rfl (Or.inl ⟨by rfl, ?_⟩) (unhide HSS _ (unhide HK2)) ?_
            · intro w hSw
              obtain ⟨s0, s1, s2, s3⟩ := hSw
              first
                | rfl
                | (go_simp; done)
            try go_frame
            refine tk 7 (v := .slice (some ⟨b, off, none⟩) n c) rfl (Or.inl ⟨by rfl, ?_⟩) (unhide HSS _ (unhide HK2)) ?_
            · intro w hSw
              obtain ⟨s0, s1, s2, s3⟩ := hSw
              first
                | rfl
                | (go_simp; done)
            try go_frame
            refine tk 8 (v := .int .i64 ((j : Int) + 1)) rfl (Or.inl ⟨by rfl, ?_⟩) (unhide HSS _ (unhide HK2)) ?_
            · intro w hSw
              obtain ⟨s0, s1, s2, s3⟩ := hSw
              first
                | rfl
                | (go_simp; done)
            try go_frame
            refine tk 9 (v := .int .i64 (j : Int)) rfl (Or.inl ⟨by rfl, ?_⟩) (unhide HSS _ (unhide HK2)) ?_
            · intro w hSw
              obtain ⟨s0, s1, s2, s3⟩ := hSw
              first
                | rfl
                | (go_simp; done)
            try go_frame
            refine tk 10 (v := .pointer (some ⟨b, off + j * 3, none⟩)) rfl (Or.inl ⟨by rfl, ?_⟩) (unhide HSS _ (unhide HK2)) ?_
            · intro w hSw
              obtain ⟨s0, s1, s2, s3⟩ := hSw
              first
                | rfl
                | (go_simp; done)
            try go_frame
            refine tk 11 (v := .pointer (some ⟨b, off + j * 3, none⟩)) rfl (Or.inl ⟨by rfl, ?_⟩) (unhide HSS _ (unhide HK2)) ?_
            · intro w hSw
              obtain ⟨s0, s1, s2, s3⟩ := hSw
              first
                | rfl
                | (go_simp; done)
            try go_frame
            refine tk 12 (v := .int .i64 lv) rfl (Or.inl ⟨by rfl, ?_⟩) (unhide HSS _ (unhide HK2)) ?_
            · intro w hSw
              obtain ⟨s0, s1, s2, s3⟩ := hSw
              first
                | rfl
                | (go_simp; done)
            try go_frame
            refine tk 13 (v := .pointer (some ⟨bb, 0, none⟩)) rfl (Or.inl ⟨by rfl, ?_⟩) (unhide HSS _ (unhide HK2)) ?_
            · intro w hSw
              obtain ⟨s0, s1, s2, s3⟩ := hSw
              first
                | rfl
                | (go_simp; done)
            try go_frame
            refine tk 14 (v := .int .i64 p.kind) rfl (Or.inl ⟨by rfl, ?_⟩) (unhide HSS _ (unhide HK2)) ?_
            · intro w hSw
              obtain ⟨s0, s1, s2, s3⟩ := hSw
              first
                | rfl
                | (go_simp; done)
            try go_frame
            refine tk 15 (v := .bool false) rfl (Or.inl ⟨by rfl, ?_⟩) (unhide HSS _ (unhide HK2)) ?_
            · intro w hSw
              obtain ⟨s0, s1, s2, s3⟩ := hSw
              first
                | rfl
                | (go_simp; done)
            try go_frame
            refine tk 16 (v := .bool false) rfl (Or.inl ⟨by rfl, ?_⟩) (unhide HSS _ (unhide HK2)) ?_
            · intro w hSw
              obtain ⟨s0, s1, s2, s3⟩ := hSw
              first
                | rfl
                | (go_simp; done)
            try go_frame
            refine tk 17 (v := .slice (some ⟨b, off, none⟩) n c) rfl (Or.inl ⟨by rfl, ?_⟩) (unhide HSS _ (unhide HK2)) ?_
            · intro w hSw
              obtain ⟨s0, s1, s2, s3⟩ := hSw
              first
                | rfl
                | (go_simp; done)
            try go_frame
            refine tk 18 (v := .int .i64 ((j : Int) + 1)) rfl (Or.inl ⟨by rfl, ?_⟩) (unhide HSS _ (unhide HK2)) ?_
            · intro w hSw
              obtain ⟨s0, s1, s2, s3⟩ := hSw
              first
                | rfl
                | (go_simp; done)
            try go_frame
            refine tk 19 (v := .int .i64 (j : Int)) rfl (Or.inl ⟨by rfl, ?_⟩) (unhide HSS _ (unhide HK2)) ?_
            · intro w hSw
              obtain ⟨s0, s1, s2, s3⟩ := hSw
              first
                | rfl
                | (go_simp; done)
            try go_frame
            refine tk 20 (v := .pointer (some ⟨b, off + j * 3, none⟩)) rfl (Or.inl ⟨by rfl, ?_⟩) (unhide HSS _ (unhide HK2)) ?_
            · intro w hSw
              obtain ⟨s0, s1, s2, s3⟩ := hSw
              first
                | rfl
                | (go_simp; done)
            try go_frame
            refine tk 21 (v := .pointer (some ⟨b, off + j * 3, none⟩)) rfl (Or.inl ⟨by rfl, ?_⟩) (unhide HSS _ (unhide HK2)) ?_
            · intro w hSw
              obtain ⟨s0, s1, s2, s3⟩ := hSw
              first
                | rfl
                | (go_simp; done)
            try go_frame
            refine tk 22 (v := .int .i64 lv) rfl (Or.inl ⟨by rfl, ?_⟩) (unhide HSS _ (unhide HK2)) ?_
            · intro w hSw
              obtain ⟨s0, s1, s2, s3⟩ := hSw
              first
                | rfl
                | (go_simp; done)
            try go_frame
            refine tk 23 (v := .bool false) rfl (Or.inl ⟨by rfl, ?_⟩) (unhide HSS _ (unhide HK2)) ?_
            · intro w hSw
              obtain ⟨s0, s1, s2, s3⟩ := hSw
              first
                | rfl
                | (go_simp; done)
            try go_frame
            refine tk 24 (v := .bool false) rfl (Or.inl ⟨by rfl, ?_⟩) (unhide HSS _ (unhide HK2)) ?_
            · intro w hSw
              obtain ⟨s0, s1, s2, s3⟩ := hSw
              first
                | rfl
                | (go_simp; done)
            try go_frame
            refine tk 25 (v := undef) rfl (Or.inr ⟨by rfl, rfl⟩) (unhide HSS _ (unhide HK2)) ?_
            try go_frame
            refine tk 26 (v := undef) rfl (Or.inr ⟨by rfl, rfl⟩) (unhide HSS _ (unhide HK2)) ?_
            try go_frame
            refine tk 27 (v := undef) rfl (Or.inr ⟨by rfl, rfl⟩) (unhide HSS _ (unhide HK2)) ?_
            try go_frame
            refine tk 28 (v := .bool false) rfl (Or.inl ⟨by rfl, ?_⟩) (unhide HSS _ (unhide HK2)) ?_
            · intro w hSw
              obtain ⟨s0, s1, s2, s3⟩ := hSw
              first
                | rfl
                | (go_simp; done)
            try go_frame
            refine tk 29 (v := .bool false) rfl (Or.inl ⟨by rfl, ?_⟩) (unhide HSS _ (unhide HK2)) ?_
            · intro w hSw
              obtain ⟨s0, s1, s2, s3⟩ := hSw
              first
                | rfl
                | (go_simp; done)
            try go_frame
            refine tk 30 (v := .bool false) rfl (Or.inl ⟨by rfl, ?_⟩) (unhide HSS _ (unhide HK2)) ?_
            · intro w hSw
              obtain ⟨s0, s1, s2, s3⟩ := hSw
              first
                | rfl
                | (go_simp; done)
            try go_frame
            refine tk 31 (v := .bool false) rfl (Or.inl ⟨by rfl, ?_⟩) (unhide HSS _ (unhide HK2)) ?_
            · intro w hSw
              obtain ⟨s0, s1, s2, s3⟩ := hSw
              first
                | rfl
                | (go_simp; done)
            try go_frame
            refine wpAnyT_done (by kernel_rfl) ?_ _
            have HB2 := hide ((unhide HBA).trans ((unhide HK2).mono (unhide HBA).size))
            obtain ⟨r0, r1, r2, r3⟩ := unhide HSS _ (unhide HK2)
            clear HSS HFI HBA HK2 r3 r2
            have HB3 := HB2
            clear HB2
            by_cases k2 : p.kind = 2
            · rw [k2] at r0
              have K2 := hide k2
              by_cases hA : 1099511627776 < fv
              · exfalso; omega
              by_cases hB : 1099511627776 < tv + p.n
              · have HNO : Hid (sizeL (l.take (j + 1 + 1)) = none) := hide (by rw [unhide HST]; simp only [sizeStep]; rw [if_pos ⟨unhide HFB, unhide HFO⟩]; simp only [unhide K2, if_true, show ((2 : Int) = 3) = False from by simp, if_false]; rw [if_pos (.inr hB)])
                go_wp2_with fail
                go_ret3
                have hz := sizeL_none (unhide HNO)
                exact ⟨by unfold szVal; rw [hz]; rfl, unhide HB3⟩
              have HNX : Hid (sizeL (l.take (j + 1 + 1)) = some (fv, tv + p.n, p.kind)) := hide (by rw [unhide HST]; simp only [sizeStep]; rw [if_pos ⟨unhide HFB, unhide HFO⟩]; simp only [unhide K2, if_true, show ((2 : Int) = 3) = False from by simp, if_false]; rw [if_neg (by omega)])
              go_wp2_with fail
              exact ⟨⟨j + 1 + 1, by omega, by simp, ⟨_, _, _, rfl, rfl, HNX⟩, HB3⟩, by simp [intOf]; omega⟩
            have k2b : (p.kind == 2) = false := by simp [k2]
            by_cases k3 : p.kind = 3
            · rw [k3] at r0
              have K3 := hide k3
              by_cases hA : 1099511627776 < fv + p.n
              · have HNO : Hid (sizeL (l.take (j + 1 + 1)) = none) := hide (by rw [unhide HST]; simp only [sizeStep]; rw [if_pos ⟨unhide HFB, unhide HFO⟩]; simp only [unhide K3, if_true, show ((3 : Int) = 2) = False from by simp, if_false]; rw [if_pos (.inl hA)])
                go_wp2_with fail
                go_ret3
                have hz := sizeL_none (unhide HNO)
                exact ⟨by unfold szVal; rw [hz]; rfl, unhide HB3⟩
              by_cases hB : 1099511627776 < tv
              · exfalso; omega
              have HNX : Hid (sizeL (l.take (j + 1 + 1)) = some (fv + p.n, tv, p.kind)) := hide (by rw [unhide HST]; simp only [sizeStep]; rw [if_pos ⟨unhide HFB, unhide HFO⟩]; simp only [unhide K3, if_true, show ((3 : Int) = 2) = False from by simp, if_false]; rw [if_neg (by omega)])
              go_wp2_with fail
              exact ⟨⟨j + 1 + 1, by omega, by simp, ⟨_, _, _, rfl, rfl, HNX⟩, HB3⟩, by simp [intOf]; omega⟩
            have k3b : (p.kind == 3) = false := by simp [k3]
            by_cases hA : 1099511627776 < fv + p.n
            · have HNO : Hid (sizeL (l.take (j + 1 + 1)) = none) := hide (by rw [unhide HST]; simp only [sizeStep]; rw [if_pos ⟨unhide HFB, unhide HFO⟩]; simp only [k2, k3, if_false]; rw [if_pos (.inl hA)])
              go_wp2_with fail
              go_ret3
              have hz := sizeL_none (unhide HNO)
              exact ⟨by unfold szVal; rw [hz]; rfl, unhide HB3⟩
            by_cases hB : 1099511627776 < tv + p.n
            · have HNO : Hid (sizeL (l.take (j + 1 + 1)) = none) := hide (by rw [unhide HST]; simp only [sizeStep]; rw [if_pos ⟨unhide HFB, unhide HFO⟩]; simp only [k2, k3, if_false]; rw [if_pos (.inr hB)])
              go_wp2_with fail
              go_ret3
              have hz := sizeL_none (unhide HNO)
              exact ⟨by unfold szVal; rw [hz]; rfl, unhide HB3⟩
            have HNX : Hid (sizeL (l.take (j + 1 + 1)) = some (fv + p.n, tv + p.n, p.kind)) := hide (by rw [unhide HST]; simp only [sizeStep]; rw [if_pos ⟨unhide HFB, unhide HFO⟩]; simp only [k2, k3, if_false]; rw [if_neg (by omega)])
            go_wp2_with fail
            exact ⟨⟨j + 1 + 1, by omega, by simp, ⟨_, _, _, rfl, rfl, HNX⟩, HB3⟩, by simp [intOf]; omega⟩
    · obtain rfl : n = k := by omega
      have kI : ¬ (n : Int) < (n : Int) := by omega
      have HE : Hid (sizeL l = some (fv, tv, lv)) := hide (by have := unhide HSZ; rw [List.take_of_length_le (by rw [unhide HN]; exact Nat.le_refl _)] at this; exact this)
      go_wp2_with fail
      go_ret3
      exact ⟨by unfold szVal; rw [unhide HE]; rfl, unhide HB⟩
end Go.Proofs.YtonabfpgdgnpnaaDoor

namespace Go.Proofs.YtonabfpgdgnpnaaDoor
set_option linter.unusedVariables false
set_option linter.unusedSimpArgs false
open Go.ChangeShapes Go.WideShapes Go.ChangeAt Go.RowKit Go.Joins Go.Deep

set_option maxRecDepth 100000 in
set_option maxHeartbeats 4000000 in
theorem rcheck_any (a : Option Addr) (l : List Pt) (c : Nat) (n : Int) (w : World) (hp : PtsAt w a l) (hc : l.length ≤ maxLen) (hs : ∀ p ∈ l, p.text.size ≤ 281474976710656) :
    Calls Tryd.prog 74 #[.slice a l.length c, .int .i64 n] w fun r w' => r = .returned (.int .i64 (checkE l n)) ∧ Below w.heap.size w w' := by
  have HS := hide (rsize_any a l c w hp hc hs)
  obtain ⟨m, hm⟩ : ∃ m, l.length = m := ⟨_, rfl⟩
  rw [hm] at HS ⊢
  clear hp hc hs hm
  unfold checkE
  unfold szVal at HS
  cases hz : sizeL l with
  | none =>
    rw [hz] at HS
    go_enter Tryd.func74, Tryd.ntmps74
    go_wp2_with fail
    refine Calls.mono (unhide HS) ?_
    rintro r w2 ⟨rfl, hb⟩
    have HB := hide hb
    clear hb
    go_wp2_with fail
    go_ret
    exact ⟨rfl, unhide HB⟩
  | some t =>
    obtain ⟨f, t, k⟩ := t
    rw [hz] at HS
    simp only at HS ⊢
    by_cases e : f = n
    · subst e
      rw [if_pos rfl]
      go_enter Tryd.func74, Tryd.ntmps74
      go_wp2_with fail
      refine Calls.mono (unhide HS) ?_
      rintro r w2 ⟨rfl, hb⟩
      have HB := hide hb
      clear hb
      go_wp2_with fail
      go_ret
      exact ⟨rfl, unhide HB⟩
    · rw [if_neg e]
      have e1 : (f == n) = false := by simp [e]
      have e2 : (f != n) = true := by simp [e]
      go_enter Tryd.func74, Tryd.ntmps74
      go_wp2_with fail
      refine Calls.mono (unhide HS) ?_
      rintro r w2 ⟨rfl, hb⟩
      have HB := hide hb
      clear hb
      go_wp2_with fail
      go_ret
      exact ⟨rfl, unhide HB⟩
theorem rsize_at {w W : World} {a : Option Addr} {l : List Pt} {c n : Nat} (ha : Edit W a l c) (hn : l.length = n) (hb : Below w.heap.size w W) :
    Calls Tryd.prog 70 #[.slice a n c] W fun r w' => r = .returned (szVal l) ∧ Below w.heap.size w w' := by
  subst hn
  refine Calls.mono (rsize_any a l c W ha.pts (Nat.le_trans ha.cap ha.max) ha.txt2) ?_
  rintro r w' ⟨rfl, h⟩
  exact ⟨rfl, hb.trans (h.mono hb.size)⟩
theorem rcheck_at {w W : World} {a : Option Addr} {l : List Pt} {c n : Nat} {k : Int} (ha : Edit W a l c) (hn : l.length = n) (hb : Below w.heap.size w W) :
    Calls Tryd.prog 74 #[.slice a n c, .int .i64 k] W fun r w' => r = .returned (.int .i64 (checkE l k)) ∧ Below w.heap.size w w' := by
  subst hn
  refine Calls.mono (rcheck_any a l c k W ha.pts (Nat.le_trans ha.cap ha.max) ha.txt2) ?_
  rintro r w' ⟨rfl, h⟩
  exact ⟨rfl, hb.trans (h.mono hb.size)⟩
end Go.Proofs.YtonabfpgdgnpnaaDoor

namespace Go.Proofs.YtonabfpgdgnpnaaDoor
set_option linter.unusedVariables false
set_option linter.unusedSimpArgs false

/-- what one asks of the numbers -/
def OneOk (l : List Pt) (p : Pt) : Prop := l.length ≤ 1099511627776 ∧ ∀ q, l.getLast? = some q → q.kind = p.kind → -9223372036854775808 ≤ q.n + p.n ∧ q.n + p.n ≤ 9223372036854775807 ∧ q.text.size + p.text.size ≤ 9223372036854775807
theorem nf_parts : ∀ {l : List Pt} {a : Int}, NfG a l → l.length ≤ 2 * At.toN (atomsL l) + (if a = 3 then 0 else 1)
  | [], _, _ => by simp
  | p :: l, a, h => by
    have h1 := nf_parts h.2.2.2
    have h2 := h.1.counts.2.1
    have h3 := h.1.1
    have h4 := h.2.1
    simp only [atomsL, At.to_app, List.length_cons]
    by_cases e : p.kind = 3
    · rw [if_pos e] at h1
      rw [if_neg (fun e2 => h4 (by rw [e, e2]))]
      omega
    · rw [if_neg e] at h1 h2
      split <;> omega
theorem one_ok {l : List Pt} {p : Pt} (h : NfG 0 l) (hp : Good p) (hl : (atomsL l).length ≤ 4398046511104) (ht : At.toN (atomsL l) ≤ 137438953472) (hn : p.n ≤ 4398046511104) : OneOk l p := by
  refine ⟨by have := nf_parts h; split at this <;> omega, fun q hq hk => ?_⟩
  have hm := List.mem_of_getLast? hq
  have h1 := nf_num h q hm
  have h2 := (h.good q hm).size
  have h3 := hp.size
  have h4 := (h.good q hm).1
  have h5 := hp.1
  omega
theorem good_put {q : List (List UInt8)} (h : Cps q) (hne : q ≠ []) : Good ⟨2, (q.length : Int), txB q⟩ := by
  refine ⟨?_, .inr (.inr ⟨rfl, q, tx_txB h, rfl⟩)⟩
  have := List.length_pos_iff.2 hne
  show (1 : Int) ≤ (q.length : Int)
  omega
/-- what is put, as a list of parts with it behind -/
def putL (out : List Pt) (q : List (List UInt8)) : List Pt := if q = [] then out else oneL out ⟨2, (q.length : Int), txB q⟩
def dropL (out : List Pt) (n : Nat) : List Pt := if n = 0 then out else oneL out ⟨3, (n : Int), ByteArray.empty⟩
def bothL (out : List Pt) (q : List (List UInt8)) (n : Nat) : List Pt := dropL (putL out q) n
theorem putL_nf {out : List Pt} {q : List (List UInt8)} (h : NfG 0 out) (hq : Cps q) (hk : lastK 0 out ≠ 3) : NfG 0 (putL out q) ∧ atomsL (putL out q) = atomsL out ++ q.map .p := by
  unfold putL
  by_cases e : q = []
  · rw [if_pos e, e]; exact ⟨h, by simp⟩
  · rw [if_neg e]
    have := oneL_nf h (good_put hq e) (fun k => hk k.2)
    exact ⟨this.1, by rw [this.2.1, atoms_put (tx_txB hq)]⟩
theorem dropL_nf {out : List Pt} {n : Nat} (h : NfG 0 out) : NfG 0 (dropL out n) ∧ atomsL (dropL out n) = atomsL out ++ List.replicate n .d := by
  unfold dropL
  by_cases e : n = 0
  · rw [if_pos e, e]; exact ⟨h, by simp⟩
  · rw [if_neg e]
    have := oneL_nf h (good_drop (n := (n : Int)) (by omega)) (fun k => by cases k.1)
    exact ⟨this.1, by rw [this.2.1, atoms_drop]; rfl⟩
theorem bothL_nf {out : List Pt} {q : List (List UInt8)} {n : Nat} (h : NfG 0 out) (hq : Cps q) (hk : lastK 0 out ≠ 3) : NfG 0 (bothL out q n) ∧ atomsL (bothL out q n) = atomsL out ++ (q.map .p ++ List.replicate n .d) := by
  have h1 := putL_nf h hq hk
  have h2 := dropL_nf (n := n) h1.1
  exact ⟨h2.1, by unfold bothL; rw [h2.2, h1.2, List.append_assoc]⟩
/-- closing: behind so many places -/
structure ClI (P : List (List (List UInt8))) (D : List Bool) (out : List Pt) (q : List (List UInt8)) (n i : Nat) : Prop where
  nf : NfG 0 out
  lk : lastK 0 out ≠ 3
  cps : Cps q
  eq : atomsL out ++ At.canG q n (wAts (P.drop i) (D.drop i)) = At.can (wAts P D)
theorem ClI.start (P : List (List (List UInt8))) (D : List Bool) : ClI P D [] [] 0 0 := ⟨trivial, by decide, Cps.nil, rfl⟩
theorem ClI.most {P : List (List (List UInt8))} {D : List Bool} {out : List Pt} {q : List (List UInt8)} {n i : Nat} (h : ClI P D out q n i) : (atomsL out).length + q.length + n ≤ (wAts P D).length := by
  have := congrArg List.length h.eq
  rw [List.length_append, can_lenC, canG_lenC] at this
  omega
theorem ClI.more {P : List (List (List UInt8))} {D : List Bool} {out : List Pt} {q r : List (List UInt8)} {n i : Nat} {b : Bool} (h : ClI P D out q n i) (hr : P[i]? = some r) (hb : D[i]? = some b) (hc : Cps r) :
    atomsL out ++ At.canG (q ++ r) n (stp b :: wAts (P.drop (i + 1)) (D.drop (i + 1))) = At.can (wAts P D) := by
  rw [← h.eq, wAts_drop hr hb, canG_map]
theorem ClI.drops {P : List (List (List UInt8))} {D : List Bool} {out : List Pt} {q r : List (List UInt8)} {n i : Nat} (h : ClI P D out q n i) (hr : P[i]? = some r) (hb : D[i]? = some true) (hc : Cps r) : ClI P D out (q ++ r) (n + 1) (i + 1) :=
  ⟨h.nf, h.lk, h.cps.append hc, h.more hr hb hc⟩
theorem ClI.keeps {P : List (List (List UInt8))} {D : List Bool} {out : List Pt} {q r : List (List UInt8)} {n i : Nat} (h : ClI P D out q n i) (hr : P[i]? = some r) (hb : D[i]? = some false) (hc : Cps r) : ClI P D (oneL (bothL out (q ++ r) n) ⟨1, 1, ByteArray.empty⟩) [] 0 (i + 1) := by
  have h1 := bothL_nf (n := n) h.nf (h.cps.append hc) h.lk
  have h2 := oneL_nf h1.1 (good_keep (n := 1) (by decide)) (fun k => by cases k.1)
  refine ⟨h2.1, by rw [h2.2.2]; decide, Cps.nil, ?_⟩
  rw [h2.2.1, h1.2, ← h.more hr hb hc, atoms_keep]
  simp [stp, At.canG]
theorem ClI.ends {P : List (List (List UInt8))} {D : List Bool} {out : List Pt} {q r : List (List UInt8)} {n : Nat} (h : ClI P D out q n D.length) (hl : P.length = D.length + 1) (hr : P[D.length]? = some r) (hc : Cps r) : NfG 0 (bothL out (q ++ r) n) ∧ atomsL (bothL out (q ++ r) n) = At.can (wAts P D) := by
  have h1 := bothL_nf (n := n) h.nf (h.cps.append hc) h.lk
  refine ⟨h1.1, ?_⟩
  rw [h1.2, ← h.eq, wAts_last hl hr]
  have := canG_map r n [] q
  rw [List.append_nil] at this
  rw [this]
  simp [At.canG]
/-- what the walk asks at a both and a one behind it -/
theorem ClI.oks {P : List (List (List UInt8))} {D : List Bool} {out : List Pt} {q r : List (List UInt8)} {n i : Nat} (h : ClI P D out q n i) (hi : i < P.length) (hr : P[i]? = some r) (hc : Cps r) (hl : P.length = D.length + 1) (hM : (wAts P D).length ≤ 4398046511104) (hT : At.toN (wAts P D) ≤ 137438953472) :
    (q ++ r ≠ [] → OneOk out ⟨2, ((q ++ r).length : Int), txB (q ++ r)⟩) ∧ (n ≠ 0 → OneOk (putL out (q ++ r)) ⟨3, (n : Int), ByteArray.empty⟩) ∧ OneOk (bothL out (q ++ r) n) ⟨1, 1, ByteArray.empty⟩ ∧ (txB (q ++ r)).size ≤ 4398046511104 := by
  have hq := h.cps.append hc
  obtain ⟨Y, hY⟩ : ∃ Y, wAts (P.drop i) (D.drop i) = r.map .p ++ Y := by
    have h1 := List.getElem?_eq_some_iff.1 hr
    rw [List.drop_eq_getElem_cons h1.1, h1.2]
    cases D.drop i with
    | nil => exact ⟨[], by simp [wAts]⟩
    | cons b B => exact ⟨stp b :: wAts (P.drop (i + 1)) B, by simp only [wAts]⟩
  have he := h.eq
  rw [hY, canG_map] at he
  have hsw := At.canG_sw Y (q ++ r) n
  have hlen : (atomsL out).length + (q ++ r).length + n ≤ (wAts P D).length := by
    have := congrArg List.length he
    rw [List.length_append, can_lenC, canG_lenC] at this
    omega
  have hto : At.toN (atomsL out) + (q ++ r).length ≤ At.toN (wAts P D) := by
    have h1 := congrArg At.toN he
    rw [At.to_app, ← At.toN_sw hsw, ← At.toN_sw (At.can_sw _), At.to_app, to_map] at h1
    omega
  have h1 := putL_nf h.nf hq h.lk
  have h2 := dropL_nf (n := n) h1.1
  have hb : (atomsL (bothL out (q ++ r) n)).length ≤ 4398046511104 ∧ At.toN (atomsL (bothL out (q ++ r) n)) ≤ 137438953472 := by
    unfold bothL
    rw [h2.2, h1.2]
    rw [At.to_app, At.to_app, to_map, to_rep_d]
    simp only [List.length_append, List.length_map, List.length_replicate] at hlen hto ⊢
    omega
  have hp : (atomsL (putL out (q ++ r))).length ≤ 4398046511104 ∧ At.toN (atomsL (putL out (q ++ r))) ≤ 137438953472 := by
    rw [h1.2]
    rw [At.to_app, to_map]
    simp only [List.length_append, List.length_map, List.length_replicate] at hlen hto ⊢
    omega
  refine ⟨fun e => one_ok h.nf (good_put hq e) (by omega) (by omega) (by show ((q ++ r).length : Int) ≤ _; omega), fun e => one_ok h1.1 (good_drop (by omega)) hp.1 hp.2 (by show (n : Int) ≤ _; omega), one_ok h2.1 (good_keep (by decide)) hb.1 hb.2 (by decide), ?_⟩
  by_cases e : q ++ r = []
  · rw [e]; decide
  · have := (good_put hq e).size
    have h3 : (((txB (q ++ r)).size : Nat) : Int) ≤ 4 * ((q ++ r).length : Int) := this
    omega
end Go.Proofs.YtonabfpgdgnpnaaDoor
