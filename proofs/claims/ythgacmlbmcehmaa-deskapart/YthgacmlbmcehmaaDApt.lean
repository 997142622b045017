/- DeskApart, walked. -/
import Derived.Test.YthgacmlbmcehmaaDRef
namespace Go.Proofs.Ythgacmlbmcehmaa
set_option linter.unusedVariables false
set_option linter.unusedSimpArgs false
open Go.ChangeShapes Go.WideShapes Go.ChangeAt Go.RowKit Go.Joins Go.Deep

/-- two desks whose guests of a label are the same ones -/
structure Ap (w wr : World) (P : List Value) (g gg c : Nat) (sv : Value) (ex : List Value) (g' gg' c' : Nat) (sv' : Value) (ex' : List Value) (nq : Nat) (Q E : Nat → Int) (n2 : Nat) (lab : Int) (A B : List Gst) : Prop where
  tw : Tw w wr P g gg c sv ex g' gg' c' sv' ex' nq Q A B
  eqv : Eqv lab A B
  labs : LabOk E A
  len : A.length = n2
theorem Ap.call {w wr w' : World} {P : List Value} {g gg c g' gg' c' nq n2 : Nat} {sv sv' : Value} {ex ex' : List Value} {Q E : Nat → Int} {lab : Int} {A B : List Gst} (h : Ap w wr P g gg c sv ex g' gg' c' sv' ex' nq Q E n2 lab A B) (hb : Below wr.heap.size wr w') : Ap w w' P g gg c sv ex g' gg' c' sv' ex' nq Q E n2 lab A B := ⟨h.tw.call hb, h.eqv, h.labs, h.len⟩
theorem Ap.bel {w wr : World} {P : List Value} {g gg c g' gg' c' nq n2 : Nat} {sv sv' : Value} {ex ex' : List Value} {Q E : Nat → Int} {lab : Int} {A B : List Gst} (h : Ap w wr P g gg c sv ex g' gg' c' sv' ex' nq Q E n2 lab A B) : Below w.heap.size w wr := h.tw.bel
set_option maxRecDepth 100000 in
set_option maxHeartbeats 4000000 in
theorem apart_law (a0 a1 a2 al : Option Addr) (n0 n1 n2 c0 c1 c2 cl : Nat) (L C Q1 Q2 Q3 E : Nat → Int) (S : Nat → ByteArray) (Dw : Nat → Bool) (l : List DoV) (lab : Int) (w : World)
    (pl : PolLabs w a0 n0 L C) (pq : PolQuos w a1 n1 Q1 Q2 Q3) (pe : PolEnts w a2 n2 E S Dw) (hc0 : n0 ≤ c0) (hm0 : c0 ≤ maxLen) (hl : DosAt w al l) (hlm : l.length ≤ maxLen) :
    Calls Try.prog 5 #[.agg #[.slice a0 n0 c0, .slice a1 n1 c1, .slice a2 n2 c2], .slice al l.length cl, .int .i64 lab] w fun e w' => e = .returned (.bool true) ∧ Below w.heap.size w w' := by
  have HPO := hide (⟨pe, hl⟩ : PolEnts w a2 n2 E S Dw ∧ DosAt w al l)
  have hb : Below w.heap.size w (w.alloc (.cells #[.slice a0 n0 c0, .slice a1 n1 c1, .slice a2 n2 c2] 26)) := (Below.refl _ _).alloc (Nat.le_refl _) _
  have HLI := hide (light_any a0 a1 a2 n0 n1 n2 c0 c1 c2 pl.1 pq.1 pe.1)
  have HP0 : Hid (Px w (w.alloc (.cells #[.slice a0 n0 c0, .slice a1 n1 c1, .slice a2 n2 c2] 26)) a0 a1 a2 al n0 n1 n2 c0 c1 c2 L C Q1 Q2 Q3 E S Dw l) := hide (⟨pl.call hb, pq.call hb, pe.call hb, hl.call hb, RowAt.new w 26 _, hb⟩)
  have HC := hide (⟨hc0, hm0⟩ : n0 ≤ c0 ∧ c0 ≤ maxLen)
  obtain ⟨n, hn⟩ : ∃ n, l.length = n := ⟨_, rfl⟩
  rw [hn] at hlm ⊢
  have HLN := hide hn
  have hlI : (n : Int) ≤ 9223372036854775807 := by unfold maxLen at hlm; omega
  clear pl pq pe hb hl hn hc0 hm0
  cases hlt : (decide (n0 ≤ 100) && decide (n1 ≤ 100) && decide (n2 ≤ 100)) with
  | false =>
    rw [hlt] at HLI
    go_enter Try.func5, Try.ntmps5
    go_wp2_with fail
    refine Calls.mono (unhide HLI _) ?_
    rintro r w1 ⟨rfl, hb1⟩
    have HP := hide ((unhide HP0).call hb1)
    clear hb1 HP0
    go_wp2_with fail
    refine Calls.mono (awake_any _) ?_
    rintro r w9 ⟨rfl, hb9⟩
    have HP9 := hide ((unhide HP).call hb9)
    clear hb9 HP
    go_wp2_with fail
    go_ret
    exact ⟨rfl, (unhide HP9).bel⟩
  | true =>
    rw [hlt] at HLI
    go_enter Try.func5, Try.ntmps5
    go_wp2_with fail
    refine Calls.mono (unhide HLI _) ?_
    rintro r w1 ⟨rfl, hb1⟩
    have HP := hide ((unhide HP0).call hb1)
    clear hb1 HP0 HLI hlt
    by_cases h3 : (300 : Int) < (n : Int)
    · skip
      go_wp2_with fail
      refine Calls.mono (awake_any _) ?_
      rintro r w9 ⟨rfl, hb9⟩
      have HP9 := hide ((unhide HP).call hb9)
      clear hb9 HP
      go_wp2_with fail
      go_ret
      exact ⟨rfl, (unhide HP9).bel⟩
    have hc : ∀ j : Nat, w1.cell? ⟨w.heap.size, j, none⟩ = ([.slice a0 n0 c0, .slice a1 n1 c1, .slice a2 n2 c2] : List Value)[j]? := fun j => (unhide HP).row.cell j
    have p0 := hc 0
    have p1 := hc 1
    have p2 := hc 2
    simp only [List.getElem?_cons_zero, List.getElem?_cons_succ] at p0 p1 p2
    clear hc
    go_wp2_with fail
    refine Calls.mono (right_any a0 a1 a2 n0 n1 n2 c0 c1 c2 L C Q1 Q2 Q3 E S Dw w1 (unhide HP).pl (unhide HP).pq (unhide HP).pe (unhide HC).1 (unhide HC).2) ?_
    rintro r w2 ⟨rfl, hb2⟩
    have HP2 := hide ((unhide HP).call hb2)
    clear hb2 HP p0 p1 p2
    by_cases hr : rightN n0 n1 n2 L C Q1 Q2 Q3 E S = 0
    rotate_left
    · have hr2 : rightN n0 n1 n2 L C Q1 Q2 Q3 E S = 11 := by
        unfold rightN at hr ⊢
        split
        · rename_i q; simp [q] at hr
        · rfl
      rw [hr2]
      clear hr hr2
      have HP := HP2
      clear HP2
      go_wp2_with fail
      refine Calls.mono (awake_any _) ?_
      rintro r w9 ⟨rfl, hb9⟩
      have HP9 := hide ((unhide HP).call hb9)
      clear hb9 HP
      go_wp2_with fail
      go_ret
      exact ⟨rfl, (unhide HP9).bel⟩
    have HRH := hide (right_has hr)
    have HR := hide hr
    rw [hr]
    clear hr
    have p0 : w2.cell? ⟨w.heap.size, 0, none⟩ = some (.slice a0 n0 c0) := (unhide HP2).row.cell 0
    have p1 : w2.cell? ⟨w.heap.size, 1, none⟩ = some (.slice a1 n1 c1) := (unhide HP2).row.cell 1
    have p2 : w2.cell? ⟨w.heap.size, 2, none⟩ = some (.slice a2 n2 c2) := (unhide HP2).row.cell 2
    obtain ⟨⟨q1, q2⟩, ⟨q3, q4⟩, q5⟩ := unhide HRH
    have hn2 : (n2 : Int) ≤ 8 := by omega
    have hq6 := (right_seats (unhide HR)).1
    obtain ⟨j, hj, hj2⟩ := mod_nat lab n0 (by omega) (by omega)
    have h01 : (1 : Int) ≤ (n0 : Int) := by omega
    have h02 : (n0 : Int) ≤ 32 := by omega
    clear hq6
    have HM := hide (new_any a0 a1 a2 n0 n1 n2 c0 c1 c2 L C Q1 Q2 Q3 E S Dw w2 (unhide HP2).pl (unhide HP2).pq (unhide HP2).pe (unhide HC).1 (unhide HC).2 (unhide HR))
    go_wp2_with fail
    rw [hj]
    clear hj q5
    refine Calls.mono (unhide HM) ?_
    rintro r w3 ⟨g, gg, c, sv, ex, rfl, hd3, hb3, hge3⟩
    have HP3 := hide ((unhide HP2).call hb3)
    have HD3 := hide (⟨hd3, Nat.lt_of_lt_of_le (unhide HP2).row.lt hge3⟩ : Ds w3 g gg c n1 sv ex Q3 (newD n2 E) ∧ w.heap.size < gg)
    clear HM hb3 hge3 HP2 p0 p1 p2 hd3
    have p0 : w3.cell? ⟨w.heap.size, 0, none⟩ = some (.slice a0 n0 c0) := (unhide HP3).row.cell 0
    have p1 : w3.cell? ⟨w.heap.size, 1, none⟩ = some (.slice a1 n1 c1) := (unhide HP3).row.cell 1
    have p2 : w3.cell? ⟨w.heap.size, 2, none⟩ = some (.slice a2 n2 c2) := (unhide HP3).row.cell 2
    have HM := hide (new_any a0 a1 a2 n0 n1 n2 c0 c1 c2 L C Q1 Q2 Q3 E S Dw w3 (unhide HP3).pl (unhide HP3).pq (unhide HP3).pe (unhide HC).1 (unhide HC).2 (unhide HR))
    go_wp2_with fail
    refine Calls.mono (unhide HM) ?_
    rintro r w4 ⟨g', gg', c', sv', ex', rfl, hd4, hb4, hge4⟩
    have HK0 : Hid (∃ A B, Ap w w4 [.slice a0 n0 c0, .slice a1 n1 c1, .slice a2 n2 c2] g gg c sv ex g' gg' c' sv' ex' n1 Q3 E n2 (j : Int) A B) := hide (by
      have h1 := (unhide HD3).1.dk.row.lt
      have h2 := (unhide HD3).2
      exact ⟨_, _, ⟨⟨⟨(unhide HD3).1.call hb4, (unhide HP3).bel.trans (hb4.mono (unhide HP3).bel.size), (unhide HP3).row.below hb4 (unhide HP3).row.lt, h2⟩, hd4, by omega, by omega⟩, Eqv.refl _ _, labOk_new n2 E, newD_len n2 E⟩⟩)
    clear HM hb4 hge4 HP3 HD3 p0 p1 p2 hd4 HR
    go_wp2_with fail
    go_loopw [58] (fun s wr => ∃ k : Nat, k ≤ n ∧ s = .int .i64 (k : Int) ∧ Hid (∃ A B, Ap w wr [.slice a0 n0 c0, .slice a1 n1 c1, .slice a2 n2 c2] g gg c sv ex g' gg' c' sv' ex' n1 Q3 E n2 (j : Int) A B)) (fun s _ => ((n : Int) - intOf s).toNat)
    case atStart => exact ⟨0, by omega, by simp, HK0⟩
    case round =>
      clear HK0
      obtain ⟨k, hk, rfl, HI⟩ := hrel
      by_cases hlt : k < n
      · have kI : (k : Int) < (n : Int) := by omega
        obtain ⟨A, B, hK⟩ := unhide HI
        have HKK := hide hK
        obtain ⟨x, hx⟩ : ∃ x, l[k]? = some x := ⟨_, List.getElem?_eq_getElem (by have := unhide HLN; omega)⟩
        obtain ⟨b, off, rfl, e0, e1, e2, e3⟩ := (unhide HPO).2.at_ hK.bel hx
        have p2 : wr.cell? ⟨w.heap.size, 2, none⟩ = some (.slice a2 n2 c2) := hK.tw.a.row.cell 2
        obtain ⟨xo, xw, xc, xn⟩ := x
        simp only at e0 e1 e2 e3
        obtain ⟨z, hz⟩ : ∃ z, bits .and .i64 xo 7 = z := ⟨_, rfl⟩
        have HZ := hide hz
        clear hx hK HI
        by_cases z7 : z = 7
        · subst z7
          have HKA := hide ((unhide HKK).call ((Below.refl _ _).alloc (Nat.le_refl _) (.cells #[.int .i64 xo, .int .i64 xw, .int .i64 xc, .int .i64 xn] 38)))
          have pA : (wr.alloc (.cells #[.int .i64 xo, .int .i64 xw, .int .i64 xc, .int .i64 xn] 38)).cell? ⟨w.heap.size, 2, none⟩ = some (.slice a2 n2 c2) := (unhide HKA).tw.a.row.cell 2
          go_wp2_with fail
          have r0 : (wr.alloc (.cells #[.int .i64 xo, .int .i64 xw, .int .i64 xc, .int .i64 xn] 38)).cell? ⟨wr.heap.size, 0, none⟩ = some (.int .i64 xo) := (RowAt.new wr 38 [.int .i64 xo, .int .i64 xw, .int .i64 xc, .int .i64 xn]).cell 0
          have r1 : (wr.alloc (.cells #[.int .i64 xo, .int .i64 xw, .int .i64 xc, .int .i64 xn] 38)).cell? ⟨wr.heap.size, 1, none⟩ = some (.int .i64 xw) := (RowAt.new wr 38 [.int .i64 xo, .int .i64 xw, .int .i64 xc, .int .i64 xn]).cell 1
          have r2 : (wr.alloc (.cells #[.int .i64 xo, .int .i64 xw, .int .i64 xc, .int .i64 xn] 38)).cell? ⟨wr.heap.size, 2, none⟩ = some (.int .i64 xc) := (RowAt.new wr 38 [.int .i64 xo, .int .i64 xw, .int .i64 xc, .int .i64 xn]).cell 2
          have r3 : (wr.alloc (.cells #[.int .i64 xo, .int .i64 xw, .int .i64 xc, .int .i64 xn] 38)).cell? ⟨wr.heap.size, 3, none⟩ = some (.int .i64 xn) := (RowAt.new wr 38 [.int .i64 xo, .int .i64 xw, .int .i64 xc, .int .i64 xn]).cell 3
          obtain ⟨wA, hA⟩ : ∃ wA, wr.alloc (.cells #[.int .i64 xo, .int .i64 xw, .int .i64 xc, .int .i64 xn] 38) = wA := ⟨_, rfl⟩
          rw [hA] at HKA r0 r1 r2 r3 ⊢
          clear hA HKK e0 e1 e2 e3 p2 pA
          obtain ⟨bb, hbb⟩ : ∃ bb, wr.heap.size = bb := ⟨_, rfl⟩
          rw [hbb] at r0 r1 r2 r3 ⊢
          clear hbb
          refine Calls.mono (does_any (unhide HKA).tw.a.ds xo xw xc xn) ?_
          rintro r w5 ⟨v5, rfl, hd5, ho5, -⟩
          have HT5 := hide ((unhide HKA).tw.stepA hd5 ho5)
          have hne : bb ≠ gg := by
            intro e
            have := (unhide HKA).tw.a.ds.dk.cell (i := 0) (f := 2) (List.getElem?_eq_getElem (unhide HKA).tw.a.ds.dk.pos) (by decide)
            subst e
            simp [r2, gv] at this
          have s0 : w5.cell? ⟨bb, 0, none⟩ = some (.int .i64 xo) := ho5.cell (q := ⟨bb, 0, none⟩) hne r0
          have s1 : w5.cell? ⟨bb, 1, none⟩ = some (.int .i64 xw) := ho5.cell (q := ⟨bb, 1, none⟩) hne r1
          have s2 : w5.cell? ⟨bb, 2, none⟩ = some (.int .i64 xc) := ho5.cell (q := ⟨bb, 2, none⟩) hne r2
          have s3 : w5.cell? ⟨bb, 3, none⟩ = some (.int .i64 xn) := ho5.cell (q := ⟨bb, 3, none⟩) hne r3
          have HEV : Hid (Eqv (j : Int) (doesD Q3 A xo xw xc xn).1 (doesD Q3 B xo xw xc xn).1 ∧ (doesD Q3 A xo xw xc xn).2.2 = (doesD Q3 B xo xw xc xn).2.2) := hide (by rw [does_tick _ _ _ _ _ _ (unhide HZ), does_tick _ _ _ _ _ _ (unhide HZ)]; exact ⟨(unhide HKA).eqv.ticks _, rfl⟩)
          have HLB : Hid (LabOk E (doesD Q3 A xo xw xc xn).1 ∧ (doesD Q3 A xo xw xc xn).1.length = n2) := hide ⟨(unhide HKA).labs.does Q3 _ _ _ _, by rw [doesD_len]; exact (unhide HKA).len⟩
          clear r0 r1 r2 r3 hd5 ho5 hne HKA hz HZ
          obtain ⟨A5, hA5⟩ : ∃ X, (doesD Q3 A xo xw xc xn).1 = X := ⟨_, rfl⟩
          obtain ⟨B5, hB5⟩ : ∃ X, (doesD Q3 B xo xw xc xn).1 = X := ⟨_, rfl⟩
          obtain ⟨f5, hf5⟩ : ∃ X, (doesD Q3 B xo xw xc xn).2.2 = X := ⟨_, rfl⟩
          rw [(unhide HEV).2, hf5]
          rw [hA5] at HT5 HLB
          rw [hA5, hB5] at HEV
          have HDB := hide (does_any (unhide HT5).b xo xw xc xn)
          rw [hf5, hB5] at HDB
          clear hf5 hB5 hA5
          go_wp2_with fail
          refine Calls.mono (unhide HDB) ?_
          rintro r w6 ⟨v6, rfl, hd6, ho6, -⟩
          have HKK : Hid (Ap w w6 [.slice a0 n0 c0, .slice a1 n1 c1, .slice a2 n2 c2] g gg c sv ex g' gg' c' sv' ex' n1 Q3 E n2 (j : Int) A5 B5) := hide ⟨(unhide HT5).stepB hd6 ho6, (unhide HEV).1, (unhide HLB).1, (unhide HLB).2⟩
          clear HDB hd6 ho6 HT5 HEV HLB s0 s1 s2 s3
          have p2 : w6.cell? ⟨w.heap.size, 2, none⟩ = some (.slice a2 n2 c2) := (unhide HKK).tw.a.row.cell 2
          go_wp2_with fail
          clear p2
          go_loopw [110] (fun s wr => ∃ i : Nat, i ≤ n2 ∧ s = .int .i64 (i : Int) ∧ Hid (Ap w wr [.slice a0 n0 c0, .slice a1 n1 c1, .slice a2 n2 c2] g gg c sv ex g' gg' c' sv' ex' n1 Q3 E n2 (j : Int) A5 B5)) (fun s _ => ((n2 : Int) - intOf s).toNat)
          case atStart => exact ⟨0, by omega, by simp, HKK⟩
          case round =>
            clear HKK
            obtain ⟨i, hi, rfl, HKK⟩ := hrel
            by_cases hlv : i < n2
            · have iI : (i : Int) < (n2 : Int) := by omega
              obtain ⟨be, oe, rfl, -, hrow⟩ : ∃ b off, a2 = some ⟨b, off, none⟩ ∧ b < wr.heap.size ∧ EntRow wr b off n2 E S Dw := by
                have := (unhide HPO).1.call (unhide HKK).bel
                rcases this.2.2 with h | h
                · omega
                · exact h
              obtain ⟨f0, f1, f2⟩ := hrow i hlv
              clear hrow
              obtain ⟨y, hy⟩ : ∃ y, A5[i]? = some y := ⟨_, List.getElem?_eq_getElem (by have := (unhide HKK).len; omega)⟩
              have HYL := hide ((unhide HKK).labs i y hy)
              have HY := hide hy
              clear hy
              have HKW := hide ((unhide HKK).call ((Below.refl _ _).alloc (Nat.le_refl _) (.cells #[.int .i64 (E i), .string (S i), .bool (Dw i)] 63)))
              by_cases hEj : E i = (j : Int)
              · rw [hEj] at f0 HKW
                have HB : Hid (B5[i]? = some y) := hide (by
                  obtain ⟨y2, h1, _, h2⟩ := (unhide HKK).eqv.get i (unhide HY)
                  rw [h2 ((unhide HYL).trans hEj)]
                  exact h1)
                clear HKK HYL hEj
                go_wp2_with fail
                refine Calls.mono (state_ok g gg c sv ex A5 _ (unhide HKW).tw.a.ds.dk i y (unhide HY)) ?_
                rintro r w7 ⟨rfl, hb7⟩
                have HT7 := hide ((unhide HKW).call hb7)
                clear hb7 HKW f0 f1 f2
                go_wp2_with fail
                refine Calls.mono (state_ok g' gg' c' sv' ex' B5 _ (unhide HT7).tw.b.dk i y (unhide HB)) ?_
                rintro r w8 ⟨rfl, hb8⟩
                have HT8 := hide ((unhide HT7).call hb8)
                clear hb8 HT7
                go_wp2_with fail
                refine Calls.mono (locked_ok g gg c sv ex A5 w8 (unhide HT8).tw.a.ds.dk i y (unhide HY)) ?_
                rintro r w9 ⟨rfl, rfl⟩
                go_wp2_with fail
                refine Calls.mono (locked_ok g' gg' c' sv' ex' B5 w8 (unhide HT8).tw.b.dk i y (unhide HB)) ?_
                rintro r w9 ⟨rfl, rfl⟩
                clear HY HB
                go_wp2_with fail
                exact ⟨⟨i + 1, by omega, by simp, HT8⟩, by simp [intOf]; omega⟩
              · have hEb : (E i == (j : Int)) = false := by simp [hEj]
                clear HKK HYL HY
                go_wp2_with fail
                exact ⟨⟨i + 1, by omega, by simp, HKW⟩, by simp [intOf]; omega⟩
            · obtain rfl : n2 = i := by omega
              have iI : ¬ (n2 : Int) < (n2 : Int) := by omega
              have HN : Hid (∃ A B, Ap w wr [.slice a0 n0 c0, .slice a1 n1 c1, .slice a2 n2 c2] g gg c sv ex g' gg' c' sv' ex' n1 Q3 E n2 (j : Int) A B) := hide ⟨A5, B5, unhide HKK⟩
              clear HKK
              go_wp2_with fail
              exact ⟨⟨k + 1, by omega, by simp, HN⟩, by simp [intOf]; omega⟩
        have z7b : (z == 7) = false := by simp [z7]
        by_cases cw1 : xw < 0
        · skip
          have HKA := hide ((unhide HKK).call ((Below.refl _ _).alloc (Nat.le_refl _) (.cells #[.int .i64 xo, .int .i64 xw, .int .i64 xc, .int .i64 xn] 38)))
          have pA : (wr.alloc (.cells #[.int .i64 xo, .int .i64 xw, .int .i64 xc, .int .i64 xn] 38)).cell? ⟨w.heap.size, 2, none⟩ = some (.slice a2 n2 c2) := (unhide HKA).tw.a.row.cell 2
          go_wp2_with fail
          have r0 : (wr.alloc (.cells #[.int .i64 xo, .int .i64 xw, .int .i64 xc, .int .i64 xn] 38)).cell? ⟨wr.heap.size, 0, none⟩ = some (.int .i64 xo) := (RowAt.new wr 38 [.int .i64 xo, .int .i64 xw, .int .i64 xc, .int .i64 xn]).cell 0
          have r1 : (wr.alloc (.cells #[.int .i64 xo, .int .i64 xw, .int .i64 xc, .int .i64 xn] 38)).cell? ⟨wr.heap.size, 1, none⟩ = some (.int .i64 xw) := (RowAt.new wr 38 [.int .i64 xo, .int .i64 xw, .int .i64 xc, .int .i64 xn]).cell 1
          have r2 : (wr.alloc (.cells #[.int .i64 xo, .int .i64 xw, .int .i64 xc, .int .i64 xn] 38)).cell? ⟨wr.heap.size, 2, none⟩ = some (.int .i64 xc) := (RowAt.new wr 38 [.int .i64 xo, .int .i64 xw, .int .i64 xc, .int .i64 xn]).cell 2
          have r3 : (wr.alloc (.cells #[.int .i64 xo, .int .i64 xw, .int .i64 xc, .int .i64 xn] 38)).cell? ⟨wr.heap.size, 3, none⟩ = some (.int .i64 xn) := (RowAt.new wr 38 [.int .i64 xo, .int .i64 xw, .int .i64 xc, .int .i64 xn]).cell 3
          obtain ⟨wA, hA⟩ : ∃ wA, wr.alloc (.cells #[.int .i64 xo, .int .i64 xw, .int .i64 xc, .int .i64 xn] 38) = wA := ⟨_, rfl⟩
          rw [hA] at HKA r0 r1 r2 r3 ⊢
          clear hA HKK e0 e1 e2 e3 p2 pA
          obtain ⟨bb, hbb⟩ : ∃ bb, wr.heap.size = bb := ⟨_, rfl⟩
          rw [hbb] at r0 r1 r2 r3 ⊢
          clear hbb
          refine Calls.mono (does_any (unhide HKA).tw.a.ds xo xw xc xn) ?_
          rintro r w5 ⟨v5, rfl, hd5, ho5, -⟩
          have HT5 := hide ((unhide HKA).tw.stepA hd5 ho5)
          have hne : bb ≠ gg := by
            intro e
            have := (unhide HKA).tw.a.ds.dk.cell (i := 0) (f := 2) (List.getElem?_eq_getElem (unhide HKA).tw.a.ds.dk.pos) (by decide)
            subst e
            simp [r2, gv] at this
          have HN : Hid (∃ A B, Ap w w5 [.slice a0 n0 c0, .slice a1 n1 c1, .slice a2 n2 c2] g gg c sv ex g' gg' c' sv' ex' n1 Q3 E n2 (j : Int) A B) := hide ⟨_, B, unhide HT5, (unhide HKA).eqv.other (by rw [unhide HZ]; exact z7) (fun y hy => by rw [gAt, if_pos cw1] at hy; cases hy), (unhide HKA).labs.does Q3 _ _ _ _, by rw [doesD_len]; exact (unhide HKA).len⟩
          clear r0 r1 r2 r3 hd5 ho5 hne HKA hz HZ HT5
          obtain ⟨f5, hf5⟩ : ∃ X, (doesD Q3 A xo xw xc xn).2.2 = X := ⟨_, rfl⟩
          rw [hf5]
          clear hf5
          go_wp2_with fail
          exact ⟨⟨k + 1, by omega, by simp, HN⟩, by simp [intOf]; omega⟩
        by_cases cw2 : (n2 : Int) ≤ xw
        · have cw2' : ¬ xw < (n2 : Int) := by omega
          have HKA := hide ((unhide HKK).call ((Below.refl _ _).alloc (Nat.le_refl _) (.cells #[.int .i64 xo, .int .i64 xw, .int .i64 xc, .int .i64 xn] 38)))
          have pA : (wr.alloc (.cells #[.int .i64 xo, .int .i64 xw, .int .i64 xc, .int .i64 xn] 38)).cell? ⟨w.heap.size, 2, none⟩ = some (.slice a2 n2 c2) := (unhide HKA).tw.a.row.cell 2
          go_wp2_with fail
          have r0 : (wr.alloc (.cells #[.int .i64 xo, .int .i64 xw, .int .i64 xc, .int .i64 xn] 38)).cell? ⟨wr.heap.size, 0, none⟩ = some (.int .i64 xo) := (RowAt.new wr 38 [.int .i64 xo, .int .i64 xw, .int .i64 xc, .int .i64 xn]).cell 0
          have r1 : (wr.alloc (.cells #[.int .i64 xo, .int .i64 xw, .int .i64 xc, .int .i64 xn] 38)).cell? ⟨wr.heap.size, 1, none⟩ = some (.int .i64 xw) := (RowAt.new wr 38 [.int .i64 xo, .int .i64 xw, .int .i64 xc, .int .i64 xn]).cell 1
          have r2 : (wr.alloc (.cells #[.int .i64 xo, .int .i64 xw, .int .i64 xc, .int .i64 xn] 38)).cell? ⟨wr.heap.size, 2, none⟩ = some (.int .i64 xc) := (RowAt.new wr 38 [.int .i64 xo, .int .i64 xw, .int .i64 xc, .int .i64 xn]).cell 2
          have r3 : (wr.alloc (.cells #[.int .i64 xo, .int .i64 xw, .int .i64 xc, .int .i64 xn] 38)).cell? ⟨wr.heap.size, 3, none⟩ = some (.int .i64 xn) := (RowAt.new wr 38 [.int .i64 xo, .int .i64 xw, .int .i64 xc, .int .i64 xn]).cell 3
          obtain ⟨wA, hA⟩ : ∃ wA, wr.alloc (.cells #[.int .i64 xo, .int .i64 xw, .int .i64 xc, .int .i64 xn] 38) = wA := ⟨_, rfl⟩
          rw [hA] at HKA r0 r1 r2 r3 ⊢
          clear hA HKK e0 e1 e2 e3 p2 pA
          obtain ⟨bb, hbb⟩ : ∃ bb, wr.heap.size = bb := ⟨_, rfl⟩
          rw [hbb] at r0 r1 r2 r3 ⊢
          clear hbb
          refine Calls.mono (does_any (unhide HKA).tw.a.ds xo xw xc xn) ?_
          rintro r w5 ⟨v5, rfl, hd5, ho5, -⟩
          have HT5 := hide ((unhide HKA).tw.stepA hd5 ho5)
          have hne : bb ≠ gg := by
            intro e
            have := (unhide HKA).tw.a.ds.dk.cell (i := 0) (f := 2) (List.getElem?_eq_getElem (unhide HKA).tw.a.ds.dk.pos) (by decide)
            subst e
            simp [r2, gv] at this
          have HN : Hid (∃ A B, Ap w w5 [.slice a0 n0 c0, .slice a1 n1 c1, .slice a2 n2 c2] g gg c sv ex g' gg' c' sv' ex' n1 Q3 E n2 (j : Int) A B) := hide ⟨_, B, unhide HT5, (unhide HKA).eqv.other (by rw [unhide HZ]; exact z7) (fun y hy => by obtain ⟨i, rfl, hx, -⟩ := gAt_some hy; have := (List.getElem?_eq_some_iff.1 hx).1; have := (unhide HKA).len; omega), (unhide HKA).labs.does Q3 _ _ _ _, by rw [doesD_len]; exact (unhide HKA).len⟩
          clear r0 r1 r2 r3 hd5 ho5 hne HKA hz HZ HT5
          obtain ⟨f5, hf5⟩ : ∃ X, (doesD Q3 A xo xw xc xn).2.2 = X := ⟨_, rfl⟩
          rw [hf5]
          clear hf5
          go_wp2_with fail
          exact ⟨⟨k + 1, by omega, by simp, HN⟩, by simp [intOf]; omega⟩
        obtain ⟨i, rfl⟩ : ∃ i : Nat, xw = (i : Int) := ⟨xw.toNat, by omega⟩
        have hi2 : i < n2 := by omega
        have iI : (i : Int) < (n2 : Int) := by omega
        have iI0 : (0 : Int) ≤ (i : Int) := by omega
        obtain ⟨be, oe, ha2, hbe, hrow⟩ : ∃ b off, a2 = some ⟨b, off, none⟩ ∧ b < wr.heap.size ∧ EntRow wr b off n2 E S Dw := by
          have := (unhide HPO).1.call (unhide HKK).bel
          rcases this.2.2 with h | h
          · omega
          · exact h
        have f0 := (hrow i hi2).1
        have HA2 := hide ha2
        clear hrow cw1 cw2 ha2 p2
        obtain ⟨y, hy⟩ : ∃ y, A[i]? = some y := ⟨_, List.getElem?_eq_getElem (by have := (unhide HKK).len; omega)⟩
        have HYL := hide ((unhide HKK).labs i y hy)
        have HY := hide hy
        clear hy
        by_cases hEj : E i = (j : Int)
        · rw [hEj] at f0
          have HYJ : Hid (y.label = (j : Int)) := hide ((unhide HYL).trans hEj)
          clear HYL hEj
          have HKA := hide ((unhide HKK).call ((Below.refl _ _).alloc (Nat.le_refl _) (.cells #[.int .i64 xo, .int .i64 (i : Int), .int .i64 xc, .int .i64 xn] 38)))
          have pA : (wr.alloc (.cells #[.int .i64 xo, .int .i64 (i : Int), .int .i64 xc, .int .i64 xn] 38)).cell? ⟨w.heap.size, 2, none⟩ = some (.slice (some ⟨be, oe, none⟩) n2 c2) := by have := (unhide HKA).tw.a.row.cell 2; simpa [unhide HA2] using this
          have fA : (wr.alloc (.cells #[.int .i64 xo, .int .i64 (i : Int), .int .i64 xc, .int .i64 xn] 38)).cell? ⟨be, oe + i * 3, none⟩ = some (.int .i64 ((j : Int))) := by
            rw [((Below.refl _ _).alloc (Nat.le_refl _) _ : Below wr.heap.size wr (wr.alloc (.cells #[.int .i64 xo, .int .i64 (i : Int), .int .i64 xc, .int .i64 xn] 38))).cell (p := ⟨be, _, none⟩) hbe]
            exact f0
          go_wp2_with fail
          have r0 : (wr.alloc (.cells #[.int .i64 xo, .int .i64 (i : Int), .int .i64 xc, .int .i64 xn] 38)).cell? ⟨wr.heap.size, 0, none⟩ = some (.int .i64 xo) := (RowAt.new wr 38 [.int .i64 xo, .int .i64 (i : Int), .int .i64 xc, .int .i64 xn]).cell 0
          have r1 : (wr.alloc (.cells #[.int .i64 xo, .int .i64 (i : Int), .int .i64 xc, .int .i64 xn] 38)).cell? ⟨wr.heap.size, 1, none⟩ = some (.int .i64 (i : Int)) := (RowAt.new wr 38 [.int .i64 xo, .int .i64 (i : Int), .int .i64 xc, .int .i64 xn]).cell 1
          have r2 : (wr.alloc (.cells #[.int .i64 xo, .int .i64 (i : Int), .int .i64 xc, .int .i64 xn] 38)).cell? ⟨wr.heap.size, 2, none⟩ = some (.int .i64 xc) := (RowAt.new wr 38 [.int .i64 xo, .int .i64 (i : Int), .int .i64 xc, .int .i64 xn]).cell 2
          have r3 : (wr.alloc (.cells #[.int .i64 xo, .int .i64 (i : Int), .int .i64 xc, .int .i64 xn] 38)).cell? ⟨wr.heap.size, 3, none⟩ = some (.int .i64 xn) := (RowAt.new wr 38 [.int .i64 xo, .int .i64 (i : Int), .int .i64 xc, .int .i64 xn]).cell 3
          obtain ⟨wA, hA⟩ : ∃ wA, wr.alloc (.cells #[.int .i64 xo, .int .i64 (i : Int), .int .i64 xc, .int .i64 xn] 38) = wA := ⟨_, rfl⟩
          rw [hA] at HKA r0 r1 r2 r3 ⊢
          clear hA HKK e0 e1 e2 e3 pA fA f0 hbe HA2
          obtain ⟨bb, hbb⟩ : ∃ bb, wr.heap.size = bb := ⟨_, rfl⟩
          rw [hbb] at r0 r1 r2 r3 ⊢
          clear hbb
          refine Calls.mono (does_any (unhide HKA).tw.a.ds xo (i : Int) xc xn) ?_
          rintro r w5 ⟨v5, rfl, hd5, ho5, -⟩
          have HT5 := hide ((unhide HKA).tw.stepA hd5 ho5)
          have hne : bb ≠ gg := by
            intro e
            have := (unhide HKA).tw.a.ds.dk.cell (i := 0) (f := 2) (List.getElem?_eq_getElem (unhide HKA).tw.a.ds.dk.pos) (by decide)
            subst e
            simp [r2, gv] at this
          have s0 : w5.cell? ⟨bb, 0, none⟩ = some (.int .i64 xo) := ho5.cell (q := ⟨bb, 0, none⟩) hne r0
          have s1 : w5.cell? ⟨bb, 1, none⟩ = some (.int .i64 (i : Int)) := ho5.cell (q := ⟨bb, 1, none⟩) hne r1
          have s2 : w5.cell? ⟨bb, 2, none⟩ = some (.int .i64 xc) := ho5.cell (q := ⟨bb, 2, none⟩) hne r2
          have s3 : w5.cell? ⟨bb, 3, none⟩ = some (.int .i64 xn) := ho5.cell (q := ⟨bb, 3, none⟩) hne r3
          have HEV : Hid (Eqv (j : Int) (doesD Q3 A xo (i : Int) xc xn).1 (doesD Q3 B xo (i : Int) xc xn).1 ∧ (doesD Q3 A xo (i : Int) xc xn).2.2 = (doesD Q3 B xo (i : Int) xc xn).2.2) := hide ((unhide HKA).eqv.mine (by rw [gAt_nat]; exact unhide HY) (unhide HYJ))
          have HLB : Hid (LabOk E (doesD Q3 A xo (i : Int) xc xn).1 ∧ (doesD Q3 A xo (i : Int) xc xn).1.length = n2) := hide ⟨(unhide HKA).labs.does Q3 _ _ _ _, by rw [doesD_len]; exact (unhide HKA).len⟩
          clear r0 r1 r2 r3 hd5 ho5 hne HKA hz HZ
          obtain ⟨A5, hA5⟩ : ∃ X, (doesD Q3 A xo (i : Int) xc xn).1 = X := ⟨_, rfl⟩
          obtain ⟨B5, hB5⟩ : ∃ X, (doesD Q3 B xo (i : Int) xc xn).1 = X := ⟨_, rfl⟩
          obtain ⟨f5, hf5⟩ : ∃ X, (doesD Q3 B xo (i : Int) xc xn).2.2 = X := ⟨_, rfl⟩
          rw [(unhide HEV).2, hf5]
          rw [hA5] at HT5 HLB
          rw [hA5, hB5] at HEV
          have HDB := hide (does_any (unhide HT5).b xo (i : Int) xc xn)
          rw [hf5, hB5] at HDB
          clear hf5 hB5 hA5
          go_wp2_with fail
          refine Calls.mono (unhide HDB) ?_
          rintro r w6 ⟨v6, rfl, hd6, ho6, -⟩
          have HKK : Hid (Ap w w6 [.slice a0 n0 c0, .slice a1 n1 c1, .slice a2 n2 c2] g gg c sv ex g' gg' c' sv' ex' n1 Q3 E n2 (j : Int) A5 B5) := hide ⟨(unhide HT5).stepB hd6 ho6, (unhide HEV).1, (unhide HLB).1, (unhide HLB).2⟩
          clear HDB hd6 ho6 HT5 HEV HLB s0 s1 s2 s3
          have p2 : w6.cell? ⟨w.heap.size, 2, none⟩ = some (.slice a2 n2 c2) := (unhide HKK).tw.a.row.cell 2
          go_wp2_with fail
          clear p2
          go_loopw [110] (fun s wr => ∃ i : Nat, i ≤ n2 ∧ s = .int .i64 (i : Int) ∧ Hid (Ap w wr [.slice a0 n0 c0, .slice a1 n1 c1, .slice a2 n2 c2] g gg c sv ex g' gg' c' sv' ex' n1 Q3 E n2 (j : Int) A5 B5)) (fun s _ => ((n2 : Int) - intOf s).toNat)
          case atStart => exact ⟨0, by omega, by simp, HKK⟩
          case round =>
            clear HKK
            obtain ⟨i, hi, rfl, HKK⟩ := hrel
            by_cases hlv : i < n2
            · have iI : (i : Int) < (n2 : Int) := by omega
              obtain ⟨be, oe, rfl, -, hrow⟩ : ∃ b off, a2 = some ⟨b, off, none⟩ ∧ b < wr.heap.size ∧ EntRow wr b off n2 E S Dw := by
                have := (unhide HPO).1.call (unhide HKK).bel
                rcases this.2.2 with h | h
                · omega
                · exact h
              obtain ⟨f0, f1, f2⟩ := hrow i hlv
              clear hrow
              obtain ⟨y, hy⟩ : ∃ y, A5[i]? = some y := ⟨_, List.getElem?_eq_getElem (by have := (unhide HKK).len; omega)⟩
              have HYL := hide ((unhide HKK).labs i y hy)
              have HY := hide hy
              clear hy
              have HKW := hide ((unhide HKK).call ((Below.refl _ _).alloc (Nat.le_refl _) (.cells #[.int .i64 (E i), .string (S i), .bool (Dw i)] 63)))
              by_cases hEj : E i = (j : Int)
              · rw [hEj] at f0 HKW
                have HB : Hid (B5[i]? = some y) := hide (by
                  obtain ⟨y2, h1, _, h2⟩ := (unhide HKK).eqv.get i (unhide HY)
                  rw [h2 ((unhide HYL).trans hEj)]
                  exact h1)
                clear HKK HYL hEj
                go_wp2_with fail
                refine Calls.mono (state_ok g gg c sv ex A5 _ (unhide HKW).tw.a.ds.dk i y (unhide HY)) ?_
                rintro r w7 ⟨rfl, hb7⟩
                have HT7 := hide ((unhide HKW).call hb7)
                clear hb7 HKW f0 f1 f2
                go_wp2_with fail
                refine Calls.mono (state_ok g' gg' c' sv' ex' B5 _ (unhide HT7).tw.b.dk i y (unhide HB)) ?_
                rintro r w8 ⟨rfl, hb8⟩
                have HT8 := hide ((unhide HT7).call hb8)
                clear hb8 HT7
                go_wp2_with fail
                refine Calls.mono (locked_ok g gg c sv ex A5 w8 (unhide HT8).tw.a.ds.dk i y (unhide HY)) ?_
                rintro r w9 ⟨rfl, rfl⟩
                go_wp2_with fail
                refine Calls.mono (locked_ok g' gg' c' sv' ex' B5 w8 (unhide HT8).tw.b.dk i y (unhide HB)) ?_
                rintro r w9 ⟨rfl, rfl⟩
                clear HY HB
                go_wp2_with fail
                exact ⟨⟨i + 1, by omega, by simp, HT8⟩, by simp [intOf]; omega⟩
              · have hEb : (E i == (j : Int)) = false := by simp [hEj]
                clear HKK HYL HY
                go_wp2_with fail
                exact ⟨⟨i + 1, by omega, by simp, HKW⟩, by simp [intOf]; omega⟩
            · obtain rfl : n2 = i := by omega
              have iI : ¬ (n2 : Int) < (n2 : Int) := by omega
              have HN : Hid (∃ A B, Ap w wr [.slice a0 n0 c0, .slice a1 n1 c1, .slice a2 n2 c2] g gg c sv ex g' gg' c' sv' ex' n1 Q3 E n2 (j : Int) A B) := hide ⟨A5, B5, unhide HKK⟩
              clear HKK
              go_wp2_with fail
              exact ⟨⟨k + 1, by omega, by simp, HN⟩, by simp [intOf]; omega⟩
        · have hEb : (E i == (j : Int)) = false := by simp [hEj]
          have HYJ : Hid (y.label ≠ (j : Int)) := hide (by rw [unhide HYL]; exact hEj)
          clear HYL
          have HKA := hide ((unhide HKK).call ((Below.refl _ _).alloc (Nat.le_refl _) (.cells #[.int .i64 xo, .int .i64 (i : Int), .int .i64 xc, .int .i64 xn] 38)))
          have pA : (wr.alloc (.cells #[.int .i64 xo, .int .i64 (i : Int), .int .i64 xc, .int .i64 xn] 38)).cell? ⟨w.heap.size, 2, none⟩ = some (.slice (some ⟨be, oe, none⟩) n2 c2) := by have := (unhide HKA).tw.a.row.cell 2; simpa [unhide HA2] using this
          have fA : (wr.alloc (.cells #[.int .i64 xo, .int .i64 (i : Int), .int .i64 xc, .int .i64 xn] 38)).cell? ⟨be, oe + i * 3, none⟩ = some (.int .i64 (E i)) := by
            rw [((Below.refl _ _).alloc (Nat.le_refl _) _ : Below wr.heap.size wr (wr.alloc (.cells #[.int .i64 xo, .int .i64 (i : Int), .int .i64 xc, .int .i64 xn] 38))).cell (p := ⟨be, _, none⟩) hbe]
            exact f0
          go_wp2_with fail
          have r0 : (wr.alloc (.cells #[.int .i64 xo, .int .i64 (i : Int), .int .i64 xc, .int .i64 xn] 38)).cell? ⟨wr.heap.size, 0, none⟩ = some (.int .i64 xo) := (RowAt.new wr 38 [.int .i64 xo, .int .i64 (i : Int), .int .i64 xc, .int .i64 xn]).cell 0
          have r1 : (wr.alloc (.cells #[.int .i64 xo, .int .i64 (i : Int), .int .i64 xc, .int .i64 xn] 38)).cell? ⟨wr.heap.size, 1, none⟩ = some (.int .i64 (i : Int)) := (RowAt.new wr 38 [.int .i64 xo, .int .i64 (i : Int), .int .i64 xc, .int .i64 xn]).cell 1
          have r2 : (wr.alloc (.cells #[.int .i64 xo, .int .i64 (i : Int), .int .i64 xc, .int .i64 xn] 38)).cell? ⟨wr.heap.size, 2, none⟩ = some (.int .i64 xc) := (RowAt.new wr 38 [.int .i64 xo, .int .i64 (i : Int), .int .i64 xc, .int .i64 xn]).cell 2
          have r3 : (wr.alloc (.cells #[.int .i64 xo, .int .i64 (i : Int), .int .i64 xc, .int .i64 xn] 38)).cell? ⟨wr.heap.size, 3, none⟩ = some (.int .i64 xn) := (RowAt.new wr 38 [.int .i64 xo, .int .i64 (i : Int), .int .i64 xc, .int .i64 xn]).cell 3
          obtain ⟨wA, hA⟩ : ∃ wA, wr.alloc (.cells #[.int .i64 xo, .int .i64 (i : Int), .int .i64 xc, .int .i64 xn] 38) = wA := ⟨_, rfl⟩
          rw [hA] at HKA r0 r1 r2 r3 ⊢
          clear hA HKK e0 e1 e2 e3 pA fA f0 hbe HA2
          obtain ⟨bb, hbb⟩ : ∃ bb, wr.heap.size = bb := ⟨_, rfl⟩
          rw [hbb] at r0 r1 r2 r3 ⊢
          clear hbb
          refine Calls.mono (does_any (unhide HKA).tw.a.ds xo (i : Int) xc xn) ?_
          rintro r w5 ⟨v5, rfl, hd5, ho5, -⟩
          have HT5 := hide ((unhide HKA).tw.stepA hd5 ho5)
          have hne : bb ≠ gg := by
            intro e
            have := (unhide HKA).tw.a.ds.dk.cell (i := 0) (f := 2) (List.getElem?_eq_getElem (unhide HKA).tw.a.ds.dk.pos) (by decide)
            subst e
            simp [r2, gv] at this
          have HN : Hid (∃ A B, Ap w w5 [.slice a0 n0 c0, .slice a1 n1 c1, .slice a2 n2 c2] g gg c sv ex g' gg' c' sv' ex' n1 Q3 E n2 (j : Int) A B) := hide ⟨_, B, unhide HT5, (unhide HKA).eqv.other (by rw [unhide HZ]; exact z7) (fun y2 hy2 => by rw [gAt_nat, unhide HY] at hy2; obtain rfl : y = y2 := (by simpa using hy2); exact unhide HYJ), (unhide HKA).labs.does Q3 _ _ _ _, by rw [doesD_len]; exact (unhide HKA).len⟩
          clear r0 r1 r2 r3 hd5 ho5 hne HKA hz HZ HT5
          obtain ⟨f5, hf5⟩ : ∃ X, (doesD Q3 A xo (i : Int) xc xn).2.2 = X := ⟨_, rfl⟩
          rw [hf5]
          clear hf5
          go_wp2_with fail
          exact ⟨⟨k + 1, by omega, by simp, HN⟩, by simp [intOf]; omega⟩
      · obtain rfl : k = n := by omega
        have kI : ¬ (k : Int) < (k : Int) := by omega
        obtain ⟨A, B, hK⟩ := unhide HI
        have HKK := hide hK
        clear hK HI
        go_wp2_with fail
        refine Calls.mono (seats_ok g gg c sv ex A wr (unhide HKK).tw.a.ds.dk (j : Int)) ?_
        rintro r w7 ⟨rfl, hb7⟩
        have HT7 := hide ((unhide HKK).call hb7)
        clear hb7 HKK
        go_wp2_with fail
        refine Calls.mono (seats_ok g' gg' c' sv' ex' B _ (unhide HT7).tw.b.dk (j : Int)) ?_
        rintro r w8 ⟨rfl, hb8⟩
        have HP := hide ((unhide HT7).call hb8)
        rw [(unhide HT7).eqv.seats]
        clear hb8 HT7
        go_wp2_with fail
        refine Calls.mono (awake_any _) ?_
        rintro r w9 ⟨rfl, hb9⟩
        have HP9 := hide ((unhide HP).call hb9)
        clear hb9 HP
        go_wp2_with fail
        go_ret
        exact ⟨rfl, (unhide HP9).bel⟩
end Go.Proofs.Ythgacmlbmcehmaa
