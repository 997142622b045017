/- DeskSeats, walked. -/
import Derived.Test.YthgacmlbmcehmaaDSk
namespace Go.Proofs.Ythgacmlbmcehmaa
set_option linter.unusedVariables false
set_option linter.unusedSimpArgs false
open Go.ChangeShapes Go.WideShapes Go.ChangeAt Go.RowKit Go.Joins Go.Deep

set_option maxRecDepth 100000 in
set_option maxHeartbeats 4000000 in
theorem seats_law (a0 a1 a2 al : Option Addr) (n0 n1 n2 c0 c1 c2 cl : Nat) (L C Q1 Q2 Q3 E : Nat → Int) (S : Nat → ByteArray) (Dw : Nat → Bool) (l : List DoV) (w : World)
    (pl : PolLabs w a0 n0 L C) (pq : PolQuos w a1 n1 Q1 Q2 Q3) (pe : PolEnts w a2 n2 E S Dw) (hc0 : n0 ≤ c0) (hm0 : c0 ≤ maxLen) (hl : DosAt w al l) (hlm : l.length ≤ maxLen) :
    Calls Try.prog 4 #[.agg #[.slice a0 n0 c0, .slice a1 n1 c1, .slice a2 n2 c2], .slice al l.length cl] w fun e w' => e = .returned (.bool true) ∧ Below w.heap.size w w' := by
  have HPO := hide (⟨pq, pe, hl⟩ : PolQuos w a1 n1 Q1 Q2 Q3 ∧ PolEnts w a2 n2 E S Dw ∧ DosAt w al l)
  have hb : Below w.heap.size w (w.alloc (.cells #[.slice a0 n0 c0, .slice a1 n1 c1, .slice a2 n2 c2] 26)) := (Below.refl _ _).alloc (Nat.le_refl _) _
  have HLI := hide (light_any a0 a1 a2 n0 n1 n2 c0 c1 c2 pl.1 pq.1 pe.1)
  have HP0 : Hid (Px w (w.alloc (.cells #[.slice a0 n0 c0, .slice a1 n1 c1, .slice a2 n2 c2] 26)) a0 a1 a2 al n0 n1 n2 c0 c1 c2 L C Q1 Q2 Q3 E S Dw l) := hide ⟨pl.call hb, pq.call hb, pe.call hb, hl.call hb, RowAt.new w 26 _, hb⟩
  have HC := hide (⟨hc0, hm0⟩ : n0 ≤ c0 ∧ c0 ≤ maxLen)
  obtain ⟨n, hn⟩ : ∃ n, l.length = n := ⟨_, rfl⟩
  rw [hn] at hlm ⊢
  have HLN := hide hn
  have hlI : (n : Int) ≤ 9223372036854775807 := by unfold maxLen at hlm; omega
  clear pl pq pe hb hl hn hc0 hm0
  cases hlt : (decide (n0 ≤ 100) && decide (n1 ≤ 100) && decide (n2 ≤ 100)) with
  | false =>
    rw [hlt] at HLI
    go_enter Try.func4, Try.ntmps4
    go_wp2_with fail
    refine Calls.mono (unhide HLI _) ?_
    rintro r w1 ⟨rfl, hb1⟩
    have HP := hide ((unhide HP0).call hb1)
    clear hb1 HP0
    go_wp2_with fail
    refine Calls.mono (awake_any _) ?_
    rintro r w9 ⟨rfl, hb9⟩
    have HP9 := hide ((unhide HP).call hb9)
    clear hb9 HP
    go_wp2_with fail
    go_ret
    exact ⟨rfl, (unhide HP9).bel⟩
  | true =>
    rw [hlt] at HLI
    go_enter Try.func4, Try.ntmps4
    go_wp2_with fail
    refine Calls.mono (unhide HLI _) ?_
    rintro r w1 ⟨rfl, hb1⟩
    have HP := hide ((unhide HP0).call hb1)
    clear hb1 HP0 HLI hlt
    by_cases h3 : (300 : Int) < (n : Int)
    · skip
      go_wp2_with fail
      refine Calls.mono (awake_any _) ?_
      rintro r w9 ⟨rfl, hb9⟩
      have HP9 := hide ((unhide HP).call hb9)
      clear hb9 HP
      go_wp2_with fail
      go_ret
      exact ⟨rfl, (unhide HP9).bel⟩
    have hc : ∀ j : Nat, w1.cell? ⟨w.heap.size, j, none⟩ = ([.slice a0 n0 c0, .slice a1 n1 c1, .slice a2 n2 c2] : List Value)[j]? := fun j => (unhide HP).row.cell j
    have p0 := hc 0
    have p1 := hc 1
    have p2 := hc 2
    simp only [List.getElem?_cons_zero, List.getElem?_cons_succ] at p0 p1 p2
    clear hc
    go_wp2_with fail
    refine Calls.mono (right_any a0 a1 a2 n0 n1 n2 c0 c1 c2 L C Q1 Q2 Q3 E S Dw w1 (unhide HP).pl (unhide HP).pq (unhide HP).pe (unhide HC).1 (unhide HC).2) ?_
    rintro r w2 ⟨rfl, hb2⟩
    have HP2 := hide ((unhide HP).call hb2)
    clear hb2 HP p0 p1 p2
    by_cases hr : rightN n0 n1 n2 L C Q1 Q2 Q3 E S = 0
    rotate_left
    · have hr2 : rightN n0 n1 n2 L C Q1 Q2 Q3 E S = 11 := by
        unfold rightN at hr ⊢
        split
        · rename_i q; simp [q] at hr
        · rfl
      rw [hr2]
      clear hr hr2
      have HP := HP2
      clear HP2
      go_wp2_with fail
      refine Calls.mono (awake_any _) ?_
      rintro r w9 ⟨rfl, hb9⟩
      have HP9 := hide ((unhide HP).call hb9)
      clear hb9 HP
      go_wp2_with fail
      go_ret
      exact ⟨rfl, (unhide HP9).bel⟩
    have HRH := hide (right_has hr)
    have HR := hide hr
    rw [hr]
    clear hr
    have p0 : w2.cell? ⟨w.heap.size, 0, none⟩ = some (.slice a0 n0 c0) := (unhide HP2).row.cell 0
    have p1 : w2.cell? ⟨w.heap.size, 1, none⟩ = some (.slice a1 n1 c1) := (unhide HP2).row.cell 1
    have p2 : w2.cell? ⟨w.heap.size, 2, none⟩ = some (.slice a2 n2 c2) := (unhide HP2).row.cell 2
    have HM := hide (new_any a0 a1 a2 n0 n1 n2 c0 c1 c2 L C Q1 Q2 Q3 E S Dw w2 (unhide HP2).pl (unhide HP2).pq (unhide HP2).pe (unhide HC).1 (unhide HC).2 (unhide HR))
    go_wp2_with fail
    refine Calls.mono (unhide HM) ?_
    rintro r w3 ⟨g, gg, c, sv, ex, rfl, hd, hb3, hge⟩
    have HK0 : Hid (∃ D, Sk w w3 [.slice a0 n0 c0, .slice a1 n1 c1, .slice a2 n2 c2] g gg c n1 sv ex Q3 D ∧ SOk n1 Q3 D ∧ D.length = n2) := hide (by
      have hlt := (unhide HP2).row.lt
      refine ⟨newD n2 E, ⟨hd, (unhide HP2).bel.trans (hb3.mono (unhide HP2).bel.size), (unhide HP2).row.below hb3 hlt, by omega⟩, sok_new (fun i hi => ((right_seats (unhide HR)).2 i hi).1), newD_len n2 E⟩)
    have HQ3 := hide (right_seats (unhide HR)).2
    obtain ⟨⟨q1, q2⟩, ⟨q3, q4⟩, q5⟩ := unhide HRH
    have hn2 : (n2 : Int) ≤ 8 := by omega
    have hn1 : (n1 : Int) ≤ 32 := by omega
    clear hd hb3 hge HP2 HM HR p0 p1 p2 q5
    go_wp2_with fail
    go_loopw [36] (fun s wr => ∃ k : Nat, k ≤ n ∧ s = .int .i64 (k : Int) ∧ Hid (∃ D, Sk w wr [.slice a0 n0 c0, .slice a1 n1 c1, .slice a2 n2 c2] g gg c n1 sv ex Q3 D ∧ SOk n1 Q3 D ∧ D.length = n2)) (fun s _ => ((n : Int) - intOf s).toNat)
    case atStart => exact ⟨0, by omega, by simp, HK0⟩
    case round =>
      clear HK0
      obtain ⟨k, hk, rfl, HI⟩ := hrel
      by_cases hlt : k < n
      · have kI : (k : Int) < (n : Int) := by omega
        obtain ⟨D0, hK, hS, hL⟩ := unhide HI
        have HKK := hide hK
        have HSS := hide hS
        have HLL := hide hL
        obtain ⟨x, hx⟩ : ∃ x, l[k]? = some x := ⟨_, List.getElem?_eq_getElem (by have := unhide HLN; omega)⟩
        obtain ⟨b, off, rfl, e0, e1, e2, e3⟩ := (unhide HPO).2.2.at_ hK.bel hx
        clear hx hK hS hL HI
        go_wp2_with fail
        have HKA := hide ((unhide HKK).alloc (.cells #[.int .i64 x.o, .int .i64 x.who, .int .i64 x.conn, .int .i64 x.n] 38))
        clear HKK e0 e1 e2 e3
        refine Calls.mono (does_any (unhide HKA).ds x.o x.who x.conn x.n) ?_
        rintro r w4 ⟨v4, rfl, hd4, ho4, -⟩
        have HK4 : Hid (∃ D, Sk w w4 [.slice a0 n0 c0, .slice a1 n1 c1, .slice a2 n2 c2] g gg c n1 sv ex Q3 D ∧ SOk n1 Q3 D ∧ D.length = n2) := hide ⟨_, (unhide HKA).step hd4 ho4, (unhide HSS).does (fun y hy => ((unhide HKA).ds.gin y hy).lab) _ _ _ _, by rw [doesD_len]; exact unhide HLL⟩
        clear hd4 ho4 HKA HSS HLL
        obtain ⟨D, hK, hS, hL⟩ := unhide HK4
        have HKK := hide hK
        have HSS := hide hS
        have HLL := hide hL
        have HSM : Hid (∀ v : Nat, v ≤ n1 → sumS D v ≤ openN D) := hide (fun v hv => by rw [← sumS_all D (fun y hy => (hK.ds.gin y hy).lab)]; exact sumS_le hv)
        have HSA : Hid (sumS D n1 = openN D) := hide (sumS_all D (fun y hy => (hK.ds.gin y hy).lab))
        have HO8 : Hid (openN D ≤ 8) := hide (Nat.le_trans (openN_le D) hK.ds.dk.le)
        have p1 : w4.cell? ⟨w.heap.size, 1, none⟩ = some (.slice a1 n1 c1) := hK.row.cell 1
        clear hK hS hL HK4
        go_wp2_with fail
        go_loopw [9, 46] (fun nn s wr => ∃ v : Nat, v ≤ n1 ∧ s = .int .i64 (v : Int) ∧ (∃ u : Nat, nn = .int .i64 (u : Int) ∧ Hid (u = sumS D v)) ∧ Hid (Sk w wr [.slice a0 n0 c0, .slice a1 n1 c1, .slice a2 n2 c2] g gg c n1 sv ex Q3 D)) (fun _ s _ => ((n1 : Int) - intOf s).toNat)
        case atStart => exact ⟨0, by omega, by simp, ⟨0, by simp, hide rfl⟩, HKK⟩
        case round =>
          clear HKK p1
          obtain ⟨v, hv, rfl, ⟨u, rfl, HU⟩, HKK⟩ := hrel
          by_cases hlv : v < n1
          · have vI : (v : Int) < (n1 : Int) := by omega
            obtain ⟨bq, oq, rfl, -, hrow⟩ : ∃ b off, a1 = some ⟨b, off, none⟩ ∧ b < wr.heap.size ∧ QuoRow wr b off n1 Q1 Q2 Q3 := by
              have := (unhide HPO).1.call (unhide HKK).bel
              rcases this.2.2 with h | h
              · omega
              · exact h
            obtain ⟨f0, f1, f2⟩ := hrow v hlv
            clear hrow
            obtain ⟨s, hs⟩ : ∃ s : Nat, seatsN D (v : Int) = s := ⟨_, rfl⟩
            have hle : ¬ Q3 v < (s : Int) := by have := (unhide HSS).seat v hlv; omega
            have hus : u + s ≤ 8 := by
              have h1 := unhide HSM (v + 1) (by omega)
              have h2 := unhide HO8
              have h3 := unhide HU
              simp only [sumS] at h1
              omega
            have HU2 : Hid (u + s = sumS D (v + 1)) := hide (by have := unhide HU; simp only [sumS]; omega)
            have husI : (u : Int) + (s : Int) ≤ 8 := by omega
            have HSQ := hide hs
            clear hs HU hus
            go_wp2_with fail
            have HKA := hide ((unhide HKK).alloc (.cells #[.int .i64 (Q1 v), .int .i64 (Q2 v), .int .i64 (Q3 v)] 60))
            clear HKK
            have fq : (wr.alloc (.cells #[.int .i64 (Q1 v), .int .i64 (Q2 v), .int .i64 (Q3 v)] 60)).cell? ⟨wr.heap.size, 2, none⟩ = some (.int .i64 (Q3 v)) := (RowAt.new wr 60 [.int .i64 (Q1 v), .int .i64 (Q2 v), .int .i64 (Q3 v)]).cell 2
            obtain ⟨wA, hA⟩ : ∃ wA, wr.alloc (.cells #[.int .i64 (Q1 v), .int .i64 (Q2 v), .int .i64 (Q3 v)] 60) = wA := ⟨_, rfl⟩
            rw [hA] at HKA fq ⊢
            clear hA
            obtain ⟨bb, hbb⟩ : ∃ bb, wr.heap.size = bb := ⟨_, rfl⟩
            rw [hbb] at fq ⊢
            clear hbb f0 f1 f2
            have hbl : bb < wA.heap.size := lt_of_cell fq
            have HQ8 : Hid (∀ w', Below wA.heap.size wA w' → w'.cell? ⟨bb, 2, none⟩ = some (.int .i64 (Q3 v)) ∧ Below wA.heap.size wA w') := hide (fun w' hb => ⟨by rw [hb.cell (p := ⟨bb, _, none⟩) hbl]; exact fq, hb⟩)
            have HSE := hide (p := ∀ W, Below wA.heap.size wA W → _) (fun W hW => seats_ok g gg c sv ex D W ((unhide HKA).ds.dk.call hW) (v : Int))
            rw [unhide HSQ] at HSE
            clear fq
            have k0 : Below wA.heap.size wA wA.drew := (Below.refl _ _).drew
            go_region_held3 (fun w' => w'.cell? ⟨bb, 2, none⟩ = some (.int .i64 (Q3 v)) ∧ Below wA.heap.size wA w')
              (first | exact unhide HQ8 _ k0 | exact unhide HQ8 _ (by assumption))
              (first | (go_at_call 27; with_reducible refine Calls.mono (unhide HSE wA.drew k0) ?_; rintro e w5 ⟨rfl, b5⟩; have k5 : Below wA.heap.size wA w5 := k0.trans (b5.mono k0.size)))
            have HK5 := hide ((unhide HKA).call k5)
            clear k5 k0 HSE HQ8 HKA b5 hbl
            go_wp2_with fail
            refine Calls.mono (seats_ok g gg c sv ex D _ (unhide HK5).ds.dk (v : Int)) ?_
            rintro r w6 ⟨rfl, hb6⟩
            have HK6 := hide ((unhide HK5).call hb6)
            rw [unhide HSQ]
            clear hb6 HK5 HSQ
            go_wp2_with fail
            exact ⟨⟨v + 1, by omega, by simp, ⟨u + s, by simp, HU2⟩, HK6⟩, by simp [intOf]; omega⟩
          · obtain rfl : n1 = v := by omega
            have vI : ¬ (n1 : Int) < (n1 : Int) := by omega
            have hu8 : u ≤ 8 := by have h1 := unhide HU; have h2 := unhide HSA; have h3 := unhide HO8; omega
            have HU0 : Hid (u = openN D - openN (D.take 0)) := hide (by have h1 := unhide HU; have h2 := unhide HSA; simp [openN] at h2 ⊢; omega)
            clear HU
            generalize wr = wq at HKK
            have p2 : wq.cell? ⟨w.heap.size, 2, none⟩ = some (.slice a2 n2 c2) := (unhide HKK).row.cell 2
            go_wp2_with fail
            go_loopw [9, 66] (fun nn s wr => ∃ i : Nat, i ≤ n2 ∧ s = .int .i64 (i : Int) ∧ (∃ u : Nat, nn = .int .i64 (u : Int) ∧ u ≤ 8 ∧ Hid (u = openN D - openN (D.take i))) ∧ Hid (Sk w wr [.slice a0 n0 c0, .slice a1 n1 c1, .slice a2 n2 c2] g gg c n1 sv ex Q3 D)) (fun _ s _ => ((n2 : Int) - intOf s).toNat)
            case atStart => exact ⟨0, by omega, by simp, ⟨u, by simp, hu8, HU0⟩, HKK⟩
            case round =>
              clear HKK p2 HU0 hu8
              obtain ⟨i, hi, rfl, ⟨u2, rfl, hu8, HU⟩, HKK⟩ := hrel
              by_cases hlv : i < n2
              · have iI : (i : Int) < (n2 : Int) := by omega
                obtain ⟨y, hy⟩ : ∃ y, D[i]? = some y := ⟨_, List.getElem?_eq_getElem (by have := unhide HLL; omega)⟩
                have HT := hide (openN_take hy)
                have HTL : Hid (openN (D.take (i + 1)) ≤ openN D) := hide (by
                  unfold openN
                  exact (List.Sublist.filter _ (List.take_sublist _ _)).length_le)
                have HCN := hide ((unhide HSS).conn y (List.mem_of_getElem? hy))
                have HY := hide hy
                clear hy
                go_wp2_with fail
                refine Calls.mono (state_ok g gg c sv ex D _ (unhide HKK).ds.dk i y (unhide HY)) ?_
                rintro r w6 ⟨rfl, hb6⟩
                have HK6 := hide ((unhide HKK).call hb6)
                clear hb6 HKK HY
                cases ho : y.opn with
                | false =>
                  have HU2 : Hid (u2 = openN D - openN (D.take (i + 1))) := hide (by have h1 := unhide HT; have h2 := unhide HU; rw [ho] at h1; simp at h1; omega)
                  clear HU HT HTL HCN ho
                  go_wp2_with fail
                  exact ⟨⟨i + 1, by omega, by simp, ⟨u2, by simp, hu8, HU2⟩, HK6⟩, by simp [intOf]; omega⟩
                | true =>
                  have hc : (y.conn == 0) = false := by have := unhide HCN ho; simp [this]
                  obtain ⟨u3, rfl⟩ : ∃ u3, u2 = u3 + 1 := by
                    have h1 := unhide HT; have h2 := unhide HU; have h3 := unhide HTL
                    rw [ho] at h1; simp at h1
                    exact ⟨u2 - 1, by omega⟩
                  have HU2 : Hid (u3 = openN D - openN (D.take (i + 1))) := hide (by have h1 := unhide HT; have h2 := unhide HU; rw [ho] at h1; simp at h1; omega)
                  clear HU HT HTL HCN ho
                  have hu9 : u3 ≤ 8 := by omega
                  have e9 : ((u3 + 1 : Nat) : Int) - 1 = (u3 : Int) := by omega
                  go_wp2_with fail
                  exact ⟨⟨i + 1, by omega, by simp, ⟨u3, by simp, hu9, HU2⟩, HK6⟩, by simp [intOf]; omega⟩
              · obtain rfl : n2 = i := by omega
                have iI : ¬ (n2 : Int) < (n2 : Int) := by omega
                obtain rfl : u2 = 0 := by
                  have h1 := unhide HU
                  rw [List.take_of_length_le (by rw [unhide HLL]; exact Nat.le_refl _)] at h1
                  omega
                have HN : Hid (∃ D, Sk w wr [.slice a0 n0 c0, .slice a1 n1 c1, .slice a2 n2 c2] g gg c n1 sv ex Q3 D ∧ SOk n1 Q3 D ∧ D.length = n2) := hide ⟨D, unhide HKK, unhide HSS, unhide HLL⟩
                clear HKK HU
                go_wp2_with fail
                exact ⟨⟨k + 1, by omega, by simp, HN⟩, by simp [intOf]; omega⟩
      · obtain rfl : k = n := by omega
        have kI : ¬ (k : Int) < (k : Int) := by omega
        obtain ⟨D, hK, -, -⟩ := unhide HI
        have HP := hide hK
        clear hK HI
        go_wp2_with fail
        refine Calls.mono (awake_any _) ?_
        rintro r w9 ⟨rfl, hb9⟩
        have HP9 := hide ((unhide HP).call hb9)
        clear hb9 HP
        go_wp2_with fail
        go_ret
        exact ⟨rfl, (unhide HP9).bel⟩
end Go.Proofs.Ythgacmlbmcehmaa
