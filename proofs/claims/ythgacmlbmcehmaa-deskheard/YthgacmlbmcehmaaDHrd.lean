/- DeskHeard, walked. -/
import Derived.Test.YthgacmlbmcehmaaDInt
namespace Go.Proofs.Ythgacmlbmcehmaa
set_option linter.unusedVariables false
set_option linter.unusedSimpArgs false
open Go.ChangeShapes Go.WideShapes Go.ChangeAt Go.RowKit Go.Joins Go.Deep

theorem mem_overs {D : List Gst} {j : Nat} {y : Gst} (hy : D[j]? = some y) : decide ((j : Int) ∈ oversL D D.length) = overG y := by
  have hj := (List.getElem?_eq_some_iff.1 hy).1
  unfold oversL
  cases ho : overG y with
  | true =>
    simp only [decide_eq_true_eq, List.mem_map, List.mem_filter, List.mem_range]
    exact ⟨j, ⟨hj, by simp [hy, ho]⟩, rfl⟩
  | false =>
    simp only [decide_eq_false_iff_not, List.mem_map, List.mem_filter, List.mem_range]
    rintro ⟨k, ⟨_, hk⟩, e⟩
    obtain rfl : k = j := by omega
    simp [hy, ho] at hk
theorem tick_step {D : List Gst} {j : Nat} {y : Gst} (hy : D[j]? = some y) (ho : y.opn = true) : ∃ y', (D.map ageG)[j]? = some y' ∧ y'.opn = decide (y.silent + 1 < 24) ∧ y'.silent = y.silent + 1 := by
  refine ⟨ageG y, by rw [List.getElem?_map, hy]; rfl, ?_, ?_⟩ <;> simp [ageG, ho]
theorem over_no {y : Gst} (hs : y.silent + 1 < 24) : overG y = false := by simp [overG, hs]
theorem over_yes {y : Gst} (ho : y.opn = true) (hs : y.silent + 1 = 24) : overG y = true := by simp [overG, ho, hs]
theorem heard_zero {D : List Gst} {j : Nat} (h : (heardD D (j : Int)).2 = 0) : ∃ y, (heardD D (j : Int)).1[j]? = some y ∧ y.opn = true ∧ y.silent = 0 := by
  unfold heardD at h ⊢
  rw [gAt_nat] at h ⊢
  cases hy : D[j]? with
  | none => simp [hy] at h
  | some y =>
    have hj := (List.getElem?_eq_some_iff.1 hy).1
    simp only [hy] at h ⊢
    cases ho : y.opn with
    | false => simp [ho] at h
    | true =>
      simp only [ho, if_true, Int.toNat_natCast]
      exact ⟨_, List.getElem?_set_self hj, rfl, rfl⟩
theorem heard_in_zero {D : List Gst} {j : Nat} {y : Gst} (hy : D[j]? = some y) (ho : y.opn = true) : (heardD D (j : Int)).2 = 0 := by
  unfold heardD
  rw [gAt_nat, hy]
  simp [ho]
theorem heard_shut {D : List Gst} {j : Nat} {y : Gst} (hy : D[j]? = some y) (ho : y.opn = false) : heardD D (j : Int) = (D, 172) := by
  unfold heardD
  rw [gAt_nat, hy]
  simp [ho]
set_option maxRecDepth 100000 in
set_option maxHeartbeats 4000000 in
theorem heard_law (a0 a1 a2 al : Option Addr) (n0 n1 n2 c0 c1 c2 cl : Nat) (L C Q1 Q2 Q3 E : Nat → Int) (S : Nat → ByteArray) (Dw : Nat → Bool) (l : List DoV) (who : Int) (ga : Option Addr) (gc : Nat) (gs : List Int) (w : World)
    (pl : PolLabs w a0 n0 L C) (pq : PolQuos w a1 n1 Q1 Q2 Q3) (pe : PolEnts w a2 n2 E S Dw) (hc0 : n0 ≤ c0) (hm0 : c0 ≤ maxLen) (hl : DosAt w al l) (hlm : l.length ≤ maxLen) (hgs : IntsAt w (.slice ga gs.length gc) gs) :
    Calls Try.prog 7 #[.agg #[.slice a0 n0 c0, .slice a1 n1 c1, .slice a2 n2 c2], .slice al l.length cl, .int .i64 who, .slice ga gs.length gc] w fun e w' => e = .returned (.bool true) ∧ Below w.heap.size w w' := by
  have HGS := hide hgs
  obtain ⟨m, hm⟩ : ∃ m, gs.length = m := ⟨_, rfl⟩
  have hmI : (m : Int) ≤ 9223372036854775807 := by obtain ⟨_, cc, e, h1, h2, _⟩ := hgs; rw [← hm]; unfold maxLen at h2; omega
  rw [hm] at HGS ⊢
  have HGM := hide hm
  clear hgs hm
  have hb : Below w.heap.size w (w.alloc (.cells #[.slice a0 n0 c0, .slice a1 n1 c1, .slice a2 n2 c2] 26)) := (Below.refl _ _).alloc (Nat.le_refl _) _
  have HLI := hide (light_any a0 a1 a2 n0 n1 n2 c0 c1 c2 pl.1 pq.1 pe.1)
  have HP0 : Hid (Px w (w.alloc (.cells #[.slice a0 n0 c0, .slice a1 n1 c1, .slice a2 n2 c2] 26)) a0 a1 a2 al n0 n1 n2 c0 c1 c2 L C Q1 Q2 Q3 E S Dw l) := hide ⟨pl.call hb, pq.call hb, pe.call hb, hl.call hb, RowAt.new w 26 _, hb⟩
  have HC := hide (⟨hc0, hm0⟩ : n0 ≤ c0 ∧ c0 ≤ maxLen)
  obtain ⟨n, hn⟩ : ∃ n, l.length = n := ⟨_, rfl⟩
  rw [hn] at hlm ⊢
  have HLN := hide hn
  have hlI : (n : Int) ≤ 9223372036854775807 := by unfold maxLen at hlm; omega
  clear pl pq pe hb hl hn hc0 hm0
  cases hlt : (decide (n0 ≤ 100) && decide (n1 ≤ 100) && decide (n2 ≤ 100)) with
  | false =>
    rw [hlt] at HLI
    go_enter Try.func7, Try.ntmps7
    go_wp2_with fail
    refine Calls.mono (unhide HLI _) ?_
    rintro r w1 ⟨rfl, hb1⟩
    have HP := hide ((unhide HP0).call hb1)
    clear hb1 HP0
    go_wp2_with fail
    refine Calls.mono (awake_any _) ?_
    rintro r w9 ⟨rfl, hb9⟩
    have HP9 := hide ((unhide HP).call hb9)
    clear hb9 HP
    go_wp2_with fail
    go_ret
    exact ⟨rfl, (unhide HP9).bel⟩
  | true =>
    rw [hlt] at HLI
    go_enter Try.func7, Try.ntmps7
    go_wp2_with fail
    refine Calls.mono (unhide HLI _) ?_
    rintro r w1 ⟨rfl, hb1⟩
    have HP := hide ((unhide HP0).call hb1)
    clear hb1 HP0 HLI hlt
    by_cases h3 : (300 : Int) < (n : Int)
    · skip
      go_wp2_with fail
      refine Calls.mono (awake_any _) ?_
      rintro r w9 ⟨rfl, hb9⟩
      have HP9 := hide ((unhide HP).call hb9)
      clear hb9 HP
      go_wp2_with fail
      go_ret
      exact ⟨rfl, (unhide HP9).bel⟩
    by_cases h4 : (100 : Int) < (m : Int)
    · skip
      go_wp2_with fail
      refine Calls.mono (awake_any _) ?_
      rintro r w9 ⟨rfl, hb9⟩
      have HP9 := hide ((unhide HP).call hb9)
      clear hb9 HP
      go_wp2_with fail
      go_ret
      exact ⟨rfl, (unhide HP9).bel⟩
    have hc : ∀ j : Nat, w1.cell? ⟨w.heap.size, j, none⟩ = ([.slice a0 n0 c0, .slice a1 n1 c1, .slice a2 n2 c2] : List Value)[j]? := fun j => (unhide HP).row.cell j
    have p0 := hc 0
    have p1 := hc 1
    have p2 := hc 2
    simp only [List.getElem?_cons_zero, List.getElem?_cons_succ] at p0 p1 p2
    clear hc
    go_wp2_with fail
    refine Calls.mono (right_any a0 a1 a2 n0 n1 n2 c0 c1 c2 L C Q1 Q2 Q3 E S Dw w1 (unhide HP).pl (unhide HP).pq (unhide HP).pe (unhide HC).1 (unhide HC).2) ?_
    rintro r w2 ⟨rfl, hb2⟩
    have HP2 := hide ((unhide HP).call hb2)
    clear hb2 HP p0 p1 p2
    by_cases hr : rightN n0 n1 n2 L C Q1 Q2 Q3 E S = 0
    rotate_left
    · have hr2 : rightN n0 n1 n2 L C Q1 Q2 Q3 E S = 11 := by
        unfold rightN at hr ⊢
        split
        · rename_i q; simp [q] at hr
        · rfl
      rw [hr2]
      clear hr hr2
      have HP := HP2
      clear HP2
      go_wp2_with fail
      refine Calls.mono (awake_any _) ?_
      rintro r w9 ⟨rfl, hb9⟩
      have HP9 := hide ((unhide HP).call hb9)
      clear hb9 HP
      go_wp2_with fail
      go_ret
      exact ⟨rfl, (unhide HP9).bel⟩
    have HRH := hide (right_has hr)
    have HR := hide hr
    rw [hr]
    clear hr
    have p0 : w2.cell? ⟨w.heap.size, 0, none⟩ = some (.slice a0 n0 c0) := (unhide HP2).row.cell 0
    have p1 : w2.cell? ⟨w.heap.size, 1, none⟩ = some (.slice a1 n1 c1) := (unhide HP2).row.cell 1
    have p2 : w2.cell? ⟨w.heap.size, 2, none⟩ = some (.slice a2 n2 c2) := (unhide HP2).row.cell 2
    have HM := hide (made_ok a0 a1 a2 al n0 n1 n2 c0 c1 c2 cl L C Q1 Q2 Q3 E S Dw l w2 (unhide HP2).pl (unhide HP2).pq (unhide HP2).pe (unhide HC).1 (unhide HC).2 (unhide HR) (unhide HP2).dos (by have := unhide HLN; omega))
    rw [unhide HLN] at HM
    go_wp2_with fail
    refine Calls.mono (unhide HM) ?_
    rintro r w3 ⟨g, gg, c, sv, ex, rfl, hd, hb3, hge⟩
    have HP3 := hide ((unhide HP2).call hb3)
    obtain ⟨⟨q1, q2⟩, ⟨q3, q4⟩, q5⟩ := unhide HRH
    have hn2 : (n2 : Int) ≤ 8 := by omega
    have hn2' : (1 : Int) ≤ (n2 : Int) := by omega
    have HD := hide hd
    have HGE := hide (Nat.le_trans (unhide HP2).bel.size hge)
    clear hd hb3 hge HP2 HM HR p0 p1 p2 q5
    have p2 : w3.cell? ⟨w.heap.size, 2, none⟩ = some (.slice a2 n2 c2) := (unhide HP3).row.cell 2
    obtain ⟨j, hj, hj2⟩ := mod_nat who n2 (by omega) (by omega)
    go_wp2_with fail
    rw [hj]
    clear hj p2
    have hlen : (runD Q3 (newD n2 E) l).length = n2 := by rw [runD_len]; simp [newD]
    obtain ⟨y, hy⟩ : ∃ y, (runD Q3 (newD n2 E) l)[j]? = some y := ⟨_, List.getElem?_eq_getElem (by omega)⟩
    have HK : Hid (Lk w w3 g gg c n1 sv ex Q3 (runD Q3 (newD n2 E) l) j y) := hide ⟨unhide HD, hy, (unhide HP3).bel, unhide HGE⟩
    clear hlen hy HD HP3 HGE
    obtain ⟨D, hDD⟩ : ∃ D, runD Q3 (newD n2 E) l = D := ⟨_, rfl⟩
    rw [hDD] at HK
    clear hDD
    refine Calls.mono (open_any (unhide HK).ds (j : Int)) ?_
    rintro r w4 ⟨rfl, hd4, ho4⟩
    obtain ⟨y4, hy4⟩ : ∃ y', (openD Q3 D (j : Int)).1[j]? = some y' := ⟨_, List.getElem?_eq_getElem (by rw [openD_len]; exact (List.getElem?_eq_some_iff.1 (unhide HK).at_).1)⟩
    have HK4 := hide ((unhide HK).step hd4 ho4 hy4)
    clear hd4 ho4 hy4 HK
    obtain ⟨e4, he4⟩ : ∃ e, (openD Q3 D (j : Int)).2 = e := ⟨_, rfl⟩
    obtain ⟨D4, hD4⟩ : ∃ e, (openD Q3 D (j : Int)).1 = e := ⟨_, rfl⟩
    rw [he4]
    rw [hD4] at HK4
    clear he4 hD4
    by_cases z4 : e4 = 0
    rotate_left
    · have z4b : (e4 == 0) = false := by simp [z4]
      have z4c : (e4 != 0) = true := by simp [z4]
      have HP := HK4
      clear HK4
      go_wp2_with fail
      refine Calls.mono (awake_any _) ?_
      rintro r w9 ⟨rfl, hb9⟩
      have HP9 := hide ((unhide HP).call hb9)
      clear hb9 HP
      go_wp2_with fail
      go_ret
      exact ⟨rfl, (unhide HP9).bel⟩
    subst z4
    go_wp2_with fail
    refine Calls.mono (heard_any (unhide HK4).ds (j : Int)) ?_
    rintro r w5 ⟨rfl, hd5, ho5⟩
    obtain ⟨y5, hy5⟩ : ∃ y', (heardD D4 (j : Int)).1[j]? = some y' := ⟨_, List.getElem?_eq_getElem (by rw [heardD_len]; exact (List.getElem?_eq_some_iff.1 (unhide HK4).at_).1)⟩
    have HK5 := hide ((unhide HK4).step hd5 ho5 hy5)
    by_cases z5 : (heardD D4 (j : Int)).2 = 0
    rotate_left
    · obtain ⟨e5, he5⟩ : ∃ e, (heardD D4 (j : Int)).2 = e := ⟨_, rfl⟩
      rw [he5] at z5 ⊢
      have z5b : (e5 == 0) = false := by simp [z5]
      have z5c : (e5 != 0) = true := by simp [z5]
      have HP := HK5
      clear HK5 HK4 hd5 ho5 hy5 he5
      go_wp2_with fail
      refine Calls.mono (awake_any _) ?_
      rintro r w9 ⟨rfl, hb9⟩
      have HP9 := hide ((unhide HP).call hb9)
      clear hb9 HP
      go_wp2_with fail
      go_ret
      exact ⟨rfl, (unhide HP9).bel⟩
    rw [z5]
    have HW0 : Hid (∃ D' y', Lk w w5 g gg c n1 sv ex Q3 D' j y' ∧ y'.opn = true ∧ y'.silent = 0) := hide (by
      obtain ⟨y6, q1, q2, q3⟩ := heard_zero z5
      exact ⟨_, y6, (unhide HK4).step hd5 ho5 q1, q2, q3⟩)
    clear z5 hy5 hd5 ho5 HK5 HK4
    go_wp2_with fail
    go_loopw [58] (fun s wr => ∃ k : Nat, k ≤ m ∧ s = .int .i64 (k : Int) ∧ Hid (∃ D' y', Lk w wr g gg c n1 sv ex Q3 D' j y' ∧ y'.opn = true ∧ y'.silent = 0)) (fun s _ => ((m : Int) - intOf s).toNat)
    case atStart => exact ⟨0, by omega, by simp, HW0⟩
    case round =>
      clear HW0
      obtain ⟨k, hk, rfl, HI⟩ := hrel
      by_cases hlt : k < m
      · have kI : (k : Int) < (m : Int) := by omega
        obtain ⟨x, hx⟩ : ∃ x, gs[k]? = some x := ⟨_, List.getElem?_eq_getElem (by have := unhide HGM; omega)⟩
        obtain ⟨ga', gc', e, h1, h2, h5⟩ := unhide HGS
        obtain ⟨rfl, -, rfl⟩ : ga = ga' ∧ m = gs.length ∧ gc = gc' := by simpa using e
        rcases h5 with h0 | ⟨b, off, rfl, hbl, hcs⟩
        · rw [h0] at hx; cases hx
        have e0 : wr.cell? ⟨b, off + k, none⟩ = some (.int .i64 x) := by
          obtain ⟨D', y', hK, _⟩ := unhide HI
          rw [hK.bel.cell (p := ⟨b, _, none⟩) hbl]
          exact hcs k x hx
        clear hcs hbl hx h1 h2 e
        obtain ⟨q, hq, hq2⟩ := mod_nat x 24 (by omega) (by omega)
        have HI0 : Hid (∃ D' y', Lk w wr g gg c n1 sv ex Q3 D' j y' ∧ y'.opn = true ∧ y'.silent = ((0 : Nat) : Int)) := hide (by simpa using unhide HI)
        clear HI
        go_wp2_with fail
        rw [show wrap64 ((IntKind.u64.wrap x).tmod 24) = (q : Int) from hq]
        clear hq e0
        have qI : (q : Int) < 24 := by omega
        generalize wr = wq at HI0
        go_loopw [66] (fun s wr => ∃ i : Nat, i ≤ q ∧ s = .int .i64 (i : Int) ∧ Hid (∃ D' y', Lk w wr g gg c n1 sv ex Q3 D' j y' ∧ y'.opn = true ∧ y'.silent = (i : Int))) (fun s _ => ((q : Int) - intOf s).toNat)
        case atStart => exact ⟨0, by omega, by simp, HI0⟩
        case round =>
          clear HI0
          obtain ⟨i, hi, rfl, HI⟩ := hrel
          by_cases hlt2 : i < q
          · have kI2 : (i : Int) < (q : Int) := by omega
            obtain ⟨D2, y2, hK, ho2, hs2⟩ := unhide HI
            have HKK := hide hK
            have HST := hide (tick_step hK.at_ ho2)
            have HMO := hide ((mem_overs hK.at_).trans (over_no (by omega)))
            have HS2 := hide hs2
            clear hK ho2 hs2 HI
            go_wp2_with fail
            refine Calls.mono (tick_any (unhide HKK).ds) ?_
            rintro r w7 ⟨v7, rfl, hd7, ho7, hown7, -⟩
            have HCO := hide (contains_ok v7 _ (j : Int) w7 (ints_own hown7))
            rw [unhide HMO] at HCO
            have HN : Hid (∃ D' y', Lk w w7 g gg c n1 sv ex Q3 D' j y' ∧ y'.opn = true ∧ y'.silent = ((i + 1 : Nat) : Int)) := hide (by
              obtain ⟨y3, r1, r2, r3⟩ := unhide HST
              exact ⟨_, y3, (unhide HKK).step hd7 ho7 r1, by rw [r2, unhide HS2]; simp; omega, by rw [r3, unhide HS2]; simp⟩)
            clear hd7 ho7 HST HKK HS2 hown7 HMO
            go_wp2_with fail
            refine Calls.mono (unhide HCO) ?_
            rintro r w8 ⟨rfl, rfl⟩
            clear HCO
            go_wp2_with fail
            exact ⟨⟨i + 1, by omega, by simp, HN⟩, by simp [intOf]; omega⟩
          · obtain rfl : i = q := by omega
            have kI2 : ¬ (i : Int) < (i : Int) := by omega
            obtain ⟨D2, y2, hK, ho2, hs2⟩ := unhide HI
            have HKK := hide hK
            have HZ := hide (heard_in_zero hK.at_ ho2)
            clear hK ho2 hs2 HI
            go_wp2_with fail
            refine Calls.mono (heard_any (unhide HKK).ds (j : Int)) ?_
            rintro r w7 ⟨rfl, hd7, ho7⟩
            rw [unhide HZ]
            have HN : Hid (∃ D' y', Lk w w7 g gg c n1 sv ex Q3 D' j y' ∧ y'.opn = true ∧ y'.silent = 0) := hide (by
              obtain ⟨y6, r1, r2, r3⟩ := heard_zero (unhide HZ)
              exact ⟨_, y6, (unhide HKK).step hd7 ho7 r1, r2, r3⟩)
            clear hd7 ho7 HZ HKK
            go_wp2_with fail
            exact ⟨⟨k + 1, by omega, by simp, HN⟩, by simp [intOf]; omega⟩
      · obtain rfl : k = m := by omega
        have kI : ¬ (k : Int) < (k : Int) := by omega
        have HI0 : Hid (∃ D' y', Lk w wr g gg c n1 sv ex Q3 D' j y' ∧ ((0 : Nat) < 24 → y'.opn = true ∧ y'.silent = ((0 : Nat) : Int)) ∧ ((0 : Nat) = 24 → y'.opn = false)) := hide (by
          obtain ⟨D2, y2, hK, ho2, hs2⟩ := unhide HI
          exact ⟨D2, y2, hK, fun _ => ⟨ho2, by simpa using hs2⟩, fun h => by omega⟩)
        clear HI
        go_wp2_with fail
        generalize wr = wq at HI0
        go_loopw [78] (fun s wr => ∃ i : Nat, i ≤ 24 ∧ s = .int .i64 (i : Int) ∧ Hid (∃ D' y', Lk w wr g gg c n1 sv ex Q3 D' j y' ∧ (i < 24 → y'.opn = true ∧ y'.silent = (i : Int)) ∧ (i = 24 → y'.opn = false))) (fun s _ => ((24 : Int) - intOf s).toNat)
        case atStart => exact ⟨0, by omega, by simp, HI0⟩
        case round =>
          clear HI0
          obtain ⟨i, hi, rfl, HI⟩ := hrel
          by_cases hlt2 : i < 24
          · have kI2 : (i : Int) < 24 := by omega
            obtain ⟨D2, y2, hK, h24, -⟩ := unhide HI
            obtain ⟨ho2, hs2⟩ := h24 hlt2
            have HKK := hide hK
            have HST := hide (tick_step hK.at_ ho2)
            by_cases h23 : i = 23
            · have HMO := hide ((mem_overs hK.at_).trans (over_yes ho2 (by omega)))
              have HS2 := hide hs2
              clear hK ho2 hs2 HI h24
              subst h23
              go_wp2_with fail
              refine Calls.mono (tick_any (unhide HKK).ds) ?_
              rintro r w7 ⟨v7, rfl, hd7, ho7, hown7, -⟩
              have HCO := hide (contains_ok v7 _ (j : Int) w7 (ints_own hown7))
              rw [unhide HMO] at HCO
              have HN : Hid (∃ D' y', Lk w w7 g gg c n1 sv ex Q3 D' j y' ∧ ((24 : Nat) < 24 → y'.opn = true ∧ y'.silent = ((24 : Nat) : Int)) ∧ ((24 : Nat) = 24 → y'.opn = false)) := hide (by
                obtain ⟨y3, r1, r2, r3⟩ := unhide HST
                exact ⟨_, y3, (unhide HKK).step hd7 ho7 r1, fun h => by omega, fun _ => by rw [r2, unhide HS2]; simp⟩)
              clear hd7 ho7 HST HKK HS2 hown7 HMO
              go_wp2_with fail
              refine Calls.mono (unhide HCO) ?_
              rintro r w8 ⟨rfl, rfl⟩
              clear HCO
              go_wp2_with fail
              exact ⟨⟨24, by omega, by simp, hide (by simpa using unhide HN)⟩, by simp [intOf]⟩
            · have HMO := hide ((mem_overs hK.at_).trans (over_no (by omega)))
              have HS2 := hide hs2
              have h23I : ((i : Int) == 23) = false := by simp; omega
              clear hK ho2 hs2 HI h24
              go_wp2_with fail
              refine Calls.mono (tick_any (unhide HKK).ds) ?_
              rintro r w7 ⟨v7, rfl, hd7, ho7, hown7, -⟩
              have HCO := hide (contains_ok v7 _ (j : Int) w7 (ints_own hown7))
              rw [unhide HMO] at HCO
              have HN : Hid (∃ D' y', Lk w w7 g gg c n1 sv ex Q3 D' j y' ∧ (i + 1 < 24 → y'.opn = true ∧ y'.silent = ((i + 1 : Nat) : Int)) ∧ (i + 1 = 24 → y'.opn = false)) := hide (by
                obtain ⟨y3, r1, r2, r3⟩ := unhide HST
                exact ⟨_, y3, (unhide HKK).step hd7 ho7 r1, fun h => ⟨by rw [r2, unhide HS2]; simp; omega, by rw [r3, unhide HS2]; simp⟩, fun h => by omega⟩)
              clear hd7 ho7 HST HKK HS2 hown7 HMO
              go_wp2_with fail
              refine Calls.mono (unhide HCO) ?_
              rintro r w8 ⟨rfl, rfl⟩
              clear HCO
              go_wp2_with fail
              exact ⟨⟨i + 1, by omega, by simp, HN⟩, by simp [intOf]; omega⟩
          · obtain rfl : i = 24 := by omega
            obtain ⟨D2, y2, hK, -, h24⟩ := unhide HI
            have ho2 := h24 rfl
            have HKK := hide hK
            have HSH := hide (heard_shut hK.at_ ho2)
            have HO2 := hide ho2
            clear hK ho2 HI h24
            go_wp2_with fail
            refine Calls.mono (state_ok g gg c sv ex D2 wr (unhide HKK).ds.dk j y2 (unhide HKK).at_) ?_
            rintro r w7 ⟨rfl, hb7⟩
            rw [unhide HO2]
            have HK7 := hide ((unhide HKK).call hb7)
            clear hb7 HKK
            go_wp2_with fail
            have HHA := hide (heard_any (unhide HK7).ds (j : Int))
            rw [unhide HSH] at HHA
            refine Calls.mono (unhide HHA) ?_
            rintro r w8 ⟨rfl, hd8, ho8⟩
            have HP := hide ((unhide HK7).step hd8 ho8 (unhide HK7).at_)
            clear hd8 ho8 HK7 HHA
            go_wp2_with fail
            refine Calls.mono (awake_any _) ?_
            rintro r w9 ⟨rfl, hb9⟩
            have HP9 := hide ((unhide HP).call hb9)
            clear hb9 HP
            go_wp2_with fail
            go_ret
            exact ⟨rfl, (unhide HP9).bel⟩
end Go.Proofs.Ythgacmlbmcehmaa
