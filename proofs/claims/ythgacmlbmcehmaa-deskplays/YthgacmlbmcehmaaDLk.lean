/- DeskLocked, walked. -/
import Derived.Test.YthgacmlbmcehmaaDDos
namespace Go.Proofs.Ythgacmlbmcehmaa
set_option linter.unusedVariables false
set_option linter.unusedSimpArgs false
open Go.ChangeShapes Go.WideShapes Go.ChangeAt Go.RowKit Go.Joins Go.Deep

theorem gAt_nat {D : List Gst} {i : Nat} : gAt D (i : Int) = D[i]? := by
  unfold gAt
  rw [if_neg (by omega)]
  simp
/-- one more try that goes wrong: the guest is locked, or has one more -/
theorem wrong_step {D : List Gst} {i k : Nat} {y : Gst} (hy : D[i]? = some y) (h0 : 0 ≤ y.wrong) (h : 0 < y.locked ∨ (k : Int) ≤ y.wrong) :
    ∃ y', (wrongD D (i : Int)).1[i]? = some y' ∧ y'.conn = y.conn ∧ y'.opn = y.opn ∧ (0 < y'.locked ∨ ((k + 1 : Nat) : Int) ≤ y'.wrong) := by
  have hi := (List.getElem?_eq_some_iff.1 hy).1
  unfold wrongD
  rw [gAt_nat, hy]
  by_cases hl : 0 < y.locked
  · simp only [hl, if_true]
    exact ⟨y, hy, rfl, rfl, .inl hl⟩
  · simp only [hl, if_false, Int.toNat_natCast]
    refine ⟨wrongG y, List.getElem?_set_self hi, ?_, ?_, ?_⟩
    · unfold wrongG; split <;> rfl
    · unfold wrongG; split <;> rfl
    · unfold wrongG
      split
      · left; simp
      · right; simp; omega
theorem age_step {D : List Gst} {i : Nat} {y : Gst} (hy : D[i]? = some y) {k : Nat} (hl : y.locked ≤ 20 - (k : Int)) (hk : k < 20) : ∃ y', (D.map ageG)[i]? = some y' ∧ y'.conn = y.conn ∧ y'.locked ≤ 20 - ((k + 1 : Nat) : Int) := by
  refine ⟨ageG y, by rw [List.getElem?_map, hy]; rfl, ?_, ?_⟩
  · unfold ageG; split <;> rfl
  · unfold ageG; split <;> simp <;> omega
/-- the law's desk, as it is now, and of whom it asks -/
structure Lk (w wr : World) (g gg c nq : Nat) (sv : Value) (ex : List Value) (Q : Nat → Int) (D : List Gst) (i : Nat) (y : Gst) : Prop where
  ds : Ds wr g gg c nq sv ex Q D
  at_ : D[i]? = some y
  bel : Below w.heap.size w wr
  ge : w.heap.size ≤ gg
theorem Lk.gok {w wr : World} {g gg c nq : Nat} {sv : Value} {ex : List Value} {Q : Nat → Int} {D : List Gst} {i : Nat} {y : Gst} (h : Lk w wr g gg c nq sv ex Q D i y) : Gok y := (h.ds.gin y (List.mem_of_getElem? h.at_)).ok
theorem Lk.step {w wr w' : World} {g gg c nq : Nat} {sv : Value} {ex : List Value} {Q : Nat → Int} {D D' : List Gst} {i : Nat} {y y' : Gst} (h : Lk w wr g gg c nq sv ex Q D i y) (hd : Ds w' g gg c nq sv ex Q D') (ho : Only (· = gg) wr w') (ha : D'[i]? = some y') : Lk w w' g gg c nq sv ex Q D' i y' :=
  ⟨hd, ha, h.bel.trans (ho.below h.bel.size (fun q hq => hq ▸ h.ge)), h.ge⟩
theorem Lk.call {w wr w' : World} {g gg c nq : Nat} {sv : Value} {ex : List Value} {Q : Nat → Int} {D : List Gst} {i : Nat} {y : Gst} (h : Lk w wr g gg c nq sv ex Q D i y) (hb : Below wr.heap.size wr w') : Lk w w' g gg c nq sv ex Q D i y := ⟨h.ds.call hb, h.at_, h.bel.trans (hb.mono h.bel.size), h.ge⟩
theorem wrongD_len (D : List Gst) (i : Int) : (wrongD D i).1.length = D.length := by unfold wrongD; split; rfl; split <;> simp
theorem openD_len (Q : Nat → Int) (D : List Gst) (i : Int) : (openD Q D i).1.length = D.length := by
  unfold openD
  split
  · rfl
  · split
    · rfl
    · split
      · rfl
      · split <;> simp
theorem heardD_len (D : List Gst) (i : Int) : (heardD D i).1.length = D.length := by unfold heardD; split; rfl; split <;> simp
theorem shutD_len (D : List Gst) (i : Int) : (shutD D i).1.length = D.length := by unfold shutD; split; rfl; split <;> simp
theorem beginD_len (D : List Gst) (i q : Int) : (beginD D i q).1.length = D.length := by unfold beginD; split; rfl; split <;> simp
theorem doesD_len (Q : Nat → Int) (D : List Gst) (o who conn n : Int) : (doesD Q D o who conn n).1.length = D.length := by
  unfold doesD
  repeat' split
  all_goals simp only [wrongD_len, openD_len, heardD_len, shutD_len, beginD_len, ticksD_len]
theorem runD_len (Q : Nat → Int) (l : List DoV) : ∀ D : List Gst, (runD Q D l).length = D.length := by
  induction l with
  | nil => intro D; rfl
  | cons k l ih =>
    intro D
    show (runD Q (doesD Q D k.o k.who k.conn k.n).1 l).length = D.length
    rw [ih, doesD_len]
theorem begin_locked {D : List Gst} {i : Nat} {y : Gst} (hy : D[i]? = some y) (hl : 0 < y.locked) (q : Int) : ∃ e, beginD D (i : Int) q = (D, e) ∧ (e == 0) = false := by
  unfold beginD
  rw [gAt_nat, hy]
  unfold knockE
  simp only [hl, if_true]
  split
  · exact ⟨130, by simp, rfl⟩
  · split
    · exact ⟨130, by simp, rfl⟩
    · exact ⟨170, by simp, rfl⟩
theorem wrong_locked2 {D : List Gst} {i : Nat} {y : Gst} (hy : D[i]? = some y) (hl : 0 < y.locked) : wrongD D (i : Int) = (D, 170) := by
  unfold wrongD
  rw [gAt_nat, hy]
  simp only [hl, if_true]
theorem begin_next {D : List Gst} {i : Nat} {y : Gst} (hy : D[i]? = some y) (h0 : 0 ≤ y.conn) (hl : y.locked = 0) (hc : y.conn < 1099511627776) : (beginD D (i : Int) (y.conn + 1)).2 = 0 := by
  unfold beginD
  rw [gAt_nat, hy]
  have hk : knockE y (y.conn + 1) = (true, 0) := by
    unfold knockE
    rw [if_neg (by omega), if_neg (by omega), if_neg (by omega)]
  simp only [hk, if_true]
/-- a policy and calls, as they came in -/
structure Px (w wr : World) (a0 a1 a2 al : Option Addr) (n0 n1 n2 c0 c1 c2 : Nat) (L C Q1 Q2 Q3 E : Nat → Int) (S : Nat → ByteArray) (Dw : Nat → Bool) (l : List DoV) : Prop where
  pl : PolLabs wr a0 n0 L C
  pq : PolQuos wr a1 n1 Q1 Q2 Q3
  pe : PolEnts wr a2 n2 E S Dw
  dos : DosAt wr al l
  row : RowAt wr w.heap.size 26 [.slice a0 n0 c0, .slice a1 n1 c1, .slice a2 n2 c2]
  bel : Below w.heap.size w wr
theorem Px.call {w wr w' : World} {a0 a1 a2 al : Option Addr} {n0 n1 n2 c0 c1 c2 : Nat} {L C Q1 Q2 Q3 E : Nat → Int} {S : Nat → ByteArray} {Dw : Nat → Bool} {l : List DoV} (h : Px w wr a0 a1 a2 al n0 n1 n2 c0 c1 c2 L C Q1 Q2 Q3 E S Dw l) (hb : Below wr.heap.size wr w') : Px w w' a0 a1 a2 al n0 n1 n2 c0 c1 c2 L C Q1 Q2 Q3 E S Dw l :=
  ⟨h.pl.call hb, h.pq.call hb, h.pe.call hb, h.dos.call hb, h.row.below hb h.row.lt, h.bel.trans (hb.mono h.bel.size)⟩
set_option maxRecDepth 100000 in
set_option maxHeartbeats 4000000 in
theorem locked_law (a0 a1 a2 al : Option Addr) (n0 n1 n2 c0 c1 c2 cl : Nat) (L C Q1 Q2 Q3 E : Nat → Int) (S : Nat → ByteArray) (Dw : Nat → Bool) (l : List DoV) (who conn : Int) (w : World)
    (pl : PolLabs w a0 n0 L C) (pq : PolQuos w a1 n1 Q1 Q2 Q3) (pe : PolEnts w a2 n2 E S Dw) (hc0 : n0 ≤ c0) (hm0 : c0 ≤ maxLen) (hl : DosAt w al l) (hlm : l.length ≤ maxLen) :
    Calls Try.prog 6 #[.agg #[.slice a0 n0 c0, .slice a1 n1 c1, .slice a2 n2 c2], .slice al l.length cl, .int .i64 who, .int .i64 conn] w fun e w' => e = .returned (.bool true) ∧ Below w.heap.size w w' := by
  have hb : Below w.heap.size w (w.alloc (.cells #[.slice a0 n0 c0, .slice a1 n1 c1, .slice a2 n2 c2] 26)) := (Below.refl _ _).alloc (Nat.le_refl _) _
  have HLI := hide (light_any a0 a1 a2 n0 n1 n2 c0 c1 c2 pl.1 pq.1 pe.1)
  have HP0 : Hid (Px w (w.alloc (.cells #[.slice a0 n0 c0, .slice a1 n1 c1, .slice a2 n2 c2] 26)) a0 a1 a2 al n0 n1 n2 c0 c1 c2 L C Q1 Q2 Q3 E S Dw l) := hide ⟨pl.call hb, pq.call hb, pe.call hb, hl.call hb, RowAt.new w 26 _, hb⟩
  have HC := hide (⟨hc0, hm0⟩ : n0 ≤ c0 ∧ c0 ≤ maxLen)
  obtain ⟨n, hn⟩ : ∃ n, l.length = n := ⟨_, rfl⟩
  rw [hn] at hlm ⊢
  have HLN := hide hn
  have hlI : (n : Int) ≤ 9223372036854775807 := by unfold maxLen at hlm; omega
  clear pl pq pe hb hl hn hc0 hm0
  cases hlt : (decide (n0 ≤ 100) && decide (n1 ≤ 100) && decide (n2 ≤ 100)) with
  | false =>
    rw [hlt] at HLI
    go_enter Try.func6, Try.ntmps6
    go_wp2_with fail
    refine Calls.mono (unhide HLI _) ?_
    rintro r w1 ⟨rfl, hb1⟩
    have HP := hide ((unhide HP0).call hb1)
    clear hb1 HP0
    go_wp2_with fail
    refine Calls.mono (awake_any _) ?_
    rintro r w9 ⟨rfl, hb9⟩
    have HP9 := hide ((unhide HP).call hb9)
    clear hb9 HP
    go_wp2_with fail
    go_ret
    exact ⟨rfl, (unhide HP9).bel⟩
  | true =>
    rw [hlt] at HLI
    go_enter Try.func6, Try.ntmps6
    go_wp2_with fail
    refine Calls.mono (unhide HLI _) ?_
    rintro r w1 ⟨rfl, hb1⟩
    have HP := hide ((unhide HP0).call hb1)
    clear hb1 HP0 HLI hlt
    by_cases h3 : (300 : Int) < (n : Int)
    · skip
      go_wp2_with fail
      refine Calls.mono (awake_any _) ?_
      rintro r w9 ⟨rfl, hb9⟩
      have HP9 := hide ((unhide HP).call hb9)
      clear hb9 HP
      go_wp2_with fail
      go_ret
      exact ⟨rfl, (unhide HP9).bel⟩
    have hc : ∀ j : Nat, w1.cell? ⟨w.heap.size, j, none⟩ = ([.slice a0 n0 c0, .slice a1 n1 c1, .slice a2 n2 c2] : List Value)[j]? := fun j => (unhide HP).row.cell j
    have p0 := hc 0
    have p1 := hc 1
    have p2 := hc 2
    simp only [List.getElem?_cons_zero, List.getElem?_cons_succ] at p0 p1 p2
    clear hc
    go_wp2_with fail
    refine Calls.mono (right_any a0 a1 a2 n0 n1 n2 c0 c1 c2 L C Q1 Q2 Q3 E S Dw w1 (unhide HP).pl (unhide HP).pq (unhide HP).pe (unhide HC).1 (unhide HC).2) ?_
    rintro r w2 ⟨rfl, hb2⟩
    have HP2 := hide ((unhide HP).call hb2)
    clear hb2 HP p0 p1 p2
    by_cases hr : rightN n0 n1 n2 L C Q1 Q2 Q3 E S = 0
    rotate_left
    · have hr2 : rightN n0 n1 n2 L C Q1 Q2 Q3 E S = 11 := by
        unfold rightN at hr ⊢
        split
        · rename_i q; simp [q] at hr
        · rfl
      rw [hr2]
      clear hr hr2
      have HP := HP2
      clear HP2
      go_wp2_with fail
      refine Calls.mono (awake_any _) ?_
      rintro r w9 ⟨rfl, hb9⟩
      have HP9 := hide ((unhide HP).call hb9)
      clear hb9 HP
      go_wp2_with fail
      go_ret
      exact ⟨rfl, (unhide HP9).bel⟩
    have HRH := hide (right_has hr)
    have HR := hide hr
    rw [hr]
    clear hr
    have p0 : w2.cell? ⟨w.heap.size, 0, none⟩ = some (.slice a0 n0 c0) := (unhide HP2).row.cell 0
    have p1 : w2.cell? ⟨w.heap.size, 1, none⟩ = some (.slice a1 n1 c1) := (unhide HP2).row.cell 1
    have p2 : w2.cell? ⟨w.heap.size, 2, none⟩ = some (.slice a2 n2 c2) := (unhide HP2).row.cell 2
    have HM := hide (made_ok a0 a1 a2 al n0 n1 n2 c0 c1 c2 cl L C Q1 Q2 Q3 E S Dw l w2 (unhide HP2).pl (unhide HP2).pq (unhide HP2).pe (unhide HC).1 (unhide HC).2 (unhide HR) (unhide HP2).dos (by have := unhide HLN; omega))
    rw [unhide HLN] at HM
    go_wp2_with fail
    refine Calls.mono (unhide HM) ?_
    rintro r w3 ⟨g, gg, c, sv, ex, rfl, hd, hb3, hge⟩
    have HP3 := hide ((unhide HP2).call hb3)
    obtain ⟨⟨q1, q2⟩, ⟨q3, q4⟩, q5⟩ := unhide HRH
    have hn2 : (n2 : Int) ≤ 8 := by omega
    have hn2' : (1 : Int) ≤ (n2 : Int) := by omega
    have HD := hide hd
    have HGE := hide (Nat.le_trans (unhide HP2).bel.size hge)
    clear hd hb3 hge HP2 HM HR p0 p1 p2 q5
    have p2 : w3.cell? ⟨w.heap.size, 2, none⟩ = some (.slice a2 n2 c2) := (unhide HP3).row.cell 2
    obtain ⟨j, hj, hj2⟩ := mod_nat who n2 (by omega) (by omega)
    go_wp2_with fail
    rw [hj]
    clear hj p2
    have hlen : (runD Q3 (newD n2 E) l).length = n2 := by rw [runD_len]; simp [newD]
    obtain ⟨y, hy⟩ : ∃ y, (runD Q3 (newD n2 E) l)[j]? = some y := ⟨_, List.getElem?_eq_getElem (by omega)⟩
    have HK : Hid (Lk w w3 g gg c n1 sv ex Q3 (runD Q3 (newD n2 E) l) j y) := hide ⟨unhide HD, hy, (unhide HP3).bel, unhide HGE⟩
    clear hlen hy HD HP3 HGE
    obtain ⟨D, hDD⟩ : ∃ D, runD Q3 (newD n2 E) l = D := ⟨_, rfl⟩
    rw [hDD] at HK
    clear hDD
    refine Calls.mono (state_ok g gg c sv ex D w3 (unhide HK).ds.dk j y (unhide HK).at_) ?_
    rintro r w4 ⟨rfl, hb4⟩
    have HK4 := hide ((unhide HK).call hb4)
    clear hb4 HK
    have HK := HK4
    clear HK4
    go_wp2_with fail
    refine Calls.mono (locked_ok g gg c sv ex D w4 (unhide HK).ds.dk j y (unhide HK).at_) ?_
    rintro r w5 ⟨rfl, rfl⟩
    by_cases hl : 0 < y.locked
    · go_wp2_with fail
      obtain ⟨e, he, he0⟩ := begin_locked (unhide HK).at_ hl conn
      have HBG := hide (begin_any (unhide HK).ds (j : Int) conn)
      rw [he] at HBG
      refine Calls.mono (unhide HBG) ?_
      rintro r w5 ⟨rfl, hd5, ho5⟩
      have HK5 := hide ((unhide HK).step hd5 ho5 (unhide HK).at_)
      clear hd5 ho5 HBG he HK
      go_wp2_with fail
      have HWR := hide (wrong_any (unhide HK5).ds (j : Int))
      rw [wrong_locked2 (unhide HK5).at_ hl] at HWR
      refine Calls.mono (unhide HWR) ?_
      rintro r w6 ⟨rfl, hd6, ho6⟩
      have HK6 := hide ((unhide HK5).step hd6 ho6 (unhide HK5).at_)
      clear hd6 ho6 HWR HK5
      have HW0 : Hid (∃ D' y', Lk w w6 g gg c n1 sv ex Q3 D' j y' ∧ y'.conn = y.conn ∧ y'.opn = y.opn ∧ (0 < y'.locked ∨ ((0 : Nat) : Int) ≤ y'.wrong)) := hide ⟨D, y, unhide HK6, rfl, rfl, .inl hl⟩
      clear HK6
      go_wp2_with fail
      go_loopw [60] (fun s wr => ∃ k : Nat, k ≤ 3 ∧ s = .int .i64 (k : Int) ∧ Hid (∃ D' y', Lk w wr g gg c n1 sv ex Q3 D' j y' ∧ y'.conn = y.conn ∧ y'.opn = y.opn ∧ (0 < y'.locked ∨ (k : Int) ≤ y'.wrong))) (fun s _ => (3 - intOf s).toNat)
      case atStart => exact ⟨0, by omega, by simp, HW0⟩
      case round =>
        clear HW0
        obtain ⟨k, hk, rfl, HI⟩ := hrel
        by_cases hlt : k < 3
        · have kI : (k : Int) < 3 := by omega
          obtain ⟨D', y', hK, hc', ho', hw'⟩ := unhide HI
          have HCC := hide (⟨hc', ho'⟩ : y'.conn = y.conn ∧ y'.opn = y.opn)
          have HKK := hide hK
          have HST := hide (wrong_step hK.at_ hK.gok.w0 hw')
          clear hK hc' ho' hw' HI
          go_wp2_with fail
          refine Calls.mono (wrong_any (unhide HKK).ds (j : Int)) ?_
          rintro r w7 ⟨rfl, hd7, ho7⟩
          have HN : Hid (∃ D' y', Lk w w7 g gg c n1 sv ex Q3 D' j y' ∧ y'.conn = y.conn ∧ y'.opn = y.opn ∧ (0 < y'.locked ∨ ((k + 1 : Nat) : Int) ≤ y'.wrong)) := hide (by
            obtain ⟨y2, q1, q2, q3, q4⟩ := unhide HST
            exact ⟨_, y2, (unhide HKK).step hd7 ho7 q1, q2.trans (unhide HCC).1, q3.trans (unhide HCC).2, q4⟩)
          clear hd7 ho7 HST HKK HCC
          go_wp2_with fail
          exact ⟨⟨k + 1, by omega, by simp, HN⟩, by simp [intOf]; omega⟩
        · obtain rfl : k = 3 := by omega
          obtain ⟨D', y', hK, hc', ho', hw'⟩ := unhide HI
          have hl' : 0 < y'.locked := by
            have := hK.gok.w1
            rcases hw' with h | h <;> omega
          have hl0 : (y'.locked == 0) = false := by simp; omega
          have HKK := hide hK
          have HCC := hide (⟨hc', ho'⟩ : y'.conn = y.conn ∧ y'.opn = y.opn)
          clear hK hc' ho' hw' HI
          go_wp2_with fail
          refine Calls.mono (state_ok g gg c sv ex D' wr (unhide HKK).ds.dk j y' (unhide HKK).at_) ?_
          rintro r w8 ⟨rfl, hb8⟩
          rw [(unhide HCC).1, (unhide HCC).2]
          have HK8 := hide ((unhide HKK).call hb8)
          clear hb8 HKK
          go_wp2_with fail
          refine Calls.mono (locked_ok g gg c sv ex D' w8 (unhide HK8).ds.dk j y' (unhide HK8).at_) ?_
          rintro r w9 ⟨rfl, rfl⟩
          have HT0 : Hid (∃ D' y', Lk w w8 g gg c n1 sv ex Q3 D' j y' ∧ y'.conn = y.conn ∧ y'.locked ≤ 20 - ((0 : Nat) : Int)) := hide ⟨D', y', unhide HK8, (unhide HCC).1, by have := (unhide HK8).gok.l1; omega⟩
          clear HK8 HCC
          go_wp2_with fail
          go_loopw [86] (fun s wr => ∃ k : Nat, k ≤ 20 ∧ s = .int .i64 (k : Int) ∧ Hid (∃ D' y', Lk w wr g gg c n1 sv ex Q3 D' j y' ∧ y'.conn = y.conn ∧ y'.locked ≤ 20 - (k : Int))) (fun s _ => (20 - intOf s).toNat)
          case atStart => exact ⟨0, by omega, by simp, HT0⟩
          case round =>
            clear HT0 hl' hl0
            obtain ⟨k, hk, rfl, HI⟩ := hrel
            by_cases hlt2 : k < 20
            · have kI : (k : Int) < 20 := by omega
              obtain ⟨D2, y2, hK, hc', hw'⟩ := unhide HI
              have HCC := hide hc'
              have HKK := hide hK
              have HST := hide (age_step hK.at_ hw' hlt2)
              clear hK hc' hw' HI
              go_wp2_with fail
              refine Calls.mono (tick_any (unhide HKK).ds) ?_
              rintro r w10 ⟨v10, rfl, hd7, ho7, _, _⟩
              have HN : Hid (∃ D' y', Lk w w10 g gg c n1 sv ex Q3 D' j y' ∧ y'.conn = y.conn ∧ y'.locked ≤ 20 - ((k + 1 : Nat) : Int)) := hide (by
                obtain ⟨y3, q1, q2, q3⟩ := unhide HST
                exact ⟨_, y3, (unhide HKK).step hd7 ho7 q1, q2.trans (unhide HCC), q3⟩)
              clear hd7 ho7 HST HKK HCC
              go_wp2_with fail
              exact ⟨⟨k + 1, by omega, by simp, HN⟩, by simp [intOf]; omega⟩
            · obtain rfl : k = 20 := by omega
              obtain ⟨D2, y2, hK, hc', hw'⟩ := unhide HI
              have hz2 : y2.locked = 0 := by have := hK.gok.l0; omega
              have hcy0 : 0 ≤ y.conn := by rw [← hc']; exact hK.gok.c0
              have hcy1 : y.conn ≤ 1099511627776 := by rw [← hc']; exact hK.gok.c1
              have HCC := hide hc'
              have HKK := hide hK
              have HZ := hide hz2
              clear hK hc' hw' hz2 HI
              go_wp2_with fail
              refine Calls.mono (locked_ok g gg c sv ex D2 wr (unhide HKK).ds.dk j y2 (unhide HKK).at_) ?_
              rintro r w11 ⟨rfl, rfl⟩
              rw [unhide HZ]
              by_cases hmx : (1099511627776 : Int) ≤ y.conn
              · go_wp2_with fail
                refine Calls.mono (awake_any _) ?_
                rintro r w12 ⟨rfl, hb12⟩
                have HF := hide ((unhide HKK).call hb12)
                clear hb12 HKK
                go_wp2_with fail
                go_ret
                exact ⟨rfl, (unhide HF).bel⟩
              · have HBN := hide (begin_next (unhide HKK).at_ (by rw [unhide HCC]; exact hcy0) (unhide HZ) (by rw [unhide HCC]; omega))
                rw [unhide HCC] at HBN
                go_wp2_with fail
                refine Calls.mono (begin_any (unhide HKK).ds (j : Int) (y.conn + 1)) ?_
                rintro r w12 ⟨rfl, hd12, ho12⟩
                rw [unhide HBN]
                have HF : Hid (Below w.heap.size w w12) := hide ((unhide HKK).bel.trans (ho12.below (unhide HKK).bel.size (fun q hq => hq ▸ (unhide HKK).ge)))
                clear hd12 ho12 HKK HBN
                go_wp2_with fail
                refine Calls.mono (awake_any _) ?_
                rintro r w13 ⟨rfl, hb13⟩
                have HF2 := hide ((unhide HF).trans (hb13.mono (unhide HF).size))
                clear hb13 HF
                go_wp2_with fail
                go_ret
                exact ⟨rfl, unhide HF2⟩
    · have HW0 : Hid (∃ D' y', Lk w w4 g gg c n1 sv ex Q3 D' j y' ∧ y'.conn = y.conn ∧ y'.opn = y.opn ∧ (0 < y'.locked ∨ ((0 : Nat) : Int) ≤ y'.wrong)) := hide ⟨D, y, unhide HK, rfl, rfl, .inr (unhide HK).gok.w0⟩
      clear HK
      go_wp2_with fail
      go_loopw [60] (fun s wr => ∃ k : Nat, k ≤ 3 ∧ s = .int .i64 (k : Int) ∧ Hid (∃ D' y', Lk w wr g gg c n1 sv ex Q3 D' j y' ∧ y'.conn = y.conn ∧ y'.opn = y.opn ∧ (0 < y'.locked ∨ (k : Int) ≤ y'.wrong))) (fun s _ => (3 - intOf s).toNat)
      case atStart => exact ⟨0, by omega, by simp, HW0⟩
      case round =>
        clear HW0
        obtain ⟨k, hk, rfl, HI⟩ := hrel
        by_cases hlt : k < 3
        · have kI : (k : Int) < 3 := by omega
          obtain ⟨D', y', hK, hc', ho', hw'⟩ := unhide HI
          have HCC := hide (⟨hc', ho'⟩ : y'.conn = y.conn ∧ y'.opn = y.opn)
          have HKK := hide hK
          have HST := hide (wrong_step hK.at_ hK.gok.w0 hw')
          clear hK hc' ho' hw' HI
          go_wp2_with fail
          refine Calls.mono (wrong_any (unhide HKK).ds (j : Int)) ?_
          rintro r w7 ⟨rfl, hd7, ho7⟩
          have HN : Hid (∃ D' y', Lk w w7 g gg c n1 sv ex Q3 D' j y' ∧ y'.conn = y.conn ∧ y'.opn = y.opn ∧ (0 < y'.locked ∨ ((k + 1 : Nat) : Int) ≤ y'.wrong)) := hide (by
            obtain ⟨y2, q1, q2, q3, q4⟩ := unhide HST
            exact ⟨_, y2, (unhide HKK).step hd7 ho7 q1, q2.trans (unhide HCC).1, q3.trans (unhide HCC).2, q4⟩)
          clear hd7 ho7 HST HKK HCC
          go_wp2_with fail
          exact ⟨⟨k + 1, by omega, by simp, HN⟩, by simp [intOf]; omega⟩
        · obtain rfl : k = 3 := by omega
          obtain ⟨D', y', hK, hc', ho', hw'⟩ := unhide HI
          have hl' : 0 < y'.locked := by
            have := hK.gok.w1
            rcases hw' with h | h <;> omega
          have hl0 : (y'.locked == 0) = false := by simp; omega
          have HKK := hide hK
          have HCC := hide (⟨hc', ho'⟩ : y'.conn = y.conn ∧ y'.opn = y.opn)
          clear hK hc' ho' hw' HI
          go_wp2_with fail
          refine Calls.mono (state_ok g gg c sv ex D' wr (unhide HKK).ds.dk j y' (unhide HKK).at_) ?_
          rintro r w8 ⟨rfl, hb8⟩
          rw [(unhide HCC).1, (unhide HCC).2]
          have HK8 := hide ((unhide HKK).call hb8)
          clear hb8 HKK
          go_wp2_with fail
          refine Calls.mono (locked_ok g gg c sv ex D' w8 (unhide HK8).ds.dk j y' (unhide HK8).at_) ?_
          rintro r w9 ⟨rfl, rfl⟩
          have HT0 : Hid (∃ D' y', Lk w w8 g gg c n1 sv ex Q3 D' j y' ∧ y'.conn = y.conn ∧ y'.locked ≤ 20 - ((0 : Nat) : Int)) := hide ⟨D', y', unhide HK8, (unhide HCC).1, by have := (unhide HK8).gok.l1; omega⟩
          clear HK8 HCC
          go_wp2_with fail
          go_loopw [86] (fun s wr => ∃ k : Nat, k ≤ 20 ∧ s = .int .i64 (k : Int) ∧ Hid (∃ D' y', Lk w wr g gg c n1 sv ex Q3 D' j y' ∧ y'.conn = y.conn ∧ y'.locked ≤ 20 - (k : Int))) (fun s _ => (20 - intOf s).toNat)
          case atStart => exact ⟨0, by omega, by simp, HT0⟩
          case round =>
            clear HT0 hl' hl0
            obtain ⟨k, hk, rfl, HI⟩ := hrel
            by_cases hlt2 : k < 20
            · have kI : (k : Int) < 20 := by omega
              obtain ⟨D2, y2, hK, hc', hw'⟩ := unhide HI
              have HCC := hide hc'
              have HKK := hide hK
              have HST := hide (age_step hK.at_ hw' hlt2)
              clear hK hc' hw' HI
              go_wp2_with fail
              refine Calls.mono (tick_any (unhide HKK).ds) ?_
              rintro r w10 ⟨v10, rfl, hd7, ho7, _, _⟩
              have HN : Hid (∃ D' y', Lk w w10 g gg c n1 sv ex Q3 D' j y' ∧ y'.conn = y.conn ∧ y'.locked ≤ 20 - ((k + 1 : Nat) : Int)) := hide (by
                obtain ⟨y3, q1, q2, q3⟩ := unhide HST
                exact ⟨_, y3, (unhide HKK).step hd7 ho7 q1, q2.trans (unhide HCC), q3⟩)
              clear hd7 ho7 HST HKK HCC
              go_wp2_with fail
              exact ⟨⟨k + 1, by omega, by simp, HN⟩, by simp [intOf]; omega⟩
            · obtain rfl : k = 20 := by omega
              obtain ⟨D2, y2, hK, hc', hw'⟩ := unhide HI
              have hz2 : y2.locked = 0 := by have := hK.gok.l0; omega
              have hcy0 : 0 ≤ y.conn := by rw [← hc']; exact hK.gok.c0
              have hcy1 : y.conn ≤ 1099511627776 := by rw [← hc']; exact hK.gok.c1
              have HCC := hide hc'
              have HKK := hide hK
              have HZ := hide hz2
              clear hK hc' hw' hz2 HI
              go_wp2_with fail
              refine Calls.mono (locked_ok g gg c sv ex D2 wr (unhide HKK).ds.dk j y2 (unhide HKK).at_) ?_
              rintro r w11 ⟨rfl, rfl⟩
              rw [unhide HZ]
              by_cases hmx : (1099511627776 : Int) ≤ y.conn
              · go_wp2_with fail
                refine Calls.mono (awake_any _) ?_
                rintro r w12 ⟨rfl, hb12⟩
                have HF := hide ((unhide HKK).call hb12)
                clear hb12 HKK
                go_wp2_with fail
                go_ret
                exact ⟨rfl, (unhide HF).bel⟩
              · have HBN := hide (begin_next (unhide HKK).at_ (by rw [unhide HCC]; exact hcy0) (unhide HZ) (by rw [unhide HCC]; omega))
                rw [unhide HCC] at HBN
                go_wp2_with fail
                refine Calls.mono (begin_any (unhide HKK).ds (j : Int) (y.conn + 1)) ?_
                rintro r w12 ⟨rfl, hd12, ho12⟩
                rw [unhide HBN]
                have HF : Hid (Below w.heap.size w w12) := hide ((unhide HKK).bel.trans (ho12.below (unhide HKK).bel.size (fun q hq => hq ▸ (unhide HKK).ge)))
                clear hd12 ho12 HKK HBN
                go_wp2_with fail
                refine Calls.mono (awake_any _) ?_
                rintro r w13 ⟨rfl, hb13⟩
                have HF2 := hide ((unhide HF).trans (hb13.mono (unhide HF).size))
                clear hb13 HF
                go_wp2_with fail
                go_ret
                exact ⟨rfl, unhide HF2⟩
end Go.Proofs.Ythgacmlbmcehmaa
