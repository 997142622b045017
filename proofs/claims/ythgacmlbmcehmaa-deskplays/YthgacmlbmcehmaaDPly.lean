/- DeskPlays, walked. -/
import Derived.Test.YthgacmlbmcehmaaDPf
namespace Go.Proofs.Ythgacmlbmcehmaa
set_option linter.unusedVariables false
set_option linter.unusedSimpArgs false
open Go.ChangeShapes Go.WideShapes Go.ChangeAt Go.RowKit Go.Joins Go.Deep

/-- both desks in the world of the law -/
structure Pw (w wr : World) (P : List Value) (g gg c nq : Nat) (sv : Value) (ex : List Value) (g' : Nat) (s0 s1 s2 : Value) (Q E : Nat → Int) (n2 : Nat) (A B : List Gst) : Prop where
  ds : Ds wr g gg c nq sv ex Q A
  rf : Rf wr g' s0 s1 s2 B
  bel : Below w.heap.size w wr
  row : RowAt wr w.heap.size 26 P
  ge : w.heap.size < gg
  ge' : w.heap.size < g'
  lab : LabOk E A
  len : A.length = n2
theorem Pw.call {w wr w' : World} {P : List Value} {g gg c nq n2 g' : Nat} {sv s0 s1 s2 : Value} {ex : List Value} {Q E : Nat → Int} {A B : List Gst} (h : Pw w wr P g gg c nq sv ex g' s0 s1 s2 Q E n2 A B) (hb : Below wr.heap.size wr w') : Pw w w' P g gg c nq sv ex g' s0 s1 s2 Q E n2 A B :=
  ⟨h.ds.call hb, h.rf.call hb, h.bel.trans (hb.mono h.bel.size), h.row.below hb h.row.lt, h.ge, h.ge', h.lab, h.len⟩
theorem Pw.stepA {w wr w' : World} {P : List Value} {g gg c nq n2 g' : Nat} {sv s0 s1 s2 : Value} {ex : List Value} {Q E : Nat → Int} {A B : List Gst} {A' : List Gst} (h : Pw w wr P g gg c nq sv ex g' s0 s1 s2 Q E n2 A B) (hd : Ds w' g gg c nq sv ex Q A') (ho : Only (· = gg) wr w') (hl : LabOk E A') (hn : A'.length = n2) : Pw w w' P g gg c nq sv ex g' s0 s1 s2 Q E n2 A' B :=
  ⟨hd, h.rf.other h.ds.dk.row ho, h.bel.trans (ho.below h.bel.size (fun q hq => by have := h.ge; omega)), h.row.only ho (by have := h.ge; omega), h.ge, h.ge', hl, hn⟩
theorem Rf.row {w : World} {g : Nat} {s0 s1 s2 : Value} {D : List Gst} (h : Rf w g s0 s1 s2 D) : ∃ cs, RowAt w g 51 cs := by
  obtain ⟨gg, c, ex, R, h1, h2⟩ := h
  exact ⟨_, h1.obj⟩
theorem Ds.keep51 {w w' : World} {g gg c nq : Nat} {sv : Value} {ex : List Value} {Q : Nat → Int} {D : List Gst} (h : Ds w g gg c nq sv ex Q D) {k : Nat} {cs : List Value} (hr : RowAt w k 51 cs) (ho : Only (· = k) w w') : Ds w' g gg c nq sv ex Q D :=
  ⟨⟨h.dk.obj.only ho (rtag h.dk.obj hr (by decide)), h.dk.row.only ho (rtag h.dk.row hr (by decide)), h.dk.pos, h.dk.le⟩, h.sq.only ho (fun gs cs hq => rtag hq hr (by decide)), h.gin, h.n32⟩
theorem Pw.stepB {w wr w' : World} {P : List Value} {g gg c nq n2 g' : Nat} {sv s0 s1 s2 : Value} {ex : List Value} {Q E : Nat → Int} {A B : List Gst} {B' : List Gst} (h : Pw w wr P g gg c nq sv ex g' s0 s1 s2 Q E n2 A B) (hf : Rf w' g' s0 s1 s2 B') (ho : Only (· = g') wr w') : Pw w w' P g gg c nq sv ex g' s0 s1 s2 Q E n2 A B' := by
  obtain ⟨cs, hr⟩ := h.rf.row
  exact ⟨h.ds.keep51 hr ho, hf, h.bel.trans (ho.below h.bel.size (fun q hq => by have := h.ge'; omega)), h.row.only ho (by have := h.ge'; omega), h.ge, h.ge', h.lab, h.len⟩
/-- the document's ticks under way -/
structure Tf (w6 wr : World) (g' : Nat) (s0 s1 s2 : Value) (D : List Gst) (k : Nat) (v : Value) : Prop where
  rf : Rf wr g' s0 s1 s2 (ticksD k D).1
  own : wr.ownsRow w6.heap.size 3 1 v (ticksD k D).2.length ((ticksD k D).2.map (Value.int IntKind.i64))
  only : Only (· = g') w6 wr
theorem ticks_gok {D : List Gst} (h : ∀ x ∈ D, Gok x) (k : Nat) : ∀ x ∈ (ticksD k D).1, Gok x := by
  induction k with
  | zero => exact h
  | succ k ih =>
    intro x hx
    obtain ⟨y, hy, rfl⟩ := List.mem_map.1 hx
    exact age_gok (ih y hy)
theorem Rf.app {w w' : World} {g b n : Nat} {s0 s1 s2 v : Value} {D : List Gst} {xs : List Value} (h : Rf w g s0 s1 s2 D) (own : w.ownsRow b 3 1 v n xs) (ho : Only (fun q => v.ownBlock = some q) w w') : Rf w' g s0 s1 s2 D := by
  obtain ⟨gg, c, ex, R, h1, h2⟩ := h
  exact ⟨gg, c, ex, R, ⟨h1.obj.only ho (tag_ne own h1.obj (by decide)), h1.row.only ho (tag_ne own h1.row (by decide)), h1.pos, h1.le, h1.cap⟩, h2⟩
set_option maxRecDepth 100000 in
set_option maxHeartbeats 4000000 in
theorem new_bad (a0 a1 a2 : Option Addr) (n0 n1 n2 c0 c1 c2 : Nat) (L C Q1 Q2 Q3 E : Nat → Int) (S : Nat → ByteArray) (Dw : Nat → Bool) (w : World) (pl : PolLabs w a0 n0 L C) (pq : PolQuos w a1 n1 Q1 Q2 Q3) (pe : PolEnts w a2 n2 E S Dw) (hc0 : n0 ≤ c0) (hm0 : c0 ≤ maxLen) (hr : rightN n0 n1 n2 L C Q1 Q2 Q3 E S = 11) : Calls Try.prog 12 #[.agg #[.slice a0 n0 c0, .slice a1 n1 c1, .slice a2 n2 c2]] w fun e w' => e = .returned (.tuple #[.pointer none, .int .i64 11]) ∧ Below w.heap.size w w' := by
  have hb : Below w.heap.size w (w.alloc (.cells #[.slice a0 n0 c0, .slice a1 n1 c1, .slice a2 n2 c2] 26)) := (Below.refl _ _).alloc (Nat.le_refl _) _
  have HR := hide (right_any a0 a1 a2 n0 n1 n2 c0 c1 c2 L C Q1 Q2 Q3 E S Dw _ (pl.call hb) (pq.call hb) (pe.call hb) hc0 hm0)
  rw [hr] at HR
  have HB := hide hb
  clear pl pq pe hr hb
  go_enter Try.func12, Try.ntmps12
  go_wp2_with fail
  refine Calls.mono (unhide HR) ?_
  rintro r w1 ⟨rfl, hb1⟩
  have HB1 := hide ((unhide HB).trans (hb1.mono (unhide HB).size))
  clear hb1
  go_wp2_with fail
  go_ret2
  exact ⟨rfl, unhide HB1⟩
set_option maxRecDepth 100000 in
set_option maxHeartbeats 40000000 in
theorem plays_law (a0 a1 a2 al : Option Addr) (n0 n1 n2 c0 c1 c2 cl : Nat) (L C Q1 Q2 Q3 E : Nat → Int) (S : Nat → ByteArray) (Dw : Nat → Bool) (l : List DoV) (w : World)
    (pl : PolLabs w a0 n0 L C) (pq : PolQuos w a1 n1 Q1 Q2 Q3) (pe : PolEnts w a2 n2 E S Dw) (hc0 : n0 ≤ c0) (hm0 : c0 ≤ maxLen) (hl : DosAt w al l) (hlm : l.length ≤ maxLen) :
    Calls Try.prog 3 #[.agg #[.slice a0 n0 c0, .slice a1 n1 c1, .slice a2 n2 c2], .slice al l.length cl] w fun e w' => e = .returned (.bool true) ∧ Below w.heap.size w w' := by
  have HPO := hide (⟨pl, pq, pe, hl⟩ : PolLabs w a0 n0 L C ∧ PolQuos w a1 n1 Q1 Q2 Q3 ∧ PolEnts w a2 n2 E S Dw ∧ DosAt w al l)
  have hb : Below w.heap.size w (w.alloc (.cells #[.slice a0 n0 c0, .slice a1 n1 c1, .slice a2 n2 c2] 26)) := (Below.refl _ _).alloc (Nat.le_refl _) _
  have HLI := hide (light_any a0 a1 a2 n0 n1 n2 c0 c1 c2 pl.1 pq.1 pe.1)
  have HP0 : Hid (Px w (w.alloc (.cells #[.slice a0 n0 c0, .slice a1 n1 c1, .slice a2 n2 c2] 26)) a0 a1 a2 al n0 n1 n2 c0 c1 c2 L C Q1 Q2 Q3 E S Dw l) := hide ⟨pl.call hb, pq.call hb, pe.call hb, hl.call hb, RowAt.new w 26 _, hb⟩
  have HC := hide (⟨hc0, hm0⟩ : n0 ≤ c0 ∧ c0 ≤ maxLen)
  obtain ⟨n, hn⟩ : ∃ n, l.length = n := ⟨_, rfl⟩
  rw [hn] at hlm ⊢
  have HLN := hide hn
  have hlI : (n : Int) ≤ 9223372036854775807 := by unfold maxLen at hlm; omega
  clear pl pq pe hb hl hn hc0 hm0
  cases hlt : (decide (n0 ≤ 100) && decide (n1 ≤ 100) && decide (n2 ≤ 100)) with
  | false =>
    rw [hlt] at HLI
    go_enter Try.func3, Try.ntmps3
    go_wp2_with fail
    refine Calls.mono (unhide HLI _) ?_
    rintro r w1 ⟨rfl, hb1⟩
    have HP := hide ((unhide HP0).call hb1)
    clear hb1 HP0
    go_wp2_with fail
    refine Calls.mono (awake_any _) ?_
    rintro r w9 ⟨rfl, hb9⟩
    have HP9 := hide ((unhide HP).call hb9)
    clear hb9 HP
    go_wp2_with fail
    go_ret
    exact ⟨rfl, (unhide HP9).bel⟩
  | true =>
    rw [hlt] at HLI
    go_enter Try.func3, Try.ntmps3
    go_wp2_with fail
    refine Calls.mono (unhide HLI _) ?_
    rintro r w1 ⟨rfl, hb1⟩
    have HP := hide ((unhide HP0).call hb1)
    clear hb1 HP0 HLI hlt
    by_cases h3 : (300 : Int) < (n : Int)
    · skip
      go_wp2_with fail
      refine Calls.mono (awake_any _) ?_
      rintro r w9 ⟨rfl, hb9⟩
      have HP9 := hide ((unhide HP).call hb9)
      clear hb9 HP
      go_wp2_with fail
      go_ret
      exact ⟨rfl, (unhide HP9).bel⟩
    have p0 : w1.cell? ⟨w.heap.size, 0, none⟩ = some (.slice a0 n0 c0) := (unhide HP).row.cell 0
    have p1 : w1.cell? ⟨w.heap.size, 1, none⟩ = some (.slice a1 n1 c1) := (unhide HP).row.cell 1
    have p2 : w1.cell? ⟨w.heap.size, 2, none⟩ = some (.slice a2 n2 c2) := (unhide HP).row.cell 2
    by_cases hr : rightN n0 n1 n2 L C Q1 Q2 Q3 E S = 0
    rotate_left
    · have hr2 : rightN n0 n1 n2 L C Q1 Q2 Q3 E S = 11 := by
        unfold rightN at hr ⊢
        split
        · rename_i q; simp [q] at hr
        · rfl
      have HM := hide (new_bad a0 a1 a2 n0 n1 n2 c0 c1 c2 L C Q1 Q2 Q3 E S Dw w1 (unhide HP).pl (unhide HP).pq (unhide HP).pe (unhide HC).1 (unhide HC).2 hr2)
      have HR2 := hide hr2
      clear hr hr2
      go_wp2_with fail
      refine Calls.mono (unhide HM) ?_
      rintro r w2 ⟨rfl, hb2⟩
      have HP2 := hide ((unhide HP).call hb2)
      clear hb2 HP HM p0 p1 p2
      have p0 : w2.cell? ⟨w.heap.size, 0, none⟩ = some (.slice a0 n0 c0) := (unhide HP2).row.cell 0
      have p1 : w2.cell? ⟨w.heap.size, 1, none⟩ = some (.slice a1 n1 c1) := (unhide HP2).row.cell 1
      have p2 : w2.cell? ⟨w.heap.size, 2, none⟩ = some (.slice a2 n2 c2) := (unhide HP2).row.cell 2
      have HM := hide (rnew_bad a0 a1 a2 n0 n1 n2 c0 c1 c2 L C Q1 Q2 Q3 E S Dw w2 (unhide HP2).pl (unhide HP2).pq (unhide HP2).pe (unhide HR2))
      go_wp2_with fail
      refine Calls.mono (unhide HM) ?_
      rintro r w3 ⟨rfl, hb3⟩
      have HP := hide ((unhide HP2).call hb3)
      clear hb3 HP2 HM p0 p1 p2 HR2
      go_wp2_with fail
      refine Calls.mono (awake_any _) ?_
      rintro r w9 ⟨rfl, hb9⟩
      have HP9 := hide ((unhide HP).call hb9)
      clear hb9 HP
      go_wp2_with fail
      go_ret
      exact ⟨rfl, (unhide HP9).bel⟩
    have HRH := hide (right_has hr)
    have HR := hide hr
    have HM := hide (new_any a0 a1 a2 n0 n1 n2 c0 c1 c2 L C Q1 Q2 Q3 E S Dw w1 (unhide HP).pl (unhide HP).pq (unhide HP).pe (unhide HC).1 (unhide HC).2 hr)
    clear hr
    go_wp2_with fail
    refine Calls.mono (unhide HM) ?_
    rintro r w2 ⟨g, gg, c, sv, ex, rfl, hd2, hb2, hge2⟩
    have HP2 := hide ((unhide HP).call hb2)
    have HD2 := hide (⟨hd2, Nat.lt_of_lt_of_le (unhide HP).row.lt hge2⟩ : Ds w2 g gg c n1 sv ex Q3 (newD n2 E) ∧ w.heap.size < gg)
    clear HM hb2 hge2 HP p0 p1 p2 hd2
    have p0 : w2.cell? ⟨w.heap.size, 0, none⟩ = some (.slice a0 n0 c0) := (unhide HP2).row.cell 0
    have p1 : w2.cell? ⟨w.heap.size, 1, none⟩ = some (.slice a1 n1 c1) := (unhide HP2).row.cell 1
    have p2 : w2.cell? ⟨w.heap.size, 2, none⟩ = some (.slice a2 n2 c2) := (unhide HP2).row.cell 2
    have HM := hide (rnew_ok a0 a1 a2 n0 n1 n2 c0 c1 c2 L C Q1 Q2 Q3 E S Dw w2 (unhide HP2).pl (unhide HP2).pq (unhide HP2).pe (unhide HR))
    go_wp2_with fail
    refine Calls.mono (unhide HM) ?_
    rintro r w3 ⟨g', gg', c', ex', rfl, hk3, hb3, hge3⟩
    have HK0 : Hid (∃ D, Pw w w3 [.slice a0 n0 c0, .slice a1 n1 c1, .slice a2 n2 c2] g gg c n1 sv ex g' (.slice a0 n0 c0) (.slice a1 n1 c1) (.slice a2 n2 c2) Q3 E n2 D D) := hide (by
      have h2 := (unhide HP2).bel.size
      exact ⟨_, (unhide HD2).1.call hb3, ⟨gg', c', ex', _, hk3, rel_new E n2⟩, (unhide HP2).bel.trans (hb3.mono (unhide HP2).bel.size), (unhide HP2).row.below hb3 (unhide HP2).row.lt, (unhide HD2).2, by omega, labOk_new n2 E, newD_len n2 E⟩)
    obtain ⟨⟨q1, q2⟩, ⟨q3, q4⟩, q5⟩ := unhide HRH
    have hn2 : (n2 : Int) ≤ 8 := by omega
    have h01 := (right_seats (unhide HR)).1
    have h02 : (n0 : Int) ≤ 32 := by omega
    have HN1 := hide q2
    clear HM hb3 hge3 HP2 HD2 p0 p1 p2 hk3 HR q5 h01
    go_wp2_with fail
    go_loopw [57] (fun s wr => ∃ k : Nat, k ≤ n ∧ s = .int .i64 (k : Int) ∧ Hid (∃ D, Pw w wr [.slice a0 n0 c0, .slice a1 n1 c1, .slice a2 n2 c2] g gg c n1 sv ex g' (.slice a0 n0 c0) (.slice a1 n1 c1) (.slice a2 n2 c2) Q3 E n2 D D)) (fun s _ => ((n : Int) - intOf s).toNat)
    case atStart => exact ⟨0, by omega, by simp, HK0⟩
    case round =>
      clear HK0
      obtain ⟨k, hk, rfl, HI⟩ := hrel
      by_cases hlt : k < n
      · have kI : (k : Int) < (n : Int) := by omega
        obtain ⟨D, hK⟩ := unhide HI
        have HKK := hide hK
        obtain ⟨x, hx⟩ : ∃ x, l[k]? = some x := ⟨_, List.getElem?_eq_getElem (by have := unhide HLN; omega)⟩
        obtain ⟨b, off, rfl, e0, e1, e2, e3⟩ := (unhide HPO).2.2.2.at_ hK.bel hx
        obtain ⟨xo, xw, xc, xn⟩ := x
        simp only at e0 e1 e2 e3
        clear hx hK HI
        have HRA := hide (RowAt.new wr 38 [.int .i64 xo, .int .i64 xw, .int .i64 xc, .int .i64 xn])
        have HKA := hide ((unhide HKK).call ((Below.refl _ _).alloc (Nat.le_refl _) (.cells #[.int .i64 xo, .int .i64 xw, .int .i64 xc, .int .i64 xn] 38)))
        go_wp2_with fail
        obtain ⟨wA, hA⟩ : ∃ wA, wr.alloc (.cells #[.int .i64 xo, .int .i64 xw, .int .i64 xc, .int .i64 xn] 38) = wA := ⟨_, rfl⟩
        rw [hA] at HRA HKA ⊢
        clear hA HKK e0 e1 e2 e3
        obtain ⟨bb, hbb⟩ : ∃ bb, wr.heap.size = bb := ⟨_, rfl⟩
        rw [hbb] at HRA ⊢
        clear hbb
        refine Calls.mono (knock_any (unhide HKA).ds xw xc) ?_
        rintro r w4 ⟨rfl, rfl⟩
        have r0 : wA.cell? ⟨bb, 0, none⟩ = some (.int .i64 xo) := (unhide HRA).cell 0
        have r1 : wA.cell? ⟨bb, 1, none⟩ = some (.int .i64 xw) := (unhide HRA).cell 1
        have r2 : wA.cell? ⟨bb, 2, none⟩ = some (.int .i64 xc) := (unhide HRA).cell 2
        have r3 : wA.cell? ⟨bb, 3, none⟩ = some (.int .i64 xn) := (unhide HRA).cell 3
        obtain ⟨kb, hkb⟩ : ∃ kb, (knockD D xw xc).1 = kb := ⟨_, rfl⟩
        obtain ⟨ke, hke⟩ : ∃ ke, (knockD D xw xc).2 = ke := ⟨_, rfl⟩
        have HKN := hide (knockF (unhide HKA).rf xw xc)
        rw [hkb, hke] at HKN ⊢
        clear hkb hke
        go_wp2_with fail
        refine Calls.mono (unhide HKN) ?_
        rintro r w4 ⟨rfl, hb4⟩
        have HK4 := hide ((unhide HKA).call hb4)
        have HR4 := hide ((unhide HRA).below hb4 (unhide HRA).lt)
        clear r0 r1 r2 r3 hb4 HKA HRA HKN
        have s0 : w4.cell? ⟨bb, 0, none⟩ = some (.int .i64 xo) := (unhide HR4).cell 0
        have s1 : w4.cell? ⟨bb, 1, none⟩ = some (.int .i64 xw) := (unhide HR4).cell 1
        have s2 : w4.cell? ⟨bb, 2, none⟩ = some (.int .i64 xc) := (unhide HR4).cell 2
        have s3 : w4.cell? ⟨bb, 3, none⟩ = some (.int .i64 xn) := (unhide HR4).cell 3
        go_wp2_with fail
        refine Calls.mono (does_any (unhide HK4).ds xo xw xc xn) ?_
        rintro r w5 ⟨v5, rfl, hd5, ho5, hown5⟩
        have HK5 := hide ((unhide HK4).stepA hd5 ho5 ((unhide HK4).lab.does Q3 _ _ _ _) (by rw [doesD_len]; exact (unhide HK4).len))
        have HR5 := hide ((unhide HR4).only ho5 (rtag (unhide HR4) (unhide HK4).ds.dk.row (by decide)))
        have HO5 := hide hown5
        have HGD := hide (⟨(unhide HK4).ds.gin, (unhide HK4).lab, (unhide HK4).len⟩ : (∀ y ∈ D, Gin n1 y) ∧ LabOk E D ∧ D.length = n2)
        clear s0 s1 s2 s3 hd5 ho5 hown5 HK4 HR4
        have t0 : w5.cell? ⟨bb, 0, none⟩ = some (.int .i64 xo) := (unhide HR5).cell 0
        have t1 : w5.cell? ⟨bb, 1, none⟩ = some (.int .i64 xw) := (unhide HR5).cell 1
        have t2 : w5.cell? ⟨bb, 2, none⟩ = some (.int .i64 xc) := (unhide HR5).cell 2
        have t3 : w5.cell? ⟨bb, 3, none⟩ = some (.int .i64 xn) := (unhide HR5).cell 3
        obtain ⟨z, hz⟩ : ∃ z, bits .and .i64 xo 7 = z := ⟨_, rfl⟩
        by_cases z2 : z = 2
        · subst z2
          have hdo : doesD Q3 D xo xw xc xn = ((wrongD D xw).1, [], (wrongD D xw).2) := by unfold doesD; simp [hz]
          have HCF := hide (wrongF (unhide HK5).rf (fun y hy => ((unhide HGD).1 y hy).ok) xw)
          rw [hdo] at HK5 HO5 ⊢
          simp only at HK5 HO5 ⊢
          obtain ⟨D6, hD6⟩ : ∃ X, (wrongD D xw).1 = X := ⟨_, rfl⟩
          obtain ⟨e6, he6⟩ : ∃ X, (wrongD D xw).2 = X := ⟨_, rfl⟩
          rw [hD6, he6] at HCF
          rw [hD6] at HK5
          rw [he6]
          clear hdo hD6 he6
          go_wp2_with fail
          refine Calls.mono (unhide HCF) ?_
          rintro r w6 ⟨rfl, hd6, ho6⟩
          have HK6 := hide ((unhide HK5).stepB hd6 ho6)
          have HEQ := hide (equal_ok v5 (.slice none 0 0) [] [] w6 (ints_own (own_only (unhide HO5) ho6 (fun q hq e => by obtain ⟨cs, hr⟩ := (unhide HK5).rf.row; exact tag_ne (unhide HO5) hr (by decide) (e ▸ hq)))) ⟨none, 0, rfl, Nat.le_refl _, Nat.zero_le _, .inl rfl⟩)
          rw [decide_eq_true rfl] at HEQ
          clear hd6 ho6 HCF HK5 HO5 t0 t1 t2 t3 HR5 HGD
          go_wp2_with fail
          refine Calls.mono (unhide HEQ) ?_
          rintro r w7 ⟨rfl, hb7⟩
          have HK7 := hide ((unhide HK6).call hb7)
          clear hb7 HK6 HEQ
          obtain ⟨gg6, c6, ex6, R, hrk, hrel⟩ := (unhide HK7).rf
          have c3 : w7.cell? ⟨g', 3, none⟩ = some (.slice (some ⟨gg6, 0, none⟩) R.length c6) := hrk.obj.cell 3
          rw [← hrel.len, (unhide HK7).len] at c3
          have HB0 : Hid (Pw w w7 [.slice a0 n0 c0, .slice a1 n1 c1, .slice a2 n2 c2] g gg c n1 sv ex g' (.slice a0 n0 c0) (.slice a1 n1 c1) (.slice a2 n2 c2) Q3 E n2 D6 D6 ∧ Rk w7 g' gg6 c6 (.slice a0 n0 c0) (.slice a1 n1 c1) (.slice a2 n2 c2) ex6 R) := hide ⟨unhide HK7, hrk⟩
          have HREL := hide hrel
          have HL6 := hide (⟨(unhide HK7).len, (unhide HK7).lab⟩ : D6.length = n2 ∧ LabOk E D6)
          clear hrk hrel HK7
          go_wp2_with fail
          clear c3
          go_loopw [152] (fun s wr => ∃ i : Nat, i ≤ n2 ∧ s = .int .i64 (i : Int) ∧ Hid (Pw w wr [.slice a0 n0 c0, .slice a1 n1 c1, .slice a2 n2 c2] g gg c n1 sv ex g' (.slice a0 n0 c0) (.slice a1 n1 c1) (.slice a2 n2 c2) Q3 E n2 D6 D6 ∧ Rk wr g' gg6 c6 (.slice a0 n0 c0) (.slice a1 n1 c1) (.slice a2 n2 c2) ex6 R)) (fun s _ => ((n2 : Int) - intOf s).toNat)
          case atStart => exact ⟨0, by omega, by simp, HB0⟩
          case round =>
            clear HB0
            obtain ⟨i, hi, rfl, HKK⟩ := hrel
            by_cases hlv : i < n2
            · have iI : (i : Int) < (n2 : Int) := by omega
              obtain ⟨y, hy⟩ : ∃ y, D6[i]? = some y := ⟨_, List.getElem?_eq_getElem (by have := (unhide HL6).1; omega)⟩
              obtain ⟨r, hr, hg⟩ := (unhide HREL).get hy
              have f0 : wr.cell? ⟨gg6, i * 5, none⟩ = some (.int .i64 r.conn) := (unhide HKK).2.cell (f := 0) hr (by decide)
              have f1 : wr.cell? ⟨gg6, i * 5 + 1, none⟩ = some (.bool r.opn) := (unhide HKK).2.cell hr (by decide)
              have f2 : wr.cell? ⟨gg6, i * 5 + 2, none⟩ = some (.int .i64 r.silent) := (unhide HKK).2.cell hr (by decide)
              have f3 : wr.cell? ⟨gg6, i * 5 + 3, none⟩ = some (.int .i64 r.wrong) := (unhide HKK).2.cell hr (by decide)
              have f4 : wr.cell? ⟨gg6, i * 5 + 4, none⟩ = some (.int .i64 r.locked) := (unhide HKK).2.cell hr (by decide)
              rw [hg.conn] at f0
              rw [hg.opn] at f1
              rw [hg.locked] at f4
              obtain ⟨rs, hrs⟩ : ∃ rs, r.silent = rs := ⟨_, rfl⟩
              obtain ⟨rw_, hrw⟩ : ∃ rs, r.wrong = rs := ⟨_, rfl⟩
              rw [hrs] at f2
              rw [hrw] at f3
              have HY := hide hy
              have hba : Below wr.heap.size wr (wr.alloc (.cells #[.int .i64 y.conn, .bool y.opn, .int .i64 rs, .int .i64 rw_, .int .i64 y.locked] 53)) := (Below.refl _ _).alloc (Nat.le_refl _) _
              have HKW := hide (⟨(unhide HKK).1.call hba, (unhide HKK).2.call hba⟩ : Pw w (wr.alloc (.cells #[.int .i64 y.conn, .bool y.opn, .int .i64 rs, .int .i64 rw_, .int .i64 y.locked] 53)) [.slice a0 n0 c0, .slice a1 n1 c1, .slice a2 n2 c2] g gg c n1 sv ex g' (.slice a0 n0 c0) (.slice a1 n1 c1) (.slice a2 n2 c2) Q3 E n2 D6 D6 ∧ Rk (wr.alloc (.cells #[.int .i64 y.conn, .bool y.opn, .int .i64 rs, .int .i64 rw_, .int .i64 y.locked] 53)) g' gg6 c6 (.slice a0 n0 c0) (.slice a1 n1 c1) (.slice a2 n2 c2) ex6 R)
              have HRG := hide (RowAt.new wr 53 [.int .i64 y.conn, .bool y.opn, .int .i64 rs, .int .i64 rw_, .int .i64 y.locked])
              clear hy hr hg hrs hrw hba HKK
              go_wp2_with fail
              refine Calls.mono (state_ok g gg c sv ex D6 _ (unhide HKW).1.ds.dk i y (unhide HY)) ?_
              rintro r w8 ⟨rfl, hb8⟩
              have HT8 := hide (⟨(unhide HKW).1.call hb8, (unhide HKW).2.call hb8⟩ : Pw w w8 [.slice a0 n0 c0, .slice a1 n1 c1, .slice a2 n2 c2] g gg c n1 sv ex g' (.slice a0 n0 c0) (.slice a1 n1 c1) (.slice a2 n2 c2) Q3 E n2 D6 D6 ∧ Rk w8 g' gg6 c6 (.slice a0 n0 c0) (.slice a1 n1 c1) (.slice a2 n2 c2) ex6 R)
              have hrg := (unhide HRG).below hb8 (unhide HRG).lt
              have HRG8 := hide hrg
              have g0 : w8.cell? ⟨wr.heap.size, 0, none⟩ = some (.int .i64 y.conn) := hrg.cell 0
              have g1 : w8.cell? ⟨wr.heap.size, 1, none⟩ = some (.bool y.opn) := hrg.cell 1
              have g4 : w8.cell? ⟨wr.heap.size, 4, none⟩ = some (.int .i64 y.locked) := hrg.cell 4
              clear hrg hb8 HKW HRG f0 f1 f2 f3 f4
              obtain ⟨bg, hbg⟩ : ∃ bg, wr.heap.size = bg := ⟨_, rfl⟩
              rw [hbg] at g0 g1 g4 HRG8 ⊢
              clear hbg
              go_wp2_with fail
              have HQ : Hid (∀ q, Calls Try.prog 26 #[.pointer (some ⟨g, 0, none⟩), .int .i64 (i : Int)] (w8.drewN q) fun r w' => r = .returned (.int .i64 y.locked) ∧ w' = w8.drewN q) := hide (fun q => Calls.mono (locked_ok g gg c sv ex D6 _ ((unhide HT8).1.ds.dk.call (Joins.below_draws _ _ q)) i y (unhide HY)) (fun e w' h => ⟨h.1, h.2.symm⟩))
              go_quiet (first | (go_at_call 26; exact Calls.quiet_of_same (unhide HQ _)))
              have hbq : Below w8.heap.size w8 (w8.drewN nq) := Joins.below_draws _ _ nq
              have HT9 := hide (⟨(unhide HT8).1.call hbq, (unhide HT8).2.call hbq⟩ : Pw w (w8.drewN nq) [.slice a0 n0 c0, .slice a1 n1 c1, .slice a2 n2 c2] g gg c n1 sv ex g' (.slice a0 n0 c0) (.slice a1 n1 c1) (.slice a2 n2 c2) Q3 E n2 D6 D6 ∧ Rk (w8.drewN nq) g' gg6 c6 (.slice a0 n0 c0) (.slice a1 n1 c1) (.slice a2 n2 c2) ex6 R)
              clear hbq HT8 HQ g0 g1 g4 HRG8 HY
              generalize w8.drewN nq = wq at *
              go_wp2_with fail
              exact ⟨⟨i + 1, by omega, by simp, HT9⟩, by simp [intOf]; omega⟩
            · obtain rfl : n2 = i := by omega
              have iI : ¬ (n2 : Int) < (n2 : Int) := by omega
              have HC0 : Hid (Pw w wr [.slice a0 n0 c0, .slice a1 n1 c1, .slice a2 n2 c2] g gg c n1 sv ex g' (.slice a0 n0 c0) (.slice a1 n1 c1) (.slice a2 n2 c2) Q3 E n2 D6 D6) := hide (unhide HKK).1
              have p0 : wr.cell? ⟨w.heap.size, 0, none⟩ = some (.slice a0 n0 c0) := (unhide HC0).row.cell 0
              clear HKK HREL
              generalize wr = wq at HC0 p0
              go_wp2_with fail
              clear p0
              go_loopw [185] (fun s wr => ∃ v : Nat, v ≤ n0 ∧ s = .int .i64 (v : Int) ∧ Hid (Pw w wr [.slice a0 n0 c0, .slice a1 n1 c1, .slice a2 n2 c2] g gg c n1 sv ex g' (.slice a0 n0 c0) (.slice a1 n1 c1) (.slice a2 n2 c2) Q3 E n2 D6 D6)) (fun s _ => ((n0 : Int) - intOf s).toNat)
              case atStart => exact ⟨0, by omega, by simp, HC0⟩
              case round =>
                clear HC0
                obtain ⟨v, hv, rfl, HKK⟩ := hrel
                by_cases hlv2 : v < n0
                · have vI : (v : Int) < (n0 : Int) := by omega
                  go_wp2_with fail
                  refine Calls.mono (seats_ok g gg c sv ex D6 _ (unhide HKK).ds.dk (v : Int)) ?_
                  rintro r w9 ⟨rfl, hb9⟩
                  have HT9 := hide ((unhide HKK).call hb9)
                  clear hb9 HKK
                  go_wp2_with fail
                  refine Calls.mono (seatsF (unhide HT9).rf ((unhide HPO).2.2.1.call (unhide HT9).bel) (unhide HL6).2 (unhide HL6).1 (v : Int)) ?_
                  rintro r w10 ⟨rfl, hb10⟩
                  have HT10 := hide ((unhide HT9).call hb10)
                  clear hb10 HT9
                  go_wp2_with fail
                  exact ⟨⟨v + 1, by omega, by simp, HT10⟩, by simp [intOf]; omega⟩
                · obtain rfl : n0 = v := by omega
                  have vI : ¬ (n0 : Int) < (n0 : Int) := by omega
                  have HN : Hid (∃ D, Pw w wr [.slice a0 n0 c0, .slice a1 n1 c1, .slice a2 n2 c2] g gg c n1 sv ex g' (.slice a0 n0 c0) (.slice a1 n1 c1) (.slice a2 n2 c2) Q3 E n2 D D) := hide ⟨D6, unhide HKK⟩
                  clear HKK
                  go_wp2_with fail
                  exact ⟨⟨k + 1, by omega, by simp, HN⟩, by simp [intOf]; omega⟩
        have ez2 : (z == 2) = false := by simp [z2]
        by_cases z3 : z = 3
        · subst z3
          have hdo : doesD Q3 D xo xw xc xn = ((openD Q3 D xw).1, [], (openD Q3 D xw).2) := by unfold doesD; simp [hz]
          have HCF := hide (openF (unhide HK5).rf ((unhide HPO).2.2.1.call (unhide HK5).bel) ((unhide HPO).2.1.call (unhide HK5).bel) (unhide HGD).2.1 (unhide HGD).2.2 (unhide HGD).1 (unhide HN1) xw)
          rw [hdo] at HK5 HO5 ⊢
          simp only at HK5 HO5 ⊢
          obtain ⟨D6, hD6⟩ : ∃ X, (openD Q3 D xw).1 = X := ⟨_, rfl⟩
          obtain ⟨e6, he6⟩ : ∃ X, (openD Q3 D xw).2 = X := ⟨_, rfl⟩
          rw [hD6, he6] at HCF
          rw [hD6] at HK5
          rw [he6]
          clear hdo hD6 he6
          go_wp2_with fail
          refine Calls.mono (unhide HCF) ?_
          rintro r w6 ⟨rfl, hd6, ho6⟩
          have HK6 := hide ((unhide HK5).stepB hd6 ho6)
          have HEQ := hide (equal_ok v5 (.slice none 0 0) [] [] w6 (ints_own (own_only (unhide HO5) ho6 (fun q hq e => by obtain ⟨cs, hr⟩ := (unhide HK5).rf.row; exact tag_ne (unhide HO5) hr (by decide) (e ▸ hq)))) ⟨none, 0, rfl, Nat.le_refl _, Nat.zero_le _, .inl rfl⟩)
          rw [decide_eq_true rfl] at HEQ
          clear hd6 ho6 HCF HK5 HO5 t0 t1 t2 t3 HR5 HGD
          go_wp2_with fail
          refine Calls.mono (unhide HEQ) ?_
          rintro r w7 ⟨rfl, hb7⟩
          have HK7 := hide ((unhide HK6).call hb7)
          clear hb7 HK6 HEQ
          obtain ⟨gg6, c6, ex6, R, hrk, hrel⟩ := (unhide HK7).rf
          have c3 : w7.cell? ⟨g', 3, none⟩ = some (.slice (some ⟨gg6, 0, none⟩) R.length c6) := hrk.obj.cell 3
          rw [← hrel.len, (unhide HK7).len] at c3
          have HB0 : Hid (Pw w w7 [.slice a0 n0 c0, .slice a1 n1 c1, .slice a2 n2 c2] g gg c n1 sv ex g' (.slice a0 n0 c0) (.slice a1 n1 c1) (.slice a2 n2 c2) Q3 E n2 D6 D6 ∧ Rk w7 g' gg6 c6 (.slice a0 n0 c0) (.slice a1 n1 c1) (.slice a2 n2 c2) ex6 R) := hide ⟨unhide HK7, hrk⟩
          have HREL := hide hrel
          have HL6 := hide (⟨(unhide HK7).len, (unhide HK7).lab⟩ : D6.length = n2 ∧ LabOk E D6)
          clear hrk hrel HK7
          go_wp2_with fail
          clear c3
          go_loopw [152] (fun s wr => ∃ i : Nat, i ≤ n2 ∧ s = .int .i64 (i : Int) ∧ Hid (Pw w wr [.slice a0 n0 c0, .slice a1 n1 c1, .slice a2 n2 c2] g gg c n1 sv ex g' (.slice a0 n0 c0) (.slice a1 n1 c1) (.slice a2 n2 c2) Q3 E n2 D6 D6 ∧ Rk wr g' gg6 c6 (.slice a0 n0 c0) (.slice a1 n1 c1) (.slice a2 n2 c2) ex6 R)) (fun s _ => ((n2 : Int) - intOf s).toNat)
          case atStart => exact ⟨0, by omega, by simp, HB0⟩
          case round =>
            clear HB0
            obtain ⟨i, hi, rfl, HKK⟩ := hrel
            by_cases hlv : i < n2
            · have iI : (i : Int) < (n2 : Int) := by omega
              obtain ⟨y, hy⟩ : ∃ y, D6[i]? = some y := ⟨_, List.getElem?_eq_getElem (by have := (unhide HL6).1; omega)⟩
              obtain ⟨r, hr, hg⟩ := (unhide HREL).get hy
              have f0 : wr.cell? ⟨gg6, i * 5, none⟩ = some (.int .i64 r.conn) := (unhide HKK).2.cell (f := 0) hr (by decide)
              have f1 : wr.cell? ⟨gg6, i * 5 + 1, none⟩ = some (.bool r.opn) := (unhide HKK).2.cell hr (by decide)
              have f2 : wr.cell? ⟨gg6, i * 5 + 2, none⟩ = some (.int .i64 r.silent) := (unhide HKK).2.cell hr (by decide)
              have f3 : wr.cell? ⟨gg6, i * 5 + 3, none⟩ = some (.int .i64 r.wrong) := (unhide HKK).2.cell hr (by decide)
              have f4 : wr.cell? ⟨gg6, i * 5 + 4, none⟩ = some (.int .i64 r.locked) := (unhide HKK).2.cell hr (by decide)
              rw [hg.conn] at f0
              rw [hg.opn] at f1
              rw [hg.locked] at f4
              obtain ⟨rs, hrs⟩ : ∃ rs, r.silent = rs := ⟨_, rfl⟩
              obtain ⟨rw_, hrw⟩ : ∃ rs, r.wrong = rs := ⟨_, rfl⟩
              rw [hrs] at f2
              rw [hrw] at f3
              have HY := hide hy
              have hba : Below wr.heap.size wr (wr.alloc (.cells #[.int .i64 y.conn, .bool y.opn, .int .i64 rs, .int .i64 rw_, .int .i64 y.locked] 53)) := (Below.refl _ _).alloc (Nat.le_refl _) _
              have HKW := hide (⟨(unhide HKK).1.call hba, (unhide HKK).2.call hba⟩ : Pw w (wr.alloc (.cells #[.int .i64 y.conn, .bool y.opn, .int .i64 rs, .int .i64 rw_, .int .i64 y.locked] 53)) [.slice a0 n0 c0, .slice a1 n1 c1, .slice a2 n2 c2] g gg c n1 sv ex g' (.slice a0 n0 c0) (.slice a1 n1 c1) (.slice a2 n2 c2) Q3 E n2 D6 D6 ∧ Rk (wr.alloc (.cells #[.int .i64 y.conn, .bool y.opn, .int .i64 rs, .int .i64 rw_, .int .i64 y.locked] 53)) g' gg6 c6 (.slice a0 n0 c0) (.slice a1 n1 c1) (.slice a2 n2 c2) ex6 R)
              have HRG := hide (RowAt.new wr 53 [.int .i64 y.conn, .bool y.opn, .int .i64 rs, .int .i64 rw_, .int .i64 y.locked])
              clear hy hr hg hrs hrw hba HKK
              go_wp2_with fail
              refine Calls.mono (state_ok g gg c sv ex D6 _ (unhide HKW).1.ds.dk i y (unhide HY)) ?_
              rintro r w8 ⟨rfl, hb8⟩
              have HT8 := hide (⟨(unhide HKW).1.call hb8, (unhide HKW).2.call hb8⟩ : Pw w w8 [.slice a0 n0 c0, .slice a1 n1 c1, .slice a2 n2 c2] g gg c n1 sv ex g' (.slice a0 n0 c0) (.slice a1 n1 c1) (.slice a2 n2 c2) Q3 E n2 D6 D6 ∧ Rk w8 g' gg6 c6 (.slice a0 n0 c0) (.slice a1 n1 c1) (.slice a2 n2 c2) ex6 R)
              have hrg := (unhide HRG).below hb8 (unhide HRG).lt
              have HRG8 := hide hrg
              have g0 : w8.cell? ⟨wr.heap.size, 0, none⟩ = some (.int .i64 y.conn) := hrg.cell 0
              have g1 : w8.cell? ⟨wr.heap.size, 1, none⟩ = some (.bool y.opn) := hrg.cell 1
              have g4 : w8.cell? ⟨wr.heap.size, 4, none⟩ = some (.int .i64 y.locked) := hrg.cell 4
              clear hrg hb8 HKW HRG f0 f1 f2 f3 f4
              obtain ⟨bg, hbg⟩ : ∃ bg, wr.heap.size = bg := ⟨_, rfl⟩
              rw [hbg] at g0 g1 g4 HRG8 ⊢
              clear hbg
              go_wp2_with fail
              have HQ : Hid (∀ q, Calls Try.prog 26 #[.pointer (some ⟨g, 0, none⟩), .int .i64 (i : Int)] (w8.drewN q) fun r w' => r = .returned (.int .i64 y.locked) ∧ w' = w8.drewN q) := hide (fun q => Calls.mono (locked_ok g gg c sv ex D6 _ ((unhide HT8).1.ds.dk.call (Joins.below_draws _ _ q)) i y (unhide HY)) (fun e w' h => ⟨h.1, h.2.symm⟩))
              go_quiet (first | (go_at_call 26; exact Calls.quiet_of_same (unhide HQ _)))
              have hbq : Below w8.heap.size w8 (w8.drewN nq) := Joins.below_draws _ _ nq
              have HT9 := hide (⟨(unhide HT8).1.call hbq, (unhide HT8).2.call hbq⟩ : Pw w (w8.drewN nq) [.slice a0 n0 c0, .slice a1 n1 c1, .slice a2 n2 c2] g gg c n1 sv ex g' (.slice a0 n0 c0) (.slice a1 n1 c1) (.slice a2 n2 c2) Q3 E n2 D6 D6 ∧ Rk (w8.drewN nq) g' gg6 c6 (.slice a0 n0 c0) (.slice a1 n1 c1) (.slice a2 n2 c2) ex6 R)
              clear hbq HT8 HQ g0 g1 g4 HRG8 HY
              generalize w8.drewN nq = wq at *
              go_wp2_with fail
              exact ⟨⟨i + 1, by omega, by simp, HT9⟩, by simp [intOf]; omega⟩
            · obtain rfl : n2 = i := by omega
              have iI : ¬ (n2 : Int) < (n2 : Int) := by omega
              have HC0 : Hid (Pw w wr [.slice a0 n0 c0, .slice a1 n1 c1, .slice a2 n2 c2] g gg c n1 sv ex g' (.slice a0 n0 c0) (.slice a1 n1 c1) (.slice a2 n2 c2) Q3 E n2 D6 D6) := hide (unhide HKK).1
              have p0 : wr.cell? ⟨w.heap.size, 0, none⟩ = some (.slice a0 n0 c0) := (unhide HC0).row.cell 0
              clear HKK HREL
              generalize wr = wq at HC0 p0
              go_wp2_with fail
              clear p0
              go_loopw [185] (fun s wr => ∃ v : Nat, v ≤ n0 ∧ s = .int .i64 (v : Int) ∧ Hid (Pw w wr [.slice a0 n0 c0, .slice a1 n1 c1, .slice a2 n2 c2] g gg c n1 sv ex g' (.slice a0 n0 c0) (.slice a1 n1 c1) (.slice a2 n2 c2) Q3 E n2 D6 D6)) (fun s _ => ((n0 : Int) - intOf s).toNat)
              case atStart => exact ⟨0, by omega, by simp, HC0⟩
              case round =>
                clear HC0
                obtain ⟨v, hv, rfl, HKK⟩ := hrel
                by_cases hlv2 : v < n0
                · have vI : (v : Int) < (n0 : Int) := by omega
                  go_wp2_with fail
                  refine Calls.mono (seats_ok g gg c sv ex D6 _ (unhide HKK).ds.dk (v : Int)) ?_
                  rintro r w9 ⟨rfl, hb9⟩
                  have HT9 := hide ((unhide HKK).call hb9)
                  clear hb9 HKK
                  go_wp2_with fail
                  refine Calls.mono (seatsF (unhide HT9).rf ((unhide HPO).2.2.1.call (unhide HT9).bel) (unhide HL6).2 (unhide HL6).1 (v : Int)) ?_
                  rintro r w10 ⟨rfl, hb10⟩
                  have HT10 := hide ((unhide HT9).call hb10)
                  clear hb10 HT9
                  go_wp2_with fail
                  exact ⟨⟨v + 1, by omega, by simp, HT10⟩, by simp [intOf]; omega⟩
                · obtain rfl : n0 = v := by omega
                  have vI : ¬ (n0 : Int) < (n0 : Int) := by omega
                  have HN : Hid (∃ D, Pw w wr [.slice a0 n0 c0, .slice a1 n1 c1, .slice a2 n2 c2] g gg c n1 sv ex g' (.slice a0 n0 c0) (.slice a1 n1 c1) (.slice a2 n2 c2) Q3 E n2 D D) := hide ⟨D6, unhide HKK⟩
                  clear HKK
                  go_wp2_with fail
                  exact ⟨⟨k + 1, by omega, by simp, HN⟩, by simp [intOf]; omega⟩
        have ez3 : (z == 3) = false := by simp [z3]
        by_cases z4 : z = 4
        · subst z4
          have hdo : doesD Q3 D xo xw xc xn = ((openD Q3 D xw).1, [], (openD Q3 D xw).2) := by unfold doesD; simp [hz]
          have HCF := hide (openF (unhide HK5).rf ((unhide HPO).2.2.1.call (unhide HK5).bel) ((unhide HPO).2.1.call (unhide HK5).bel) (unhide HGD).2.1 (unhide HGD).2.2 (unhide HGD).1 (unhide HN1) xw)
          rw [hdo] at HK5 HO5 ⊢
          simp only at HK5 HO5 ⊢
          obtain ⟨D6, hD6⟩ : ∃ X, (openD Q3 D xw).1 = X := ⟨_, rfl⟩
          obtain ⟨e6, he6⟩ : ∃ X, (openD Q3 D xw).2 = X := ⟨_, rfl⟩
          rw [hD6, he6] at HCF
          rw [hD6] at HK5
          rw [he6]
          clear hdo hD6 he6
          go_wp2_with fail
          refine Calls.mono (unhide HCF) ?_
          rintro r w6 ⟨rfl, hd6, ho6⟩
          have HK6 := hide ((unhide HK5).stepB hd6 ho6)
          have HEQ := hide (equal_ok v5 (.slice none 0 0) [] [] w6 (ints_own (own_only (unhide HO5) ho6 (fun q hq e => by obtain ⟨cs, hr⟩ := (unhide HK5).rf.row; exact tag_ne (unhide HO5) hr (by decide) (e ▸ hq)))) ⟨none, 0, rfl, Nat.le_refl _, Nat.zero_le _, .inl rfl⟩)
          rw [decide_eq_true rfl] at HEQ
          clear hd6 ho6 HCF HK5 HO5 t0 t1 t2 t3 HR5 HGD
          go_wp2_with fail
          refine Calls.mono (unhide HEQ) ?_
          rintro r w7 ⟨rfl, hb7⟩
          have HK7 := hide ((unhide HK6).call hb7)
          clear hb7 HK6 HEQ
          obtain ⟨gg6, c6, ex6, R, hrk, hrel⟩ := (unhide HK7).rf
          have c3 : w7.cell? ⟨g', 3, none⟩ = some (.slice (some ⟨gg6, 0, none⟩) R.length c6) := hrk.obj.cell 3
          rw [← hrel.len, (unhide HK7).len] at c3
          have HB0 : Hid (Pw w w7 [.slice a0 n0 c0, .slice a1 n1 c1, .slice a2 n2 c2] g gg c n1 sv ex g' (.slice a0 n0 c0) (.slice a1 n1 c1) (.slice a2 n2 c2) Q3 E n2 D6 D6 ∧ Rk w7 g' gg6 c6 (.slice a0 n0 c0) (.slice a1 n1 c1) (.slice a2 n2 c2) ex6 R) := hide ⟨unhide HK7, hrk⟩
          have HREL := hide hrel
          have HL6 := hide (⟨(unhide HK7).len, (unhide HK7).lab⟩ : D6.length = n2 ∧ LabOk E D6)
          clear hrk hrel HK7
          go_wp2_with fail
          clear c3
          go_loopw [152] (fun s wr => ∃ i : Nat, i ≤ n2 ∧ s = .int .i64 (i : Int) ∧ Hid (Pw w wr [.slice a0 n0 c0, .slice a1 n1 c1, .slice a2 n2 c2] g gg c n1 sv ex g' (.slice a0 n0 c0) (.slice a1 n1 c1) (.slice a2 n2 c2) Q3 E n2 D6 D6 ∧ Rk wr g' gg6 c6 (.slice a0 n0 c0) (.slice a1 n1 c1) (.slice a2 n2 c2) ex6 R)) (fun s _ => ((n2 : Int) - intOf s).toNat)
          case atStart => exact ⟨0, by omega, by simp, HB0⟩
          case round =>
            clear HB0
            obtain ⟨i, hi, rfl, HKK⟩ := hrel
            by_cases hlv : i < n2
            · have iI : (i : Int) < (n2 : Int) := by omega
              obtain ⟨y, hy⟩ : ∃ y, D6[i]? = some y := ⟨_, List.getElem?_eq_getElem (by have := (unhide HL6).1; omega)⟩
              obtain ⟨r, hr, hg⟩ := (unhide HREL).get hy
              have f0 : wr.cell? ⟨gg6, i * 5, none⟩ = some (.int .i64 r.conn) := (unhide HKK).2.cell (f := 0) hr (by decide)
              have f1 : wr.cell? ⟨gg6, i * 5 + 1, none⟩ = some (.bool r.opn) := (unhide HKK).2.cell hr (by decide)
              have f2 : wr.cell? ⟨gg6, i * 5 + 2, none⟩ = some (.int .i64 r.silent) := (unhide HKK).2.cell hr (by decide)
              have f3 : wr.cell? ⟨gg6, i * 5 + 3, none⟩ = some (.int .i64 r.wrong) := (unhide HKK).2.cell hr (by decide)
              have f4 : wr.cell? ⟨gg6, i * 5 + 4, none⟩ = some (.int .i64 r.locked) := (unhide HKK).2.cell hr (by decide)
              rw [hg.conn] at f0
              rw [hg.opn] at f1
              rw [hg.locked] at f4
              obtain ⟨rs, hrs⟩ : ∃ rs, r.silent = rs := ⟨_, rfl⟩
              obtain ⟨rw_, hrw⟩ : ∃ rs, r.wrong = rs := ⟨_, rfl⟩
              rw [hrs] at f2
              rw [hrw] at f3
              have HY := hide hy
              have hba : Below wr.heap.size wr (wr.alloc (.cells #[.int .i64 y.conn, .bool y.opn, .int .i64 rs, .int .i64 rw_, .int .i64 y.locked] 53)) := (Below.refl _ _).alloc (Nat.le_refl _) _
              have HKW := hide (⟨(unhide HKK).1.call hba, (unhide HKK).2.call hba⟩ : Pw w (wr.alloc (.cells #[.int .i64 y.conn, .bool y.opn, .int .i64 rs, .int .i64 rw_, .int .i64 y.locked] 53)) [.slice a0 n0 c0, .slice a1 n1 c1, .slice a2 n2 c2] g gg c n1 sv ex g' (.slice a0 n0 c0) (.slice a1 n1 c1) (.slice a2 n2 c2) Q3 E n2 D6 D6 ∧ Rk (wr.alloc (.cells #[.int .i64 y.conn, .bool y.opn, .int .i64 rs, .int .i64 rw_, .int .i64 y.locked] 53)) g' gg6 c6 (.slice a0 n0 c0) (.slice a1 n1 c1) (.slice a2 n2 c2) ex6 R)
              have HRG := hide (RowAt.new wr 53 [.int .i64 y.conn, .bool y.opn, .int .i64 rs, .int .i64 rw_, .int .i64 y.locked])
              clear hy hr hg hrs hrw hba HKK
              go_wp2_with fail
              refine Calls.mono (state_ok g gg c sv ex D6 _ (unhide HKW).1.ds.dk i y (unhide HY)) ?_
              rintro r w8 ⟨rfl, hb8⟩
              have HT8 := hide (⟨(unhide HKW).1.call hb8, (unhide HKW).2.call hb8⟩ : Pw w w8 [.slice a0 n0 c0, .slice a1 n1 c1, .slice a2 n2 c2] g gg c n1 sv ex g' (.slice a0 n0 c0) (.slice a1 n1 c1) (.slice a2 n2 c2) Q3 E n2 D6 D6 ∧ Rk w8 g' gg6 c6 (.slice a0 n0 c0) (.slice a1 n1 c1) (.slice a2 n2 c2) ex6 R)
              have hrg := (unhide HRG).below hb8 (unhide HRG).lt
              have HRG8 := hide hrg
              have g0 : w8.cell? ⟨wr.heap.size, 0, none⟩ = some (.int .i64 y.conn) := hrg.cell 0
              have g1 : w8.cell? ⟨wr.heap.size, 1, none⟩ = some (.bool y.opn) := hrg.cell 1
              have g4 : w8.cell? ⟨wr.heap.size, 4, none⟩ = some (.int .i64 y.locked) := hrg.cell 4
              clear hrg hb8 HKW HRG f0 f1 f2 f3 f4
              obtain ⟨bg, hbg⟩ : ∃ bg, wr.heap.size = bg := ⟨_, rfl⟩
              rw [hbg] at g0 g1 g4 HRG8 ⊢
              clear hbg
              go_wp2_with fail
              have HQ : Hid (∀ q, Calls Try.prog 26 #[.pointer (some ⟨g, 0, none⟩), .int .i64 (i : Int)] (w8.drewN q) fun r w' => r = .returned (.int .i64 y.locked) ∧ w' = w8.drewN q) := hide (fun q => Calls.mono (locked_ok g gg c sv ex D6 _ ((unhide HT8).1.ds.dk.call (Joins.below_draws _ _ q)) i y (unhide HY)) (fun e w' h => ⟨h.1, h.2.symm⟩))
              go_quiet (first | (go_at_call 26; exact Calls.quiet_of_same (unhide HQ _)))
              have hbq : Below w8.heap.size w8 (w8.drewN nq) := Joins.below_draws _ _ nq
              have HT9 := hide (⟨(unhide HT8).1.call hbq, (unhide HT8).2.call hbq⟩ : Pw w (w8.drewN nq) [.slice a0 n0 c0, .slice a1 n1 c1, .slice a2 n2 c2] g gg c n1 sv ex g' (.slice a0 n0 c0) (.slice a1 n1 c1) (.slice a2 n2 c2) Q3 E n2 D6 D6 ∧ Rk (w8.drewN nq) g' gg6 c6 (.slice a0 n0 c0) (.slice a1 n1 c1) (.slice a2 n2 c2) ex6 R)
              clear hbq HT8 HQ g0 g1 g4 HRG8 HY
              generalize w8.drewN nq = wq at *
              go_wp2_with fail
              exact ⟨⟨i + 1, by omega, by simp, HT9⟩, by simp [intOf]; omega⟩
            · obtain rfl : n2 = i := by omega
              have iI : ¬ (n2 : Int) < (n2 : Int) := by omega
              have HC0 : Hid (Pw w wr [.slice a0 n0 c0, .slice a1 n1 c1, .slice a2 n2 c2] g gg c n1 sv ex g' (.slice a0 n0 c0) (.slice a1 n1 c1) (.slice a2 n2 c2) Q3 E n2 D6 D6) := hide (unhide HKK).1
              have p0 : wr.cell? ⟨w.heap.size, 0, none⟩ = some (.slice a0 n0 c0) := (unhide HC0).row.cell 0
              clear HKK HREL
              generalize wr = wq at HC0 p0
              go_wp2_with fail
              clear p0
              go_loopw [185] (fun s wr => ∃ v : Nat, v ≤ n0 ∧ s = .int .i64 (v : Int) ∧ Hid (Pw w wr [.slice a0 n0 c0, .slice a1 n1 c1, .slice a2 n2 c2] g gg c n1 sv ex g' (.slice a0 n0 c0) (.slice a1 n1 c1) (.slice a2 n2 c2) Q3 E n2 D6 D6)) (fun s _ => ((n0 : Int) - intOf s).toNat)
              case atStart => exact ⟨0, by omega, by simp, HC0⟩
              case round =>
                clear HC0
                obtain ⟨v, hv, rfl, HKK⟩ := hrel
                by_cases hlv2 : v < n0
                · have vI : (v : Int) < (n0 : Int) := by omega
                  go_wp2_with fail
                  refine Calls.mono (seats_ok g gg c sv ex D6 _ (unhide HKK).ds.dk (v : Int)) ?_
                  rintro r w9 ⟨rfl, hb9⟩
                  have HT9 := hide ((unhide HKK).call hb9)
                  clear hb9 HKK
                  go_wp2_with fail
                  refine Calls.mono (seatsF (unhide HT9).rf ((unhide HPO).2.2.1.call (unhide HT9).bel) (unhide HL6).2 (unhide HL6).1 (v : Int)) ?_
                  rintro r w10 ⟨rfl, hb10⟩
                  have HT10 := hide ((unhide HT9).call hb10)
                  clear hb10 HT9
                  go_wp2_with fail
                  exact ⟨⟨v + 1, by omega, by simp, HT10⟩, by simp [intOf]; omega⟩
                · obtain rfl : n0 = v := by omega
                  have vI : ¬ (n0 : Int) < (n0 : Int) := by omega
                  have HN : Hid (∃ D, Pw w wr [.slice a0 n0 c0, .slice a1 n1 c1, .slice a2 n2 c2] g gg c n1 sv ex g' (.slice a0 n0 c0) (.slice a1 n1 c1) (.slice a2 n2 c2) Q3 E n2 D D) := hide ⟨D6, unhide HKK⟩
                  clear HKK
                  go_wp2_with fail
                  exact ⟨⟨k + 1, by omega, by simp, HN⟩, by simp [intOf]; omega⟩
        have ez4 : (z == 4) = false := by simp [z4]
        by_cases z5 : z = 5
        · subst z5
          have hdo : doesD Q3 D xo xw xc xn = ((heardD D xw).1, [], (heardD D xw).2) := by unfold doesD; simp [hz]
          have HCF := hide (heardF (unhide HK5).rf xw)
          rw [hdo] at HK5 HO5 ⊢
          simp only at HK5 HO5 ⊢
          obtain ⟨D6, hD6⟩ : ∃ X, (heardD D xw).1 = X := ⟨_, rfl⟩
          obtain ⟨e6, he6⟩ : ∃ X, (heardD D xw).2 = X := ⟨_, rfl⟩
          rw [hD6, he6] at HCF
          rw [hD6] at HK5
          rw [he6]
          clear hdo hD6 he6
          go_wp2_with fail
          refine Calls.mono (unhide HCF) ?_
          rintro r w6 ⟨rfl, hd6, ho6⟩
          have HK6 := hide ((unhide HK5).stepB hd6 ho6)
          have HEQ := hide (equal_ok v5 (.slice none 0 0) [] [] w6 (ints_own (own_only (unhide HO5) ho6 (fun q hq e => by obtain ⟨cs, hr⟩ := (unhide HK5).rf.row; exact tag_ne (unhide HO5) hr (by decide) (e ▸ hq)))) ⟨none, 0, rfl, Nat.le_refl _, Nat.zero_le _, .inl rfl⟩)
          rw [decide_eq_true rfl] at HEQ
          clear hd6 ho6 HCF HK5 HO5 t0 t1 t2 t3 HR5 HGD
          go_wp2_with fail
          refine Calls.mono (unhide HEQ) ?_
          rintro r w7 ⟨rfl, hb7⟩
          have HK7 := hide ((unhide HK6).call hb7)
          clear hb7 HK6 HEQ
          obtain ⟨gg6, c6, ex6, R, hrk, hrel⟩ := (unhide HK7).rf
          have c3 : w7.cell? ⟨g', 3, none⟩ = some (.slice (some ⟨gg6, 0, none⟩) R.length c6) := hrk.obj.cell 3
          rw [← hrel.len, (unhide HK7).len] at c3
          have HB0 : Hid (Pw w w7 [.slice a0 n0 c0, .slice a1 n1 c1, .slice a2 n2 c2] g gg c n1 sv ex g' (.slice a0 n0 c0) (.slice a1 n1 c1) (.slice a2 n2 c2) Q3 E n2 D6 D6 ∧ Rk w7 g' gg6 c6 (.slice a0 n0 c0) (.slice a1 n1 c1) (.slice a2 n2 c2) ex6 R) := hide ⟨unhide HK7, hrk⟩
          have HREL := hide hrel
          have HL6 := hide (⟨(unhide HK7).len, (unhide HK7).lab⟩ : D6.length = n2 ∧ LabOk E D6)
          clear hrk hrel HK7
          go_wp2_with fail
          clear c3
          go_loopw [152] (fun s wr => ∃ i : Nat, i ≤ n2 ∧ s = .int .i64 (i : Int) ∧ Hid (Pw w wr [.slice a0 n0 c0, .slice a1 n1 c1, .slice a2 n2 c2] g gg c n1 sv ex g' (.slice a0 n0 c0) (.slice a1 n1 c1) (.slice a2 n2 c2) Q3 E n2 D6 D6 ∧ Rk wr g' gg6 c6 (.slice a0 n0 c0) (.slice a1 n1 c1) (.slice a2 n2 c2) ex6 R)) (fun s _ => ((n2 : Int) - intOf s).toNat)
          case atStart => exact ⟨0, by omega, by simp, HB0⟩
          case round =>
            clear HB0
            obtain ⟨i, hi, rfl, HKK⟩ := hrel
            by_cases hlv : i < n2
            · have iI : (i : Int) < (n2 : Int) := by omega
              obtain ⟨y, hy⟩ : ∃ y, D6[i]? = some y := ⟨_, List.getElem?_eq_getElem (by have := (unhide HL6).1; omega)⟩
              obtain ⟨r, hr, hg⟩ := (unhide HREL).get hy
              have f0 : wr.cell? ⟨gg6, i * 5, none⟩ = some (.int .i64 r.conn) := (unhide HKK).2.cell (f := 0) hr (by decide)
              have f1 : wr.cell? ⟨gg6, i * 5 + 1, none⟩ = some (.bool r.opn) := (unhide HKK).2.cell hr (by decide)
              have f2 : wr.cell? ⟨gg6, i * 5 + 2, none⟩ = some (.int .i64 r.silent) := (unhide HKK).2.cell hr (by decide)
              have f3 : wr.cell? ⟨gg6, i * 5 + 3, none⟩ = some (.int .i64 r.wrong) := (unhide HKK).2.cell hr (by decide)
              have f4 : wr.cell? ⟨gg6, i * 5 + 4, none⟩ = some (.int .i64 r.locked) := (unhide HKK).2.cell hr (by decide)
              rw [hg.conn] at f0
              rw [hg.opn] at f1
              rw [hg.locked] at f4
              obtain ⟨rs, hrs⟩ : ∃ rs, r.silent = rs := ⟨_, rfl⟩
              obtain ⟨rw_, hrw⟩ : ∃ rs, r.wrong = rs := ⟨_, rfl⟩
              rw [hrs] at f2
              rw [hrw] at f3
              have HY := hide hy
              have hba : Below wr.heap.size wr (wr.alloc (.cells #[.int .i64 y.conn, .bool y.opn, .int .i64 rs, .int .i64 rw_, .int .i64 y.locked] 53)) := (Below.refl _ _).alloc (Nat.le_refl _) _
              have HKW := hide (⟨(unhide HKK).1.call hba, (unhide HKK).2.call hba⟩ : Pw w (wr.alloc (.cells #[.int .i64 y.conn, .bool y.opn, .int .i64 rs, .int .i64 rw_, .int .i64 y.locked] 53)) [.slice a0 n0 c0, .slice a1 n1 c1, .slice a2 n2 c2] g gg c n1 sv ex g' (.slice a0 n0 c0) (.slice a1 n1 c1) (.slice a2 n2 c2) Q3 E n2 D6 D6 ∧ Rk (wr.alloc (.cells #[.int .i64 y.conn, .bool y.opn, .int .i64 rs, .int .i64 rw_, .int .i64 y.locked] 53)) g' gg6 c6 (.slice a0 n0 c0) (.slice a1 n1 c1) (.slice a2 n2 c2) ex6 R)
              have HRG := hide (RowAt.new wr 53 [.int .i64 y.conn, .bool y.opn, .int .i64 rs, .int .i64 rw_, .int .i64 y.locked])
              clear hy hr hg hrs hrw hba HKK
              go_wp2_with fail
              refine Calls.mono (state_ok g gg c sv ex D6 _ (unhide HKW).1.ds.dk i y (unhide HY)) ?_
              rintro r w8 ⟨rfl, hb8⟩
              have HT8 := hide (⟨(unhide HKW).1.call hb8, (unhide HKW).2.call hb8⟩ : Pw w w8 [.slice a0 n0 c0, .slice a1 n1 c1, .slice a2 n2 c2] g gg c n1 sv ex g' (.slice a0 n0 c0) (.slice a1 n1 c1) (.slice a2 n2 c2) Q3 E n2 D6 D6 ∧ Rk w8 g' gg6 c6 (.slice a0 n0 c0) (.slice a1 n1 c1) (.slice a2 n2 c2) ex6 R)
              have hrg := (unhide HRG).below hb8 (unhide HRG).lt
              have HRG8 := hide hrg
              have g0 : w8.cell? ⟨wr.heap.size, 0, none⟩ = some (.int .i64 y.conn) := hrg.cell 0
              have g1 : w8.cell? ⟨wr.heap.size, 1, none⟩ = some (.bool y.opn) := hrg.cell 1
              have g4 : w8.cell? ⟨wr.heap.size, 4, none⟩ = some (.int .i64 y.locked) := hrg.cell 4
              clear hrg hb8 HKW HRG f0 f1 f2 f3 f4
              obtain ⟨bg, hbg⟩ : ∃ bg, wr.heap.size = bg := ⟨_, rfl⟩
              rw [hbg] at g0 g1 g4 HRG8 ⊢
              clear hbg
              go_wp2_with fail
              have HQ : Hid (∀ q, Calls Try.prog 26 #[.pointer (some ⟨g, 0, none⟩), .int .i64 (i : Int)] (w8.drewN q) fun r w' => r = .returned (.int .i64 y.locked) ∧ w' = w8.drewN q) := hide (fun q => Calls.mono (locked_ok g gg c sv ex D6 _ ((unhide HT8).1.ds.dk.call (Joins.below_draws _ _ q)) i y (unhide HY)) (fun e w' h => ⟨h.1, h.2.symm⟩))
              go_quiet (first | (go_at_call 26; exact Calls.quiet_of_same (unhide HQ _)))
              have hbq : Below w8.heap.size w8 (w8.drewN nq) := Joins.below_draws _ _ nq
              have HT9 := hide (⟨(unhide HT8).1.call hbq, (unhide HT8).2.call hbq⟩ : Pw w (w8.drewN nq) [.slice a0 n0 c0, .slice a1 n1 c1, .slice a2 n2 c2] g gg c n1 sv ex g' (.slice a0 n0 c0) (.slice a1 n1 c1) (.slice a2 n2 c2) Q3 E n2 D6 D6 ∧ Rk (w8.drewN nq) g' gg6 c6 (.slice a0 n0 c0) (.slice a1 n1 c1) (.slice a2 n2 c2) ex6 R)
              clear hbq HT8 HQ g0 g1 g4 HRG8 HY
              generalize w8.drewN nq = wq at *
              go_wp2_with fail
              exact ⟨⟨i + 1, by omega, by simp, HT9⟩, by simp [intOf]; omega⟩
            · obtain rfl : n2 = i := by omega
              have iI : ¬ (n2 : Int) < (n2 : Int) := by omega
              have HC0 : Hid (Pw w wr [.slice a0 n0 c0, .slice a1 n1 c1, .slice a2 n2 c2] g gg c n1 sv ex g' (.slice a0 n0 c0) (.slice a1 n1 c1) (.slice a2 n2 c2) Q3 E n2 D6 D6) := hide (unhide HKK).1
              have p0 : wr.cell? ⟨w.heap.size, 0, none⟩ = some (.slice a0 n0 c0) := (unhide HC0).row.cell 0
              clear HKK HREL
              generalize wr = wq at HC0 p0
              go_wp2_with fail
              clear p0
              go_loopw [185] (fun s wr => ∃ v : Nat, v ≤ n0 ∧ s = .int .i64 (v : Int) ∧ Hid (Pw w wr [.slice a0 n0 c0, .slice a1 n1 c1, .slice a2 n2 c2] g gg c n1 sv ex g' (.slice a0 n0 c0) (.slice a1 n1 c1) (.slice a2 n2 c2) Q3 E n2 D6 D6)) (fun s _ => ((n0 : Int) - intOf s).toNat)
              case atStart => exact ⟨0, by omega, by simp, HC0⟩
              case round =>
                clear HC0
                obtain ⟨v, hv, rfl, HKK⟩ := hrel
                by_cases hlv2 : v < n0
                · have vI : (v : Int) < (n0 : Int) := by omega
                  go_wp2_with fail
                  refine Calls.mono (seats_ok g gg c sv ex D6 _ (unhide HKK).ds.dk (v : Int)) ?_
                  rintro r w9 ⟨rfl, hb9⟩
                  have HT9 := hide ((unhide HKK).call hb9)
                  clear hb9 HKK
                  go_wp2_with fail
                  refine Calls.mono (seatsF (unhide HT9).rf ((unhide HPO).2.2.1.call (unhide HT9).bel) (unhide HL6).2 (unhide HL6).1 (v : Int)) ?_
                  rintro r w10 ⟨rfl, hb10⟩
                  have HT10 := hide ((unhide HT9).call hb10)
                  clear hb10 HT9
                  go_wp2_with fail
                  exact ⟨⟨v + 1, by omega, by simp, HT10⟩, by simp [intOf]; omega⟩
                · obtain rfl : n0 = v := by omega
                  have vI : ¬ (n0 : Int) < (n0 : Int) := by omega
                  have HN : Hid (∃ D, Pw w wr [.slice a0 n0 c0, .slice a1 n1 c1, .slice a2 n2 c2] g gg c n1 sv ex g' (.slice a0 n0 c0) (.slice a1 n1 c1) (.slice a2 n2 c2) Q3 E n2 D D) := hide ⟨D6, unhide HKK⟩
                  clear HKK
                  go_wp2_with fail
                  exact ⟨⟨k + 1, by omega, by simp, HN⟩, by simp [intOf]; omega⟩
        have ez5 : (z == 5) = false := by simp [z5]
        by_cases z6 : z = 6
        · subst z6
          have hdo : doesD Q3 D xo xw xc xn = ((shutD D xw).1, [], (shutD D xw).2) := by unfold doesD; simp [hz]
          have HCF := hide (shutF (unhide HK5).rf xw)
          rw [hdo] at HK5 HO5 ⊢
          simp only at HK5 HO5 ⊢
          obtain ⟨D6, hD6⟩ : ∃ X, (shutD D xw).1 = X := ⟨_, rfl⟩
          obtain ⟨e6, he6⟩ : ∃ X, (shutD D xw).2 = X := ⟨_, rfl⟩
          rw [hD6, he6] at HCF
          rw [hD6] at HK5
          rw [he6]
          clear hdo hD6 he6
          go_wp2_with fail
          refine Calls.mono (unhide HCF) ?_
          rintro r w6 ⟨rfl, hd6, ho6⟩
          have HK6 := hide ((unhide HK5).stepB hd6 ho6)
          have HEQ := hide (equal_ok v5 (.slice none 0 0) [] [] w6 (ints_own (own_only (unhide HO5) ho6 (fun q hq e => by obtain ⟨cs, hr⟩ := (unhide HK5).rf.row; exact tag_ne (unhide HO5) hr (by decide) (e ▸ hq)))) ⟨none, 0, rfl, Nat.le_refl _, Nat.zero_le _, .inl rfl⟩)
          rw [decide_eq_true rfl] at HEQ
          clear hd6 ho6 HCF HK5 HO5 t0 t1 t2 t3 HR5 HGD
          go_wp2_with fail
          refine Calls.mono (unhide HEQ) ?_
          rintro r w7 ⟨rfl, hb7⟩
          have HK7 := hide ((unhide HK6).call hb7)
          clear hb7 HK6 HEQ
          obtain ⟨gg6, c6, ex6, R, hrk, hrel⟩ := (unhide HK7).rf
          have c3 : w7.cell? ⟨g', 3, none⟩ = some (.slice (some ⟨gg6, 0, none⟩) R.length c6) := hrk.obj.cell 3
          rw [← hrel.len, (unhide HK7).len] at c3
          have HB0 : Hid (Pw w w7 [.slice a0 n0 c0, .slice a1 n1 c1, .slice a2 n2 c2] g gg c n1 sv ex g' (.slice a0 n0 c0) (.slice a1 n1 c1) (.slice a2 n2 c2) Q3 E n2 D6 D6 ∧ Rk w7 g' gg6 c6 (.slice a0 n0 c0) (.slice a1 n1 c1) (.slice a2 n2 c2) ex6 R) := hide ⟨unhide HK7, hrk⟩
          have HREL := hide hrel
          have HL6 := hide (⟨(unhide HK7).len, (unhide HK7).lab⟩ : D6.length = n2 ∧ LabOk E D6)
          clear hrk hrel HK7
          go_wp2_with fail
          clear c3
          go_loopw [152] (fun s wr => ∃ i : Nat, i ≤ n2 ∧ s = .int .i64 (i : Int) ∧ Hid (Pw w wr [.slice a0 n0 c0, .slice a1 n1 c1, .slice a2 n2 c2] g gg c n1 sv ex g' (.slice a0 n0 c0) (.slice a1 n1 c1) (.slice a2 n2 c2) Q3 E n2 D6 D6 ∧ Rk wr g' gg6 c6 (.slice a0 n0 c0) (.slice a1 n1 c1) (.slice a2 n2 c2) ex6 R)) (fun s _ => ((n2 : Int) - intOf s).toNat)
          case atStart => exact ⟨0, by omega, by simp, HB0⟩
          case round =>
            clear HB0
            obtain ⟨i, hi, rfl, HKK⟩ := hrel
            by_cases hlv : i < n2
            · have iI : (i : Int) < (n2 : Int) := by omega
              obtain ⟨y, hy⟩ : ∃ y, D6[i]? = some y := ⟨_, List.getElem?_eq_getElem (by have := (unhide HL6).1; omega)⟩
              obtain ⟨r, hr, hg⟩ := (unhide HREL).get hy
              have f0 : wr.cell? ⟨gg6, i * 5, none⟩ = some (.int .i64 r.conn) := (unhide HKK).2.cell (f := 0) hr (by decide)
              have f1 : wr.cell? ⟨gg6, i * 5 + 1, none⟩ = some (.bool r.opn) := (unhide HKK).2.cell hr (by decide)
              have f2 : wr.cell? ⟨gg6, i * 5 + 2, none⟩ = some (.int .i64 r.silent) := (unhide HKK).2.cell hr (by decide)
              have f3 : wr.cell? ⟨gg6, i * 5 + 3, none⟩ = some (.int .i64 r.wrong) := (unhide HKK).2.cell hr (by decide)
              have f4 : wr.cell? ⟨gg6, i * 5 + 4, none⟩ = some (.int .i64 r.locked) := (unhide HKK).2.cell hr (by decide)
              rw [hg.conn] at f0
              rw [hg.opn] at f1
              rw [hg.locked] at f4
              obtain ⟨rs, hrs⟩ : ∃ rs, r.silent = rs := ⟨_, rfl⟩
              obtain ⟨rw_, hrw⟩ : ∃ rs, r.wrong = rs := ⟨_, rfl⟩
              rw [hrs] at f2
              rw [hrw] at f3
              have HY := hide hy
              have hba : Below wr.heap.size wr (wr.alloc (.cells #[.int .i64 y.conn, .bool y.opn, .int .i64 rs, .int .i64 rw_, .int .i64 y.locked] 53)) := (Below.refl _ _).alloc (Nat.le_refl _) _
              have HKW := hide (⟨(unhide HKK).1.call hba, (unhide HKK).2.call hba⟩ : Pw w (wr.alloc (.cells #[.int .i64 y.conn, .bool y.opn, .int .i64 rs, .int .i64 rw_, .int .i64 y.locked] 53)) [.slice a0 n0 c0, .slice a1 n1 c1, .slice a2 n2 c2] g gg c n1 sv ex g' (.slice a0 n0 c0) (.slice a1 n1 c1) (.slice a2 n2 c2) Q3 E n2 D6 D6 ∧ Rk (wr.alloc (.cells #[.int .i64 y.conn, .bool y.opn, .int .i64 rs, .int .i64 rw_, .int .i64 y.locked] 53)) g' gg6 c6 (.slice a0 n0 c0) (.slice a1 n1 c1) (.slice a2 n2 c2) ex6 R)
              have HRG := hide (RowAt.new wr 53 [.int .i64 y.conn, .bool y.opn, .int .i64 rs, .int .i64 rw_, .int .i64 y.locked])
              clear hy hr hg hrs hrw hba HKK
              go_wp2_with fail
              refine Calls.mono (state_ok g gg c sv ex D6 _ (unhide HKW).1.ds.dk i y (unhide HY)) ?_
              rintro r w8 ⟨rfl, hb8⟩
              have HT8 := hide (⟨(unhide HKW).1.call hb8, (unhide HKW).2.call hb8⟩ : Pw w w8 [.slice a0 n0 c0, .slice a1 n1 c1, .slice a2 n2 c2] g gg c n1 sv ex g' (.slice a0 n0 c0) (.slice a1 n1 c1) (.slice a2 n2 c2) Q3 E n2 D6 D6 ∧ Rk w8 g' gg6 c6 (.slice a0 n0 c0) (.slice a1 n1 c1) (.slice a2 n2 c2) ex6 R)
              have hrg := (unhide HRG).below hb8 (unhide HRG).lt
              have HRG8 := hide hrg
              have g0 : w8.cell? ⟨wr.heap.size, 0, none⟩ = some (.int .i64 y.conn) := hrg.cell 0
              have g1 : w8.cell? ⟨wr.heap.size, 1, none⟩ = some (.bool y.opn) := hrg.cell 1
              have g4 : w8.cell? ⟨wr.heap.size, 4, none⟩ = some (.int .i64 y.locked) := hrg.cell 4
              clear hrg hb8 HKW HRG f0 f1 f2 f3 f4
              obtain ⟨bg, hbg⟩ : ∃ bg, wr.heap.size = bg := ⟨_, rfl⟩
              rw [hbg] at g0 g1 g4 HRG8 ⊢
              clear hbg
              go_wp2_with fail
              have HQ : Hid (∀ q, Calls Try.prog 26 #[.pointer (some ⟨g, 0, none⟩), .int .i64 (i : Int)] (w8.drewN q) fun r w' => r = .returned (.int .i64 y.locked) ∧ w' = w8.drewN q) := hide (fun q => Calls.mono (locked_ok g gg c sv ex D6 _ ((unhide HT8).1.ds.dk.call (Joins.below_draws _ _ q)) i y (unhide HY)) (fun e w' h => ⟨h.1, h.2.symm⟩))
              go_quiet (first | (go_at_call 26; exact Calls.quiet_of_same (unhide HQ _)))
              have hbq : Below w8.heap.size w8 (w8.drewN nq) := Joins.below_draws _ _ nq
              have HT9 := hide (⟨(unhide HT8).1.call hbq, (unhide HT8).2.call hbq⟩ : Pw w (w8.drewN nq) [.slice a0 n0 c0, .slice a1 n1 c1, .slice a2 n2 c2] g gg c n1 sv ex g' (.slice a0 n0 c0) (.slice a1 n1 c1) (.slice a2 n2 c2) Q3 E n2 D6 D6 ∧ Rk (w8.drewN nq) g' gg6 c6 (.slice a0 n0 c0) (.slice a1 n1 c1) (.slice a2 n2 c2) ex6 R)
              clear hbq HT8 HQ g0 g1 g4 HRG8 HY
              generalize w8.drewN nq = wq at *
              go_wp2_with fail
              exact ⟨⟨i + 1, by omega, by simp, HT9⟩, by simp [intOf]; omega⟩
            · obtain rfl : n2 = i := by omega
              have iI : ¬ (n2 : Int) < (n2 : Int) := by omega
              have HC0 : Hid (Pw w wr [.slice a0 n0 c0, .slice a1 n1 c1, .slice a2 n2 c2] g gg c n1 sv ex g' (.slice a0 n0 c0) (.slice a1 n1 c1) (.slice a2 n2 c2) Q3 E n2 D6 D6) := hide (unhide HKK).1
              have p0 : wr.cell? ⟨w.heap.size, 0, none⟩ = some (.slice a0 n0 c0) := (unhide HC0).row.cell 0
              clear HKK HREL
              generalize wr = wq at HC0 p0
              go_wp2_with fail
              clear p0
              go_loopw [185] (fun s wr => ∃ v : Nat, v ≤ n0 ∧ s = .int .i64 (v : Int) ∧ Hid (Pw w wr [.slice a0 n0 c0, .slice a1 n1 c1, .slice a2 n2 c2] g gg c n1 sv ex g' (.slice a0 n0 c0) (.slice a1 n1 c1) (.slice a2 n2 c2) Q3 E n2 D6 D6)) (fun s _ => ((n0 : Int) - intOf s).toNat)
              case atStart => exact ⟨0, by omega, by simp, HC0⟩
              case round =>
                clear HC0
                obtain ⟨v, hv, rfl, HKK⟩ := hrel
                by_cases hlv2 : v < n0
                · have vI : (v : Int) < (n0 : Int) := by omega
                  go_wp2_with fail
                  refine Calls.mono (seats_ok g gg c sv ex D6 _ (unhide HKK).ds.dk (v : Int)) ?_
                  rintro r w9 ⟨rfl, hb9⟩
                  have HT9 := hide ((unhide HKK).call hb9)
                  clear hb9 HKK
                  go_wp2_with fail
                  refine Calls.mono (seatsF (unhide HT9).rf ((unhide HPO).2.2.1.call (unhide HT9).bel) (unhide HL6).2 (unhide HL6).1 (v : Int)) ?_
                  rintro r w10 ⟨rfl, hb10⟩
                  have HT10 := hide ((unhide HT9).call hb10)
                  clear hb10 HT9
                  go_wp2_with fail
                  exact ⟨⟨v + 1, by omega, by simp, HT10⟩, by simp [intOf]; omega⟩
                · obtain rfl : n0 = v := by omega
                  have vI : ¬ (n0 : Int) < (n0 : Int) := by omega
                  have HN : Hid (∃ D, Pw w wr [.slice a0 n0 c0, .slice a1 n1 c1, .slice a2 n2 c2] g gg c n1 sv ex g' (.slice a0 n0 c0) (.slice a1 n1 c1) (.slice a2 n2 c2) Q3 E n2 D D) := hide ⟨D6, unhide HKK⟩
                  clear HKK
                  go_wp2_with fail
                  exact ⟨⟨k + 1, by omega, by simp, HN⟩, by simp [intOf]; omega⟩
        have ez6 : (z == 6) = false := by simp [z6]
        by_cases z7 : z = 7
        · subst z7
          have hdo := does_tick Q3 D xo xw xc xn hz
          rw [hdo] at HK5 HO5 ⊢
          simp only at HK5 HO5 ⊢
          have hm := timesN_le xn
          have HTM := hide (times_any xo xw xc xn w5)
          obtain ⟨m, hmm⟩ : ∃ m, timesN xn = m := ⟨_, rfl⟩
          rw [hmm] at hm HTM HK5 HO5
          obtain ⟨hm1, hm2⟩ := hm
          have hmI : (m : Int) ≤ 25 := by omega
          clear hmm hdo
          go_wp2_with fail
          refine Calls.mono (unhide HTM) ?_
          rintro r w6 ⟨rfl, hb6⟩
          have HK6 := hide ((unhide HK5).call hb6)
          have HO6 := hide (own_call (unhide HO5) hb6)
          clear hb6 HK5 HO5 HTM t0 t1 t2 t3 HR5
          have HS : Hid (Tf w6 w6 g' (.slice a0 n0 c0) (.slice a1 n1 c1) (.slice a2 n2 c2) D 0 (.slice none 0 0)) := hide ⟨(unhide HK6).rf, World.ownsRow_nil _ _ _ _, Only.refl _ _⟩
          have hD8 : D.length ≤ 8 := by have := (unhide HGD).2.2; omega
          go_wp2_with fail
          go_loopw [17, 131] (fun v s wr => ∃ i : Nat, i ≤ m ∧ s = .int .i64 (i : Int) ∧ (∃ a n c, v = .slice a n c ∧ n ≤ c ∧ c ≤ maxLen) ∧ Hid (Tf w6 wr g' (.slice a0 n0 c0) (.slice a1 n1 c1) (.slice a2 n2 c2) D i v)) (fun _ s _ => ((m : Int) - intOf s).toNat)
          case atStart => exact ⟨0, by omega, by simp, ⟨none, 0, 0, rfl, Nat.le_refl _, by unfold maxLen; omega⟩, HS⟩
          case round =>
            clear HS
            obtain ⟨i, hi, rfl, ⟨va, vn, vc, rfl, hvn, hvc⟩, HI⟩ := hrel
            by_cases hlt7 : i < m
            · have iI7 : (i : Int) < (m : Int) := by omega
              have hl8 : (ticksD i D).2.length ≤ 8 * i := ticksD_le i D hD8
              have ho8 := oversL_le (ticksD i D).1 (ticksD i D).1.length
              rw [ticksD_len] at ho8
              go_wp2_with fail
              refine Calls.mono (tickF (unhide HI).rf (ticks_gok (fun y hy => ((unhide HGD).1 y hy).ok) i)) ?_
              rintro r w3 ⟨v2, rfl, hf3, ho3, hv2, hnil⟩
              have HF3 := hide hf3
              have HO3 := hide ho3
              have HV2 := hide hv2
              have HOW := hide (own_only (unhide HI).own ho3 (fun q hq e => by obtain ⟨cs, hr⟩ := (unhide HI).rf.row; exact tag_ne (unhide HI).own hr (by decide) (e ▸ hq)))
              have HSZ := hide (Nat.le_trans (unhide HI).only.size ho3.size)
              by_cases hov : oversL (ticksD i D).1 (ticksD i D).1.length = []
              · have hn := hnil hov
                subst hn
                have HE : Hid ((ticksD (i + 1) D).2 = (ticksD i D).2) := hide (by simp only [ticksD]; rw [hov, List.append_nil])
                clear hf3 ho3 hv2 hnil hov
                go_wp2_with (refine wpList_append_nil rfl _ _ rfl rfl va vn vc rfl hvn hvc rfl ?_)
                have HN : Hid (Tf w6 w3 g' (.slice a0 n0 c0) (.slice a1 n1 c1) (.slice a2 n2 c2) D (i + 1) (.slice va vn vc)) := hide ⟨unhide HF3, by rw [unhide HE]; exact unhide HOW, (unhide HI).only.trans (unhide HO3)⟩
                exact ⟨⟨i + 1, by omega, by simp, ⟨_, _, _, rfl, hvn, hvc⟩, HN⟩, by simp [intOf]; omega⟩
              · have hpos : 0 < (oversL (ticksD i D).1 (ticksD i D).1.length).length := List.length_pos_iff.2 hov
                obtain ⟨gx2, cx2, hv2s, _, _⟩ := hv2.form hpos
                have hln : (ticksD i D).2.length + (oversL (ticksD i D).1 (ticksD i D).1.length).length ≤ 1000 := by rw [ticksD_len]; omega
                subst hv2s
                have HP := hide hpos
                have HLN7 := hide hln
                clear hf3 ho3 hv2 hnil hov hpos hln
                go_wp2_with (refine wpList_append_ints rfl _ _ rfl w6.heap.size wr.heap.size (.slice va vn vc) _ _ _ (ticksD i D).2 (oversL (ticksD i D).1 (ticksD i D).1.length) rfl (unhide HOW) (unhide HLN7) (unhide HSZ) rfl (unhide HV2) (unhide HP) (fun v' w' hv' ho' => ?_); have HV' := hide hv'; have HO' := hide ho'; clear hv' ho')
                have HV3 : Hid (w'.ownsRow w6.heap.size 3 1 v' (ticksD (i + 1) D).2.length ((ticksD (i + 1) D).2.map (Value.int IntKind.i64))) := hide (by simp only [ticksD, List.length_append]; exact unhide HV')
                have HN : Hid (Tf w6 w' g' (.slice a0 n0 c0) (.slice a1 n1 c1) (.slice a2 n2 c2) D (i + 1) v') := hide ⟨(unhide HF3).app (unhide HOW) (unhide HO'), unhide HV3, ((unhide HI).only.trans (unhide HO3)).next (unhide HO') (fun q hq => .inr ((unhide HOW).lt q hq).1)⟩
                have hsh : ∃ a n c, v' = .slice a n c ∧ n ≤ c ∧ c ≤ maxLen := by
                  rcases (unhide HV3).2 with ⟨rfl, _⟩ | ⟨g9, c9, cur, rfl, _, _, q1, q2, _⟩
                  · exact ⟨none, 0, 0, rfl, Nat.le_refl _, by unfold maxLen; omega⟩
                  · exact ⟨_, _, _, rfl, q1, q2⟩
                exact ⟨⟨i + 1, by omega, by simp, hsh, HN⟩, by simp [intOf]; omega⟩
            · obtain rfl : i = m := by omega
              have iI7 : ¬ (i : Int) < (i : Int) := by omega
              have HK7 := hide ((unhide HK6).stepB (unhide HI).rf (unhide HI).only)
              have HEQ := hide (equal_ok v5 (.slice va vn vc) _ _ wr (ints_own (own_only (unhide HO6) (unhide HI).only (fun q hq e => by obtain ⟨cs, hr⟩ := (unhide HK6).rf.row; exact tag_ne (unhide HO6) hr (by decide) (e ▸ hq)))) (ints_own (unhide HI).own))
              rw [decide_eq_true rfl] at HEQ
              clear HK6 HO6 HI
              obtain ⟨D6, hD6⟩ : ∃ X, (ticksD i D).1 = X := ⟨_, rfl⟩
              rw [hD6] at HK7
              clear hD6
              have HK6 := HK7
              clear HK7 HGD
              go_wp2_with fail
              refine Calls.mono (unhide HEQ) ?_
              rintro r w7 ⟨rfl, hb7⟩
              have HK7 := hide ((unhide HK6).call hb7)
              clear hb7 HK6 HEQ
              obtain ⟨gg6, c6, ex6, R, hrk, hrel⟩ := (unhide HK7).rf
              have c3 : w7.cell? ⟨g', 3, none⟩ = some (.slice (some ⟨gg6, 0, none⟩) R.length c6) := hrk.obj.cell 3
              rw [← hrel.len, (unhide HK7).len] at c3
              have HB0 : Hid (Pw w w7 [.slice a0 n0 c0, .slice a1 n1 c1, .slice a2 n2 c2] g gg c n1 sv ex g' (.slice a0 n0 c0) (.slice a1 n1 c1) (.slice a2 n2 c2) Q3 E n2 D6 D6 ∧ Rk w7 g' gg6 c6 (.slice a0 n0 c0) (.slice a1 n1 c1) (.slice a2 n2 c2) ex6 R) := hide ⟨unhide HK7, hrk⟩
              have HREL := hide hrel
              have HL6 := hide (⟨(unhide HK7).len, (unhide HK7).lab⟩ : D6.length = n2 ∧ LabOk E D6)
              clear hrk hrel HK7
              go_wp2_with fail
              clear c3
              go_loopw [152] (fun s wr => ∃ i : Nat, i ≤ n2 ∧ s = .int .i64 (i : Int) ∧ Hid (Pw w wr [.slice a0 n0 c0, .slice a1 n1 c1, .slice a2 n2 c2] g gg c n1 sv ex g' (.slice a0 n0 c0) (.slice a1 n1 c1) (.slice a2 n2 c2) Q3 E n2 D6 D6 ∧ Rk wr g' gg6 c6 (.slice a0 n0 c0) (.slice a1 n1 c1) (.slice a2 n2 c2) ex6 R)) (fun s _ => ((n2 : Int) - intOf s).toNat)
              case atStart => exact ⟨0, by omega, by simp, HB0⟩
              case round =>
                clear HB0
                obtain ⟨i, hi, rfl, HKK⟩ := hrel
                by_cases hlv : i < n2
                · have iI : (i : Int) < (n2 : Int) := by omega
                  obtain ⟨y, hy⟩ : ∃ y, D6[i]? = some y := ⟨_, List.getElem?_eq_getElem (by have := (unhide HL6).1; omega)⟩
                  obtain ⟨r, hr, hg⟩ := (unhide HREL).get hy
                  have f0 : wr.cell? ⟨gg6, i * 5, none⟩ = some (.int .i64 r.conn) := (unhide HKK).2.cell (f := 0) hr (by decide)
                  have f1 : wr.cell? ⟨gg6, i * 5 + 1, none⟩ = some (.bool r.opn) := (unhide HKK).2.cell hr (by decide)
                  have f2 : wr.cell? ⟨gg6, i * 5 + 2, none⟩ = some (.int .i64 r.silent) := (unhide HKK).2.cell hr (by decide)
                  have f3 : wr.cell? ⟨gg6, i * 5 + 3, none⟩ = some (.int .i64 r.wrong) := (unhide HKK).2.cell hr (by decide)
                  have f4 : wr.cell? ⟨gg6, i * 5 + 4, none⟩ = some (.int .i64 r.locked) := (unhide HKK).2.cell hr (by decide)
                  rw [hg.conn] at f0
                  rw [hg.opn] at f1
                  rw [hg.locked] at f4
                  obtain ⟨rs, hrs⟩ : ∃ rs, r.silent = rs := ⟨_, rfl⟩
                  obtain ⟨rw_, hrw⟩ : ∃ rs, r.wrong = rs := ⟨_, rfl⟩
                  rw [hrs] at f2
                  rw [hrw] at f3
                  have HY := hide hy
                  have hba : Below wr.heap.size wr (wr.alloc (.cells #[.int .i64 y.conn, .bool y.opn, .int .i64 rs, .int .i64 rw_, .int .i64 y.locked] 53)) := (Below.refl _ _).alloc (Nat.le_refl _) _
                  have HKW := hide (⟨(unhide HKK).1.call hba, (unhide HKK).2.call hba⟩ : Pw w (wr.alloc (.cells #[.int .i64 y.conn, .bool y.opn, .int .i64 rs, .int .i64 rw_, .int .i64 y.locked] 53)) [.slice a0 n0 c0, .slice a1 n1 c1, .slice a2 n2 c2] g gg c n1 sv ex g' (.slice a0 n0 c0) (.slice a1 n1 c1) (.slice a2 n2 c2) Q3 E n2 D6 D6 ∧ Rk (wr.alloc (.cells #[.int .i64 y.conn, .bool y.opn, .int .i64 rs, .int .i64 rw_, .int .i64 y.locked] 53)) g' gg6 c6 (.slice a0 n0 c0) (.slice a1 n1 c1) (.slice a2 n2 c2) ex6 R)
                  have HRG := hide (RowAt.new wr 53 [.int .i64 y.conn, .bool y.opn, .int .i64 rs, .int .i64 rw_, .int .i64 y.locked])
                  clear hy hr hg hrs hrw hba HKK
                  go_wp2_with fail
                  refine Calls.mono (state_ok g gg c sv ex D6 _ (unhide HKW).1.ds.dk i y (unhide HY)) ?_
                  rintro r w8 ⟨rfl, hb8⟩
                  have HT8 := hide (⟨(unhide HKW).1.call hb8, (unhide HKW).2.call hb8⟩ : Pw w w8 [.slice a0 n0 c0, .slice a1 n1 c1, .slice a2 n2 c2] g gg c n1 sv ex g' (.slice a0 n0 c0) (.slice a1 n1 c1) (.slice a2 n2 c2) Q3 E n2 D6 D6 ∧ Rk w8 g' gg6 c6 (.slice a0 n0 c0) (.slice a1 n1 c1) (.slice a2 n2 c2) ex6 R)
                  have hrg := (unhide HRG).below hb8 (unhide HRG).lt
                  have HRG8 := hide hrg
                  have g0 : w8.cell? ⟨wr.heap.size, 0, none⟩ = some (.int .i64 y.conn) := hrg.cell 0
                  have g1 : w8.cell? ⟨wr.heap.size, 1, none⟩ = some (.bool y.opn) := hrg.cell 1
                  have g4 : w8.cell? ⟨wr.heap.size, 4, none⟩ = some (.int .i64 y.locked) := hrg.cell 4
                  clear hrg hb8 HKW HRG f0 f1 f2 f3 f4
                  obtain ⟨bg, hbg⟩ : ∃ bg, wr.heap.size = bg := ⟨_, rfl⟩
                  rw [hbg] at g0 g1 g4 HRG8 ⊢
                  clear hbg
                  go_wp2_with fail
                  have HQ : Hid (∀ q, Calls Try.prog 26 #[.pointer (some ⟨g, 0, none⟩), .int .i64 (i : Int)] (w8.drewN q) fun r w' => r = .returned (.int .i64 y.locked) ∧ w' = w8.drewN q) := hide (fun q => Calls.mono (locked_ok g gg c sv ex D6 _ ((unhide HT8).1.ds.dk.call (Joins.below_draws _ _ q)) i y (unhide HY)) (fun e w' h => ⟨h.1, h.2.symm⟩))
                  go_quiet (first | (go_at_call 26; exact Calls.quiet_of_same (unhide HQ _)))
                  have hbq : Below w8.heap.size w8 (w8.drewN nq) := Joins.below_draws _ _ nq
                  have HT9 := hide (⟨(unhide HT8).1.call hbq, (unhide HT8).2.call hbq⟩ : Pw w (w8.drewN nq) [.slice a0 n0 c0, .slice a1 n1 c1, .slice a2 n2 c2] g gg c n1 sv ex g' (.slice a0 n0 c0) (.slice a1 n1 c1) (.slice a2 n2 c2) Q3 E n2 D6 D6 ∧ Rk (w8.drewN nq) g' gg6 c6 (.slice a0 n0 c0) (.slice a1 n1 c1) (.slice a2 n2 c2) ex6 R)
                  clear hbq HT8 HQ g0 g1 g4 HRG8 HY
                  generalize w8.drewN nq = wq at *
                  go_wp2_with fail
                  exact ⟨⟨i + 1, by omega, by simp, HT9⟩, by simp [intOf]; omega⟩
                · obtain rfl : n2 = i := by omega
                  have iI : ¬ (n2 : Int) < (n2 : Int) := by omega
                  have HC0 : Hid (Pw w wr [.slice a0 n0 c0, .slice a1 n1 c1, .slice a2 n2 c2] g gg c n1 sv ex g' (.slice a0 n0 c0) (.slice a1 n1 c1) (.slice a2 n2 c2) Q3 E n2 D6 D6) := hide (unhide HKK).1
                  have p0 : wr.cell? ⟨w.heap.size, 0, none⟩ = some (.slice a0 n0 c0) := (unhide HC0).row.cell 0
                  clear HKK HREL
                  generalize wr = wq at HC0 p0
                  go_wp2_with fail
                  clear p0
                  go_loopw [185] (fun s wr => ∃ v : Nat, v ≤ n0 ∧ s = .int .i64 (v : Int) ∧ Hid (Pw w wr [.slice a0 n0 c0, .slice a1 n1 c1, .slice a2 n2 c2] g gg c n1 sv ex g' (.slice a0 n0 c0) (.slice a1 n1 c1) (.slice a2 n2 c2) Q3 E n2 D6 D6)) (fun s _ => ((n0 : Int) - intOf s).toNat)
                  case atStart => exact ⟨0, by omega, by simp, HC0⟩
                  case round =>
                    clear HC0
                    obtain ⟨v, hv, rfl, HKK⟩ := hrel
                    by_cases hlv2 : v < n0
                    · have vI : (v : Int) < (n0 : Int) := by omega
                      go_wp2_with fail
                      refine Calls.mono (seats_ok g gg c sv ex D6 _ (unhide HKK).ds.dk (v : Int)) ?_
                      rintro r w9 ⟨rfl, hb9⟩
                      have HT9 := hide ((unhide HKK).call hb9)
                      clear hb9 HKK
                      go_wp2_with fail
                      refine Calls.mono (seatsF (unhide HT9).rf ((unhide HPO).2.2.1.call (unhide HT9).bel) (unhide HL6).2 (unhide HL6).1 (v : Int)) ?_
                      rintro r w10 ⟨rfl, hb10⟩
                      have HT10 := hide ((unhide HT9).call hb10)
                      clear hb10 HT9
                      go_wp2_with fail
                      exact ⟨⟨v + 1, by omega, by simp, HT10⟩, by simp [intOf]; omega⟩
                    · obtain rfl : n0 = v := by omega
                      have vI : ¬ (n0 : Int) < (n0 : Int) := by omega
                      have HN : Hid (∃ D, Pw w wr [.slice a0 n0 c0, .slice a1 n1 c1, .slice a2 n2 c2] g gg c n1 sv ex g' (.slice a0 n0 c0) (.slice a1 n1 c1) (.slice a2 n2 c2) Q3 E n2 D D) := hide ⟨D6, unhide HKK⟩
                      clear HKK
                      go_wp2_with fail
                      exact ⟨⟨k + 1, by omega, by simp, HN⟩, by simp [intOf]; omega⟩
        have ez7 : (z == 7) = false := by simp [z7]
        have hdo : doesD Q3 D xo xw xc xn = ((beginD D xw xc).1, [], (beginD D xw xc).2) := by unfold doesD; rw [hz]; simp [z2, z3, z4, z5, z6, z7]
        have HCF := hide (beginF (unhide HK5).rf xw xc)
        rw [hdo] at HK5 HO5 ⊢
        simp only at HK5 HO5 ⊢
        obtain ⟨D6, hD6⟩ : ∃ X, (beginD D xw xc).1 = X := ⟨_, rfl⟩
        obtain ⟨e6, he6⟩ : ∃ X, (beginD D xw xc).2 = X := ⟨_, rfl⟩
        rw [hD6, he6] at HCF
        rw [hD6] at HK5
        rw [he6]
        clear hdo hD6 he6
        go_wp2_with fail
        refine Calls.mono (unhide HCF) ?_
        rintro r w6 ⟨rfl, hd6, ho6⟩
        have HK6 := hide ((unhide HK5).stepB hd6 ho6)
        have HEQ := hide (equal_ok v5 (.slice none 0 0) [] [] w6 (ints_own (own_only (unhide HO5) ho6 (fun q hq e => by obtain ⟨cs, hr⟩ := (unhide HK5).rf.row; exact tag_ne (unhide HO5) hr (by decide) (e ▸ hq)))) ⟨none, 0, rfl, Nat.le_refl _, Nat.zero_le _, .inl rfl⟩)
        rw [decide_eq_true rfl] at HEQ
        clear hd6 ho6 HCF HK5 HO5 t0 t1 t2 t3 HR5 HGD
        go_wp2_with fail
        refine Calls.mono (unhide HEQ) ?_
        rintro r w7 ⟨rfl, hb7⟩
        have HK7 := hide ((unhide HK6).call hb7)
        clear hb7 HK6 HEQ
        obtain ⟨gg6, c6, ex6, R, hrk, hrel⟩ := (unhide HK7).rf
        have c3 : w7.cell? ⟨g', 3, none⟩ = some (.slice (some ⟨gg6, 0, none⟩) R.length c6) := hrk.obj.cell 3
        rw [← hrel.len, (unhide HK7).len] at c3
        have HB0 : Hid (Pw w w7 [.slice a0 n0 c0, .slice a1 n1 c1, .slice a2 n2 c2] g gg c n1 sv ex g' (.slice a0 n0 c0) (.slice a1 n1 c1) (.slice a2 n2 c2) Q3 E n2 D6 D6 ∧ Rk w7 g' gg6 c6 (.slice a0 n0 c0) (.slice a1 n1 c1) (.slice a2 n2 c2) ex6 R) := hide ⟨unhide HK7, hrk⟩
        have HREL := hide hrel
        have HL6 := hide (⟨(unhide HK7).len, (unhide HK7).lab⟩ : D6.length = n2 ∧ LabOk E D6)
        clear hrk hrel HK7
        go_wp2_with fail
        clear c3
        go_loopw [152] (fun s wr => ∃ i : Nat, i ≤ n2 ∧ s = .int .i64 (i : Int) ∧ Hid (Pw w wr [.slice a0 n0 c0, .slice a1 n1 c1, .slice a2 n2 c2] g gg c n1 sv ex g' (.slice a0 n0 c0) (.slice a1 n1 c1) (.slice a2 n2 c2) Q3 E n2 D6 D6 ∧ Rk wr g' gg6 c6 (.slice a0 n0 c0) (.slice a1 n1 c1) (.slice a2 n2 c2) ex6 R)) (fun s _ => ((n2 : Int) - intOf s).toNat)
        case atStart => exact ⟨0, by omega, by simp, HB0⟩
        case round =>
          clear HB0
          obtain ⟨i, hi, rfl, HKK⟩ := hrel
          by_cases hlv : i < n2
          · have iI : (i : Int) < (n2 : Int) := by omega
            obtain ⟨y, hy⟩ : ∃ y, D6[i]? = some y := ⟨_, List.getElem?_eq_getElem (by have := (unhide HL6).1; omega)⟩
            obtain ⟨r, hr, hg⟩ := (unhide HREL).get hy
            have f0 : wr.cell? ⟨gg6, i * 5, none⟩ = some (.int .i64 r.conn) := (unhide HKK).2.cell (f := 0) hr (by decide)
            have f1 : wr.cell? ⟨gg6, i * 5 + 1, none⟩ = some (.bool r.opn) := (unhide HKK).2.cell hr (by decide)
            have f2 : wr.cell? ⟨gg6, i * 5 + 2, none⟩ = some (.int .i64 r.silent) := (unhide HKK).2.cell hr (by decide)
            have f3 : wr.cell? ⟨gg6, i * 5 + 3, none⟩ = some (.int .i64 r.wrong) := (unhide HKK).2.cell hr (by decide)
            have f4 : wr.cell? ⟨gg6, i * 5 + 4, none⟩ = some (.int .i64 r.locked) := (unhide HKK).2.cell hr (by decide)
            rw [hg.conn] at f0
            rw [hg.opn] at f1
            rw [hg.locked] at f4
            obtain ⟨rs, hrs⟩ : ∃ rs, r.silent = rs := ⟨_, rfl⟩
            obtain ⟨rw_, hrw⟩ : ∃ rs, r.wrong = rs := ⟨_, rfl⟩
            rw [hrs] at f2
            rw [hrw] at f3
            have HY := hide hy
            have hba : Below wr.heap.size wr (wr.alloc (.cells #[.int .i64 y.conn, .bool y.opn, .int .i64 rs, .int .i64 rw_, .int .i64 y.locked] 53)) := (Below.refl _ _).alloc (Nat.le_refl _) _
            have HKW := hide (⟨(unhide HKK).1.call hba, (unhide HKK).2.call hba⟩ : Pw w (wr.alloc (.cells #[.int .i64 y.conn, .bool y.opn, .int .i64 rs, .int .i64 rw_, .int .i64 y.locked] 53)) [.slice a0 n0 c0, .slice a1 n1 c1, .slice a2 n2 c2] g gg c n1 sv ex g' (.slice a0 n0 c0) (.slice a1 n1 c1) (.slice a2 n2 c2) Q3 E n2 D6 D6 ∧ Rk (wr.alloc (.cells #[.int .i64 y.conn, .bool y.opn, .int .i64 rs, .int .i64 rw_, .int .i64 y.locked] 53)) g' gg6 c6 (.slice a0 n0 c0) (.slice a1 n1 c1) (.slice a2 n2 c2) ex6 R)
            have HRG := hide (RowAt.new wr 53 [.int .i64 y.conn, .bool y.opn, .int .i64 rs, .int .i64 rw_, .int .i64 y.locked])
            clear hy hr hg hrs hrw hba HKK
            go_wp2_with fail
            refine Calls.mono (state_ok g gg c sv ex D6 _ (unhide HKW).1.ds.dk i y (unhide HY)) ?_
            rintro r w8 ⟨rfl, hb8⟩
            have HT8 := hide (⟨(unhide HKW).1.call hb8, (unhide HKW).2.call hb8⟩ : Pw w w8 [.slice a0 n0 c0, .slice a1 n1 c1, .slice a2 n2 c2] g gg c n1 sv ex g' (.slice a0 n0 c0) (.slice a1 n1 c1) (.slice a2 n2 c2) Q3 E n2 D6 D6 ∧ Rk w8 g' gg6 c6 (.slice a0 n0 c0) (.slice a1 n1 c1) (.slice a2 n2 c2) ex6 R)
            have hrg := (unhide HRG).below hb8 (unhide HRG).lt
            have HRG8 := hide hrg
            have g0 : w8.cell? ⟨wr.heap.size, 0, none⟩ = some (.int .i64 y.conn) := hrg.cell 0
            have g1 : w8.cell? ⟨wr.heap.size, 1, none⟩ = some (.bool y.opn) := hrg.cell 1
            have g4 : w8.cell? ⟨wr.heap.size, 4, none⟩ = some (.int .i64 y.locked) := hrg.cell 4
            clear hrg hb8 HKW HRG f0 f1 f2 f3 f4
            obtain ⟨bg, hbg⟩ : ∃ bg, wr.heap.size = bg := ⟨_, rfl⟩
            rw [hbg] at g0 g1 g4 HRG8 ⊢
            clear hbg
            go_wp2_with fail
            have HQ : Hid (∀ q, Calls Try.prog 26 #[.pointer (some ⟨g, 0, none⟩), .int .i64 (i : Int)] (w8.drewN q) fun r w' => r = .returned (.int .i64 y.locked) ∧ w' = w8.drewN q) := hide (fun q => Calls.mono (locked_ok g gg c sv ex D6 _ ((unhide HT8).1.ds.dk.call (Joins.below_draws _ _ q)) i y (unhide HY)) (fun e w' h => ⟨h.1, h.2.symm⟩))
            go_quiet (first | (go_at_call 26; exact Calls.quiet_of_same (unhide HQ _)))
            have hbq : Below w8.heap.size w8 (w8.drewN nq) := Joins.below_draws _ _ nq
            have HT9 := hide (⟨(unhide HT8).1.call hbq, (unhide HT8).2.call hbq⟩ : Pw w (w8.drewN nq) [.slice a0 n0 c0, .slice a1 n1 c1, .slice a2 n2 c2] g gg c n1 sv ex g' (.slice a0 n0 c0) (.slice a1 n1 c1) (.slice a2 n2 c2) Q3 E n2 D6 D6 ∧ Rk (w8.drewN nq) g' gg6 c6 (.slice a0 n0 c0) (.slice a1 n1 c1) (.slice a2 n2 c2) ex6 R)
            clear hbq HT8 HQ g0 g1 g4 HRG8 HY
            generalize w8.drewN nq = wq at *
            go_wp2_with fail
            exact ⟨⟨i + 1, by omega, by simp, HT9⟩, by simp [intOf]; omega⟩
          · obtain rfl : n2 = i := by omega
            have iI : ¬ (n2 : Int) < (n2 : Int) := by omega
            have HC0 : Hid (Pw w wr [.slice a0 n0 c0, .slice a1 n1 c1, .slice a2 n2 c2] g gg c n1 sv ex g' (.slice a0 n0 c0) (.slice a1 n1 c1) (.slice a2 n2 c2) Q3 E n2 D6 D6) := hide (unhide HKK).1
            have p0 : wr.cell? ⟨w.heap.size, 0, none⟩ = some (.slice a0 n0 c0) := (unhide HC0).row.cell 0
            clear HKK HREL
            generalize wr = wq at HC0 p0
            go_wp2_with fail
            clear p0
            go_loopw [185] (fun s wr => ∃ v : Nat, v ≤ n0 ∧ s = .int .i64 (v : Int) ∧ Hid (Pw w wr [.slice a0 n0 c0, .slice a1 n1 c1, .slice a2 n2 c2] g gg c n1 sv ex g' (.slice a0 n0 c0) (.slice a1 n1 c1) (.slice a2 n2 c2) Q3 E n2 D6 D6)) (fun s _ => ((n0 : Int) - intOf s).toNat)
            case atStart => exact ⟨0, by omega, by simp, HC0⟩
            case round =>
              clear HC0
              obtain ⟨v, hv, rfl, HKK⟩ := hrel
              by_cases hlv2 : v < n0
              · have vI : (v : Int) < (n0 : Int) := by omega
                go_wp2_with fail
                refine Calls.mono (seats_ok g gg c sv ex D6 _ (unhide HKK).ds.dk (v : Int)) ?_
                rintro r w9 ⟨rfl, hb9⟩
                have HT9 := hide ((unhide HKK).call hb9)
                clear hb9 HKK
                go_wp2_with fail
                refine Calls.mono (seatsF (unhide HT9).rf ((unhide HPO).2.2.1.call (unhide HT9).bel) (unhide HL6).2 (unhide HL6).1 (v : Int)) ?_
                rintro r w10 ⟨rfl, hb10⟩
                have HT10 := hide ((unhide HT9).call hb10)
                clear hb10 HT9
                go_wp2_with fail
                exact ⟨⟨v + 1, by omega, by simp, HT10⟩, by simp [intOf]; omega⟩
              · obtain rfl : n0 = v := by omega
                have vI : ¬ (n0 : Int) < (n0 : Int) := by omega
                have HN : Hid (∃ D, Pw w wr [.slice a0 n0 c0, .slice a1 n1 c1, .slice a2 n2 c2] g gg c n1 sv ex g' (.slice a0 n0 c0) (.slice a1 n1 c1) (.slice a2 n2 c2) Q3 E n2 D D) := hide ⟨D6, unhide HKK⟩
                clear HKK
                go_wp2_with fail
                exact ⟨⟨k + 1, by omega, by simp, HN⟩, by simp [intOf]; omega⟩
      · obtain rfl : k = n := by omega
        have kI : ¬ (k : Int) < (k : Int) := by omega
        obtain ⟨D, hK⟩ := unhide HI
        have HP := hide hK
        clear hK HI
        go_wp2_with fail
        refine Calls.mono (awake_any _) ?_
        rintro r w9 ⟨rfl, hb9⟩
        have HP9 := hide ((unhide HP).call hb9)
        clear hb9 HP
        go_wp2_with fail
        go_ret
        exact ⟨rfl, (unhide HP9).bel⟩
end Go.Proofs.Ythgacmlbmcehmaa
