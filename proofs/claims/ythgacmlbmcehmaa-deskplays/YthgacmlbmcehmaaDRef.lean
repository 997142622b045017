/- DeskRefused, walked. -/
import Derived.Test.YthgacmlbmcehmaaDSk
namespace Go.Proofs.Ythgacmlbmcehmaa
set_option linter.unusedVariables false
set_option linter.unusedSimpArgs false
open Go.ChangeShapes Go.WideShapes Go.ChangeAt Go.RowKit Go.Joins Go.Deep

/-- a policy, calls and one more call, as they came in -/
structure Py (w wr : World) (a0 a1 a2 al : Option Addr) (n0 n1 n2 c0 c1 c2 : Nat) (L C Q1 Q2 Q3 E : Nat → Int) (S : Nat → ByteArray) (Dw : Nat → Bool) (l : List DoV) (o who conn nn : Int) : Prop where
  pl : PolLabs wr a0 n0 L C
  pq : PolQuos wr a1 n1 Q1 Q2 Q3
  pe : PolEnts wr a2 n2 E S Dw
  dos : DosAt wr al l
  row : RowAt wr w.heap.size 26 [.slice a0 n0 c0, .slice a1 n1 c1, .slice a2 n2 c2]
  kr : RowAt wr (w.heap.size + 1) 38 [.int .i64 o, .int .i64 who, .int .i64 conn, .int .i64 nn]
  bel : Below w.heap.size w wr
theorem Py.call {w wr w' : World} {a0 a1 a2 al : Option Addr} {n0 n1 n2 c0 c1 c2 : Nat} {L C Q1 Q2 Q3 E : Nat → Int} {S : Nat → ByteArray} {Dw : Nat → Bool} {l : List DoV} {o who conn nn : Int} (h : Py w wr a0 a1 a2 al n0 n1 n2 c0 c1 c2 L C Q1 Q2 Q3 E S Dw l o who conn nn) (hb : Below wr.heap.size wr w') : Py w w' a0 a1 a2 al n0 n1 n2 c0 c1 c2 L C Q1 Q2 Q3 E S Dw l o who conn nn :=
  ⟨h.pl.call hb, h.pq.call hb, h.pe.call hb, h.dos.call hb, h.row.below hb h.row.lt, h.kr.below hb h.kr.lt, h.bel.trans (hb.mono h.bel.size)⟩
theorem py_start {w : World} {a0 a1 a2 al : Option Addr} {n0 n1 n2 c0 c1 c2 : Nat} {L C Q1 Q2 Q3 E : Nat → Int} {S : Nat → ByteArray} {Dw : Nat → Bool} {l : List DoV} (o who conn nn : Int)
    (pl : PolLabs w a0 n0 L C) (pq : PolQuos w a1 n1 Q1 Q2 Q3) (pe : PolEnts w a2 n2 E S Dw) (hl : DosAt w al l) :
    Py w ((w.alloc (.cells #[.slice a0 n0 c0, .slice a1 n1 c1, .slice a2 n2 c2] 26)).alloc (.cells #[.int .i64 o, .int .i64 who, .int .i64 conn, .int .i64 nn] 38)) a0 a1 a2 al n0 n1 n2 c0 c1 c2 L C Q1 Q2 Q3 E S Dw l o who conn nn := by
  have hb : Below w.heap.size w (w.alloc (.cells #[.slice a0 n0 c0, .slice a1 n1 c1, .slice a2 n2 c2] 26)) := (Below.refl _ _).alloc (Nat.le_refl _) _
  have hz : (w.alloc (.cells #[.slice a0 n0 c0, .slice a1 n1 c1, .slice a2 n2 c2] 26)).heap.size = w.heap.size + 1 := by show (w.heap.push _).size = _; rw [Array.size_push]
  have hb2 : Below (w.alloc (.cells #[.slice a0 n0 c0, .slice a1 n1 c1, .slice a2 n2 c2] 26)).heap.size (w.alloc (.cells #[.slice a0 n0 c0, .slice a1 n1 c1, .slice a2 n2 c2] 26)) ((w.alloc (.cells #[.slice a0 n0 c0, .slice a1 n1 c1, .slice a2 n2 c2] 26)).alloc (.cells #[.int .i64 o, .int .i64 who, .int .i64 conn, .int .i64 nn] 38)) := (Below.refl _ _).alloc (Nat.le_refl _) _
  have hr := RowAt.new (w.alloc (.cells #[.slice a0 n0 c0, .slice a1 n1 c1, .slice a2 n2 c2] 26)) 38 [.int .i64 o, .int .i64 who, .int .i64 conn, .int .i64 nn]
  rw [hz] at hr
  exact ⟨(pl.call hb).call hb2, (pq.call hb).call hb2, (pe.call hb).call hb2, (hl.call hb).call hb2, (RowAt.new w 26 _).below hb2 (by rw [hz]; omega), hr, hb.trans (hb2.mono hb.size)⟩
/-- two desks in the world of a law -/
structure Tw (w wr : World) (P : List Value) (g gg c : Nat) (sv : Value) (ex : List Value) (g' gg' c' : Nat) (sv' : Value) (ex' : List Value) (nq : Nat) (Q : Nat → Int) (A B : List Gst) : Prop where
  a : Sk w wr P g gg c nq sv ex Q A
  b : Ds wr g' gg' c' nq sv' ex' Q B
  ne : gg ≠ gg'
  ge : w.heap.size < gg'
theorem Tw.call {w wr w' : World} {P : List Value} {g gg c g' gg' c' nq : Nat} {sv sv' : Value} {ex ex' : List Value} {Q : Nat → Int} {A B : List Gst} (h : Tw w wr P g gg c sv ex g' gg' c' sv' ex' nq Q A B) (hb : Below wr.heap.size wr w') : Tw w w' P g gg c sv ex g' gg' c' sv' ex' nq Q A B :=
  ⟨h.a.call hb, h.b.call hb, h.ne, h.ge⟩
theorem Tw.bel {w wr : World} {P : List Value} {g gg c g' gg' c' nq : Nat} {sv sv' : Value} {ex ex' : List Value} {Q : Nat → Int} {A B : List Gst} (h : Tw w wr P g gg c sv ex g' gg' c' sv' ex' nq Q A B) : Below w.heap.size w wr := h.a.bel
theorem Tw.stepA {w wr w' : World} {P : List Value} {g gg c g' gg' c' nq : Nat} {sv sv' : Value} {ex ex' : List Value} {Q : Nat → Int} {A A' B : List Gst} (h : Tw w wr P g gg c sv ex g' gg' c' sv' ex' nq Q A B) (hd : Ds w' g gg c nq sv ex Q A') (ho : Only (· = gg) wr w') : Tw w w' P g gg c sv ex g' gg' c' sv' ex' nq Q A' B :=
  ⟨h.a.step hd ho, h.b.other h.a.ds.dk.row ho h.ne.symm, h.ne, h.ge⟩
theorem Tw.stepB {w wr w' : World} {P : List Value} {g gg c g' gg' c' nq : Nat} {sv sv' : Value} {ex ex' : List Value} {Q : Nat → Int} {A B B' : List Gst} (h : Tw w wr P g gg c sv ex g' gg' c' sv' ex' nq Q A B) (hd : Ds w' g' gg' c' nq sv' ex' Q B') (ho : Only (· = gg') wr w') : Tw w w' P g gg c sv ex g' gg' c' sv' ex' nq Q A B' :=
  ⟨⟨h.a.ds.other h.b.dk.row ho h.ne, h.a.bel.trans (ho.below h.a.bel.size (fun q hq => by have := h.ge; omega)), h.a.row.only ho (by have := h.ge; omega), h.a.ge⟩, hd, h.ne, h.ge⟩
set_option maxRecDepth 100000 in
set_option maxHeartbeats 4000000 in
theorem refused_law (a0 a1 a2 al : Option Addr) (n0 n1 n2 c0 c1 c2 cl : Nat) (L C Q1 Q2 Q3 E : Nat → Int) (S : Nat → ByteArray) (Dw : Nat → Bool) (l : List DoV) (o who conn nn : Int) (w : World)
    (pl : PolLabs w a0 n0 L C) (pq : PolQuos w a1 n1 Q1 Q2 Q3) (pe : PolEnts w a2 n2 E S Dw) (hc0 : n0 ≤ c0) (hm0 : c0 ≤ maxLen) (hl : DosAt w al l) (hlm : l.length ≤ maxLen) :
    Calls Try.prog 8 #[.agg #[.slice a0 n0 c0, .slice a1 n1 c1, .slice a2 n2 c2], .slice al l.length cl, .agg #[.int .i64 o, .int .i64 who, .int .i64 conn, .int .i64 nn]] w fun e w' => e = .returned (.bool true) ∧ Below w.heap.size w w' := by
  have hb : Below w.heap.size w (w.alloc (.cells #[.slice a0 n0 c0, .slice a1 n1 c1, .slice a2 n2 c2] 26)) := (Below.refl _ _).alloc (Nat.le_refl _) _
  have HLI := hide (light_any a0 a1 a2 n0 n1 n2 c0 c1 c2 pl.1 pq.1 pe.1)
  have HP0 : Hid (Py w ((w.alloc (.cells #[.slice a0 n0 c0, .slice a1 n1 c1, .slice a2 n2 c2] 26)).alloc (.cells #[.int .i64 o, .int .i64 who, .int .i64 conn, .int .i64 nn] 38)) a0 a1 a2 al n0 n1 n2 c0 c1 c2 L C Q1 Q2 Q3 E S Dw l o who conn nn) := hide (py_start o who conn nn pl pq pe hl)
  have HC := hide (⟨hc0, hm0⟩ : n0 ≤ c0 ∧ c0 ≤ maxLen)
  obtain ⟨n, hn⟩ : ∃ n, l.length = n := ⟨_, rfl⟩
  rw [hn] at hlm ⊢
  have HLN := hide hn
  have hlI : (n : Int) ≤ 9223372036854775807 := by unfold maxLen at hlm; omega
  clear pl pq pe hb hl hn hc0 hm0
  cases hlt : (decide (n0 ≤ 100) && decide (n1 ≤ 100) && decide (n2 ≤ 100)) with
  | false =>
    rw [hlt] at HLI
    go_enter Try.func8, Try.ntmps8
    go_wp2_with fail
    refine Calls.mono (unhide HLI _) ?_
    rintro r w1 ⟨rfl, hb1⟩
    have HP := hide ((unhide HP0).call hb1)
    clear hb1 HP0
    go_wp2_with fail
    refine Calls.mono (awake_any _) ?_
    rintro r w9 ⟨rfl, hb9⟩
    have HP9 := hide ((unhide HP).call hb9)
    clear hb9 HP
    go_wp2_with fail
    go_ret
    exact ⟨rfl, (unhide HP9).bel⟩
  | true =>
    rw [hlt] at HLI
    go_enter Try.func8, Try.ntmps8
    go_wp2_with fail
    refine Calls.mono (unhide HLI _) ?_
    rintro r w1 ⟨rfl, hb1⟩
    have HP := hide ((unhide HP0).call hb1)
    clear hb1 HP0 HLI hlt
    by_cases h3 : (300 : Int) < (n : Int)
    · skip
      go_wp2_with fail
      refine Calls.mono (awake_any _) ?_
      rintro r w9 ⟨rfl, hb9⟩
      have HP9 := hide ((unhide HP).call hb9)
      clear hb9 HP
      go_wp2_with fail
      go_ret
      exact ⟨rfl, (unhide HP9).bel⟩
    have hc : ∀ j : Nat, w1.cell? ⟨w.heap.size, j, none⟩ = ([.slice a0 n0 c0, .slice a1 n1 c1, .slice a2 n2 c2] : List Value)[j]? := fun j => (unhide HP).row.cell j
    have p0 := hc 0
    have p1 := hc 1
    have p2 := hc 2
    simp only [List.getElem?_cons_zero, List.getElem?_cons_succ] at p0 p1 p2
    clear hc
    go_wp2_with fail
    refine Calls.mono (right_any a0 a1 a2 n0 n1 n2 c0 c1 c2 L C Q1 Q2 Q3 E S Dw w1 (unhide HP).pl (unhide HP).pq (unhide HP).pe (unhide HC).1 (unhide HC).2) ?_
    rintro r w2 ⟨rfl, hb2⟩
    have HP2 := hide ((unhide HP).call hb2)
    clear hb2 HP p0 p1 p2
    by_cases hr : rightN n0 n1 n2 L C Q1 Q2 Q3 E S = 0
    rotate_left
    · have hr2 : rightN n0 n1 n2 L C Q1 Q2 Q3 E S = 11 := by
        unfold rightN at hr ⊢
        split
        · rename_i q; simp [q] at hr
        · rfl
      rw [hr2]
      clear hr hr2
      have HP := HP2
      clear HP2
      go_wp2_with fail
      refine Calls.mono (awake_any _) ?_
      rintro r w9 ⟨rfl, hb9⟩
      have HP9 := hide ((unhide HP).call hb9)
      clear hb9 HP
      go_wp2_with fail
      go_ret
      exact ⟨rfl, (unhide HP9).bel⟩
    have HRH := hide (right_has hr)
    have HR := hide hr
    rw [hr]
    clear hr
    have p0 : w2.cell? ⟨w.heap.size, 0, none⟩ = some (.slice a0 n0 c0) := (unhide HP2).row.cell 0
    have p1 : w2.cell? ⟨w.heap.size, 1, none⟩ = some (.slice a1 n1 c1) := (unhide HP2).row.cell 1
    have p2 : w2.cell? ⟨w.heap.size, 2, none⟩ = some (.slice a2 n2 c2) := (unhide HP2).row.cell 2
    go_wp2_with fail
    have k0 : Below w2.heap.size w2 w2.drew := (Below.refl _ _).drew
    have HQ8 : Hid (∀ w', Below w2.heap.size w2 w' → ((w'.cell? ⟨w.heap.size, 0, none⟩ = some (.slice a0 n0 c0) ∧ w'.cell? ⟨w.heap.size, 1, none⟩ = some (.slice a1 n1 c1)) ∧ w'.cell? ⟨w.heap.size, 2, none⟩ = some (.slice a2 n2 c2)) ∧ Below w2.heap.size w2 w') := hide (fun w' hb => ⟨⟨⟨((unhide HP2).call hb).row.cell 0, ((unhide HP2).call hb).row.cell 1⟩, ((unhide HP2).call hb).row.cell 2⟩, hb⟩)
    have HM : Hid (∀ W, Below w2.heap.size w2 W → Calls Try.prog 30 #[.agg #[.slice a0 n0 c0, .slice a1 n1 c1, .slice a2 n2 c2], .slice al n cl] W fun e w' => ∃ g gg c sv ex, e = .returned (.pointer (some ⟨g, 0, none⟩)) ∧ Ds w' g gg c n1 sv ex Q3 (runD Q3 (newD n2 E) l) ∧ Below W.heap.size W w' ∧ W.heap.size ≤ gg) := hide (fun W hW => by
      have := made_ok a0 a1 a2 al n0 n1 n2 c0 c1 c2 cl L C Q1 Q2 Q3 E S Dw l W ((unhide HP2).call hW).pl ((unhide HP2).call hW).pq ((unhide HP2).call hW).pe (unhide HC).1 (unhide HC).2 (unhide HR) ((unhide HP2).call hW).dos (by have := unhide HLN; omega)
      rw [unhide HLN] at this
      exact this)
    clear p0 p1 p2
    go_region_held3 (fun w' => ((w'.cell? ⟨w.heap.size, 0, none⟩ = some (.slice a0 n0 c0) ∧ w'.cell? ⟨w.heap.size, 1, none⟩ = some (.slice a1 n1 c1)) ∧ w'.cell? ⟨w.heap.size, 2, none⟩ = some (.slice a2 n2 c2)) ∧ Below w2.heap.size w2 w')
      (first | exact unhide HQ8 _ k0 | exact unhide HQ8 _ k5 | exact unhide HQ8 _ k4)
      (first | (go_at_call 30; (fail_if_success (have := k4)); refine Calls.mono (unhide HM w2.drew k0) ?_; rintro e w4 ⟨g, gg, c, sv, ex, rfl, hd4, b4, hge4⟩; have k4 : Below w2.heap.size w2 w4 := k0.trans (b4.mono k0.size))
             | (go_at_call 30; refine Calls.mono (unhide HM w4 k4) ?_; rintro e w5 ⟨g', gg', c', sv', ex', rfl, hd5, b5, hge5⟩; have k5 : Below w2.heap.size w2 w5 := k4.trans (b5.mono k4.size)))
    obtain ⟨D, hDD⟩ : ∃ D, runD Q3 (newD n2 E) l = D := ⟨_, rfl⟩
    have hlen : (runD Q3 (newD n2 E) l).length = n2 := by rw [runD_len]; simp [newD]
    rw [hDD] at hd4 hd5 hlen
    have HT : Hid (Tw w w5 [.slice a0 n0 c0, .slice a1 n1 c1, .slice a2 n2 c2] g gg c sv ex g' gg' c' sv' ex' n1 Q3 D D) := hide (by
      have hlt := (unhide HP2).row.lt
      have s0 : w2.heap.size ≤ w2.drew.heap.size := k0.size
      have hgl : gg < w4.heap.size := hd4.dk.row.lt
      have s4 := k4.size
      exact ⟨⟨hd4.call b5, (unhide HP2).bel.trans (k5.mono (unhide HP2).bel.size), ((unhide HP2).call k5).row, by omega⟩, hd5, by omega, by omega⟩)
    have hkr := ((unhide HP2).call k5).kr
    have e0 : w5.cell? ⟨w.heap.size + 1, 0, none⟩ = some (.int .i64 o) := hkr.cell 0
    have e1 : w5.cell? ⟨w.heap.size + 1, 1, none⟩ = some (.int .i64 who) := hkr.cell 1
    have e2 : w5.cell? ⟨w.heap.size + 1, 2, none⟩ = some (.int .i64 conn) := hkr.cell 2
    have e3 : w5.cell? ⟨w.heap.size + 1, 3, none⟩ = some (.int .i64 nn) := hkr.cell 3
    have HLL := hide hlen
    obtain ⟨⟨q1, q2⟩, ⟨q3, q4⟩, q5⟩ := unhide HRH
    have hn2 : (n2 : Int) ≤ 8 := by omega
    clear hkr hd4 hd5 b4 b5 hge4 hge5 k0 k4 k5 HQ8 HM HP2 HR hDD hlen q5
    go_wp2_with fail
    refine Calls.mono (does_any (unhide HT).a.ds o who conn nn) ?_
    rintro r w6 ⟨v6, rfl, hd6, ho6, -⟩
    have HT6 := hide ((unhide HT).stepA hd6 ho6)
    by_cases he : (doesD Q3 D o who conn nn).2.2 = 0
    · rw [he]
      have HP := HT6
      clear HT6 HT hd6 ho6 he e0 e1 e2 e3
      go_wp2_with fail
      refine Calls.mono (awake_any _) ?_
      rintro r w9 ⟨rfl, hb9⟩
      have HP9 := hide ((unhide HP).call hb9)
      clear hb9 HP
      go_wp2_with fail
      go_ret
      exact ⟨rfl, (unhide HP9).bel⟩
    have hsame := does_refused he
    rw [hsame] at HT6
    obtain ⟨e6, he6⟩ : ∃ e, (doesD Q3 D o who conn nn).2.2 = e := ⟨_, rfl⟩
    rw [he6] at he ⊢
    have z6 : (e6 == 0) = false := by simp [he]
    have HK0 : Hid (∃ D, Tw w w6 [.slice a0 n0 c0, .slice a1 n1 c1, .slice a2 n2 c2] g gg c sv ex g' gg' c' sv' ex' n1 Q3 D D ∧ D.length = n2) := hide ⟨D, unhide HT6, unhide HLL⟩
    clear HT6 HT hd6 ho6 he he6 hsame e0 e1 e2 e3 HLL
    go_wp2_with fail
    go_loopw [45] (fun s wr => ∃ k : Nat, k ≤ 30 ∧ s = .int .i64 (k : Int) ∧ Hid (∃ D, Tw w wr [.slice a0 n0 c0, .slice a1 n1 c1, .slice a2 n2 c2] g gg c sv ex g' gg' c' sv' ex' n1 Q3 D D ∧ D.length = n2)) (fun s _ => ((30 : Int) - intOf s).toNat)
    case atStart => exact ⟨0, by omega, by simp, HK0⟩
    case round =>
      clear HK0
      obtain ⟨k, hk, rfl, HI⟩ := hrel
      by_cases hlt : k < 30
      · have kI : (k : Int) < 30 := by omega
        obtain ⟨D2, hT, hL⟩ := unhide HI
        have p2 : wr.cell? ⟨w.heap.size, 2, none⟩ = some (.slice a2 n2 c2) := hT.a.row.cell 2
        have HTT := hide hT
        have HLL := hide hL
        clear hT hL HI
        generalize wr = wq at HTT p2
        go_wp2_with fail
        clear p2
        go_loopw [50] (fun s wr => ∃ i : Nat, i ≤ n2 ∧ s = .int .i64 (i : Int) ∧ Hid (Tw w wr [.slice a0 n0 c0, .slice a1 n1 c1, .slice a2 n2 c2] g gg c sv ex g' gg' c' sv' ex' n1 Q3 D2 D2)) (fun s _ => ((n2 : Int) - intOf s).toNat)
        case atStart => exact ⟨0, by omega, by simp, HTT⟩
        case round =>
          clear HTT
          obtain ⟨i, hi, rfl, HTT⟩ := hrel
          by_cases hlv : i < n2
          · have iI : (i : Int) < (n2 : Int) := by omega
            obtain ⟨y, hy⟩ : ∃ y, D2[i]? = some y := ⟨_, List.getElem?_eq_getElem (by have := unhide HLL; omega)⟩
            have HY := hide hy
            clear hy
            go_wp2_with fail
            refine Calls.mono (state_ok g gg c sv ex D2 _ (unhide HTT).a.ds.dk i y (unhide HY)) ?_
            rintro r w7 ⟨rfl, hb7⟩
            have HT7 := hide ((unhide HTT).call hb7)
            clear hb7 HTT
            go_wp2_with fail
            refine Calls.mono (state_ok g' gg' c' sv' ex' D2 _ (unhide HT7).b.dk i y (unhide HY)) ?_
            rintro r w8 ⟨rfl, hb8⟩
            have HT8 := hide ((unhide HT7).call hb8)
            clear hb8 HT7
            go_wp2_with fail
            refine Calls.mono (locked_ok g gg c sv ex D2 w8 (unhide HT8).a.ds.dk i y (unhide HY)) ?_
            rintro r w9 ⟨rfl, rfl⟩
            go_wp2_with fail
            refine Calls.mono (locked_ok g' gg' c' sv' ex' D2 w8 (unhide HT8).b.dk i y (unhide HY)) ?_
            rintro r w9 ⟨rfl, rfl⟩
            clear HY
            go_wp2_with fail
            exact ⟨⟨i + 1, by omega, by simp, HT8⟩, by simp [intOf]; omega⟩
          · obtain rfl : n2 = i := by omega
            have iI : ¬ (n2 : Int) < (n2 : Int) := by omega
            go_wp2_with fail
            refine Calls.mono (tick_any (unhide HTT).a.ds) ?_
            rintro r w7 ⟨v7, rfl, hd7, ho7, hown7, -⟩
            have HT7 := hide ((unhide HTT).stepA hd7 ho7)
            have HO7 := hide hown7
            clear hd7 ho7 hown7 HTT
            go_wp2_with fail
            refine Calls.mono (tick_any (unhide HT7).b) ?_
            rintro r w8 ⟨v8, rfl, hd8, ho8, hown8, -⟩
            have HT8 := hide ((unhide HT7).stepB hd8 ho8)
            have HEQ := hide (equal_ok v7 v8 _ _ w8 (ints_own (own_only (unhide HO7) ho8 (fun q hq e => tag_ne (unhide HO7) (unhide HT7).b.dk.row (by decide) (e ▸ hq)))) (ints_own hown8))
            rw [decide_eq_true rfl] at HEQ
            clear hd8 ho8 hown8 HT7 HO7
            go_wp2_with fail
            refine Calls.mono (unhide HEQ) ?_
            rintro r w9 ⟨rfl, hb9⟩
            have HN : Hid (∃ D, Tw w w9 [.slice a0 n0 c0, .slice a1 n1 c1, .slice a2 n2 c2] g gg c sv ex g' gg' c' sv' ex' n1 Q3 D D ∧ D.length = n2) := hide ⟨_, (unhide HT8).call hb9, by rw [List.length_map]; exact unhide HLL⟩
            clear hb9 HT8 HEQ
            go_wp2_with fail
            exact ⟨⟨k + 1, by omega, by simp, HN⟩, by simp [intOf]; omega⟩
      · obtain rfl : k = 30 := by omega
        obtain ⟨D2, hT, hL⟩ := unhide HI
        have HP := hide hT
        clear hT hL HI
        go_wp2_with fail
        refine Calls.mono (awake_any _) ?_
        rintro r w9 ⟨rfl, hb9⟩
        have HP9 := hide ((unhide HP).call hb9)
        clear hb9 HP
        go_wp2_with fail
        go_ret
        exact ⟨rfl, (unhide HP9).bel⟩
theorem cells38 : Try.prog.cellsOf 38 = 4 := by kernel_rfl
theorem open_do {H : Type} {enc : TypeId × Value → H} {W : World} {b0 base : Nat} {spare : Nat → Bool} {held : Bool} {v : Value} {d : DataW H} {p : List MemPlace}
    (hv : Value.okWide Try.prog W .any b0 38 v) (h : DataW.Trod enc Try.prog W base spare held 38 v d p) : ∃ o who conn nn : Int, v = .agg #[.int .i64 o, .int .i64 who, .int .i64 conn, .int .i64 nn] := by
  obtain ⟨c0, c1, c2, c3, y0, y1, y2, y3, m, rfl, _, _, hy0, hy1, hy2, hy3⟩ := open_agg4 Try.underlying38 (by kernel_rfl) cells38 hv h
  obtain ⟨x0, e0, k0, w0⟩ := DataW.trod_int Try.underlying3 hy0
  obtain ⟨x1, e1, k1, w1⟩ := DataW.trod_int Try.underlying3 hy1
  obtain ⟨x2, e2, k2, w2⟩ := DataW.trod_int Try.underlying3 hy2
  obtain ⟨x3, e3, k3, w3⟩ := DataW.trod_int Try.underlying3 hy3
  simp at e0 e1 e2 e3
  subst e0 e1 e2 e3
  exact ⟨x0, x1, x2, x3, rfl⟩
end Go.Proofs.Ythgacmlbmcehmaa
