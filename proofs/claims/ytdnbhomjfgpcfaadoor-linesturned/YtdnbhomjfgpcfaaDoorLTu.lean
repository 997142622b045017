/- LinesTurned. -/
import Derived.Test.YtdnbhomjfgpcfaaDoorLAw
import Derived.Test.YtdnbhomjfgpcfaaDoorLLn
import Derived.Test.YtdnbhomjfgpcfaaDoorLLo
namespace Go.Proofs.YtdnbhomjfgpcfaaDoor
set_option linter.unusedVariables false
set_option linter.unusedSimpArgs false
open Go.ChangeShapes Go.WideShapes Go.ChangeAt Go.RowKit Go.Joins Go.Deep

theorem wrap_u64_nonneg (k : Int) : 0 ≤ IntKind.u64.wrap k := by
  unfold IntKind.wrap
  simp [IntKind.signed, IntKind.bits]
  omega
theorem mod_nat (k : Int) (n : Nat) (h : 0 < n) (h2 : n ≤ 1000000) : ∃ j : Nat, wrap64 ((IntKind.u64.wrap k).tmod (n : Int)) = (j : Int) ∧ j < n := by
  have h0 : 0 ≤ IntKind.u64.wrap k := wrap_u64_nonneg k
  rw [Int.tmod_eq_emod_of_nonneg h0]
  have g1 := Int.emod_nonneg (IntKind.u64.wrap k) (show (n : Int) ≠ 0 by omega)
  have g2 := Int.emod_lt_of_pos (IntKind.u64.wrap k) (show (0 : Int) < (n : Int) by omega)
  generalize IntKind.u64.wrap k % (n : Int) = x at *
  refine ⟨x.toNat, ?_, by omega⟩
  unfold wrap64
  omega
set_option maxRecDepth 100000 in
set_option maxHeartbeats 4000000 in
theorem turned_law (s : ByteArray) (n : Int) (w : World) (hT : UT w) (y0 : -9223372036854775808 ≤ n) (y1 : n ≤ 9223372036854775807) (hs0 : s.size ≤ 140737488351232) : Calls Tryd.prog 8 #[.string s, .int .i64 n] w fun r w' => r = .returned (.bool true) ∧ Below w.heap.size w w' := by
  have HU : Hid (∀ W, Below w.heap.size w W → UT W) := hide (fun W h => hT.call h)
  have bP : Below w.heap.size w (w.alloc (.cells #[.string s] 9)) := (Below.refl _ _).alloc (Nat.le_refl _) _
  have KS := hide (long_any w.heap.size (.slice (some ⟨w.heap.size, 0, none⟩) 1 1) [s] (w.alloc (.cells #[.string s] 9)) (own_row (RowAt.new w 9 [.string s]) (Nat.le_refl _) (by show 1 ≤ maxLen; unfold maxLen; omega)) (by simp))
  have B1 := hide bP
  clear hT bP
  obtain ⟨w1, hw1⟩ : ∃ z, w.alloc (.cells #[.string s] 9) = z := ⟨_, rfl⟩
  have HW1 := hide hw1
  rw [hw1] at KS B1
  clear hw1
  have KV := hide (valid_any s w1 (unhide HU _ (unhide B1)) (by omega))
  go_enter Tryd.func8, Tryd.ntmps8
  go_wp2_with fail
  try rw [unhide HW1]
  clear HW1
  refine Calls.mono (unhide KS) ?_
  rintro r w2 ⟨rfl, rfl⟩
  cases hlb : longB [s] with
  | true =>
    have KA := hide (awake_any w1 (unhide HU _ (unhide B1)))
    go_wp2_with fail
    refine Calls.mono (unhide KA) ?_
    rintro r w9 ⟨rfl, b9⟩
    have B9 := hide ((unhide B1).trans (b9.mono (unhide B1).size))
    clear b9
    go_wp2_with fail
    go_ret
    exact ⟨rfl, unhide B9⟩
  | false =>
    have hsz : s.size ≤ 2048 := by simp [longB] at hlb; exact hlb
    clear hlb
    go_wp2_with fail
    refine Calls.mono (unhide KV) ?_
    rintro r w2 ⟨rfl, b2⟩
    have B2 := hide ((unhide B1).trans (b2.mono (unhide B1).size))
    clear b2
    cases hv : Lib.validD s.data.toList with
    | false =>
      have KA := hide (awake_any w2 (unhide HU _ (unhide B2)))
      go_wp2_with fail
      refine Calls.mono (unhide KA) ?_
      rintro r w9 ⟨rfl, b9⟩
      have B9 := hide ((unhide B2).trans (b9.mono (unhide B2).size))
      clear b9
      go_wp2_with fail
      go_ret
      exact ⟨rfl, unhide B9⟩
    | true =>
      obtain ⟨cs, hx⟩ := tx_of_valid hv
      have hfew : cs.length ≤ 2048 := by have := hx.cps.len; rw [← hx.size] at this; omega
      have HX := hide hx
      have KI := hide (index_any s cs w2 (unhide HU _ (unhide B2)) (by omega) hx)
      clear hv hx
      go_wp2_with fail
      refine Calls.mono (unhide KI) ?_
      rintro r w3 ⟨g, vr, vs, rfl, hi, b3⟩
      have B3 := hide ((unhide B2).trans (b3.mono (unhide B2).size))
      have HI := hide hi
      obtain ⟨ar, cr, as_, c_, e1, e2, q0, q1⟩ := hi.two
      have KZ := hide (size_ok g w3 ar _ cr q0)
      clear b3 hi KI e1 e2 q0 q1
      obtain ⟨N, hN⟩ : ∃ z, cs.length = z := ⟨_, rfl⟩
      rw [hN] at KZ hfew
      have HN := hide hN
      clear hN
      go_wp2_with fail
      refine Calls.mono (unhide KZ) ?_
      rintro r w4 ⟨rfl, rfl⟩
      obtain ⟨p, hp, hpN⟩ := mod_nat n (N + 1) (by omega) (by omega)
      rw [show ((N + 1 : Nat) : Int) = (N : Int) + 1 by omega] at hp
      obtain ⟨l1, l2, l3⟩ := line_of (cs := cs) (p := p) (by rw [unhide HN]; omega)
      have l4 := line_end l1
      have l5 := end_le cs (lineOf cs p)
      obtain ⟨l, hl⟩ : ∃ z, lineOf cs p = z := ⟨_, rfl⟩
      have hwp := where_at (cs := cs) (p := p) (by rw [unhide HN]; omega)
      rw [hl] at l1 l2 l3 l4 l5 hwp
      have hwe := where_at (cs := cs) (p := endL cs l) l5
      rw [l4] at hwe
      have ha1 := at_at (cs := cs) (i := l) (j := (p : Int) - (stN cs l : Int)) l1 (by omega)
      have ha2 := at_at (cs := cs) (i := l) (j := 1099511627776) l1 (by omega)
      have hln := line_at (cs := cs) (i := l) l1
      have hsl : (sub cs (stN cs l) (endL cs l)).length = endL cs l - stN cs l := by unfold sub; rw [List.length_take, List.length_drop]; omega
      have hst : Tx (tb (sub cs (stN cs l) (endL cs l))) (sub cs (stN cs l) (endL cs l)) := tx_tb (by unfold sub; exact ((unhide HX).cps.drop _).take _)
      have hct : Lib.runeCount (tb (sub cs (stN cs l) (endL cs l))) = endL cs l - stN cs l := by rw [hst.count, hsl]
      have hsz2 : (tb (sub cs (stN cs l) (endL cs l))).size ≤ 8192 := by have h8 := hst.cps.most; have h9 := hst.size; rw [unhide HN] at l5; omega
      rw [unhide HN] at l5
      obtain ⟨A, hA⟩ : ∃ z, stN cs l = z := ⟨_, rfl⟩
      obtain ⟨E, hE⟩ : ∃ z, endL cs l = z := ⟨_, rfl⟩
      rw [hA] at l2 hwp ha1 hln hct hsz2 hwe ha2
      rw [hE] at l3 l5 ha1 ha2 hln hct hsz2 hwe
      rw [show (A : Int) + min ((p : Int) - (A : Int)) ((E : Int) - (A : Int)) = (p : Int) by omega] at ha1
      rw [show (A : Int) + min 1099511627776 ((E : Int) - (A : Int)) = (E : Int) by omega] at ha2
      obtain ⟨T, hT⟩ : ∃ z, tb (sub cs A E) = z := ⟨_, rfl⟩
      rw [hT] at hln hct hsz2
      have KW : Hid (∀ W, Below w3.heap.size w3 W → Calls Tryd.prog 20 #[.pointer (some ⟨g, 0, none⟩), .int .i64 (p : Int)] W fun r w' => r = .returned (.tuple #[.int .i64 (l : Int), .int .i64 ((p : Int) - (A : Int)), .int .i64 0]) ∧ Below W.heap.size W w') := hide (fun W hb => by
        have h9 := where_ok ((unhide HI).call hb) (p : Int) (by rw [unhide HN]; omega)
        rw [hwp] at h9
        exact h9)
      have KA : Hid (∀ W, Below w3.heap.size w3 W → Calls Tryd.prog 18 #[.pointer (some ⟨g, 0, none⟩), .int .i64 (l : Int), .int .i64 ((p : Int) - (A : Int))] W fun r w' => r = .returned (.tuple #[.int .i64 (p : Int), .int .i64 0]) ∧ Below W.heap.size W w') := hide (fun W hb => by
        have h9 := at_ok ((unhide HI).call hb) (l : Int) ((p : Int) - (A : Int)) (by rw [unhide HN]; omega) (by omega)
        rw [ha1] at h9
        exact h9)
      have KE : Hid (∀ W, Below w3.heap.size w3 W → Calls Tryd.prog 18 #[.pointer (some ⟨g, 0, none⟩), .int .i64 (l : Int), .int .i64 1099511627776] W fun r w' => r = .returned (.tuple #[.int .i64 (E : Int), .int .i64 0]) ∧ Below W.heap.size W w') := hide (fun W hb => by
        have h9 := at_ok ((unhide HI).call hb) (l : Int) 1099511627776 (by rw [unhide HN]; omega) (by omega)
        rw [ha2] at h9
        exact h9)
      have KX : Hid (∀ W, Below w3.heap.size w3 W → Calls Tryd.prog 20 #[.pointer (some ⟨g, 0, none⟩), .int .i64 (E : Int)] W fun r w' => r = .returned (.tuple #[.int .i64 (l : Int), .int .i64 ((E : Int) - (A : Int)), .int .i64 0]) ∧ Below W.heap.size W w') := hide (fun W hb => by
        have h9 := where_ok ((unhide HI).call hb) (E : Int) (by rw [unhide HN]; omega)
        rw [hwe] at h9
        exact h9)
      have KL : Hid (∀ W, Below w3.heap.size w3 W → Calls Tryd.prog 16 #[.pointer (some ⟨g, 0, none⟩), .int .i64 (l : Int)] W fun r w' => r = .returned (.tuple #[.string T, .int .i64 0]) ∧ Below W.heap.size W w') := hide (fun W hb => by
        have h9 := line_ok ((unhide HI).call hb) (unhide HX).cps (l : Int) (by rw [unhide HN]; omega) (unhide HI).sm
        rw [hln] at h9
        exact h9)
      have KC : Hid (∀ W, Calls Tryd.prog 39 #[.string T] W fun r w' => r = .returned (.int .i64 ((E : Int) - (A : Int))) ∧ Below W.heap.size W w') := hide (fun W => by
        have h9 := counts_any T W (by omega)
        rw [hct, show ((E - A : Nat) : Int) = (E : Int) - (A : Int) by omega] at h9
        exact h9)
      have C3 := hide (Below.refl w3.heap.size w3)
      have hEA : (p : Int) - (A : Int) ≤ (E : Int) - (A : Int) := by omega
      have hpA : (0 : Int) ≤ (p : Int) - (A : Int) := by omega
      have hpI : (p : Int) ≤ 2048 := by omega
      have hEI : (E : Int) ≤ 2048 := by omega
      clear hwp hwe ha1 ha2 hln hct hsz2 hst hsl hT hA hE hl l1 l2 l3 l4 l5
      go_wp2_with fail
      try rw [hp]
      clear hp
      refine Calls.mono (unhide KW _ (unhide C3)) ?_
      rintro r w4 ⟨rfl, b4⟩
      have C4 := hide ((unhide C3).trans (b4.mono (unhide C3).size))
      clear b4
      go_wp2_with fail
      refine Calls.mono (unhide KA _ (unhide C4)) ?_
      rintro r w5 ⟨rfl, b5⟩
      have C5 := hide ((unhide C4).trans (b5.mono (unhide C4).size))
      clear b5
      go_wp2_with fail
      refine Calls.mono (unhide KE _ (unhide C5)) ?_
      rintro r w6 ⟨rfl, b6⟩
      have C6 := hide ((unhide C5).trans (b6.mono (unhide C5).size))
      clear b6
      go_wp2_with fail
      refine Calls.mono (unhide KX _ (unhide C6)) ?_
      rintro r w7 ⟨rfl, b7⟩
      have C7 := hide ((unhide C6).trans (b7.mono (unhide C6).size))
      clear b7
      go_wp2_with fail
      refine Calls.mono (unhide KL _ (unhide C7)) ?_
      rintro r w8 ⟨rfl, b8⟩
      have C8 := hide ((unhide C7).trans (b8.mono (unhide C7).size))
      clear b8
      go_wp2_with fail
      refine Calls.mono (unhide KC _) ?_
      rintro r w9 ⟨rfl, b9⟩
      have C9 := hide ((unhide C8).trans (b9.mono (unhide C8).size))
      clear b9
      have BZ := hide ((unhide B3).trans ((unhide C9).mono (unhide B3).size))
      have KAW := hide (awake_any w9 (unhide HU _ (unhide BZ)))
      go_wp2_with fail
      refine Calls.mono (unhide KAW) ?_
      rintro r w10 ⟨rfl, b10⟩
      have B10 := hide ((unhide BZ).trans (b10.mono (unhide BZ).size))
      clear b10
      go_wp2_with fail
      go_ret
      exact ⟨by first | rfl | (simp; done) | (simp; omega), unhide B10⟩
end Go.Proofs.YtdnbhomjfgpcfaaDoor
