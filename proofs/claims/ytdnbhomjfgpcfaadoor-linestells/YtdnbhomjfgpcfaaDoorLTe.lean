/- LinesTells. -/
import Derived.Test.YtdnbhomjfgpcfaaDoorLB
import Derived.Test.YtdnbhomjfgpcfaaDoorLA
import Derived.Test.YtdnbhomjfgpcfaaDoorLRA
namespace Go.Proofs.YtdnbhomjfgpcfaaDoor
set_option linter.unusedVariables false
set_option linter.unusedSimpArgs false
open Go.ChangeShapes Go.WideShapes Go.ChangeAt Go.RowKit Go.Joins Go.Deep

theorem line_shape (cs : List (List UInt8)) (i : Int) : ∃ (T : ByteArray) (e : Int), lineE cs i = .tuple #[.string T, .int .i64 e] := by
  unfold lineE
  split
  · exact ⟨_, _, rfl⟩
  · exact ⟨_, _, rfl⟩
theorem at_shape (cs : List (List UInt8)) (i j : Int) : ∃ (a e : Int), atE cs i j = .tuple #[.int .i64 a, .int .i64 e] := by
  unfold atE
  split
  · exact ⟨_, _, rfl⟩
  · exact ⟨_, _, rfl⟩
theorem where_shape (cs : List (List UInt8)) (i : Int) : ∃ (a b e : Int), whereE cs i = .tuple #[.int .i64 a, .int .i64 b, .int .i64 e] := by
  unfold whereE
  split
  · exact ⟨_, _, _, rfl⟩
  · exact ⟨_, _, _, rfl⟩
set_option maxRecDepth 100000 in
set_option maxHeartbeats 4000000 in
theorem tells_law (s : ByteArray) (i j p : Int) (w : World) (hT : UT w) (y1 : -9223372036854775808 ≤ i) (x1 : i ≤ 9223372036854775807) (y2 : -9223372036854775808 ≤ j) (x2 : j ≤ 9223372036854775807) (y3 : -9223372036854775808 ≤ p) (x3 : p ≤ 9223372036854775807) (hs0 : s.size ≤ 140737488351232) : Calls Tryd.prog 3 #[.string s, .int .i64 i, .int .i64 j, .int .i64 p] w fun r w' => r = .returned (.bool true) ∧ Below w.heap.size w w' := by
  have HU : Hid (∀ W, Below w.heap.size w W → UT W) := hide (fun W h => hT.call h)
  have bP : Below w.heap.size w (w.alloc (.cells #[.string s] 9)) := (Below.refl _ _).alloc (Nat.le_refl _) _
  have KS := hide (long_any w.heap.size (.slice (some ⟨w.heap.size, 0, none⟩) 1 1) [s] (w.alloc (.cells #[.string s] 9)) (own_row (RowAt.new w 9 [.string s]) (Nat.le_refl _) (by show 1 ≤ maxLen; unfold maxLen; omega)) (by simp))
  have B1 := hide bP
  clear hT bP
  obtain ⟨w1, hw1⟩ : ∃ z, w.alloc (.cells #[.string s] 9) = z := ⟨_, rfl⟩
  have HW1 := hide hw1
  rw [hw1] at KS B1
  clear hw1
  go_enter Tryd.func3, Tryd.ntmps3
  go_wp2_with fail
  try rw [unhide HW1]
  clear HW1
  refine Calls.mono (unhide KS) ?_
  rintro r w2 ⟨rfl, rfl⟩
  cases hlb : longB [s] with
  | true =>
    have KA := hide (awake_any w1 (unhide HU _ (unhide B1)))
    go_wp2_with fail
    refine Calls.mono (unhide KA) ?_
    rintro r w9 ⟨rfl, b9⟩
    have B9 := hide ((unhide B1).trans (b9.mono (unhide B1).size))
    clear b9
    go_wp2_with fail
    go_ret
    exact ⟨rfl, unhide B9⟩
  | false =>
    have hsz : s.size ≤ 2048 := by simp [longB] at hlb; exact hlb
    have KN := hide (new_any s w1 (unhide HU _ (unhide B1)) (by omega))
    clear hlb
    go_wp2_with fail
    refine Calls.mono (unhide KN) ?_
    rintro r w3 ⟨h3, b3⟩
    have B3 := hide ((unhide B1).trans (b3.mono (unhide B1).size))
    have KR := hide (rnew_any s w3 (by omega))
    clear b3 KN
    rcases h3 with ⟨hv, rfl⟩ | ⟨cs, g, vr, vs, hx, rfl, hi⟩
    · have HV := hide hv
      clear hv
      go_wp2_with fail
      refine Calls.mono (unhide KR) ?_
      rintro r w4 ⟨h4, b4⟩
      have B4 := hide ((unhide B3).trans (b4.mono (unhide B3).size))
      clear b4 KR
      rcases h4 with ⟨-, rfl⟩ | ⟨cs, g2, vr2, hx, rfl, hi⟩
      · clear HV
        have KA := hide (awake_any w4 (unhide HU _ (unhide B4)))
        go_wp2_with fail
        refine Calls.mono (unhide KA) ?_
        rintro r w9 ⟨rfl, b9⟩
        have B9 := hide ((unhide B4).trans (b9.mono (unhide B4).size))
        clear b9
        go_wp2_with fail
        go_ret
        exact ⟨rfl, unhide B9⟩
      · exfalso
        have h9 := hx.valid
        rw [unhide HV] at h9
        cases h9
    · have hfew : cs.length ≤ 2048 := by have := hx.cps.len; rw [← hx.size] at this; omega
      have HX := hide hx
      have HI := hide hi
      clear hx hi
      go_wp2_with fail
      refine Calls.mono (unhide KR) ?_
      rintro r w4 ⟨h4, b4⟩
      have HI4 := hide ((unhide HI).call b4)
      have B4 := hide ((unhide B3).trans (b4.mono (unhide B3).size))
      clear b4 KR HI
      rcases h4 with ⟨hv, rfl⟩ | ⟨cs2, g2, vr2, hx2, rfl, hi2⟩
      · exfalso
        have h9 := (unhide HX).valid
        rw [hv] at h9
        cases h9
      · obtain rfl : cs = cs2 := (unhide HX).inj hx2
        have HJ := hide hi2
        clear hx2 hi2
        obtain ⟨T, e1, z1⟩ := line_shape cs i
        obtain ⟨a, e2, z2⟩ := at_shape cs i j
        obtain ⟨b, c, e3, z3⟩ := where_shape cs p
        have HZ1 := hide z1
        have HZ2 := hide z2
        have HZ3 := hide z3
        have C4 := hide (Below.refl w4.heap.size w4)
        clear z1 z2 z3
        have K5 := hide (line_ok ((unhide HI4).call (unhide C4)) (unhide HX).cps i (by omega) ((unhide HI4).call (unhide C4)).sm)
        rw [unhide HZ1] at K5
        go_wp2_with fail
        refine Calls.mono (unhide K5) ?_
        rintro r w5 ⟨rfl, b5⟩
        have C5 := hide ((unhide C4).trans (b5.mono (unhide C4).size))
        clear b5 K5
        have K6 := hide (rline_ok ((unhide HJ).call (unhide C5)) (unhide HX).cps (by omega) i)
        rw [unhide HZ1] at K6
        go_wp2_with fail
        refine Calls.mono (unhide K6) ?_
        rintro r w6 ⟨rfl, b6⟩
        have C6 := hide ((unhide C5).trans (b6.mono (unhide C5).size))
        clear b6 K6
        have K7 := hide (at_ok ((unhide HI4).call (unhide C6)) i j (by omega) (by omega))
        rw [unhide HZ2] at K7
        go_wp2_with fail
        refine Calls.mono (unhide K7) ?_
        rintro r w7 ⟨rfl, b7⟩
        have C7 := hide ((unhide C6).trans (b7.mono (unhide C6).size))
        clear b7 K7
        have K8 := hide (rat_ok ((unhide HJ).call (unhide C7)) (by omega) i j (by omega))
        rw [unhide HZ2] at K8
        go_wp2_with fail
        refine Calls.mono (unhide K8) ?_
        rintro r w8 ⟨rfl, b8⟩
        have C8 := hide ((unhide C7).trans (b8.mono (unhide C7).size))
        clear b8 K8
        have K9 := hide (where_ok ((unhide HI4).call (unhide C8)) p (by omega))
        rw [unhide HZ3] at K9
        go_wp2_with fail
        refine Calls.mono (unhide K9) ?_
        rintro r w9 ⟨rfl, b9⟩
        have C9 := hide ((unhide C8).trans (b9.mono (unhide C8).size))
        clear b9 K9
        have K10 := hide (rwhere_ok ((unhide HJ).call (unhide C9)) (by omega) p)
        rw [unhide HZ3] at K10
        go_wp2_with fail
        refine Calls.mono (unhide K10) ?_
        rintro r w10 ⟨rfl, rfl⟩
        clear K10
        obtain ⟨ar, cr, as_, c_, f1, f2, q0, q1⟩ := ((unhide HI4).call (unhide C9)).two
        obtain ⟨ar2, cr2, f3, q2, _, _⟩ := ((unhide HJ).call (unhide C9)).one
        have HF1 := hide (And.intro f1 (And.intro f2 f3))
        have BZ := hide ((unhide B4).trans ((unhide C9).mono (unhide B4).size))
        obtain ⟨n, hn⟩ : ∃ z, cs.length = z := ⟨_, rfl⟩
        obtain ⟨m, hm⟩ : ∃ z, (sts cs).length = z := ⟨_, rfl⟩
        have KLen := hide (fun W (hb : Below w9.heap.size w9 W) => len_ok g W as_ m c_ (by rw [← hm]; exact kept hb q1))
        have KSz := hide (fun W (hb : Below w9.heap.size w9 W) => size_ok g W ar n cr (by rw [← hn]; exact kept hb q0))
        have KBg := hide (fun W (hb : Below w9.heap.size w9 W) => begins_ok (((unhide HJ).call (unhide C9)).call hb) (by omega))
        have KAw := hide (fun W (hb : Below w9.heap.size w9 W) => awake_any W (unhide HU _ ((unhide BZ).trans (hb.mono (unhide BZ).size))))
        have HQ2 : Hid (∀ W, Below w9.heap.size w9 W → W.cell? ⟨g2, 0, none⟩ = some (.slice ar2 n cr2)) := hide (fun W hb => by rw [← hn]; exact kept hb q2)
        have HM := hide hm
        have k0 : Below w9.heap.size w9 w9.drew := (Below.refl _ _).drew
        clear q0 q1 q2 hn hm f1 f2 f3
        go_wp2_with fail
        go_region_held3 (fun W => W.cell? ⟨g2, 0, none⟩ = some (.slice ar2 n cr2))
          (first | exact unhide HQ2 _ k0 | exact unhide HQ2 _ k1 | exact unhide HQ2 _ k2)
          (first | (go_at_call 22; refine Calls.mono (unhide KLen w9.drew k0) ?_; rintro e wa ⟨rfl, rfl⟩) | (go_at_call 23; refine Calls.mono (unhide KBg w9.drew k0) ?_; rintro e wb ⟨vb, rfl, ob, b1⟩; rw [unhide HM] at ob; obtain ⟨ab, cb, rfl, _, _⟩ := own_sl ob; have k1 : Below w9.heap.size w9 wb := k0.trans (b1.mono k0.size)) | (go_at_call 24; refine Calls.mono (unhide KSz _ k1) ?_; rintro e wc ⟨rfl, rfl⟩) | (go_at_call 13; refine Calls.mono (unhide KAw _ k1) ?_; rintro e wd ⟨rfl, b2⟩; have k2 : Below w9.heap.size w9 wd := k1.trans (b2.mono k1.size)))
        clear KLen KSz KBg KAw HQ2
        have BE := hide ((unhide BZ).trans (k2.mono (unhide BZ).size))
        clear k0 k1 k2 b1 b2 ob
        go_wp2_with fail
        go_ret
        exact ⟨by first | rfl | (simp; done), unhide BE⟩
end Go.Proofs.YtdnbhomjfgpcfaaDoor
