/- DiffLong. -/
import Derived.Test.YtonabfpgdgnpnaaDoorDCk
import Derived.Test.YtonabfpgdgnpnaaDoorPrn
namespace Go.Proofs.YtonabfpgdgnpnaaDoor
set_option linter.unusedVariables false
set_option linter.unusedSimpArgs false
open Go.ChangeShapes Go.WideShapes Go.ChangeAt Go.RowKit Go.Joins Go.Deep

def szOf (v : Value) : Nat := match v with | .string s => s.size | _ => 0
set_option maxRecDepth 100000 in
set_option maxHeartbeats 4000000 in
theorem longer_law (a : ByteArray) (i : Int) (b : ByteArray) (w : World) (hT : UT w) (y1 : -9223372036854775808 ≤ i) (x1 : i ≤ 9223372036854775807) (h0a : a.size ≤ 140737488351232) (h0b : b.size ≤ 140737488351232) : Calls Tryd.prog 10 #[.string a, .int .i64 i, .string b] w fun r w' => r = .returned (.bool true) ∧ Below w.heap.size w w' := by
  have HU : Hid (∀ W, Below w.heap.size w W → UT W) := hide (fun W h => hT.call h)
  have bP : Below w.heap.size w (w.alloc (.cells #[.string a, .string b] 9)) := (Below.refl _ _).alloc (Nat.le_refl _) _
  have KS := hide (long_any w.heap.size (.slice (some ⟨w.heap.size, 0, none⟩) 2 2) [a, b] (w.alloc (.cells #[.string a, .string b] 9)) (own_row (RowAt.new w 9 [.string a, .string b]) (Nat.le_refl _) (by show 2 ≤ maxLen; unfold maxLen; omega)) (by simp))
  have B1 := hide bP
  obtain ⟨w1, hw1⟩ : ∃ z, w.alloc (.cells #[.string a, .string b] 9) = z := ⟨_, rfl⟩
  have HW1 := hide hw1
  rw [hw1] at KS B1
  clear hT bP hw1
  go_enter Tryd.func10, Tryd.ntmps10
  go_wp2_with fail
  try rw [unhide HW1]
  clear HW1
  refine Calls.mono (unhide KS) ?_
  rintro r w2 ⟨rfl, rfl⟩
  cases hlb : longB [a, b] with
  | true =>
    have KA := hide (awake_any w1 (unhide HU _ (unhide B1)))
    go_wp2_with fail
    refine Calls.mono (unhide KA) ?_
    rintro r w99 ⟨rfl, b99⟩
    have B99 := hide ((unhide B1).trans (b99.mono (unhide B1).size))
    clear b99
    go_wp2_with fail
    go_ret
    exact ⟨by first | rfl | (simp; done), unhide B99⟩
  | false =>
    have hszs : a.size ≤ 200 ∧ b.size ≤ 200 := by simpa [longB] using hlb
    clear hlb
    by_cases hae : a.size = 0
    · have hae1 : a.toList.isEmpty = true := by rw [toList_empty]; simp [hae]
      have KA := hide (awake_any w1 (unhide HU _ (unhide B1)))
      go_wp2_with fail
      refine Calls.mono (unhide KA) ?_
      rintro r w99 ⟨rfl, b99⟩
      have B99 := hide ((unhide B1).trans (b99.mono (unhide B1).size))
      clear b99
      go_wp2_with fail
      go_ret
      exact ⟨by first | rfl | (simp; done), unhide B99⟩
    have hae1 : a.toList.isEmpty = false := by rw [toList_empty]; simp [hae]
    go_wp2_with fail
    obtain ⟨m, hm⟩ : ∃ z, wrap64 ((IntKind.u64.wrap i).tmod 1200) = z := ⟨_, rfl⟩
    rw [hm]
    clear hm
    go_loopw [0] (fun iv wr => ∃ S : ByteArray, S.size ≤ 16384 ∧ 0 < S.size ∧ iv = .string S ∧ Hid (Below w.heap.size w wr)) (fun iv _ => 16384 - szOf iv)
    case atStart => exact ⟨a, by omega, by omega, rfl, B1⟩
    case round =>
      clear B1
      obtain ⟨S, hS1, hS0, rfl, B1⟩ := hrel
      have KC := hide (counts_any S wr (by omega))
      go_wp2_with fail
      refine Calls.mono (unhide KC) ?_
      rintro r w2 ⟨rfl, b2⟩
      have B2 := hide ((unhide B1).trans (b2.mono (unhide B1).size))
      clear b2 KC
      obtain ⟨n, hn⟩ : ∃ z, Lib.runeCount S = z := ⟨_, rfl⟩
      rw [hn]
      clear hn
      by_cases c1 : (n : Int) < m
      · by_cases c2 : (S.size : Int) < 8192
        · have hle : 0 ≤ 1 := by omega
          go_wp2_with fail
          exact ⟨⟨S ++ S, by rw [ByteArray.size_append]; omega, by rw [ByteArray.size_append]; omega, rfl, B2⟩, by simp only [szOf, ByteArray.size_append]; omega⟩
        · skip
          by_cases c5 : 8192 < S.size
          · have c5I : (8192 : Int) < (S.size : Int) := by omega
            have KA := hide (awake_any w2 (unhide HU _ (unhide B2)))
            go_wp2_with fail
            refine Calls.mono (unhide KA) ?_
            rintro r w99 ⟨rfl, b99⟩
            have B99 := hide ((unhide B2).trans (b99.mono (unhide B2).size))
            clear b99
            go_wp2_with fail
            go_ret
            exact ⟨by first | rfl | (simp; done), unhide B99⟩
          · have c5I : ¬ (8192 : Int) < (S.size : Int) := by omega
            have KD := hide (counts_any S w2 (by omega))
            obtain ⟨k, hk⟩ : ∃ z, Lib.runeCount S = z := ⟨_, rfl⟩
            rw [hk] at KD
            clear hk
            by_cases c6 : k ≤ 1024
            · have c6I : (k : Int) ≤ 1024 := by omega
              go_wp2_with fail
              refine Calls.mono (unhide KD) ?_
              rintro r v2 ⟨rfl, d2⟩
              have D2 := hide ((unhide B2).trans (d2.mono (unhide B2).size))
              clear d2 KD
              have KE := hide (counts_any b v2 (by omega))
              obtain ⟨q, hq⟩ : ∃ z, Lib.runeCount b = z := ⟨_, rfl⟩
              rw [hq] at KE
              clear hq
              go_wp2_with fail
              refine Calls.mono (unhide KE) ?_
              rintro r v3 ⟨rfl, d3⟩
              have D3 := hide ((unhide D2).trans (d3.mono (unhide D2).size))
              clear d3 KE
              by_cases c7 : 100 < q
              · have c7I : (100 : Int) < (q : Int) := by omega
                have KA := hide (awake_any v3 (unhide HU _ (unhide D3)))
                go_wp2_with fail
                refine Calls.mono (unhide KA) ?_
                rintro r w99 ⟨rfl, b99⟩
                have B99 := hide ((unhide D3).trans (b99.mono (unhide D3).size))
                clear b99
                go_wp2_with fail
                go_ret
                exact ⟨by first | rfl | (simp; done), unhide B99⟩
              · have c7I : ¬ (100 : Int) < (q : Int) := by omega
                have K1 := hide (rchk_any S v3 (by omega))
                go_wp2_with fail
                refine Calls.mono (unhide K1) ?_
                rintro r w3 ⟨rfl, b3⟩
                have B3 := hide ((unhide D3).trans (b3.mono (unhide D3).size))
                clear b3 K1
                obtain ⟨u, hu⟩ : ∃ z, chkE S = z := ⟨_, rfl⟩
                rw [hu]
                by_cases hu0 : u = 0
                · subst hu0
                  have K1 := hide (rchk_any b w3 (by omega))
                  go_wp2_with fail
                  refine Calls.mono (unhide K1) ?_
                  rintro r w4 ⟨rfl, b4⟩
                  have B4 := hide ((unhide B3).trans (b4.mono (unhide B3).size))
                  clear b4 K1
                  obtain ⟨v, hv⟩ : ∃ z, chkE b = z := ⟨_, rfl⟩
                  rw [hv]
                  have HF : Hid (firstE [S, b] = v ∧ firstE [S, b, b] = v) := hide (by
                    by_cases h0 : v = 0
                    · subst h0; simp [firstE, hu, hv]
                    · simp [firstE, hu, hv, h0])
                  clear hu hv
                  have K2 := hide (diff_any S b w4 (unhide HU _ (unhide B4)) (by omega) (by omega))
                  go_wp2_with fail
                  refine Calls.mono (unhide K2) ?_
                  rintro r w5 ⟨h5, b5⟩
                  have B5 := hide ((unhide B4).trans (b5.mono (unhide B4).size))
                  have K3 := hide (kept2_any S b w5 (unhide HU _ (unhide B5)) (by omega) (by omega))
                  clear b5 K2
                  by_cases hz : v = 0
                  · have hzI := hz
                    rcases h5 with ⟨h9, _⟩ | ⟨_, x, y, vv, l, _, _, _, _, rfl, _, _, _⟩
                    · exact absurd ((unhide HF).1.trans hz) h9
                    subst hz
                    clear hzI
                    go_wp2_with fail
                    refine Calls.mono (unhide K3) ?_
                    rintro r w6 ⟨h6, b6⟩
                    have B6 := hide ((unhide B5).trans (b6.mono (unhide B5).size))
                    have K4 := hide (merge_any S b b w6 (unhide HU _ (unhide B6)) (by omega) (by omega) (by omega))
                    clear b6 K3
                    rcases h6 with ⟨h9, _⟩ | ⟨_, x, y, _, _, _, _, rfl⟩
                    · exact absurd (unhide HF).1 h9
                    go_wp2_with fail
                    refine Calls.mono (unhide K4) ?_
                    rintro r w7 ⟨h7, b7⟩
                    have B7 := hide ((unhide B6).trans (b7.mono (unhide B6).size))
                    clear b7 K4
                    rcases h7 with ⟨h9, _⟩ | ⟨_, x, y, z, R, _, _, _, _, _, _, rfl, _⟩
                    · exact absurd (unhide HF).2 h9
                    have KA := hide (awake_any w7 (unhide HU _ (unhide B7)))
                    go_wp2_with fail
                    refine Calls.mono (unhide KA) ?_
                    rintro r w99 ⟨rfl, b99⟩
                    have B99 := hide ((unhide B7).trans (b99.mono (unhide B7).size))
                    clear b99
                    go_wp2_with fail
                    go_ret
                    exact ⟨by first | rfl | (simp; done), unhide B99⟩
                  · rcases h5 with ⟨_, rfl⟩ | ⟨h9, _⟩
                    rotate_left
                    · exact absurd ((unhide HF).1.symm.trans h9) hz
                    rw [(unhide HF).1]
                    go_wp2_with fail
                    refine Calls.mono (unhide K3) ?_
                    rintro r w6 ⟨h6, b6⟩
                    have B6 := hide ((unhide B5).trans (b6.mono (unhide B5).size))
                    have K4 := hide (merge_any S b b w6 (unhide HU _ (unhide B6)) (by omega) (by omega) (by omega))
                    clear b6 K3
                    rcases h6 with ⟨_, rfl⟩ | ⟨h9, _⟩
                    rotate_left
                    · exact absurd ((unhide HF).1.symm.trans h9) hz
                    rw [(unhide HF).1]
                    go_wp2_with fail
                    refine Calls.mono (unhide K4) ?_
                    rintro r w7 ⟨h7, b7⟩
                    have B7 := hide ((unhide B6).trans (b7.mono (unhide B6).size))
                    clear b7 K4
                    rcases h7 with ⟨_, rfl⟩ | ⟨h9, _⟩
                    rotate_left
                    · exact absurd ((unhide HF).2.symm.trans h9) hz
                    rw [(unhide HF).2]
                    have KA := hide (awake_any w7 (unhide HU _ (unhide B7)))
                    go_wp2_with fail
                    refine Calls.mono (unhide KA) ?_
                    rintro r w99 ⟨rfl, b99⟩
                    have B99 := hide ((unhide B7).trans (b99.mono (unhide B7).size))
                    clear b99
                    go_wp2_with fail
                    go_ret
                    exact ⟨by first | rfl | (simp; done), unhide B99⟩
                · have HF : Hid (firstE [S, b] = u ∧ firstE [S, b, b] = u) := hide (by simp [firstE, hu, hu0])
                  clear hu
                  have K2 := hide (diff_any S b w3 (unhide HU _ (unhide B3)) (by omega) (by omega))
                  go_wp2_with fail
                  refine Calls.mono (unhide K2) ?_
                  rintro r w5 ⟨h5, b5⟩
                  have B5 := hide ((unhide B3).trans (b5.mono (unhide B3).size))
                  have K3 := hide (kept2_any S b w5 (unhide HU _ (unhide B5)) (by omega) (by omega))
                  clear b5 K2
                  have hz := hu0
                  rcases h5 with ⟨_, rfl⟩ | ⟨h9, _⟩
                  rotate_left
                  · exact absurd ((unhide HF).1.symm.trans h9) hz
                  rw [(unhide HF).1]
                  go_wp2_with fail
                  refine Calls.mono (unhide K3) ?_
                  rintro r w6 ⟨h6, b6⟩
                  have B6 := hide ((unhide B5).trans (b6.mono (unhide B5).size))
                  have K4 := hide (merge_any S b b w6 (unhide HU _ (unhide B6)) (by omega) (by omega) (by omega))
                  clear b6 K3
                  rcases h6 with ⟨_, rfl⟩ | ⟨h9, _⟩
                  rotate_left
                  · exact absurd ((unhide HF).1.symm.trans h9) hz
                  rw [(unhide HF).1]
                  go_wp2_with fail
                  refine Calls.mono (unhide K4) ?_
                  rintro r w7 ⟨h7, b7⟩
                  have B7 := hide ((unhide B6).trans (b7.mono (unhide B6).size))
                  clear b7 K4
                  rcases h7 with ⟨_, rfl⟩ | ⟨h9, _⟩
                  rotate_left
                  · exact absurd ((unhide HF).2.symm.trans h9) hz
                  rw [(unhide HF).2]
                  have KA := hide (awake_any w7 (unhide HU _ (unhide B7)))
                  go_wp2_with fail
                  refine Calls.mono (unhide KA) ?_
                  rintro r w99 ⟨rfl, b99⟩
                  have B99 := hide ((unhide B7).trans (b99.mono (unhide B7).size))
                  clear b99
                  go_wp2_with fail
                  go_ret
                  exact ⟨by first | rfl | (simp; done), unhide B99⟩
            · have c6I : ¬ (k : Int) ≤ 1024 := by omega
              go_wp2_with fail
              refine Calls.mono (unhide KD) ?_
              rintro r v2 ⟨rfl, d2⟩
              have D2 := hide ((unhide B2).trans (d2.mono (unhide B2).size))
              clear d2 KD
              have K1 := hide (rchk_any S v2 (by omega))
              go_wp2_with fail
              refine Calls.mono (unhide K1) ?_
              rintro r w3 ⟨rfl, b3⟩
              have B3 := hide ((unhide D2).trans (b3.mono (unhide D2).size))
              clear b3 K1
              obtain ⟨u, hu⟩ : ∃ z, chkE S = z := ⟨_, rfl⟩
              rw [hu]
              by_cases hu0 : u = 0
              · subst hu0
                have K1 := hide (rchk_any b w3 (by omega))
                go_wp2_with fail
                refine Calls.mono (unhide K1) ?_
                rintro r w4 ⟨rfl, b4⟩
                have B4 := hide ((unhide B3).trans (b4.mono (unhide B3).size))
                clear b4 K1
                obtain ⟨v, hv⟩ : ∃ z, chkE b = z := ⟨_, rfl⟩
                rw [hv]
                have HF : Hid (firstE [S, b] = v ∧ firstE [S, b, b] = v) := hide (by
                  by_cases h0 : v = 0
                  · subst h0; simp [firstE, hu, hv]
                  · simp [firstE, hu, hv, h0])
                clear hu hv
                have K2 := hide (diff_any S b w4 (unhide HU _ (unhide B4)) (by omega) (by omega))
                go_wp2_with fail
                refine Calls.mono (unhide K2) ?_
                rintro r w5 ⟨h5, b5⟩
                have B5 := hide ((unhide B4).trans (b5.mono (unhide B4).size))
                have K3 := hide (kept2_any S b w5 (unhide HU _ (unhide B5)) (by omega) (by omega))
                clear b5 K2
                by_cases hz : v = 0
                · have hzI := hz
                  rcases h5 with ⟨h9, _⟩ | ⟨_, x, y, vv, l, _, _, _, _, rfl, _, _, _⟩
                  · exact absurd ((unhide HF).1.trans hz) h9
                  subst hz
                  clear hzI
                  go_wp2_with fail
                  refine Calls.mono (unhide K3) ?_
                  rintro r w6 ⟨h6, b6⟩
                  have B6 := hide ((unhide B5).trans (b6.mono (unhide B5).size))
                  have K4 := hide (merge_any S b b w6 (unhide HU _ (unhide B6)) (by omega) (by omega) (by omega))
                  clear b6 K3
                  rcases h6 with ⟨h9, _⟩ | ⟨_, x, y, _, _, _, _, rfl⟩
                  · exact absurd (unhide HF).1 h9
                  go_wp2_with fail
                  refine Calls.mono (unhide K4) ?_
                  rintro r w7 ⟨h7, b7⟩
                  have B7 := hide ((unhide B6).trans (b7.mono (unhide B6).size))
                  clear b7 K4
                  rcases h7 with ⟨h9, _⟩ | ⟨_, x, y, z, R, _, _, _, _, _, _, rfl, _⟩
                  · exact absurd (unhide HF).2 h9
                  have KA := hide (awake_any w7 (unhide HU _ (unhide B7)))
                  go_wp2_with fail
                  refine Calls.mono (unhide KA) ?_
                  rintro r w99 ⟨rfl, b99⟩
                  have B99 := hide ((unhide B7).trans (b99.mono (unhide B7).size))
                  clear b99
                  go_wp2_with fail
                  go_ret
                  exact ⟨by first | rfl | (simp; done), unhide B99⟩
                · rcases h5 with ⟨_, rfl⟩ | ⟨h9, _⟩
                  rotate_left
                  · exact absurd ((unhide HF).1.symm.trans h9) hz
                  rw [(unhide HF).1]
                  go_wp2_with fail
                  refine Calls.mono (unhide K3) ?_
                  rintro r w6 ⟨h6, b6⟩
                  have B6 := hide ((unhide B5).trans (b6.mono (unhide B5).size))
                  have K4 := hide (merge_any S b b w6 (unhide HU _ (unhide B6)) (by omega) (by omega) (by omega))
                  clear b6 K3
                  rcases h6 with ⟨_, rfl⟩ | ⟨h9, _⟩
                  rotate_left
                  · exact absurd ((unhide HF).1.symm.trans h9) hz
                  rw [(unhide HF).1]
                  go_wp2_with fail
                  refine Calls.mono (unhide K4) ?_
                  rintro r w7 ⟨h7, b7⟩
                  have B7 := hide ((unhide B6).trans (b7.mono (unhide B6).size))
                  clear b7 K4
                  rcases h7 with ⟨_, rfl⟩ | ⟨h9, _⟩
                  rotate_left
                  · exact absurd ((unhide HF).2.symm.trans h9) hz
                  rw [(unhide HF).2]
                  have KA := hide (awake_any w7 (unhide HU _ (unhide B7)))
                  go_wp2_with fail
                  refine Calls.mono (unhide KA) ?_
                  rintro r w99 ⟨rfl, b99⟩
                  have B99 := hide ((unhide B7).trans (b99.mono (unhide B7).size))
                  clear b99
                  go_wp2_with fail
                  go_ret
                  exact ⟨by first | rfl | (simp; done), unhide B99⟩
              · have HF : Hid (firstE [S, b] = u ∧ firstE [S, b, b] = u) := hide (by simp [firstE, hu, hu0])
                clear hu
                have K2 := hide (diff_any S b w3 (unhide HU _ (unhide B3)) (by omega) (by omega))
                go_wp2_with fail
                refine Calls.mono (unhide K2) ?_
                rintro r w5 ⟨h5, b5⟩
                have B5 := hide ((unhide B3).trans (b5.mono (unhide B3).size))
                have K3 := hide (kept2_any S b w5 (unhide HU _ (unhide B5)) (by omega) (by omega))
                clear b5 K2
                have hz := hu0
                rcases h5 with ⟨_, rfl⟩ | ⟨h9, _⟩
                rotate_left
                · exact absurd ((unhide HF).1.symm.trans h9) hz
                rw [(unhide HF).1]
                go_wp2_with fail
                refine Calls.mono (unhide K3) ?_
                rintro r w6 ⟨h6, b6⟩
                have B6 := hide ((unhide B5).trans (b6.mono (unhide B5).size))
                have K4 := hide (merge_any S b b w6 (unhide HU _ (unhide B6)) (by omega) (by omega) (by omega))
                clear b6 K3
                rcases h6 with ⟨_, rfl⟩ | ⟨h9, _⟩
                rotate_left
                · exact absurd ((unhide HF).1.symm.trans h9) hz
                rw [(unhide HF).1]
                go_wp2_with fail
                refine Calls.mono (unhide K4) ?_
                rintro r w7 ⟨h7, b7⟩
                have B7 := hide ((unhide B6).trans (b7.mono (unhide B6).size))
                clear b7 K4
                rcases h7 with ⟨_, rfl⟩ | ⟨h9, _⟩
                rotate_left
                · exact absurd ((unhide HF).2.symm.trans h9) hz
                rw [(unhide HF).2]
                have KA := hide (awake_any w7 (unhide HU _ (unhide B7)))
                go_wp2_with fail
                refine Calls.mono (unhide KA) ?_
                rintro r w99 ⟨rfl, b99⟩
                have B99 := hide ((unhide B7).trans (b99.mono (unhide B7).size))
                clear b99
                go_wp2_with fail
                go_ret
                exact ⟨by first | rfl | (simp; done), unhide B99⟩
      · skip
        by_cases c5 : 8192 < S.size
        · have c5I : (8192 : Int) < (S.size : Int) := by omega
          have KA := hide (awake_any w2 (unhide HU _ (unhide B2)))
          go_wp2_with fail
          refine Calls.mono (unhide KA) ?_
          rintro r w99 ⟨rfl, b99⟩
          have B99 := hide ((unhide B2).trans (b99.mono (unhide B2).size))
          clear b99
          go_wp2_with fail
          go_ret
          exact ⟨by first | rfl | (simp; done), unhide B99⟩
        · have c5I : ¬ (8192 : Int) < (S.size : Int) := by omega
          have KD := hide (counts_any S w2 (by omega))
          obtain ⟨k, hk⟩ : ∃ z, Lib.runeCount S = z := ⟨_, rfl⟩
          rw [hk] at KD
          clear hk
          by_cases c6 : k ≤ 1024
          · have c6I : (k : Int) ≤ 1024 := by omega
            go_wp2_with fail
            refine Calls.mono (unhide KD) ?_
            rintro r v2 ⟨rfl, d2⟩
            have D2 := hide ((unhide B2).trans (d2.mono (unhide B2).size))
            clear d2 KD
            have KE := hide (counts_any b v2 (by omega))
            obtain ⟨q, hq⟩ : ∃ z, Lib.runeCount b = z := ⟨_, rfl⟩
            rw [hq] at KE
            clear hq
            go_wp2_with fail
            refine Calls.mono (unhide KE) ?_
            rintro r v3 ⟨rfl, d3⟩
            have D3 := hide ((unhide D2).trans (d3.mono (unhide D2).size))
            clear d3 KE
            by_cases c7 : 100 < q
            · have c7I : (100 : Int) < (q : Int) := by omega
              have KA := hide (awake_any v3 (unhide HU _ (unhide D3)))
              go_wp2_with fail
              refine Calls.mono (unhide KA) ?_
              rintro r w99 ⟨rfl, b99⟩
              have B99 := hide ((unhide D3).trans (b99.mono (unhide D3).size))
              clear b99
              go_wp2_with fail
              go_ret
              exact ⟨by first | rfl | (simp; done), unhide B99⟩
            · have c7I : ¬ (100 : Int) < (q : Int) := by omega
              have K1 := hide (rchk_any S v3 (by omega))
              go_wp2_with fail
              refine Calls.mono (unhide K1) ?_
              rintro r w3 ⟨rfl, b3⟩
              have B3 := hide ((unhide D3).trans (b3.mono (unhide D3).size))
              clear b3 K1
              obtain ⟨u, hu⟩ : ∃ z, chkE S = z := ⟨_, rfl⟩
              rw [hu]
              by_cases hu0 : u = 0
              · subst hu0
                have K1 := hide (rchk_any b w3 (by omega))
                go_wp2_with fail
                refine Calls.mono (unhide K1) ?_
                rintro r w4 ⟨rfl, b4⟩
                have B4 := hide ((unhide B3).trans (b4.mono (unhide B3).size))
                clear b4 K1
                obtain ⟨v, hv⟩ : ∃ z, chkE b = z := ⟨_, rfl⟩
                rw [hv]
                have HF : Hid (firstE [S, b] = v ∧ firstE [S, b, b] = v) := hide (by
                  by_cases h0 : v = 0
                  · subst h0; simp [firstE, hu, hv]
                  · simp [firstE, hu, hv, h0])
                clear hu hv
                have K2 := hide (diff_any S b w4 (unhide HU _ (unhide B4)) (by omega) (by omega))
                go_wp2_with fail
                refine Calls.mono (unhide K2) ?_
                rintro r w5 ⟨h5, b5⟩
                have B5 := hide ((unhide B4).trans (b5.mono (unhide B4).size))
                have K3 := hide (kept2_any S b w5 (unhide HU _ (unhide B5)) (by omega) (by omega))
                clear b5 K2
                by_cases hz : v = 0
                · have hzI := hz
                  rcases h5 with ⟨h9, _⟩ | ⟨_, x, y, vv, l, _, _, _, _, rfl, _, _, _⟩
                  · exact absurd ((unhide HF).1.trans hz) h9
                  subst hz
                  clear hzI
                  go_wp2_with fail
                  refine Calls.mono (unhide K3) ?_
                  rintro r w6 ⟨h6, b6⟩
                  have B6 := hide ((unhide B5).trans (b6.mono (unhide B5).size))
                  have K4 := hide (merge_any S b b w6 (unhide HU _ (unhide B6)) (by omega) (by omega) (by omega))
                  clear b6 K3
                  rcases h6 with ⟨h9, _⟩ | ⟨_, x, y, _, _, _, _, rfl⟩
                  · exact absurd (unhide HF).1 h9
                  go_wp2_with fail
                  refine Calls.mono (unhide K4) ?_
                  rintro r w7 ⟨h7, b7⟩
                  have B7 := hide ((unhide B6).trans (b7.mono (unhide B6).size))
                  clear b7 K4
                  rcases h7 with ⟨h9, _⟩ | ⟨_, x, y, z, R, _, _, _, _, _, _, rfl, _⟩
                  · exact absurd (unhide HF).2 h9
                  have KA := hide (awake_any w7 (unhide HU _ (unhide B7)))
                  go_wp2_with fail
                  refine Calls.mono (unhide KA) ?_
                  rintro r w99 ⟨rfl, b99⟩
                  have B99 := hide ((unhide B7).trans (b99.mono (unhide B7).size))
                  clear b99
                  go_wp2_with fail
                  go_ret
                  exact ⟨by first | rfl | (simp; done), unhide B99⟩
                · rcases h5 with ⟨_, rfl⟩ | ⟨h9, _⟩
                  rotate_left
                  · exact absurd ((unhide HF).1.symm.trans h9) hz
                  rw [(unhide HF).1]
                  go_wp2_with fail
                  refine Calls.mono (unhide K3) ?_
                  rintro r w6 ⟨h6, b6⟩
                  have B6 := hide ((unhide B5).trans (b6.mono (unhide B5).size))
                  have K4 := hide (merge_any S b b w6 (unhide HU _ (unhide B6)) (by omega) (by omega) (by omega))
                  clear b6 K3
                  rcases h6 with ⟨_, rfl⟩ | ⟨h9, _⟩
                  rotate_left
                  · exact absurd ((unhide HF).1.symm.trans h9) hz
                  rw [(unhide HF).1]
                  go_wp2_with fail
                  refine Calls.mono (unhide K4) ?_
                  rintro r w7 ⟨h7, b7⟩
                  have B7 := hide ((unhide B6).trans (b7.mono (unhide B6).size))
                  clear b7 K4
                  rcases h7 with ⟨_, rfl⟩ | ⟨h9, _⟩
                  rotate_left
                  · exact absurd ((unhide HF).2.symm.trans h9) hz
                  rw [(unhide HF).2]
                  have KA := hide (awake_any w7 (unhide HU _ (unhide B7)))
                  go_wp2_with fail
                  refine Calls.mono (unhide KA) ?_
                  rintro r w99 ⟨rfl, b99⟩
                  have B99 := hide ((unhide B7).trans (b99.mono (unhide B7).size))
                  clear b99
                  go_wp2_with fail
                  go_ret
                  exact ⟨by first | rfl | (simp; done), unhide B99⟩
              · have HF : Hid (firstE [S, b] = u ∧ firstE [S, b, b] = u) := hide (by simp [firstE, hu, hu0])
                clear hu
                have K2 := hide (diff_any S b w3 (unhide HU _ (unhide B3)) (by omega) (by omega))
                go_wp2_with fail
                refine Calls.mono (unhide K2) ?_
                rintro r w5 ⟨h5, b5⟩
                have B5 := hide ((unhide B3).trans (b5.mono (unhide B3).size))
                have K3 := hide (kept2_any S b w5 (unhide HU _ (unhide B5)) (by omega) (by omega))
                clear b5 K2
                have hz := hu0
                rcases h5 with ⟨_, rfl⟩ | ⟨h9, _⟩
                rotate_left
                · exact absurd ((unhide HF).1.symm.trans h9) hz
                rw [(unhide HF).1]
                go_wp2_with fail
                refine Calls.mono (unhide K3) ?_
                rintro r w6 ⟨h6, b6⟩
                have B6 := hide ((unhide B5).trans (b6.mono (unhide B5).size))
                have K4 := hide (merge_any S b b w6 (unhide HU _ (unhide B6)) (by omega) (by omega) (by omega))
                clear b6 K3
                rcases h6 with ⟨_, rfl⟩ | ⟨h9, _⟩
                rotate_left
                · exact absurd ((unhide HF).1.symm.trans h9) hz
                rw [(unhide HF).1]
                go_wp2_with fail
                refine Calls.mono (unhide K4) ?_
                rintro r w7 ⟨h7, b7⟩
                have B7 := hide ((unhide B6).trans (b7.mono (unhide B6).size))
                clear b7 K4
                rcases h7 with ⟨_, rfl⟩ | ⟨h9, _⟩
                rotate_left
                · exact absurd ((unhide HF).2.symm.trans h9) hz
                rw [(unhide HF).2]
                have KA := hide (awake_any w7 (unhide HU _ (unhide B7)))
                go_wp2_with fail
                refine Calls.mono (unhide KA) ?_
                rintro r w99 ⟨rfl, b99⟩
                have B99 := hide ((unhide B7).trans (b99.mono (unhide B7).size))
                clear b99
                go_wp2_with fail
                go_ret
                exact ⟨by first | rfl | (simp; done), unhide B99⟩
          · have c6I : ¬ (k : Int) ≤ 1024 := by omega
            go_wp2_with fail
            refine Calls.mono (unhide KD) ?_
            rintro r v2 ⟨rfl, d2⟩
            have D2 := hide ((unhide B2).trans (d2.mono (unhide B2).size))
            clear d2 KD
            have K1 := hide (rchk_any S v2 (by omega))
            go_wp2_with fail
            refine Calls.mono (unhide K1) ?_
            rintro r w3 ⟨rfl, b3⟩
            have B3 := hide ((unhide D2).trans (b3.mono (unhide D2).size))
            clear b3 K1
            obtain ⟨u, hu⟩ : ∃ z, chkE S = z := ⟨_, rfl⟩
            rw [hu]
            by_cases hu0 : u = 0
            · subst hu0
              have K1 := hide (rchk_any b w3 (by omega))
              go_wp2_with fail
              refine Calls.mono (unhide K1) ?_
              rintro r w4 ⟨rfl, b4⟩
              have B4 := hide ((unhide B3).trans (b4.mono (unhide B3).size))
              clear b4 K1
              obtain ⟨v, hv⟩ : ∃ z, chkE b = z := ⟨_, rfl⟩
              rw [hv]
              have HF : Hid (firstE [S, b] = v ∧ firstE [S, b, b] = v) := hide (by
                by_cases h0 : v = 0
                · subst h0; simp [firstE, hu, hv]
                · simp [firstE, hu, hv, h0])
              clear hu hv
              have K2 := hide (diff_any S b w4 (unhide HU _ (unhide B4)) (by omega) (by omega))
              go_wp2_with fail
              refine Calls.mono (unhide K2) ?_
              rintro r w5 ⟨h5, b5⟩
              have B5 := hide ((unhide B4).trans (b5.mono (unhide B4).size))
              have K3 := hide (kept2_any S b w5 (unhide HU _ (unhide B5)) (by omega) (by omega))
              clear b5 K2
              by_cases hz : v = 0
              · have hzI := hz
                rcases h5 with ⟨h9, _⟩ | ⟨_, x, y, vv, l, _, _, _, _, rfl, _, _, _⟩
                · exact absurd ((unhide HF).1.trans hz) h9
                subst hz
                clear hzI
                go_wp2_with fail
                refine Calls.mono (unhide K3) ?_
                rintro r w6 ⟨h6, b6⟩
                have B6 := hide ((unhide B5).trans (b6.mono (unhide B5).size))
                have K4 := hide (merge_any S b b w6 (unhide HU _ (unhide B6)) (by omega) (by omega) (by omega))
                clear b6 K3
                rcases h6 with ⟨h9, _⟩ | ⟨_, x, y, _, _, _, _, rfl⟩
                · exact absurd (unhide HF).1 h9
                go_wp2_with fail
                refine Calls.mono (unhide K4) ?_
                rintro r w7 ⟨h7, b7⟩
                have B7 := hide ((unhide B6).trans (b7.mono (unhide B6).size))
                clear b7 K4
                rcases h7 with ⟨h9, _⟩ | ⟨_, x, y, z, R, _, _, _, _, _, _, rfl, _⟩
                · exact absurd (unhide HF).2 h9
                have KA := hide (awake_any w7 (unhide HU _ (unhide B7)))
                go_wp2_with fail
                refine Calls.mono (unhide KA) ?_
                rintro r w99 ⟨rfl, b99⟩
                have B99 := hide ((unhide B7).trans (b99.mono (unhide B7).size))
                clear b99
                go_wp2_with fail
                go_ret
                exact ⟨by first | rfl | (simp; done), unhide B99⟩
              · rcases h5 with ⟨_, rfl⟩ | ⟨h9, _⟩
                rotate_left
                · exact absurd ((unhide HF).1.symm.trans h9) hz
                rw [(unhide HF).1]
                go_wp2_with fail
                refine Calls.mono (unhide K3) ?_
                rintro r w6 ⟨h6, b6⟩
                have B6 := hide ((unhide B5).trans (b6.mono (unhide B5).size))
                have K4 := hide (merge_any S b b w6 (unhide HU _ (unhide B6)) (by omega) (by omega) (by omega))
                clear b6 K3
                rcases h6 with ⟨_, rfl⟩ | ⟨h9, _⟩
                rotate_left
                · exact absurd ((unhide HF).1.symm.trans h9) hz
                rw [(unhide HF).1]
                go_wp2_with fail
                refine Calls.mono (unhide K4) ?_
                rintro r w7 ⟨h7, b7⟩
                have B7 := hide ((unhide B6).trans (b7.mono (unhide B6).size))
                clear b7 K4
                rcases h7 with ⟨_, rfl⟩ | ⟨h9, _⟩
                rotate_left
                · exact absurd ((unhide HF).2.symm.trans h9) hz
                rw [(unhide HF).2]
                have KA := hide (awake_any w7 (unhide HU _ (unhide B7)))
                go_wp2_with fail
                refine Calls.mono (unhide KA) ?_
                rintro r w99 ⟨rfl, b99⟩
                have B99 := hide ((unhide B7).trans (b99.mono (unhide B7).size))
                clear b99
                go_wp2_with fail
                go_ret
                exact ⟨by first | rfl | (simp; done), unhide B99⟩
            · have HF : Hid (firstE [S, b] = u ∧ firstE [S, b, b] = u) := hide (by simp [firstE, hu, hu0])
              clear hu
              have K2 := hide (diff_any S b w3 (unhide HU _ (unhide B3)) (by omega) (by omega))
              go_wp2_with fail
              refine Calls.mono (unhide K2) ?_
              rintro r w5 ⟨h5, b5⟩
              have B5 := hide ((unhide B3).trans (b5.mono (unhide B3).size))
              have K3 := hide (kept2_any S b w5 (unhide HU _ (unhide B5)) (by omega) (by omega))
              clear b5 K2
              have hz := hu0
              rcases h5 with ⟨_, rfl⟩ | ⟨h9, _⟩
              rotate_left
              · exact absurd ((unhide HF).1.symm.trans h9) hz
              rw [(unhide HF).1]
              go_wp2_with fail
              refine Calls.mono (unhide K3) ?_
              rintro r w6 ⟨h6, b6⟩
              have B6 := hide ((unhide B5).trans (b6.mono (unhide B5).size))
              have K4 := hide (merge_any S b b w6 (unhide HU _ (unhide B6)) (by omega) (by omega) (by omega))
              clear b6 K3
              rcases h6 with ⟨_, rfl⟩ | ⟨h9, _⟩
              rotate_left
              · exact absurd ((unhide HF).1.symm.trans h9) hz
              rw [(unhide HF).1]
              go_wp2_with fail
              refine Calls.mono (unhide K4) ?_
              rintro r w7 ⟨h7, b7⟩
              have B7 := hide ((unhide B6).trans (b7.mono (unhide B6).size))
              clear b7 K4
              rcases h7 with ⟨_, rfl⟩ | ⟨h9, _⟩
              rotate_left
              · exact absurd ((unhide HF).2.symm.trans h9) hz
              rw [(unhide HF).2]
              have KA := hide (awake_any w7 (unhide HU _ (unhide B7)))
              go_wp2_with fail
              refine Calls.mono (unhide KA) ?_
              rintro r w99 ⟨rfl, b99⟩
              have B99 := hide ((unhide B7).trans (b99.mono (unhide B7).size))
              clear b99
              go_wp2_with fail
              go_ret
              exact ⟨by first | rfl | (simp; done), unhide B99⟩
end Go.Proofs.YtonabfpgdgnpnaaDoor
