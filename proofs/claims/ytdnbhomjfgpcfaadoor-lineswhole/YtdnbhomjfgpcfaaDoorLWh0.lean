/- LinesWhole. -/
import Derived.Test.YtdnbhomjfgpcfaaDoorLB
import Derived.Test.YtdnbhomjfgpcfaaDoorLA
import Derived.Test.YtdnbhomjfgpcfaaDoorLJo
namespace Go.Proofs.YtdnbhomjfgpcfaaDoor
set_option linter.unusedVariables false
set_option linter.unusedSimpArgs false
open Go.ChangeShapes Go.WideShapes Go.ChangeAt Go.RowKit Go.Joins Go.Deep

theorem info9 : ∃ i, Tryd.prog.info? 9 = some i ∧ i.zero = some (.string ⟨#[]⟩) ∧ i.size = 1 ∧ i.bytes = 16 := info_parts (by kernel_rfl)
def lnS (cs : List (List UInt8)) (i : Nat) : ByteArray := tb (sub cs (stN cs i) (endL cs i))
def lns (cs : List (List UInt8)) (k : Nat) : List ByteArray := (List.range k).map (lnS cs)
theorem lns_next (cs : List (List UInt8)) (k : Nat) : lns cs (k + 1) = lns cs k ++ [lnS cs k] := by unfold lns; rw [List.range_succ, List.map_append]; rfl
theorem lns_len (cs : List (List UInt8)) (k : Nat) : (lns cs k).length = k := by simp [lns]
theorem lns_bytes (cs : List (List UInt8)) (k : Nat) : (lns cs k).map (·.data.toList) = (List.range k).map (lnB cs) := by
  unfold lns
  rw [List.map_map]
  apply List.map_congr_left
  intro i _
  simp [lnS, tb, lnB]
theorem line_no {cs : List (List UInt8)} {i : Nat} (hcs : Cps cs) (hi : i < (sts cs).length) : decide (0 ≤ Lib.indexByte (lnS cs i).data.toList 10) = false := by
  have h := index_none' (no_ten_bytes hcs hi)
  rw [show (lnS cs i).data.toList = (sub cs (stN cs i) (endL cs i)).flatten by simp [lnS, tb], h]
  rfl
set_option maxRecDepth 100000 in
set_option maxHeartbeats 4000000 in
theorem whole_law (s : ByteArray) (w : World) (hT : UT w) (hs0 : s.size ≤ 140737488351232) : Calls Tryd.prog 9 #[.string s] w fun r w' => r = .returned (.bool true) ∧ Below w.heap.size w w' := by
  have HU : Hid (∀ W, Below w.heap.size w W → UT W) := hide (fun W h => hT.call h)
  have bP : Below w.heap.size w (w.alloc (.cells #[.string s] 9)) := (Below.refl _ _).alloc (Nat.le_refl _) _
  have KS := hide (long_any w.heap.size (.slice (some ⟨w.heap.size, 0, none⟩) 1 1) [s] (w.alloc (.cells #[.string s] 9)) (own_row (RowAt.new w 9 [.string s]) (Nat.le_refl _) (by show 1 ≤ maxLen; unfold maxLen; omega)) (by simp))
  have B1 := hide bP
  clear hT bP
  obtain ⟨w1, hw1⟩ : ∃ z, w.alloc (.cells #[.string s] 9) = z := ⟨_, rfl⟩
  have HW1 := hide hw1
  rw [hw1] at KS B1
  clear hw1
  go_enter Tryd.func9, Tryd.ntmps9
  go_wp2_with fail
  try rw [unhide HW1]
  clear HW1
  refine Calls.mono (unhide KS) ?_
  rintro r w2 ⟨rfl, rfl⟩
  cases hlb : longB [s] with
  | true =>
    have KA := hide (awake_any w1 (unhide HU _ (unhide B1)))
    go_wp2_with fail
    refine Calls.mono (unhide KA) ?_
    rintro r w9 ⟨rfl, b9⟩
    have B9 := hide ((unhide B1).trans (b9.mono (unhide B1).size))
    clear b9
    go_wp2_with fail
    go_ret
    exact ⟨rfl, unhide B9⟩
  | false =>
    have hsz : s.size ≤ 2048 := by simp [longB] at hlb; exact hlb
    have KN := hide (new_any s w1 (unhide HU _ (unhide B1)) (by omega))
    clear hlb
    go_wp2_with fail
    refine Calls.mono (unhide KN) ?_
    rintro r w3 ⟨h3, b3⟩
    have B3 := hide ((unhide B1).trans (b3.mono (unhide B1).size))
    clear b3 KN
    rcases h3 with ⟨hv, rfl⟩ | ⟨cs, g, vr, vs, hx, rfl, hi⟩
    · have KV := hide (valid_any s w3 (unhide HU _ (unhide B3)) (by omega))
      rw [hv] at KV
      clear hv
      go_wp2_with fail
      refine Calls.mono (unhide KV) ?_
      rintro r w4 ⟨rfl, b4⟩
      have B4 := hide ((unhide B3).trans (b4.mono (unhide B3).size))
      clear b4
      have KA := hide (awake_any w4 (unhide HU _ (unhide B4)))
      go_wp2_with fail
      refine Calls.mono (unhide KA) ?_
      rintro r w9 ⟨rfl, b9⟩
      have B9 := hide ((unhide B4).trans (b9.mono (unhide B4).size))
      clear b9
      go_wp2_with fail
      go_ret
      exact ⟨rfl, unhide B9⟩
    · have hfew : cs.length ≤ 2048 := by have := hx.cps.len; rw [← hx.size] at this; omega
      have HX := hide hx
      have HI := hide hi
      obtain ⟨ar, cr, as_, c_, e1, e2, q0, q1⟩ := hi.two
      have KLen := hide (len_ok g w3 as_ _ c_ q1)
      have hml := sts_len cs
      have hm1 := sts_pos cs
      obtain ⟨M, hM⟩ : ∃ z, (sts cs).length = z := ⟨_, rfl⟩
      rw [hM] at KLen hml hm1
      obtain ⟨N, hN⟩ : ∃ z, cs.length = z := ⟨_, rfl⟩
      rw [hN] at hml hfew
      have HM := hide hM
      have HN := hide hN
      have KSz : Hid (∀ W, Below w3.heap.size w3 W → Calls Tryd.prog 24 #[.pointer (some ⟨g, 0, none⟩)] W fun r w' => r = .returned (.int .i64 (N : Int)) ∧ W = w') := hide (fun W hb => by
        obtain ⟨ar2, cr2, as2, c2, f1, f2, p0, p1⟩ := (hi.call hb).two
        have h9 := size_ok g W ar2 _ cr2 p0
        rw [hN] at h9
        exact h9)
      have KCt : Hid (∀ W, Calls Tryd.prog 39 #[.string s] W fun r w' => r = .returned (.int .i64 (N : Int)) ∧ Below W.heap.size W w') := hide (fun W => by
        have h9 := counts_any s W (by omega)
        rw [hx.count, hN] at h9
        exact h9)
      have C3 := hide (Below.refl w3.heap.size w3)
      clear hx hi e1 e2 q0 q1 hM hN
      go_wp2_with fail
      refine Calls.mono (unhide KLen) ?_
      rintro r w4 ⟨rfl, rfl⟩
      clear KLen
      have HO0 : Hid (w3.ownsRow w3.heap.size 9 1 (.slice none 0 0) 0 ((lns cs 0).map .string)) := hide ⟨rfl, .inl ⟨rfl, rfl⟩⟩
      go_wp2_with fail
      go_loopw [5, 32] (fun lv i wr => ∃ (k : Nat) (la : Option Addr) (lc : Nat), k ≤ M ∧ i = .int .i64 (k : Int) ∧ lv = .slice la k lc ∧ Hid (wr.ownsRow w3.heap.size 9 1 (.slice la k lc) k ((lns cs k).map .string)) ∧ Hid (Below w3.heap.size w3 wr)) (fun _ i _ => ((M : Int) - intOf i).toNat)
      case atStart => exact ⟨0, none, 0, by omega, by simp, rfl, HO0, C3⟩
      case round =>
        obtain ⟨k, la, lc, hk, rfl, rfl, HO, CR⟩ := hrel
        by_cases c : (k : Int) < (M : Int)
        · have KL := hide (line_ok ((unhide HI).call (unhide CR)) (unhide HX).cps (k : Int) (by rw [unhide HN]; omega) (unhide HI).sm)
          rw [line_at (by rw [unhide HM]; omega)] at KL
          have hno := line_no (i := k) (unhide HX).cps (by rw [unhide HM]; omega)
          change Hid (Calls Tryd.prog 16 #[.pointer (some ⟨g, 0, none⟩), .int .i64 (k : Int)] wr fun r w' => r = .returned (.tuple #[.string (lnS cs k), .int .i64 0]) ∧ Below wr.heap.size wr w') at KL
          obtain ⟨T, hTT⟩ : ∃ z, lnS cs k = z := ⟨_, rfl⟩
          rw [hTT] at KL hno
          have HTT := hide hTT
          have KC : Hid (∀ W, Calls Tryd.prog 40 #[.string T, .string ⟨#[10]⟩] W fun r w' => r = .returned (.bool false) ∧ w' = W) := hide (fun W => by
            have h9 := cont_one T 10 W
            rw [hno] at h9
            exact h9)
          have k0 : (0 : Int) ≤ (k : Int) := by omega
          clear hno hTT
          go_wp2_with fail
          refine Calls.mono (unhide KL) ?_
          rintro r w5 ⟨rfl, b5⟩
          have C5 := hide ((unhide CR).trans (b5.mono (unhide CR).size))
          have hal : Below w5.heap.size w5 (w5.alloc (.cells #[.string T] 9)) := (Below.refl _ _).alloc (Nat.le_refl _) _
          have C6 := hide ((unhide C5).trans (hal.mono (unhide C5).size))
          have HO6 := hide (own_call (own_call (unhide HO) b5) hal)
          have HC6 := hide ((RowAt.new w5 9 [.string T]).cell 0)
          clear b5 hal KL HO CR
          go_wp2_with fail
          refine Calls.mono (unhide KC _) ?_
          rintro r w6 ⟨rfl, rfl⟩
          go_wp2_with (at_builtin; refine unhide ?_)
          obtain ⟨i9, hi9, hz9, hs9, hb9⟩ := info9
          refine hide ?_
          refine wpList_append_own_at _ rfl _ _ 61 rfl w3.heap.size 9 i9 (.string ⟨#[]⟩) 1 16 Tryd.underlying61 hi9 hz9 hs9 hb9 rfl (by decide) (.slice la k lc) k ((lns cs k).map .string) rfl (unhide HO6) ⟨w6.heap.size, 0, none⟩ 1 1 [.string T] rfl rfl (fun j u hj => by
            match j, hj with
            | 0, hj =>
              obtain rfl : (.string T : Value) = u := by simpa using hj
              exact unhide HC6) (fun u hu => by rw [List.mem_singleton] at hu; rw [hu]; rfl) (by unfold maxLen; omega) (by omega) (unhide C6).size ?_
          intro v' w7 ho hgr _ hat
          obtain ⟨a7, c7, rfl, _⟩ := own_sl ho
          have o7 := grown_only hgr
          have C7 := hide ((unhide C6).trans (o7.below (unhide C6).size (fun q hq => ((unhide HO6).lt q hq).1)))
          have HO7 : Hid (w7.ownsRow w3.heap.size 9 1 (.slice a7 (k + 1) c7) (k + 1) ((lns cs (k + 1)).map .string)) := hide (by rw [lns_next, List.map_append, unhide HTT]; exact ho)
          clear ho hgr hat o7 HO6 HC6 i9 hi9 hz9 hs9 hb9 C5 C6 KC
          go_wp2_with fail
          exact ⟨⟨k + 1, a7, c7, by omega, by simp, rfl, HO7, C7⟩, by simp [intOf]; omega⟩
        · obtain rfl : M = k := by omega
          have hjn : Lib.join ((lns cs M).map (·.data.toList)) [10] = s.data.toList := by
            rw [lns_bytes, ← unhide HM, lines_all (unhide HX).cps, (unhide HX).eq]
          obtain ⟨bk, c9, e9, hcell, _, hcc, _⟩ := own_rd (unhide HO) (i := M - 1) (u := .string (lnS cs (M - 1))) (by rw [List.getElem?_map, lns, List.getElem?_map, List.getElem?_range (by omega)]; rfl)
          injection e9 with e9 e8 e7
          clear e8
          subst e9 e7
          have KJ := hide (join_any bk 0 lc (lns cs M) ⟨#[10]⟩ wr (fun j x hj => by
            have h9 := World.ownsRow.cells (unhide HO) (g := bk) rfl j (.string x) (by rw [List.getElem?_map, hj]; rfl)
            rw [Addr.add_lit] at h9
            simpa using h9) ((unhide HO).lt bk rfl).2 (by rw [lns_len]; omega) (by rw [lns_len]; exact hcc) (by rw [hjn]; rw [← Lib.size_eq]; omega))
          rw [hjn, lns_len] at KJ
          have hse : (⟨s.data.toList.toArray⟩ : ByteArray) = s := by simp
          rw [hse] at KJ
          clear hjn hcell hcc hse
          go_wp2_with fail
          refine Calls.mono (unhide KJ) ?_
          rintro r w5 ⟨rfl, b5⟩
          have C5 := hide ((unhide CR).trans (b5.mono (unhide CR).size))
          clear b5 KJ HO CR
          go_wp2_with fail
          refine Calls.mono (unhide KSz _ (unhide C5)) ?_
          rintro r w6 ⟨rfl, rfl⟩
          go_wp2_with fail
          refine Calls.mono (unhide KCt _) ?_
          rintro r w6 ⟨rfl, b6⟩
          have B6 := hide ((unhide B3).trans (((unhide C5).trans (b6.mono (unhide C5).size)).mono (unhide B3).size))
          clear b6
          have KA := hide (awake_any w6 (unhide HU _ (unhide B6)))
          go_wp2_with fail
          refine Calls.mono (unhide KA) ?_
          rintro r w9 ⟨rfl, b9⟩
          have B9 := hide ((unhide B6).trans (b9.mono (unhide B6).size))
          clear b9
          go_wp2_with fail
          go_ret
          exact ⟨rfl, unhide B9⟩
end Go.Proofs.YtdnbhomjfgpcfaaDoor
