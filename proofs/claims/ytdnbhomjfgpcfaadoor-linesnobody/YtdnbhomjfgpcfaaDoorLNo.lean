/- LinesNobody. -/
import Derived.Test.YtdnbhomjfgpcfaaDoorLAw
import Derived.Test.YtdnbhomjfgpcfaaDoorLRd
import Derived.Test.YtdnbhomjfgpcfaaDoorLLo
namespace Go.Proofs.YtdnbhomjfgpcfaaDoor
set_option linter.unusedVariables false
set_option linter.unusedSimpArgs false
open Go.ChangeShapes Go.WideShapes Go.ChangeAt Go.RowKit Go.Joins Go.Deep

set_option maxRecDepth 100000 in
set_option maxHeartbeats 4000000 in
theorem nobody_law (s : ByteArray) (n m k : Int) (w : World) (hT : UT w) : Calls Tryd.prog 11 #[.string s, .int .i64 n, .int .i64 m, .int .i64 k] w fun r w' => r = .returned (.bool true) ∧ Below w.heap.size w w' := by
  have HU : Hid (∀ W, Below w.heap.size w W → UT W) := hide (fun W h => hT.call h)
  have bP : Below w.heap.size w (w.alloc (.cells #[.string s] 9)) := (Below.refl _ _).alloc (Nat.le_refl _) _
  have KS := hide (long_any w.heap.size (.slice (some ⟨w.heap.size, 0, none⟩) 1 1) [s] (w.alloc (.cells #[.string s] 9)) (own_row (RowAt.new w 9 [.string s]) (Nat.le_refl _) (by show 1 ≤ maxLen; unfold maxLen; omega)) (by simp))
  have B1 := hide bP
  clear hT bP
  obtain ⟨w1, hw1⟩ : ∃ z, w.alloc (.cells #[.string s] 9) = z := ⟨_, rfl⟩
  have HW1 := hide hw1
  rw [hw1] at KS B1
  clear hw1
  go_enter Tryd.func11, Tryd.ntmps11
  go_wp2_with fail
  try rw [unhide HW1]
  clear HW1
  refine Calls.mono (unhide KS) ?_
  rintro r w2 ⟨rfl, rfl⟩
  cases longB [s] with
  | true =>
    have KA := hide (awake_any w1 (unhide HU _ (unhide B1)))
    go_wp2_with fail
    refine Calls.mono (unhide KA) ?_
    rintro r w9 ⟨rfl, b9⟩
    have B9 := hide ((unhide B1).trans (b9.mono (unhide B1).size))
    clear b9
    go_wp2_with fail
    go_ret
    exact ⟨rfl, unhide B9⟩
  | false =>
    obtain ⟨W, hW⟩ : ∃ z, (w1.alloc (.cells #[.slice none 0 0, .slice none 0 0] 64)).alloc (.cells #[.pointer none, .pointer (some ⟨w1.heap.size, 0, none⟩)] 24) = z := ⟨_, rfl⟩
    have bA : Below w1.heap.size w1 (w1.alloc (.cells #[.slice none 0 0, .slice none 0 0] 64)) := (Below.refl _ _).alloc (Nat.le_refl _) _
    have r0 := RowAt.new w1 64 [.slice none 0 0, .slice none 0 0]
    have r1 := RowAt.new (w1.alloc (.cells #[.slice none 0 0, .slice none 0 0] 64)) 24 [.pointer none, .pointer (some ⟨w1.heap.size, 0, none⟩)]
    have r0' := r0.below ((Below.refl _ _).alloc (Nat.le_refl _) (.cells #[.pointer none, .pointer (some ⟨w1.heap.size, 0, none⟩)] 24)) r0.lt
    have g0 := r0'.cell 0
    have g1 := r0'.cell 1
    have p0 := r1.cell 0
    have p1 := r1.cell 1
    have bW : Below w1.heap.size w1 ((w1.alloc (.cells #[.slice none 0 0, .slice none 0 0] 64)).alloc (.cells #[.pointer none, .pointer (some ⟨w1.heap.size, 0, none⟩)] 24)) := bA.alloc bA.size _
    simp only [List.getElem?_cons_zero, List.getElem?_cons_succ, size_alloc] at g0 g1 p0 p1
    go_wp2_with fail
    try rw [hW] at g0
    try rw [hW] at g1
    try rw [hW] at p0
    try rw [hW] at p1
    try rw [hW] at bW
    try rw [hW]
    have BW := hide ((unhide B1).trans (bW.mono (unhide B1).size))
    have HN : Hid (NoIx W none ∧ NoIx W (some ⟨w1.heap.size, 0, none⟩)) := hide ⟨.inl rfl, .inr ⟨_, rfl, g0, g1⟩⟩
    obtain ⟨g, hg⟩ : ∃ z, w1.heap.size = z := ⟨_, rfl⟩
    rw [hg] at p0 p1 HN ⊢
    clear hW bA r0 r1 r0' g0 g1 bW B1 hg
    go_loopw [35] (fun i wr => ∃ k : Nat, k ≤ 2 ∧ i = .int .i64 (k : Int) ∧ W = wr) (fun i _ => (2 - intOf i).toNat)
    case atStart => exact ⟨0, by omega, by simp, rfl⟩
    case round =>
      obtain ⟨q, hk, rfl, rfl⟩ := hrel
      by_cases c1 : (q : Int) < 2
      · obtain ⟨p, hp, hnp⟩ : ∃ p : Option Addr, W.cell? ⟨g + 1, q, none⟩ = some (.pointer p) ∧ NoIx W p := by
          match q, hk, c1 with
          | 0, _, _ => exact ⟨_, p0, (unhide HN).1⟩
          | 1, _, _ => exact ⟨_, p1, (unhide HN).2⟩
          | k + 2, h, c => omega
        have K0 := hide (line_nob p n m k s s W hnp)
        have K1 := hide (at_nob p n m k s s W hnp)
        have K2 := hide (where_nob p n m k s s W hnp)
        have K3 := hide (word_nob p n m k s s W hnp)
        have K4 := hide (find_nob p n m k s s W hnp)
        have K5 := hide (swap_nob p n m k s s W hnp)
        have K6 := hide (move_nob p n m k s s W hnp)
        have K7 := hide (len_nob p W hnp)
        have K8 := hide (size_nob p W hnp)
        have k0 : (0 : Int) ≤ (q : Int) := by omega
        clear hnp p0 p1
        go_wp2_with fail
        refine Calls.mono (unhide K0) ?_
        rintro r w2 ⟨rfl, rfl⟩
        go_wp2_with fail
        refine Calls.mono (unhide K1) ?_
        rintro r w2 ⟨rfl, rfl⟩
        go_wp2_with fail
        refine Calls.mono (unhide K2) ?_
        rintro r w2 ⟨rfl, rfl⟩
        go_wp2_with fail
        refine Calls.mono (unhide K3) ?_
        rintro r w2 ⟨rfl, rfl⟩
        go_wp2_with fail
        refine Calls.mono (unhide K4) ?_
        rintro r w2 ⟨rfl, rfl⟩
        go_wp2_with fail
        refine Calls.mono (unhide K5) ?_
        rintro r w2 ⟨rfl, rfl⟩
        go_wp2_with fail
        refine Calls.mono (unhide K6) ?_
        rintro r w2 ⟨rfl, rfl⟩
        go_wp2_with fail
        refine Calls.mono (unhide K7) ?_
        rintro r w2 ⟨rfl, rfl⟩
        go_wp2_with fail
        refine Calls.mono (unhide K8) ?_
        rintro r w2 ⟨rfl, rfl⟩
        go_wp2_with fail
        exact ⟨⟨q + 1, by omega, by simp, by simp⟩, by simp [intOf]; omega⟩
      · clear p0 p1
        have KA := hide (awake_any W (unhide HU _ (unhide BW)))
        go_wp2_with fail
        refine Calls.mono (unhide KA) ?_
        rintro r w9 ⟨rfl, b9⟩
        have B9 := hide ((unhide BW).trans (b9.mono (unhide BW).size))
        clear b9
        go_wp2_with fail
        go_ret
        exact ⟨rfl, unhide B9⟩
end Go.Proofs.YtdnbhomjfgpcfaaDoor
