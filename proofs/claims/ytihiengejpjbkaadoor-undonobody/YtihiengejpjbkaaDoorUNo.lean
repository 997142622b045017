/- UndoNobody. -/
import Derived.Test.YtihiengejpjbkaaDoorUSh
namespace Go.Proofs.YtihiengejpjbkaaDoor
set_option linter.unusedVariables false
set_option linter.unusedSimpArgs false
open Go.ChangeShapes Go.WideShapes Go.ChangeAt Go.RowKit Go.Joins Go.Deep

def RNewR (n : Int) (w : World) (r : Ending) (w' : World) : Prop := Below w.heap.size w w' ∧ ((n < 0 ∨ 1048576 < n) ∧ r = .returned (.tuple #[.pointer none, .int .i64 1]) ∨ (0 ≤ n ∧ n ≤ 1048576) ∧ ∃ a, r = .returned (.tuple #[.pointer (some a), .int .i64 0]))
theorem rnew_any (n : Int) (w : World) : Calls Tryd.prog 24 #[.int .i64 n] w fun r w' => RNewR n w r w' := by
  by_cases h1 : n < 0
  · go_enter Tryd.func24, Tryd.ntmps24
    go_wp2_with fail
    go_ret2
    exact ⟨Below.refl _ _, .inl ⟨.inl h1, rfl⟩⟩
  by_cases h2 : 1048576 < n
  · go_enter Tryd.func24, Tryd.ntmps24
    go_wp2_with fail
    go_ret2
    exact ⟨Below.refl _ _, .inl ⟨.inr h2, rfl⟩⟩
  · go_enter Tryd.func24, Tryd.ntmps24
    go_wp2_with fail
    go_ret2
    exact ⟨(Below.refl _ _).alloc (Nat.le_refl _) _, .inr ⟨by omega, _, rfl⟩⟩
theorem dos_one {w : World} {a : Option Addr} {l : List Pt} {c m : Nat} (he : Edit w a l c) (hm : l.length = m) :
    Dos (w.alloc (.cells #[.int .i64 0, .int .i64 0, .slice a m c] 34)) (some ⟨w.heap.size, 0, none⟩) [⟨0, 0, a, l, c⟩] := by
  have b0 : Below w.heap.size w (w.alloc (.cells #[.int .i64 0, .int .i64 0, .slice a m c] 34)) := (Below.refl _ _).alloc (Nat.le_refl _) _
  have hr := RowAt.new w 34 [.int .i64 0, .int .i64 0, .slice a m c]
  refine ⟨fun d hd => ?_, .inr ⟨_, _, rfl, hr.lt, fun i d hi f u hu => ?_⟩⟩
  · rw [List.mem_singleton] at hd
    subst hd
    exact he.call b0
  · match i, hi with
    | 0, hi =>
      obtain rfl : (⟨0, 0, a, l, c⟩ : Dl) = d := by simpa using hi
      have h1 := hr.cell f
      rw [show (0 : Nat) + 0 * 3 + f = f by omega, h1]
      rw [← hm]
      exact hu
    | i + 1, hi => simp at hi
set_option maxRecDepth 100000 in
set_option maxHeartbeats 4000000 in
theorem nobody_law (s : ByteArray) (a : Option Addr) (l : List Pt) (c : Nat) (n : Int) (w : World) (hT : UT w) (hs : s.size ≤ 140737488351232) (he : Edit w a l c) (y0 : -9223372036854775808 ≤ n) (y1 : n ≤ 9223372036854775807) : Calls Tryd.prog 9 #[.string s, .slice a l.length c, .int .i64 n] w fun r w' => r = .returned (.bool true) ∧ Below w.heap.size w w' := by
  have HU : Hid (∀ W, Below w.heap.size w W → UT W) := hide (fun W h => hT.call h)
  obtain ⟨m, hm⟩ : ∃ z, l.length = z := ⟨_, rfl⟩
  have b0 : Below w.heap.size w (w.alloc (.cells #[.int .i64 0, .int .i64 0, .slice a m c] 34)) := (Below.refl _ _).alloc (Nat.le_refl _) _
  have KS := hide (short_any s _ _ 1 _ (dos_one he hm) (by simp) (by decide))
  have HB := hide b0
  rw [hm]
  clear hT he hs b0 hm
  go_enter Tryd.func9, Tryd.ntmps9
  go_wp2_with fail
  refine Calls.mono (unhide KS) ?_
  rintro r w1 ⟨⟨b, rfl, _⟩, b1⟩
  have B1 := hide ((unhide HB).trans (b1.mono (unhide HB).size))
  clear b1 KS HB
  cases b with
  | false =>
    have KA := hide (awake_any w1 (unhide HU _ (unhide B1)))
    go_wp2_with fail
    refine Calls.mono (unhide KA) ?_
    rintro r w9 ⟨rfl, b9⟩
    have B9 := hide ((unhide B1).trans (b9.mono (unhide B1).size))
    clear b9
    go_wp2_with fail
    go_ret
    exact ⟨rfl, unhide B9⟩
  | true =>
    obtain ⟨W, hW⟩ : ∃ z, (w1.alloc (.cells #[.bool false, .int .i64 0, .slice none 0 0, .slice none 0 0] 65)).alloc (.cells #[.pointer none, .pointer (some ⟨w1.heap.size, 0, none⟩)] 25) = z := ⟨_, rfl⟩
    have bA : Below w1.heap.size w1 (w1.alloc (.cells #[.bool false, .int .i64 0, .slice none 0 0, .slice none 0 0] 65)) := (Below.refl _ _).alloc (Nat.le_refl _) _
    have r0 := RowAt.new w1 65 [.bool false, .int .i64 0, .slice none 0 0, .slice none 0 0]
    have r1 := RowAt.new (w1.alloc (.cells #[.bool false, .int .i64 0, .slice none 0 0, .slice none 0 0] 65)) 25 [.pointer none, .pointer (some ⟨w1.heap.size, 0, none⟩)]
    have r0' := r0.below ((Below.refl _ _).alloc (Nat.le_refl _) (.cells #[.pointer none, .pointer (some ⟨w1.heap.size, 0, none⟩)] 25)) r0.lt
    have g0 := r0'.cell 0
    have p0 := r1.cell 0
    have p1 := r1.cell 1
    have bW : Below w1.heap.size w1 ((w1.alloc (.cells #[.bool false, .int .i64 0, .slice none 0 0, .slice none 0 0] 65)).alloc (.cells #[.pointer none, .pointer (some ⟨w1.heap.size, 0, none⟩)] 25)) := bA.alloc bA.size _
    simp only [List.getElem?_cons_zero, List.getElem?_cons_succ, size_alloc] at g0 p0 p1
    go_wp2_with fail
    try rw [hW] at g0
    try rw [hW] at p0
    try rw [hW] at p1
    try rw [hW] at bW
    try rw [hW]
    have BW := hide ((unhide B1).trans (bW.mono (unhide B1).size))
    have HN : Hid (Nob W none ∧ Nob W (some ⟨w1.heap.size, 0, none⟩)) := hide ⟨.inl rfl, .inr ⟨_, rfl, g0⟩⟩
    obtain ⟨g, hg⟩ : ∃ z, w1.heap.size = z := ⟨_, rfl⟩
    rw [hg] at p0 p1 HN ⊢
    clear hW bA r0 r1 r0' g0 bW B1 hg
    go_loopw [30] (fun i wr => ∃ k : Nat, k ≤ 2 ∧ i = .int .i64 (k : Int) ∧ W = wr) (fun i _ => (2 - intOf i).toNat)
    case atStart => exact ⟨0, by omega, by simp, rfl⟩
    case round =>
      obtain ⟨k, hk, rfl, rfl⟩ := hrel
      by_cases c1 : (k : Int) < 2
      · obtain ⟨p, hp, hnp⟩ : ∃ p : Option Addr, W.cell? ⟨g + 1, k, none⟩ = some (.pointer p) ∧ Nob W p := by
          match k, hk, c1 with
          | 0, _, _ => exact ⟨_, p0, (unhide HN).1⟩
          | 1, _, _ => exact ⟨_, p1, (unhide HN).2⟩
          | k + 2, h, c => omega
        have K1 := hide (undo_nob p s W hnp)
        have K2 := hide (redo_nob p s W hnp)
        have K3 := hide (len_nob p W hnp)
        have K4 := hide (size_nob p W hnp)
        have K5 := hide (mine_nob p (.slice a m c) s W hnp)
        have K6 := hide (theirs_nob p (.slice a m c) W hnp)
        have K7 := hide (clear_nob p n W hnp)
        have k0 : (0 : Int) ≤ (k : Int) := by omega
        clear hnp p0 p1
        go_wp2_with fail
        refine Calls.mono (unhide K1) ?_
        rintro r w2 ⟨rfl, rfl⟩
        go_wp2_with fail
        refine Calls.mono (unhide K2) ?_
        rintro r w2 ⟨rfl, rfl⟩
        go_wp2_with fail
        refine Calls.mono (unhide K3) ?_
        rintro r w2 ⟨rfl, rfl⟩
        go_wp2_with fail
        refine Calls.mono (unhide K4) ?_
        rintro r w2 ⟨rfl, rfl⟩
        go_wp2_with fail
        refine Calls.mono (unhide K5) ?_
        rintro r w2 ⟨rfl, rfl⟩
        go_wp2_with fail
        refine Calls.mono (unhide K6) ?_
        rintro r w2 ⟨rfl, rfl⟩
        go_wp2_with fail
        refine Calls.mono (unhide K7) ?_
        rintro r w2 ⟨rfl, rfl⟩
        go_wp2_with fail
        exact ⟨⟨k + 1, by omega, by simp, by simp⟩, by simp [intOf]; omega⟩
      · clear p0 p1
        go_wp2_with fail
        refine Calls.mono (new_any n W) ?_
        rintro r w2 h2
        rcases h2 with ⟨h2, rfl, rfl⟩ | ⟨h2, rfl, _, b2⟩
        · have h2' := hide h2
          clear h2
          go_wp2_with fail
          refine Calls.mono (rnew_any n W) ?_
          rintro r w3 ⟨b3, ⟨_, rfl⟩ | ⟨h3, _⟩⟩
          · have B3 := hide ((unhide BW).trans (b3.mono (unhide BW).size))
            have KA := hide (awake_any w3 (unhide HU _ (unhide B3)))
            clear b3
            go_wp2_with fail
            refine Calls.mono (unhide KA) ?_
            rintro r w9 ⟨rfl, b9⟩
            have B9 := hide ((unhide B3).trans (b9.mono (unhide B3).size))
            clear b9
            go_wp2_with fail
            go_ret
            exact ⟨rfl, unhide B9⟩
          · have := unhide h2'
            omega
        · have h2' := hide h2
          have B2 := hide ((unhide BW).trans (b2.mono (unhide BW).size))
          clear h2 b2
          go_wp2_with fail
          refine Calls.mono (rnew_any n w2) ?_
          rintro r w3 ⟨b3, ⟨h3, _⟩ | ⟨_, ra, rfl⟩⟩
          · have := unhide h2'
            omega
          · have B3 := hide ((unhide B2).trans (b3.mono (unhide B2).size))
            have KA := hide (awake_any w3 (unhide HU _ (unhide B3)))
            clear b3
            go_wp2_with fail
            refine Calls.mono (unhide KA) ?_
            rintro r w9 ⟨rfl, b9⟩
            have B9 := hide ((unhide B3).trans (b9.mono (unhide B3).size))
            clear b9
            go_wp2_with fail
            go_ret
            exact ⟨rfl, unhide B9⟩
end Go.Proofs.YtihiengejpjbkaaDoor
