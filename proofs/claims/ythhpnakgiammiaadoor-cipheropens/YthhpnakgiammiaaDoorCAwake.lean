/- The example of the cipher's laws. -/
import Derived.Test.YthhpnakgiammiaaDoorCOpen
import Derived.Test.YthhpnakgiammiaaDoorCNum
import Derived.Deep.RegionHeld3
import Derived.Deep.DeepCutAuto
namespace Go.Proofs.YthhpnakgiammiaaDoor
set_option linter.unusedVariables false
set_option linter.unusedSimpArgs false
open Go.ChangeShapes Go.WideShapes Go.ChangeAt Go.RowKit Go.Joins

theorem byt_made (w : World) (n : Nat) (hn : n ≤ maxLen) : Byt (w.alloc (.cells (madeCells #[.int .u8 0] n) 5)) (.slice (some ⟨w.heap.size, 0, none⟩) n n) (List.replicate n 0) := by
  have e : (bv (List.replicate n 0)).toArray = madeCells #[.int .u8 0] n := by rw [← made_list]
  have := RowAt.new w 5 (bv (List.replicate n 0))
  rw [e] at this
  refine .inr ⟨⟨w.heap.size, 0, none⟩, n, by rw [List.length_replicate], by rw [List.length_replicate]; omega, hn, fun i y hy => ?_⟩
  rw [add_plain, Nat.zero_add, this.cell, bv, List.getElem?_map, hy]
  rfl
theorem u8_rep (n : Nat) : U8 (List.replicate n 0) := fun y hy => by rw [(List.mem_replicate.1 hy).2]; decide

set_option maxRecDepth 100000 in
set_option maxHeartbeats 4000000 in
theorem cawake_any (w : World) (hT : Lay w) : Calls Tryd.prog 10 #[] w fun e w' => e = .returned (.bool true) ∧ Below w.heap.size w w' := by
  obtain ⟨i0, hi, hz0, hz1, hz2⟩ := info_parts info5
  have HT := hide hT
  clear hT
  obtain ⟨M32, h32⟩ : ∃ x, madeCells #[Value.int .u8 0] 32 = x := ⟨_, rfl⟩
  obtain ⟨M8, h8⟩ : ∃ x, madeCells #[Value.int .u8 0] 8 = x := ⟨_, rfl⟩
  obtain ⟨M64, h64⟩ : ∃ x, madeCells #[Value.int .u8 0] 64 = x := ⟨_, rfl⟩
  have m32 : ∀ w : World, (Instr.makeSlice 22 (.int .i64 32) (.int .i64 32)).run Tryd.prog w = .ok (.slice (some ⟨w.heap.size, 0, none⟩) 32 32) (w.alloc (.cells M32 5)) := fun w => by
    rw [← h32]; exact run_make_row (P := Tryd.prog) 22 5 i0 (.int .u8 0) Tryd.underlying22 hi hz0 hz1 rfl .i64 .i64 32 (by rw [hz2]; decide) (by decide) w
  have m8 : ∀ w : World, (Instr.makeSlice 22 (.int .i64 8) (.int .i64 8)).run Tryd.prog w = .ok (.slice (some ⟨w.heap.size, 0, none⟩) 8 8) (w.alloc (.cells M8 5)) := fun w => by
    rw [← h8]; exact run_make_row (P := Tryd.prog) 22 5 i0 (.int .u8 0) Tryd.underlying22 hi hz0 hz1 rfl .i64 .i64 8 (by rw [hz2]; decide) (by decide) w
  have m64 : ∀ w : World, (Instr.makeSlice 22 (.int .i64 64) (.int .i64 64)).run Tryd.prog w = .ok (.slice (some ⟨w.heap.size, 0, none⟩) 64 64) (w.alloc (.cells M64 5)) := fun w => by
    rw [← h64]; exact run_make_row (P := Tryd.prog) 22 5 i0 (.int .u8 0) Tryd.underlying22 hi hz0 hz1 rfl .i64 .i64 64 (by rw [hz2]; decide) (by decide) w
  have k32 : ∀ w : World, Byt (w.alloc (.cells M32 5)) (.slice (some ⟨w.heap.size, 0, none⟩) 32 32) (List.replicate 32 0) := fun w => h32 ▸ byt_made w 32 (by decide)
  have k8 : ∀ w : World, Byt (w.alloc (.cells M8 5)) (.slice (some ⟨w.heap.size, 0, none⟩) 8 8) (List.replicate 8 0) := fun w => h8 ▸ byt_made w 8 (by decide)
  have HK64 : Hid (∀ w : World, Byt (w.alloc (.cells M64 5)) (.slice (some ⟨w.heap.size, 0, none⟩) 64 64) (List.replicate 64 0)) := hide (fun w => h64 ▸ byt_made w 64 (by decide))
  have ba : ∀ (w : World) (o : Obj), Below w.heap.size w (w.alloc o) := fun w o => (Below.refl _ _).alloc (Nat.le_refl _) _
  have KT : ∀ (w2 : World) (a b : Nat), Byt w2 (.slice (some ⟨a, 0, none⟩) 32 32) (List.replicate 32 0) → Byt w2 (.slice (some ⟨b, 0, none⟩) 8 8) (List.replicate 8 0) → Below w.heap.size w w2 →
      Calls Tryd.prog 12 #[.slice (some ⟨a, 0, none⟩) 32 32, .int .u64 0, .slice (some ⟨b, 0, none⟩) 8 8] w2 fun e w' => ∃ v', e = .returned (.tuple #[v', .int .i64 0]) ∧ w'.ownsRow w2.heap.size 5 1 v' 8 (bv [118, 184, 224, 173, 160, 241, 61, 144]) ∧ Below w2.heap.size w2 w' := by
    intro w2 a b h1 h2 hb
    have := turn_any (.slice (some ⟨a, 0, none⟩) 32 32) (.slice (some ⟨b, 0, none⟩) 8 8) (List.replicate 32 0) (List.replicate 8 0) 0 w2 ((unhide HT).below hb) h1 h2 (u8_rep 32) (u8_rep 8) (by decide) (by decide) (by decide)
    rw [num_turn, List.length_replicate] at this
    exact this
  have B1 : Below w.heap.size w ((w.alloc (.cells M32 5)).alloc (.cells M8 5)).drew := ((ba w _).alloc (by rw [csize_alloc]; omega) _).drew
  have B2 : Below w.heap.size w ((w.alloc (.cells M8 5)).alloc (.cells M32 5)).drew := ((ba w _).alloc (by rw [csize_alloc]; omega) _).drew
  have C1 := hide (KT ((w.alloc (.cells M32 5)).alloc (.cells M8 5)).drew w.heap.size (w.heap.size + 1) ((k32 w).call (ba _ _).drew) (by have := k8 (w.alloc (.cells M32 5)); rw [csize_alloc] at this; exact this.call (Below.refl _ _).drew) B1)
  have C2 := hide (KT ((w.alloc (.cells M8 5)).alloc (.cells M32 5)).drew (w.heap.size + 1) w.heap.size (by have := k32 (w.alloc (.cells M8 5)); rw [csize_alloc] at this; exact this.call (Below.refl _ _).drew) ((k8 w).call (ba _ _).drew) B2)
  have HB1 := hide B1
  have HB2 := hide B2
  clear KT B1 B2 k32 k8 ba h32 h8 h64
  go_enter Tryd.func10, Tryd.ntmps10
  go_upto_region 1 with fail
  go_cut [1, 2] (fun v u wx => (∃ a c, v = .slice a 8 c) ∧ u = .int .i64 0 ∧ Hid (Byt wx v [118, 184, 224, 173, 160, 241, 61, 144] ∧ Below w.heap.size w wx))
  case first =>
    go_region_held3 (fun w' => True) (trivial)
      (first
        | (go_at_call 12; with_reducible refine Calls.mono (unhide C1) ?_; rintro e w2 ⟨v2, rfl, o2, b2⟩; have k2 := (unhide HB1).trans (b2.mono (unhide HB1).size))
        | (go_at_call 12; with_reducible refine Calls.mono (unhide C2) ?_; rintro e w2 ⟨v2, rfl, o2, b2⟩; have k2 := (unhide HB2).trans (b2.mono (unhide HB2).size)))
    all_goals go_wp2_with fail
    all_goals go_meet
    all_goals (have y2 := Byt.of_own (l := [118, 184, 224, 173, 160, 241, 61, 144]) o2; obtain ⟨a9, c9, e9⟩ := byt_shape y2; exact ⟨⟨a9, c9, e9⟩, rfl, y2, k2⟩)
  case rest =>
    obtain ⟨⟨ta, tc, rfl⟩, rfl, HTT⟩ := hcut
    clear C1 C2 HB1 HB2 m32 m8
    -- the key of noughts, the head, the bytes
    have kc := fun (w : World) (C : Array Value) (n c : Nat) => Lib.run_convert_bytes_const (P := Tryd.prog) w 22 5 C n c Tryd.underlying22 Tryd.underlying5
    go_upto_region 3 with fail
    obtain ⟨gk, hgk⟩ : ∃ x, wc.heap.size = x := ⟨_, rfl⟩
    have K64 := unhide HK64 wc
    have b2 : Below wc.heap.size wc (wc.alloc (.cells M64 5)) := (Below.refl _ _).alloc (Nat.le_refl _) _
    have HK2 : Hid (Byt (wc.alloc (.cells M64 5)) (.slice (some ⟨gk, 0, none⟩) 64 64) (List.replicate 64 0)) := hide (by rw [← hgk]; exact K64)
    have HB2 := hide ((unhide HTT).2.trans (b2.mono (unhide HTT).2.size))
    have HT2 := hide ((unhide HTT).1.call b2)
    clear K64 b2 HTT HK64
    generalize wc.alloc (.cells M64 5) = w2 at *
    try rw [hgk]
    obtain ⟨g2, hg2⟩ : ∃ x, w2.heap.size = x := ⟨_, rfl⟩
    obtain ⟨K, hK⟩ : ∃ x, List.replicate 64 0 = x := ⟨_, rfl⟩
    have HKL : Hid (K.length = 64) := hide (by rw [← hK, List.length_replicate])
    have HK8 : Hid (U8 K) := hide (hK ▸ u8_rep 64)
    have nb := num_back
    have no := of_decide_eq_false num_other
    rw [hK] at nb no HK2
    obtain ⟨T, hT⟩ : ∃ x, tkL K 7 [97, 98, 99] = x := ⟨_, rfl⟩
    have hTl : T.length = 3 := by rw [← hT, tkL_len]; rfl
    rw [hT] at nb no
    obtain ⟨S, hS⟩ : ∃ x, sealL K 7 [104] [97, 98, 99] = x := ⟨_, rfl⟩
    have hSe : S = T ++ tagL K 7 [104] T := by rw [← hS, sealL, hT]
    have HS19 : Hid (S.length = 19) := hide (by rw [← hS, sealL_len]; rfl)
    have HS3 : Hid (S.take (S.length - 16) = T) := hide (by rw [unhide HS19, hSe, List.take_left' (by rw [hTl])])
    have HS16 : Hid (S.drop (S.length - 16) = tagL K 7 [104] T) := hide (by rw [unhide HS19, hSe, List.drop_left' (by rw [hTl])])
    have u3 : U8 [97, 98, 99] := by unfold U8; decide
    have HTU8 : Hid (U8 T) := hide (hT ▸ tkL_8 K 7 u3)
    have HS8 : Hid (U8 S) := hide (fun y hy => by
      rw [hSe] at hy
      rcases List.mem_append.1 hy with hy | hy
      · exact unhide HTU8 y hy
      · exact tagL_8 _ _ _ _ y hy)
    have HNB := hide nb
    have HNO := hide no
    have HTL := hide hTl
    have u1 : U8 [104] := by unfold U8; decide
    have u2 : U8 [105] := by unfold U8; decide
    have hl1 := lit_byt w2 [104] (1, 2) 1 rfl (by decide)
    have b3 : Below w2.heap.size w2 (w2.alloc (.cells #[.int .u8 104] 5 (1, 2))) := (Below.refl _ _).alloc (Nat.le_refl _) _
    have hl2 := lit_byt (w2.alloc (.cells #[.int .u8 104] 5 (1, 2))) [97, 98, 99] (3, 4) 3 rfl (by decide)
    have b4 := b3.alloc (by rw [csize_alloc]; omega) (.cells #[.int .u8 97, .int .u8 98, .int .u8 99] 5 (3, 4))
    rw [csize_alloc, hg2] at hl2
    rw [hg2] at hl1
    have kc2 := kc (w2.alloc (.cells #[.int .u8 104] 5 (1, 2))) #[.int .u8 97, .int .u8 98, .int .u8 99] 3 3
    rw [csize_alloc, hg2] at kc2
    have kc1 := kc w2 #[.int .u8 104] 1 1
    rw [hg2] at kc1
    have B4 := (unhide HB2).trans (b4.mono (unhide HB2).size)
    have HSL := hide (show Calls Tryd.prog 15 #[.slice (some ⟨gk, 0, none⟩) 64 64, .int .u64 7, .slice (some ⟨g2, 0, none⟩) 1 1, .slice (some ⟨g2 + 1, 0, none⟩) 3 3] ((w2.alloc (.cells #[.int .u8 104] 5 (1, 2))).alloc (.cells #[.int .u8 97, .int .u8 98, .int .u8 99] 5 (3, 4))) (fun e w' => ∃ v', e = .returned (.tuple #[v', .int .i64 0]) ∧ w'.ownsRow _ 5 1 v' 19 (bv S) ∧ Below _ ((w2.alloc (.cells #[.int .u8 104] 5 (1, 2))).alloc (.cells #[.int .u8 97, .int .u8 98, .int .u8 99] 5 (3, 4))) w') from
      hS ▸ seal_any (.slice (some ⟨gk, 0, none⟩) 64 64) (.slice (some ⟨g2, 0, none⟩) 1 1) (.slice (some ⟨g2 + 1, 0, none⟩) 3 3) K [104] [97, 98, 99] 7 ((w2.alloc (.cells #[.int .u8 104] 5 (1, 2))).alloc (.cells #[.int .u8 97, .int .u8 98, .int .u8 99] 5 (3, 4))) ((unhide HT).below B4) ((unhide HK2).call b4) (hl1.call ((Below.refl _ _).alloc (Nat.le_refl _) _)) hl2 (unhide HK8) u1 u3 (unhide HKL) (by decide) (by decide) (by decide))
    have HB4 := hide B4
    have HK4 := hide ((unhide HK2).call b4)
    have HT4 := hide ((unhide HT2).call b4)
    clear hl1 hl2 b3 b4 B4 hS hSe hT nb no hTl hK HK2 HT2 HB2
    go_wp2_with fail
    generalize (w2.alloc (.cells #[.int .u8 104] 5 (1, 2))).alloc (.cells #[.int .u8 97, .int .u8 98, .int .u8 99] 5 (3, 4)) = w4 at *
    refine Calls.mono (unhide HSL) ?_
    rintro e w5 ⟨v5, rfl, o5, b5⟩
    have Y5 := Byt.of_own (own_cast o5 (unhide HS19).symm rfl)
    obtain ⟨sa, sc, hse⟩ := byt_shape Y5
    rw [unhide HS19] at hse
    subst hse
    have B5 := (unhide HB4).trans (b5.mono (unhide HB4).size)
    obtain ⟨g5, hg5⟩ : ∃ x, w5.heap.size = x := ⟨_, rfl⟩
    have hl5 := lit_byt w5 [104] (1, 2) 1 rfl (by decide)
    rw [hg5] at hl5
    have b6 : Below w5.heap.size w5 (w5.alloc (.cells #[.int .u8 104] 5 (1, 2))) := (Below.refl _ _).alloc (Nat.le_refl _) _
    have B6 := B5.trans (b6.mono B5.size)
    have b46 := b5.trans (b6.mono b5.size)
    have HOP := hide (open_any (.slice (some ⟨gk, 0, none⟩) 64 64) (.slice (some ⟨g5, 0, none⟩) 1 1) (.slice sa 19 sc) K [104] S 7 (w5.alloc (.cells #[.int .u8 104] 5 (1, 2))) ((unhide HT).below B6) ((unhide HK4).call b46) hl5 (Y5.call b6) (unhide HK8) u1 (unhide HS8) (unhide HKL) (by decide) (by rw [unhide HS19]; decide) (by rw [unhide HS19]; decide) (by decide))
    rw [unhide HS3, unhide HS16] at HOP
    have HB6 := hide B6
    have HK6 := hide ((unhide HK4).call b46)
    have HT6 := hide ((unhide HT4).call b46)
    have HY6 := hide (Y5.call b6)
    have kc5 := kc w5 #[.int .u8 104] 1 1
    rw [hg5] at kc5
    clear o5 b5 Y5 B5 hl5 b6 B6 b46 HSL HB4 HK4 HT4 kc2 kc1
    go_wp2_with fail
    generalize w5.alloc (.cells #[.int .u8 104] 5 (1, 2)) = w6 at *
    refine Calls.mono (unhide HOP) ?_
    rintro e w7 ⟨b7, hy7, _⟩
    obtain ⟨v7, rfl, o7⟩ := hy7 rfl
    rw [unhide HNB] at o7
    have Y7 : Byt w7 v7 [97, 98, 99] := Byt.of_own (own_cast o7 (unhide HTL) rfl)
    obtain ⟨xa, xc, hxe⟩ := byt_shape Y7
    rw [show ([97, 98, 99] : List Nat).length = 3 from rfl] at hxe
    have B7 := (unhide HB6).trans (b7.mono (unhide HB6).size)
    obtain ⟨g7, hg7⟩ : ∃ x, w7.heap.size = x := ⟨_, rfl⟩
    have hl7 := lit_byt w7 [105] (1, 2) 1 rfl (by decide)
    rw [hg7] at hl7
    have b8 : Below w7.heap.size w7 (w7.alloc (.cells #[.int .u8 105] 5 (1, 2))) := (Below.refl _ _).alloc (Nat.le_refl _) _
    have B8 := B7.trans (b8.mono B7.size)
    have b68 := b7.trans (b8.mono b7.size)
    have HOP2 := hide (open_any (.slice (some ⟨gk, 0, none⟩) 64 64) (.slice (some ⟨g7, 0, none⟩) 1 1) (.slice sa 19 sc) K [105] S 7 (w7.alloc (.cells #[.int .u8 105] 5 (1, 2))) ((unhide HT).below B8) ((unhide HK6).call b68) hl7 ((unhide HY6).call b68) (unhide HK8) u2 (unhide HS8) (unhide HKL) (by decide) (by rw [unhide HS19]; decide) (by rw [unhide HS19]; decide) (by decide))
    rw [unhide HS3, unhide HS16] at HOP2
    have HB8 := hide B8
    have HT8 := hide ((unhide HT6).call b68)
    have HY8 := hide (Y7.call b8)
    have kc7 := kc w7 #[.int .u8 105] 1 1
    rw [hg7] at kc7
    clear o7 b7 Y7 B7 hl7 b8 B8 b68 hy7 HOP HB6 HK6 HT6 HY6 kc5
    subst hxe
    go_wp2_with fail
    generalize w7.alloc (.cells #[.int .u8 105] 5 (1, 2)) = w8 at *
    refine Calls.mono (unhide HOP2) ?_
    rintro e w9 ⟨b9, _, hn9⟩
    obtain rfl := hn9 (unhide HNO)
    have B9 := (unhide HB8).trans (b9.mono (unhide HB8).size)
    obtain ⟨g9, hg9⟩ : ∃ x, w9.heap.size = x := ⟨_, rfl⟩
    have hl9 := lit_byt w9 [118, 184, 224, 173, 160, 241, 61, 144] (0, 0) 8 rfl (by decide)
    rw [hg9] at hl9
    have b10 : Below w9.heap.size w9 (w9.alloc (.cells #[.int .u8 118, .int .u8 184, .int .u8 224, .int .u8 173, .int .u8 160, .int .u8 241, .int .u8 61, .int .u8 144] 5)) := (Below.refl _ _).alloc (Nat.le_refl _) _
    have B10 := B9.trans (b10.mono B9.size)
    have b810 := b9.trans (b10.mono b9.size)
    have HEQ := hide (equal_any (.slice ta 8 tc) (.slice (some ⟨g9, 0, none⟩) 8 8) [118, 184, 224, 173, 160, 241, 61, 144] [118, 184, 224, 173, 160, 241, 61, 144] (w9.alloc (.cells #[.int .u8 118, .int .u8 184, .int .u8 224, .int .u8 173, .int .u8 160, .int .u8 241, .int .u8 61, .int .u8 144] 5)) ((unhide HT8).call b810) hl9 (by decide) (by decide))
    have hbt : ((strOf [118, 184, 224, 173, 160, 241, 61, 144]).toList == (strOf [118, 184, 224, 173, 160, 241, 61, 144]).toList) = true := beq_self_eq_true _
    rw [hbt] at HEQ
    have cx := byt_convert ((unhide HY8).call b810) (by decide)
    rw [show strOf [97, 98, 99] = ⟨#[97, 98, 99]⟩ from rfl] at cx
    have HB10 := hide B10
    clear b9 hn9 B9 hl9 b10 B10 b810 hbt HOP2 HB8 HT8 HY8 kc7 kc
    go_wp2_with fail
    generalize w9.alloc (.cells #[.int .u8 118, .int .u8 184, .int .u8 224, .int .u8 173, .int .u8 160, .int .u8 241, .int .u8 61, .int .u8 144] 5) = w10 at *
    refine Calls.mono (unhide HEQ) ?_
    rintro e wx ⟨rfl, rfl⟩
    go_wp2_with fail
    go_ret
    exact ⟨rfl, unhide HB10⟩
end Go.Proofs.YthhpnakgiammiaaDoor
