/- The reference's Seal. -/
import Derived.Test.YthhpnakgiammiaaDoorCRefG
import Derived.Test.YthhpnakgiammiaaDoorInv
namespace Go.Proofs.YthhpnakgiammiaaDoor
set_option linter.unusedVariables false
set_option linter.unusedSimpArgs false
open Go.ChangeShapes Go.WideShapes Go.ChangeAt Go.RowKit Go.Joins

theorem rseal_not (ka : Option Addr) (kn kc : Nat) (hv uv : Value) (once : Nat) (w : World) (h : ¬ kn = 64) :
    Calls Tryd.prog 16 #[.slice ka kn kc, .int .u64 (once : Int), hv, uv] w fun e w' => e = .returned (.tuple #[.slice none 0 0, .int .i64 1]) ∧ w = w' := by
  have h1 : ¬ (kn : Int) = 64 := by omega
  go_enter Tryd.func16, Tryd.ntmps16
  go_wp2_with fail
  all_goals (first | (exfalso; omega) | (go_ret2; exact ⟨rfl, rfl⟩))

set_option maxRecDepth 100000 in
set_option maxHeartbeats 4000000 in
theorem rseal_any (kv hv uv : Value) (key head b : List Nat) (once : Nat) (w : World) (hk : Byt w kv key) (hh : Byt w hv head) (hb : Byt w uv b) (hk8 : U8 key) (hh8 : U8 head) (hb8 : U8 b) (hkl : key.length = 64) (hhl : head.length ≤ 450000) (hbl : b.length ≤ 450000) (ho : once < 18446744073709551616) :
    Calls Tryd.prog 16 #[kv, .int .u64 (once : Int), hv, uv] w fun e w' => ∃ v', e = .returned (.tuple #[v', .int .i64 0]) ∧ w'.ownsRow w.heap.size 5 1 v' (b.length + 16) (bv (sealL key once head b)) ∧ Below w.heap.size w w' := by
  obtain ⟨i0, hi, hz0, hz1, hz2⟩ := info_parts info5
  have HRT := hide (rturn_any kv uv key b once w hk hb hk8 hb8 (by omega) (by omega) ho)
  have HK := hide hk
  have HH := hide hh
  have HK8 := hide hk8
  have HH8 := hide hh8
  have HO := hide ho
  have HKL := hide hkl
  have HHL := hide hhl
  obtain ⟨ka, kc, hke⟩ := byt_shape hk
  obtain ⟨bn, hbn⟩ : ∃ x, b.length = x := ⟨_, rfl⟩
  rw [hkl] at hke
  subst hke
  rw [hbn] at HRT hbl
  rw [hbn]
  obtain ⟨T, hT⟩ : ∃ T, tkL key once b = T := ⟨_, rfl⟩
  have HSE : Hid (sealL key once head b = T ++ tagL key once head T) := hide (by rw [sealL, hT])
  have HTL : Hid (T.length = bn) := hide (by rw [← hT, tkL_len, hbn])
  have HT8 : Hid (U8 T) := hide (hT ▸ tkL_8 key once hb8)
  rw [hT] at HRT
  have HBL := hide hbl
  clear hk hh hb hk8 hh8 hb8 hkl hhl ho hT hbn
  go_enter Tryd.func16, Tryd.ntmps16
  go_wp2_with fail
  refine Calls.mono (unhide HRT) ?_
  rintro e w2 ⟨v2, rfl, o2, b2⟩
  have Y2 : Byt w2 v2 T := Byt.of_own (own_cast o2 (unhide HTL).symm rfl)
  obtain ⟨ta, tc, hte⟩ := byt_shape Y2
  rw [unhide HTL] at hte
  subst hte
  have hown : (w2.alloc (.cells #[] 5)).ownsRow w.heap.size 5 1 (.slice (some ⟨w2.heap.size, 0, none⟩) 0 0) 0 [] := World.ownsRow_made (base := w.heap.size) (e := 5) (size := 1) w2 #[] 0 b2.size (Nat.zero_le _) rfl
  have b3 : Below w2.heap.size w2 (w2.alloc (.cells #[] 5)) := (Below.refl _ _).alloc (Nat.le_refl _) _
  have B3 := b2.trans (b3.mono b2.size)
  have S1 := byt_src (Y2.call b3) (unhide HTL)
  have L1 : (bv T).length = bn * 1 := by rw [bv_len, unhide HTL]; omega
  have s3 := B3.size
  have HB3 := hide B3
  have HOW := hide hown
  have HY3 := hide (Y2.call b3)
  have HO2 := hide o2
  have HB2 := hide b2
  clear o2 b2 Y2 b3 B3 HRT
  go_wp2_with (at_builtin; refine wpList_append_src _ rfl _ _ 22 rfl w.heap.size 5 i0 (.int .u8 0) 1 1 Tryd.underlying22 hi hz0 hz1 hz2 rfl (by decide) _ _ _ rfl hown ta bn tc (bv T) rfl L1 S1.1 S1.2 (bv_one T) ?c3 ?c4 s3 ?_)
  case c3 => have := unhide HBL; unfold maxLen; omega
  case c4 => have := unhide HBL; omega
  intro a4 c4 w4 O4 g4
  have B4 := (unhide HB3).grown g4 s3 (fun k hk => ((unhide HOW).lt k hk).1)
  have O5 : w4.ownsRow w.heap.size 5 1 (.slice ta bn tc) bn (bv T) := ((unhide HO2).alloc _).kept g4 (by
    cases hq : (Value.slice ta bn tc).ownBlock with
    | none => exact .inl rfl
    | some k =>
      right
      intro e
      have := ((unhide HO2).lt k hq).2
      simp [Value.ownBlock] at e
      omega)
  have Y4 : Byt w4 (.slice ta bn tc) T := Byt.of_own (own_cast O5 (unhide HTL).symm rfl)
  have HTG := hide (rtag_any (.slice ka 64 kc) hv (.slice ta bn tc) key head T once w4 ((unhide HK).call B4) ((unhide HH).call B4) Y4 (unhide HK8) (unhide HH8) (unhide HT8) (unhide HKL) (unhide HHL) (by rw [unhide HTL]; exact unhide HBL) (unhide HO))
  have HO4 : Hid (w4.ownsRow w.heap.size 5 1 (.slice a4 bn c4) bn (bv T)) := hide (by simpa using O4)
  have HB4 := hide B4
  clear O4 g4 B4 O5 Y4 L1 S1 hown HOW HB3 HB2 HY3 HO2 s3
  go_wp2_with fail
  refine Calls.mono (unhide HTG) ?_
  rintro e w5 ⟨v5, rfl, o5, b5⟩
  have B5 := (unhide HB4).trans (b5.mono (unhide HB4).size)
  have O6 := own_call (unhide HO4) b5
  have Y5 : Byt w5 v5 (tagL key once head T) := Byt.of_own (own_cast o5 (tagL_len _ _ _ _).symm rfl)
  obtain ⟨ga, gc, hge⟩ := byt_shape Y5
  rw [tagL_len] at hge
  subst hge
  have S2 := byt_src Y5 (tagL_len _ _ _ _)
  have L2 : (bv (tagL key once head T)).length = 16 * 1 := by rw [bv_len, tagL_len]
  have s5 := B5.size
  have HB5 := hide B5
  have HO6 := hide O6
  clear o5 b5 B5 Y5 HTG HB4 HO4
  go_wp2_with (at_builtin; refine wpList_append_src _ rfl _ _ 22 rfl w.heap.size 5 i0 (.int .u8 0) 1 1 Tryd.underlying22 hi hz0 hz1 hz2 rfl (by decide) _ _ _ rfl O6 ga 16 gc (bv (tagL key once head T)) rfl L2 S2.1 S2.2 (bv_one _) ?d3 ?d4 s5 ?_)
  case d3 => have := unhide HBL; unfold maxLen; omega
  case d4 => have := unhide HBL; omega
  intro a7 c7 w7 O7 g7
  have HF : Hid (w7.ownsRow w.heap.size 5 1 (.slice a7 (bn + 16) c7) (bn + 16) (bv (sealL key once head b)) ∧ Below w.heap.size w w7) := hide ⟨own_cast O7 rfl (by rw [unhide HSE, bv_append]), (unhide HB5).grown g7 s5 (fun k hk => ((unhide HO6).lt k hk).1)⟩
  clear O7 g7 O6 HO6 HB5 S2 L2 s5
  go_wp2_with fail
  go_ret2
  exact ⟨_, rfl, unhide HF⟩
end Go.Proofs.YthhpnakgiammiaaDoor
