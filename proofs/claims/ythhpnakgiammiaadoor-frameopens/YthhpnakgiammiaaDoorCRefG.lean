/- The reference's tag. -/
import Derived.Test.YthhpnakgiammiaaDoorCRefT
import Derived.Test.YthhpnakgiammiaaDoorCNums
import Derived.Test.YthhpnakgiammiaaDoorRefK
import Derived.Test.YthhpnakgiammiaaDoorCTag
namespace Go.Proofs.YthhpnakgiammiaaDoor
set_option linter.unusedVariables false
set_option linter.unusedSimpArgs false
open Go.ChangeShapes Go.WideShapes Go.ChangeAt Go.RowKit Go.Joins

set_option maxRecDepth 100000 in
set_option maxHeartbeats 4000000 in
theorem rtag_any (kv hv uv : Value) (key head hidden : List Nat) (once : Nat) (w : World) (hk : Byt w kv key) (hh : Byt w hv head) (hu : Byt w uv hidden) (hk8 : U8 key) (hh8 : U8 head) (hu8 : U8 hidden) (hkl : key.length = 64) (hhl : head.length ≤ 450000) (hul : hidden.length ≤ 450000) (ho : once < 18446744073709551616) :
    Calls Tryd.prog 36 #[kv, .int .u64 (once : Int), hv, uv] w
      fun e w' => ∃ v', e = .returned v' ∧ w'.ownsRow w.heap.size 5 1 v' 16 (bv (tagL key once head hidden)) ∧ Below w.heap.size w w' := by
  obtain ⟨i0, hi, hz0, hz1, hz2⟩ := info_parts info5
  have HK := hide hk
  have HH := hide hh
  have HU := hide hu
  obtain ⟨ha, hc, hhe⟩ := byt_shape hh
  obtain ⟨ua, uc, hue⟩ := byt_shape hu
  obtain ⟨hn, hhn⟩ : ∃ x, head.length = x := ⟨_, rfl⟩
  obtain ⟨un, hun⟩ : ∃ x, hidden.length = x := ⟨_, rfl⟩
  rw [hhn] at hhe hhl
  rw [hun] at hue hul
  subst hhe hue
  obtain ⟨ka, kc, rfl, hkc⟩ : ∃ ka kc, kv = .slice (some ka) 64 kc ∧ 64 ≤ kc := by
    rcases hk with ⟨h1, h2⟩ | ⟨a, c, h1, h2, _⟩
    · rw [h2] at hkl; cases hkl
    · exact ⟨a, c, by rw [h1, hkl], by omega⟩
  have hz := zero27
  generalize hZ : (bv (List.replicate 32 0)).toArray = Z at hz
  have HZS : Hid (Z.size = 32) := hide (by rw [← hZ, List.size_toArray, bv_len, List.length_replicate])
  obtain ⟨o1, ho1⟩ : ∃ x, once / 2 = x := ⟨_, rfl⟩
  obtain ⟨o2, ho2⟩ : ∃ x, once % 2 = x := ⟨_, rfl⟩
  have e1 : (once : Int) / 2 = (o1 : Int) := by omega
  have e2 : (once : Int) % 2 = (o2 : Int) := by omega
  have o2b : o2 < 2 := by omega
  have o1b : o1 ≤ 9223372036854775807 := by omega
  have b1 : Below w.heap.size w (w.alloc (.cells #[.int .i64 (o1 : Int), .int .i64 (o2 : Int), .int .i64 (hn : Int)] 3)) := (Below.refl _ _).alloc (Nat.le_refl _) _
  have hcell := RowAt.new w 3 [.int .i64 (o1 : Int), .int .i64 (o2 : Int), .int .i64 (hn : Int)]
  have HPT := hide (refputm_any (.slice none 0 0) [] (some ⟨w.heap.size, 0, none⟩) 3 3 (tagN once hn) (w.alloc (.cells #[.int .i64 (o1 : Int), .int .i64 (o2 : Int), .int .i64 (hn : Int)] 3)) (.inl ⟨rfl, rfl⟩) (by simp) (by omega)
    (.inr ⟨w.heap.size, 0, rfl, by rw [csize_alloc]; omega, fun i hi => by
      rw [Nat.zero_add]
      match i, hi with
      | 0, _ => rw [tagN, ho1]; exact hcell.cell 0
      | 1, _ => rw [tagN, ho2]; exact hcell.cell 1
      | 2, _ => exact hcell.cell 2⟩)
    (fun i hi => by
      match i, hi with
      | 0, _ => rw [tagN]; omega
      | 1, _ => rw [tagN]; omega
      | 2, _ => show (hn : Int) ≤ 9223372036854775807; omega))
  have HB1 := hide b1
  obtain ⟨NL, hNL⟩ : ∃ x, numsL once hn = x := ⟨_, rfl⟩
  have HNU : Hid (U8 NL) := hide (hNL ▸ putN_8 (fun y hy => by cases hy) _ 3)
  have HNN : Hid (NL.length = 24) := hide (by rw [← hNL, numsL, putN_len]; rfl)
  have e9 : putN [] (tagN once hn) 3 = NL := hNL
  rw [e9] at HPT
  have HSE : Hid (sumT key once head hidden = keyedL (key.drop 32) (NL ++ head ++ hidden)) := hide (by rw [sumT, hhn, hNL])
  have HTE : Hid (tagL key once head hidden = (sumT key once head hidden).take 16) := hide rfl
  have HK8 := hide hk8
  have HH8 := hide hh8
  have HU8 := hide hu8
  have HKL := hide hkl
  have HHN := hide hhn
  have HUN := hide hun
  clear hk hh hu hk8 hh8 hu8 hkl hZ b1 hcell hNL e9 ho1 ho2 hhn hun
  go_enter Tryd.func36, Tryd.ntmps36
  go_wp2_with fail
  generalize w.alloc (.cells #[.int .i64 (o1 : Int), .int .i64 (o2 : Int), .int .i64 (hn : Int)] 3) = w1 at *
  refine Calls.mono (unhide HPT) ?_
  rintro e w2 ⟨v2, rfl, ow2, b2⟩
  have B2 := (unhide HB1).trans (b2.mono (unhide HB1).size)
  rw [unhide HNN] at ow2
  have O2 := own_base ow2 (unhide HB1).size
  have S1 := byt_src ((unhide HH).call B2) (unhide HHN)
  have L1 : (bv head).length = hn * 1 := by rw [bv_len, unhide HHN]; omega
  have s2 := B2.size
  have HB2 := hide B2
  have HO2 := hide O2
  clear ow2 b2 B2 HPT HB1
  go_wp2_with (at_builtin; refine wpList_append_src _ rfl _ _ 22 rfl w.heap.size 5 i0 (.int .u8 0) 1 1 Tryd.underlying22 hi hz0 hz1 hz2 rfl (by decide) _ _ _ rfl O2 ha hn hc (bv head) rfl L1 S1.1 S1.2 (bv_one head) ?c3 ?c4 s2 ?_)
  case c3 => unfold maxLen; omega
  case c4 => omega
  intro a3 c3 w3 O3 g3
  have B3 := (unhide HB2).grown g3 s2 (fun k hk => ((unhide HO2).lt k hk).1)
  have S2 := byt_src ((unhide HU).call B3) (unhide HUN)
  have L2 : (bv hidden).length = un * 1 := by rw [bv_len, unhide HUN]; omega
  have s3 := B3.size
  have HB3 := hide B3
  have HO3 := hide O3
  clear g3 B3 L1 S1 O2 HO2 HB2 s2
  go_wp2_with (at_builtin; refine wpList_append_src _ rfl _ _ 22 rfl w.heap.size 5 i0 (.int .u8 0) 1 1 Tryd.underlying22 hi hz0 hz1 hz2 rfl (by decide) _ _ _ rfl O3 ua un uc (bv hidden) rfl L2 S2.1 S2.2 (bv_one hidden) ?d3 ?d4 s3 ?_)
  case d3 => unfold maxLen; omega
  case d4 => omega
  intro a4 c4 w4 O4 g4
  have B4 := (unhide HB3).grown g4 s3 (fun k hk => ((unhide HO3).lt k hk).1)
  obtain ⟨n4, hn4⟩ : ∃ x, 24 + hn + un = x := ⟨_, rfl⟩
  rw [hn4] at O4
  have hl4 : (NL ++ head ++ hidden).length = n4 := by rw [List.length_append, List.length_append, unhide HNN, unhide HHN, unhide HUN, hn4]
  have Y4 : Byt w4 (.slice a4 n4 c4) (NL ++ head ++ hidden) := Byt.of_own (own_cast O4 hl4.symm (by simp [bv_append]))
  have A8 : U8 (NL ++ head ++ hidden) := u8_app (u8_app (unhide HNU) (unhide HH8)) (unhide HU8)
  have hkd : (key.drop 32).length = 32 := by rw [List.length_drop, unhide HKL]
  have HKD := hide (rkeyed_any (.slice (some (ka.add 32)) 32 (kc - 32)) (.slice a4 n4 c4) (key.drop 32) (NL ++ head ++ hidden) w4 (((unhide HK).call B4).drop 32 (by omega)) Y4 (fun y hy => unhide HK8 y (List.mem_of_mem_drop hy)) A8 (by rw [hkd]; omega) (by rw [hl4]; omega))
  rw [← unhide HSE] at HKD
  have HB4 := hide B4
  clear O4 g4 B4 hl4 Y4 A8 hkd L2 S2 O3 HO3 HB3 s3
  try rw [hn4]
  go_wp2_with fail
  refine Calls.mono (unhide HKD) ?_
  rintro e w5 ⟨rfl, b5⟩
  obtain ⟨E, hE⟩ : ∃ x, (bv (sumT key once head hidden)).toArray = x := ⟨_, rfl⟩
  rw [hE]
  have HES : Hid (E.size = 32) := hide (by rw [← hE, List.size_toArray, bv_len, sumT_len])
  have HEO : Hid (E.all (·.oneCell') = true) := hide (hE ▸ one_bv _)
  obtain ⟨gs, hgs⟩ : ∃ x, w5.heap.size = x := ⟨_, rfl⟩
  have B5 := (unhide HB4).trans (b5.mono (unhide HB4).size)
  have R6 : RowAt (w5.alloc (.cells E 78)) gs 78 (bv (sumT key once head hidden)) := by
    have := RowAt.new w5 78 (bv (sumT key once head hidden))
    rw [hE, hgs] at this
    exact this
  have B6 := B5.alloc B5.size (.cells E 78)
  have HS6 : Hid ((w5.alloc (.cells E 78)).heap.size = gs + 1) := hide (by rw [csize_alloc, hgs])
  have HGS : Hid (w.heap.size ≤ gs) := hide (by have := B5.size; omega)
  have HR6 := hide R6
  have HB6 := hide B6
  clear b5 B5 hE HKD HB4 R6 B6
  go_upto_region 4 with (refine wpList_store_newc rfl 78 _ _ rfl E gs hgs (by kernel_rfl) (by kernel_rfl) (by rw [z27, unhide HES]) (by rw [unhide HES, unhide HZS]) (unhide HEO) ?_)
  try rw [hgs]
  generalize w5.alloc (.cells E 78) = w6 at *
  have h6 : w6.heap.size = gs + 1 := unhide HS6
  have hown : (w6.alloc (.cells #[] 5)).ownsRow w.heap.size 5 1 (.slice (some ⟨gs + 1, 0, none⟩) 0 0) 0 [] := by
    have := World.ownsRow_made (base := w.heap.size) (e := 5) (size := 1) w6 #[] 0 (unhide HB6).size (Nat.zero_le _) rfl
    rw [h6] at this
    exact this
  have b7 : Below w6.heap.size w6 (w6.alloc (.cells #[] 5)) := (Below.refl _ _).alloc (Nat.le_refl _) _
  have R7 := (unhide HR6).below b7 (unhide HR6).lt
  have s7 : w.heap.size ≤ (w6.alloc (.cells #[] 5)).heap.size := by rw [csize_alloc]; have := (unhide HB6).size; omega
  have B7 := (unhide HB6).trans (b7.mono (unhide HB6).size)
  have HCL : Hid (∀ b, some (⟨gs, 0, none⟩ : Addr) = some b → ∀ j u, (bv (tagL key once head hidden))[j]? = some u → (w6.alloc (.cells #[] 5)).cell? (b.add j) = some u) := hide (by
    intro b hb j u hj
    injection hb with hb
    subst hb
    obtain ⟨y, hy, rfl⟩ := bv_get hj
    rw [unhide HTE, List.getElem?_take] at hy
    split at hy
    · rw [add_plain, Nat.zero_add, R7.cell, bv, List.getElem?_map, hy]; rfl
    · cases hy)
  have HLL : Hid ((bv (tagL key once head hidden)).length = 16 * 1) := hide (by rw [bv_len, tagL_len])
  have HB7 := hide B7
  have HOW := hide hown
  clear b7 R7 B7
  go_wp2_with (at_builtin; refine wpList_append_src _ rfl _ _ 22 rfl w.heap.size 5 i0 (.int .u8 0) 1 1 Tryd.underlying22 hi hz0 hz1 hz2 rfl (by decide) _ _ _ rfl hown (some ⟨gs, 0, none⟩) 16 32 (bv (tagL key once head hidden)) rfl (unhide HLL) (fun h => by cases h) (unhide HCL) (bv_one _) ?f3 ?f4 s7 ?_)
  case f3 => unfold maxLen; omega
  case f4 => omega
  intro a8 c8 w8 O8 g8
  have HF : Hid (w8.ownsRow w.heap.size 5 1 (.slice a8 16 c8) 16 (bv (tagL key once head hidden)) ∧ Below w.heap.size w w8) := hide ⟨own_cast O8 rfl (by simp), (unhide HB7).grown g8 s7 (fun k hk => ((unhide HOW).lt k hk).1)⟩
  clear O8 g8 hown HOW HB7 HLL HCL s7
  go_wp2_with fail
  go_ret
  exact ⟨_, rfl, unhide HF⟩
end Go.Proofs.YthhpnakgiammiaaDoor
