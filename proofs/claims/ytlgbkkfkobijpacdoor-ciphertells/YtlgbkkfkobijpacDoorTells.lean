/- For any key, number, head and bytes the Go function sealskinlaw08.CipherTells returns true, and its arguments read as they did. No condition. -/
import Derived.Test.YtlgbkkfkobijpacDoorCAwake
import Derived.Test.YtlgbkkfkobijpacDoorCLong
import Derived.Test.YtlgbkkfkobijpacDoorCCard
namespace Go.Proofs.YtlgbkkfkobijpacDoor.tells
set_option linter.unusedVariables false
set_option linter.unusedSimpArgs false
open Go.ChangeShapes Go.WideShapes Go.ChangeAt Go.RowKit Go.Joins

theorem turn_twice (W b : List Nat) : turnL W (turnL W b) = b := by
  apply List.ext_getElem?
  intro i
  by_cases hi : i < b.length
  · rw [turnL, List.getElem?_map, List.getElem?_range (by rw [turnL_len]; exact hi), Option.map_some, turnW, turnL_getD W b i hi, turnW, Nat.xor_assoc, Nat.xor_self, Nat.xor_zero, List.getD_eq_getElem?_getD, List.getElem?_eq_getElem hi]
    rfl
  · rw [List.getElem?_eq_none (by rw [turnL_len, turnL_len]; omega), List.getElem?_eq_none (by omega)]
theorem tk_twice (key : List Nat) (once : Nat) (b : List Nat) : tkL key once (tkL key once b) = b := turn_twice _ _

theorem wrap_nn (p : Int) : 0 ≤ IntKind.u64.wrap p := by
  show 0 ≤ p % _
  exact Int.emod_nonneg _ (by decide)
theorem wrap_in (p : Int) (h0 : 0 ≤ p) (h1 : p < 18446744073709551616) : IntKind.u64.wrap p = p := by
  show p % 18446744073709551616 = p
  omega
set_option maxRecDepth 100000 in
set_option maxHeartbeats 8000000 in
theorem walk (kv hv uv : Value) (key head b : List Nat) (once : Nat) (p x : Int) (w : World) (hT : Lay w) (hk : Byt w kv key) (hh : Byt w hv head) (hb : Byt w uv b) (hk8 : U8 key) (hh8 : U8 head) (hb8 : U8 b) (ho : once < 18446744073709551616) :
    Calls Tryd.prog 6 #[kv, .int .u64 (once : Int), hv, uv, .int .i64 p, .int .i64 x] w fun e w' => e = .returned (.bool true) ∧ Below w.heap.size w w' := by
  have HT := hide hT
  have HK := hide hk
  have HH := hide hh
  have HB := hide hb
  have HK8 := hide hk8
  have HH8 := hide hh8
  have HB8 := hide hb8
  have HO := hide ho
  obtain ⟨ka, kc, hke⟩ := byt_shape hk
  obtain ⟨ha, hc, hhe⟩ := byt_shape hh
  obtain ⟨ba, bc, hbe⟩ := byt_shape hb
  obtain ⟨kn, hkn⟩ : ∃ n, key.length = n := ⟨_, rfl⟩
  obtain ⟨hn, hhn⟩ : ∃ n, head.length = n := ⟨_, rfl⟩
  obtain ⟨bn, hbn⟩ : ∃ n, b.length = n := ⟨_, rfl⟩
  rw [hkn] at hke
  rw [hhn] at hhe
  rw [hbn] at hbe
  subst hke hhe hbe
  have HKN := hide hkn
  have HHN := hide hhn
  have HBN := hide hbn
  have L1 := LL.three hk hh hb
  have b1 : Below w.heap.size w (w.alloc (.cells #[.slice ka kn kc, .slice ha hn hc, .slice ba bn bc] 22)) := (Below.refl _ _).alloc (Nat.le_refl _) _
  have HLG := hide (clong_any _ _ _ L1 (by simp))
  have HB1 := hide b1
  clear hT hk hh hb hk8 hh8 hb8 ho hkn hhn hbn L1 b1
  go_enter Tryd.func6, Tryd.ntmps6
  go_wp2_with fail
  generalize w.alloc (.cells #[.slice ka kn kc, .slice ha hn hc, .slice ba bn bc] 22) = w1 at *
  refine Calls.mono (unhide HLG) ?_
  rintro e wx ⟨bb, rfl, hlong, rfl⟩
  cases bb
  · have hall := hlong rfl
    have l1 : kn ≤ 4096 := by have := hall (.slice ka kn kc, key) (by simp); rw [unhide HKN] at this; exact this
    have l2 : hn ≤ 4096 := by have := hall (.slice ha hn hc, head) (by simp); rw [unhide HHN] at this; exact this
    have l3 : bn ≤ 4096 := by have := hall (.slice ba bn bc, b) (by simp); rw [unhide HBN] at this; exact this
    clear hlong hall HLG
    have HAW0 := hide (cawake_any w1 ((unhide HT).below (unhide HB1)))
    by_cases h64 : kn = 64
    · subst h64
      have HSE := hide (seal_any (.slice ka 64 kc) (.slice ha hn hc) (.slice ba bn bc) key head b once w1 ((unhide HT).below (unhide HB1)) ((unhide HK).call (unhide HB1)) ((unhide HH).call (unhide HB1)) ((unhide HB).call (unhide HB1)) (unhide HK8) (unhide HH8) (unhide HB8) (unhide HKN) (by rw [unhide HHN]; omega) (by rw [unhide HBN]; omega) (unhide HO))
      rw [unhide HBN] at HSE
      obtain ⟨sn, hsn⟩ : ∃ x, bn + 16 = x := ⟨_, rfl⟩
      rw [hsn] at HSE
      go_wp2_with fail
      refine Calls.mono (unhide HSE) ?_
      rintro e w4 ⟨v4, rfl, o4, b4⟩
      have hls : (sealL key once head b).length = sn := by rw [sealL_len, unhide HBN, hsn]
      have Y4 : Byt w4 v4 (sealL key once head b) := Byt.of_own (own_cast o4 hls.symm rfl)
      obtain ⟨sa, sc, hse⟩ := byt_shape Y4
      rw [hls] at hse
      subst hse
      have B4 := (unhide HB1).trans (b4.mono (unhide HB1).size)
      have HCL := hide (clone_any (.slice sa sn sc) (sealL key once head b) w4 Y4 (by rw [hls]; omega))
      rw [hls] at HCL
      have e3 : (sn : Int) = (bn : Int) + 16 := by omega
      have e4 : (bn : Int) + 16 = (sn : Int) := by omega
      have HB4 := hide B4
      have HLS := hide hls
      clear o4 b4 Y4 B4 HSE hls e3
      go_wp2_with fail
      refine Calls.mono (unhide HCL) ?_
      rintro e w5 ⟨v5, rfl, o5, b5⟩
      obtain ⟨g, tc, cur, rfl, hg0, hrow, hg, htm, hcs, hct⟩ : ∃ g c cur, v5 = .slice (some ⟨g, 0, none⟩) sn c ∧ w4.heap.size ≤ g ∧ RowAt w5 g 5 cur ∧ sn ≤ c ∧ c ≤ maxLen ∧ cur.length = c ∧ cur.take sn = bv (sealL key once head b) := by
        rcases o5 with ⟨_, ⟨h, h0⟩ | ⟨g, c, cur, h, h1, h2, h3, h4, h5, h6⟩⟩
        · omega
        · exact ⟨g, c, cur.toList, h, h1, by rw [RowAt, h2], h3, h4, by simp [h5], by rw [← h6, Nat.mul_one]⟩
      obtain ⟨i, hi16, q1⟩ : ∃ i : Nat, i < 16 ∧ wrap64 (↑bn + wrap64 ((IntKind.u64.wrap p).tmod 16)) = ((bn + i : Nat) : Int) := by
        have u0 : 0 ≤ IntKind.u64.wrap p := wrap_nn p
        have u1 : (IntKind.u64.wrap p).tmod 16 = (IntKind.u64.wrap p) % 16 := Int.tmod_eq_emod_of_nonneg u0
        refine ⟨((IntKind.u64.wrap p) % 16).toNat, by omega, ?_⟩
        rw [u1, Go.IntWalk.wrap64_in (IntKind.u64.wrap p % 16) (by omega), Go.IntWalk.wrap64_in ((bn : Int) + IntKind.u64.wrap p % 16) (by omega)]
        omega
      obtain ⟨j, hj⟩ : ∃ j : Nat, bn + i = j := ⟨_, rfl⟩
      rw [hj] at q1
      have hjs : j < sn := by omega
      obtain ⟨y, hy⟩ : ∃ y : Nat, (sealL key once head b)[j]? = some y := ⟨_, List.getElem?_eq_getElem (by rw [unhide HLS]; exact hjs)⟩
      have hcj : cur[j]? = some (.int .u8 (y : Int)) := by
        have h1 : (cur.take sn)[j]? = some (.int .u8 (y : Int)) := by rw [hct, bv, List.getElem?_map, hy]; rfl
        rwa [List.getElem?_take_of_lt hjs] at h1
      have hcell : w5.cell? ⟨g, j, none⟩ = some (.int .u8 (y : Int)) := by rw [hrow.cell, hcj]
      have hfr : w5.frozen? ⟨g, j, none⟩ = false := hrow.frozen j
      have S8 : U8 (sealL key once head b) := fun y hy => by
        rcases List.mem_append.1 hy with hy | hy
        · exact tkL_8 key once (unhide HB8) y hy
        · exact tagL_8 _ _ _ _ y hy
      have hy8 : y < 256 := S8 y (List.mem_of_getElem? hy)
      obtain ⟨d, hd0, hd8, q2⟩ : ∃ d : Nat, 0 < d ∧ d < 256 ∧ IntKind.u64.wrap (1 + (IntKind.u64.wrap x).tmod 255) % 256 = (d : Int) := by
        have u0 : 0 ≤ IntKind.u64.wrap x := wrap_nn x
        have u1 : (IntKind.u64.wrap x).tmod 255 = (IntKind.u64.wrap x) % 255 := Int.tmod_eq_emod_of_nonneg u0
        refine ⟨(1 + (IntKind.u64.wrap x) % 255).toNat, by omega, by omega, ?_⟩
        rw [u1, wrap_in _ (by omega) (by omega)]
        omega
      have q3 : bits .xor .u8 (y : Int) (d : Int) = ((y ^^^ d : Nat) : Int) := u8_xor_nat y d hy8 hd8
      have hz8 : y ^^^ d < 256 := Nat.xor_lt_two_pow (n := 8) hy8 hd8
      have hzy : ¬ y ^^^ d = y := fun h => by
        have h1 : y ^^^ (y ^^^ d) = y ^^^ y := by rw [h]
        rw [← Nat.xor_assoc, Nat.xor_self, Nat.zero_xor] at h1
        omega
      obtain ⟨z, hz⟩ : ∃ z, y ^^^ d = z := ⟨_, rfl⟩
      rw [hz] at q3 hz8 hzy
      have R6 := hrow.set j (.int .u8 (z : Int))
      have bb5 := (unhide HB4).trans (b5.mono (unhide HB4).size)
      have B6 : Below w.heap.size w (w5.setCell ⟨g, j, none⟩ (.int .u8 (z : Int))) := bb5.setCell (Nat.le_trans (unhide HB4).size hg0) _
      have hls : (sealL key once head b).length = sn := unhide HLS
      have Y6 : Byt (w5.setCell ⟨g, j, none⟩ (.int .u8 (z : Int))) (.slice (some ⟨g, 0, none⟩) sn tc) ((sealL key once head b).set j z) := by
        refine .inr ⟨⟨g, 0, none⟩, tc, by rw [List.length_set, hls], by rw [List.length_set, hls]; exact hg, htm, fun k u hk => ?_⟩
        have hkn : k < sn := by
          rcases Nat.lt_or_ge k sn with h | h
          · exact h
          · rw [List.getElem?_eq_none (by rw [List.length_set, hls]; exact h)] at hk; cases hk
        have e0 : (⟨g, 0, none⟩ : Addr).add k = ⟨g, k, none⟩ := by simp [Addr.add]; exact Eq.symm
        rw [e0, R6.cell]
        by_cases hkj : j = k
        · subst hkj
          rw [List.getElem?_set_self (by rw [hls]; exact hjs)] at hk
          rw [List.getElem?_set_self (by omega)]
          cases hk; rfl
        · rw [List.getElem?_set_ne hkj] at hk
          rw [List.getElem?_set_ne hkj]
          have h1 : (cur.take sn)[k]? = some (.int .u8 (u : Int)) := by rw [hct, bv, List.getElem?_map, hk]; rfl
          rwa [List.getElem?_take_of_lt hkn] at h1
      have Z8 : U8 ((sealL key once head b).set j z) := fun u hu => by
        rcases List.mem_or_eq_of_mem_set hu with h | h
        · exact S8 u h
        · rw [h]; exact hz8
      have HOP := hide (open_any (.slice ka 64 kc) (.slice ha hn hc) (.slice (some ⟨g, 0, none⟩) sn tc) key head ((sealL key once head b).set j z) once (w5.setCell ⟨g, j, none⟩ (.int .u8 (z : Int))) ((unhide HT).below B6) ((unhide HK).call B6) ((unhide HH).call B6) Y6 (unhide HK8) (unhide HH8) Z8 (unhide HKN) (by rw [unhide HHN]; omega) (by rw [List.length_set, hls]; omega) (by rw [List.length_set, hls]; omega) (unhide HO))
      have t1 : ((sealL key once head b).set j z).take (((sealL key once head b).set j z).length - 16) = tkL key once b := by
        rw [List.length_set, hls, show sn - 16 = bn by omega, List.take_set_of_le (by omega), sealL, List.take_left' (by rw [tkL_len, unhide HBN])]
      have t2 : ¬ ((sealL key once head b).set j z).drop (((sealL key once head b).set j z).length - 16) = tagL key once head (tkL key once b) := fun h => by
        have h1 : (((sealL key once head b).set j z).drop bn)[i]? = ((sealL key once head b).drop bn)[i]? := by
          rw [List.length_set, hls, show sn - 16 = bn by omega] at h
          rw [h, sealL, List.drop_left' (by rw [tkL_len, unhide HBN])]
        rw [List.getElem?_drop, List.getElem?_drop, hj, List.getElem?_set_self (by rw [hls]; exact hjs), hy] at h1
        injection h1 with h1
        exact hzy h1
      rw [t1] at HOP
      have HNO := hide t2
      have HB6 := hide B6
      have m1 : (15 : Int) ≤ (tc : Int) := by omega
      have m5 : min (sn : Int) 15 = 15 := by omega
      have m2 : ¬ (sn : Int) < 15 := by omega
      have m3 : ¬ (sn : Int) ≤ 15 := by omega
      have m4 : (15 : Int) < (sn : Int) := by omega
      clear HCL o5 b5 hrow hcs hct hcj S8 hy hz R6 bb5 Y6 Z8 t1 t2 B6 hls
      go_wp2_with fail
      generalize w5.setCell ⟨g, j, none⟩ (.int .u8 (z : Int)) = w6 at *
      refine Calls.mono (unhide HOP) ?_
      rintro e w7 ⟨b7, _, hno⟩
      obtain rfl := hno (unhide HNO)
      have B7 := (unhide HB6).trans (b7.mono (unhide HB6).size)
      have HSH := hide (open_short ka kc (.slice ha hn hc) (some ⟨g, 0, none⟩) 15 tc once w7 (by omega))
      have HAW := hide (cawake_any w7 ((unhide HT).below B7))
      have HB7 := hide B7
      clear b7 hno B7 HOP HNO HAW0 HB6
      go_wp2_with fail
      refine Calls.mono (unhide HSH) ?_
      rintro e wx ⟨rfl, rfl⟩
      go_wp2_with fail
      refine Calls.mono (unhide HAW) ?_
      rintro e w8 ⟨rfl, b8⟩
      go_wp2_with fail
      go_ret
      exact ⟨rfl, (unhide HB7).trans (b8.mono (unhide HB7).size)⟩
    · have HSE := hide (seal_not ka kn kc (.slice ha hn hc) (.slice ba bn bc) once w1 h64)
      have h2 : ¬ (kn : Int) = 64 := by omega
      go_wp2_with fail
      refine Calls.mono (unhide HSE) ?_
      rintro e wx ⟨rfl, rfl⟩
      go_wp2_with fail
      refine Calls.mono (unhide HAW0) ?_
      rintro e w4 ⟨rfl, b4⟩
      go_wp2_with fail
      go_ret
      exact ⟨rfl, (unhide HB1).trans (b4.mono (unhide HB1).size)⟩
  · have HAW := hide (cawake_any w1 ((unhide HT).below (unhide HB1)))
    go_wp2_with fail
    refine Calls.mono (unhide HAW) ?_
    rintro e w3 ⟨rfl, b3⟩
    go_wp2_with fail
    go_ret
    exact ⟨rfl, (unhide HB1).trans (b3.mono (unhide HB1).size)⟩

theorem contract (H : Type) (enc : TypeId × Value → H) (W : World) (base : Nat) (args : Array Value) (ds gs : List (DataW H)) (before : List MemPlace)
    (hval : ∀ (j : Nat) t v, Tryd.f6.params[j]? = some t → args[j]? = some v → Value.okWide Tryd.prog W .any base t v)
    (hW : DataW.Whole enc Tryd.prog Tryd.f6.params.toList Rows.cipherTellsSpec.vars false W args.toList ds gs before) (hL : laidMetH Tryd.prog Rows.cipherTellsRow.laid W) :
    Calls Tryd.prog 6 args W fun e W' => ∃ v, e = .returned v ∧ Rows.cipherTellsSpec.post enc Tryd.prog Tryd.f6 false true false false W args v W' := by
  have hT : Lay W := tabs_of hL
  have hW' := hW
  obtain ⟨p, q, hA0, hV, rfl, hfz, hnd⟩ := hW
  have hA : DataW.TrodAll enc Tryd.prog W 0 (fun _ => true) true Tryd.f6.params.toList args.toList ds p := hA0
  rw [Tryd.params6] at hA hval
  obtain ⟨v0, vs0, d0, ds0, p0, q0, hargs, rfl, rfl, h0, r0⟩ := trodAll_cons hA
  obtain ⟨v1, vs1, d1, ds1, p1, q1, rfl, rfl, rfl, h1, r1⟩ := trodAll_cons r0
  obtain ⟨v2, vs2, d2, ds2, p2, q2, rfl, rfl, rfl, h2, r2⟩ := trodAll_cons r1
  obtain ⟨v3, vs3, d3, ds3, p3, q3, rfl, rfl, rfl, h3, r3⟩ := trodAll_cons r2
  obtain ⟨v4, vs4, d4, ds4, p4, q4, rfl, rfl, rfl, h4, r4⟩ := trodAll_cons r3
  obtain ⟨v5, vs5, d5, ds5, p5, q5, rfl, rfl, rfl, h5, r5⟩ := trodAll_cons r4
  obtain ⟨rfl, rfl, rfl⟩ := trodAll_nil r5
  obtain rfl : args = #[v0, v1, v2, v3, v4, v5] := by cases args; simp_all
  obtain ⟨rfl, rfl⟩ := trodVars_none hV
  have lt0 : ∀ x ∈ p0, x.block < W.heap.size := by obtain ⟨m, hm⟩ := h0; exact DataW.trod_lt m _ _ _ hm
  have lt1 : ∀ x ∈ p1, x.block < W.heap.size := by obtain ⟨m, hm⟩ := h1; exact DataW.trod_lt m _ _ _ hm
  have lt2 : ∀ x ∈ p2, x.block < W.heap.size := by obtain ⟨m, hm⟩ := h2; exact DataW.trod_lt m _ _ _ hm
  have lt3 : ∀ x ∈ p3, x.block < W.heap.size := by obtain ⟨m, hm⟩ := h3; exact DataW.trod_lt m _ _ _ hm
  have lt4 : ∀ x ∈ p4, x.block < W.heap.size := by obtain ⟨m, hm⟩ := h4; exact DataW.trod_lt m _ _ _ hm
  have lt5 : ∀ x ∈ p5, x.block < W.heap.size := by obtain ⟨m, hm⟩ := h5; exact DataW.trod_lt m _ _ _ hm
  obtain ⟨l0, hY0, h2560⟩ := open_bytes (hval 0 22 v0 rfl rfl) h0
  obtain ⟨n1, rfl, hn1⟩ := open_u64 (hval 1 23 v1 rfl rfl) h1
  obtain ⟨l2, hY2, h2562⟩ := open_bytes (hval 2 22 v2 rfl rfl) h2
  obtain ⟨l3, hY3, h2563⟩ := open_bytes (hval 3 22 v3 rfl rfl) h3
  obtain ⟨n4, rfl⟩ := open_i64 (hval 4 3 v4 rfl rfl) h4
  obtain ⟨n5, rfl⟩ := open_i64 (hval 5 3 v5 rfl rfl) h5
  clear hA0
  refine (walk v0 v2 v3 l0 l2 l3 n1 n4 n5 W hT hY0 hY2 hY3 h2560 h2562 h2563 hn1).mono fun e W' ⟨he, bel⟩ => ?_
  subst he
  exact ⟨_, rfl, _, _, _, [], _, [], hW', trodAll_mk1 (shut_bool Tryd.underlying4 _), (trodAll_cons_mk (Below.trod laidOut (by kernel_rfl) (of_decide_eq_true (by kernel_rfl)) h0 bel lt0) (trodAll_cons_mk (Below.trod laidOut (by kernel_rfl) (of_decide_eq_true (by kernel_rfl)) h1 bel lt1) (trodAll_cons_mk (Below.trod laidOut (by kernel_rfl) (of_decide_eq_true (by kernel_rfl)) h2 bel lt2) (trodAll_cons_mk (Below.trod laidOut (by kernel_rfl) (of_decide_eq_true (by kernel_rfl)) h3 bel lt3) (trodAll_cons_mk (Below.trod laidOut (by kernel_rfl) (of_decide_eq_true (by kernel_rfl)) h4 bel lt4) (trodAll_cons_mk (Below.trod laidOut (by kernel_rfl) (of_decide_eq_true (by kernel_rfl)) h5 bel lt5) trodAll_mk0)))))), rfl, bel.frame _, fun h => by cases h⟩

set_option maxRecDepth 100000 in
theorem laid_here (os : Os) : laidMet Tryd.prog Rows.cipherTellsRow.laid ((laidWorld os).forCall (fun _ _ => 0) ⟨#[], #[.slice none 0 0, .int .u64 0, .slice none 0 0, .slice none 0 0, .int .i64 0, .int .i64 0], []⟩).memory :=
  laidMet_of_run' 8 (by kernel_rfl) (by kernel_rfl)
theorem reads (os : Os) {H : Type} (enc : TypeId × Value → H) : ∃ places, DataW.whole enc Tryd.prog ((laidWorld os).forCall (fun _ _ => 0) ⟨#[], #[.slice none 0 0, .int .u64 0, .slice none 0 0, .slice none 0 0, .int .i64 0, .int .i64 0], []⟩).memory Tryd.f6.params.toList Rows.cipherTellsSpec.vars false (#[.slice none 0 0, .int .u64 0, .slice none 0 0, .slice none 0 0, .int .i64 0, .int .i64 0] : Array Value).toList 8 = some ([.nil, .lit (.int .u64 0), .nil, .nil, .lit (.int .i64 0), .lit (.int .i64 0)], [], places) :=
  ⟨[], by kernel_rfl⟩

set_option maxRecDepth 100000 in
theorem lifted (os : Os) (started : os.Started) (H : Type) (enc : TypeId × Value → H) (F : Stop.Interp) :
    ReturnsInHanded {} Tryd.checked os 6 .any ((OpenSpec.ofChange Rows.cipherTellsSpec).preRow enc Tryd.prog Tryd.f6 Rows.cipherTellsRow.domain false Rows.cipherTellsRow.laid) (((OpenSpec.ofChange Rows.cipherTellsSpec).at F).post enc Tryd.prog Tryd.f6 false true false false) := by
  obtain ⟨places, hx⟩ := reads os enc
  refine returnsInHanded_of_row (C := Tryd.checked) (s := OpenSpec.ofChange Rows.cipherTellsSpec) own started (by kernel_rfl) Tryd.func6
    (witness_row_at (enc := enc) (C := Tryd.checked) false (laidWorld os) #[.slice none 0 0, .int .u64 0, .slice none 0 0, .slice none 0 0, .int .i64 0, .int .i64 0] rfl (by kernel_rfl) (by kernel_rfl) (by kernel_rfl)
      (OpenSpec.preRow_of_cond 8 hx (by kernel_rfl) (fun k hk => by cases hk) (by kernel_rfl) (laid_here os))) ?_
  intro W base args ds gs before hval hW _ _ _ hL _ _
  exact contract H enc W base args ds gs before hval hW hL

theorem said : Rows.CipherTellsSaid :=
  OpenClaim.holds_of_cond 6 Tryd.f6 rfl rfl rfl rfl rfl rfl rfl ⟨rfl, rfl, rfl, rfl, rfl⟩ rfl rfl rfl rfl rfl (by kernel_rfl) Tryd.func6 (by kernel_rfl)
    (of_decide_eq_true (by kernel_rfl)) (by unfold Func.isWrapper; first | (rw [if_pos (by decide +kernel)]; kernel_rfl) | (rw [if_neg (by decide +kernel)]; exact ⟨rfl, rfl⟩))
    (fun os started H enc _ F => by rw [OpenClaim.pre_eq_preRow]; exact lifted os started H enc F)

theorem plain (f : FuncId) (fn : Func) (hf : Tryd.pinned.checked.prog.funcNamed "sealskin/sealskinlaw08.CipherTells" = some f) (hfn : Tryd.pinned.checked.prog.funcs[f]? = some fn) :
    false = Tryd.pinned.checked.prog.looks [] ∧ ∀ (j : Nat) t, fn.params[j]? = some t → Tryd.pinned.checked.prog.wantsStandIn t = false := by
  obtain rfl : f = 6 := Option.some.inj ((show Tryd.prog.funcNamed "sealskin/sealskinlaw08.CipherTells" = some 6 by kernel_rfl).symm.trans hf) |>.symm
  obtain rfl : fn = Tryd.f6 := (Option.some.inj (Tryd.func6.symm.trans hfn)).symm
  refine ⟨by kernel_rfl, fun j t ht => ?_⟩
  rw [Tryd.params6] at ht
  have := Array.mem_of_getElem? ht
  simp at this
  rcases this with rfl | rfl | rfl | rfl
  · exact (show Tryd.prog.wantsStandIn 22 = false by kernel_rfl)
  · exact (show Tryd.prog.wantsStandIn 3 = false by kernel_rfl)
  · exact (show Tryd.prog.wantsStandIn 23 = false by kernel_rfl)
  · exact (show Tryd.prog.wantsStandIn 3 = false by kernel_rfl)

theorem proved : Rows.CipherTellsCardSaid :=
  Claim7.holds_tied_plain_at .later [] _ _ _ _ said (fun _ h => by cases h) (by kernel_rfl) (fun _ h => by cases h) cipherTells_row_tie rfl ⟨rfl, rfl⟩ (by kernel_rfl) rfl plain (by kernel_rfl)
#print axioms proved

end Go.Proofs.YtlgbkkfkobijpacDoor.tells
