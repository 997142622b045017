/- For any key, number, head and bytes the Go function sealskinlaw08.CipherForm returns true, and its arguments read as they did. No condition. -/
import Derived.Test.YtlgbkkfkobijpacDoorCAwake
import Derived.Test.YtlgbkkfkobijpacDoorCLong
import Derived.Test.YtlgbkkfkobijpacDoorCCard
namespace Go.Proofs.YtlgbkkfkobijpacDoor.form
set_option linter.unusedVariables false
set_option linter.unusedSimpArgs false
open Go.ChangeShapes Go.WideShapes Go.ChangeAt Go.RowKit Go.Joins

theorem turn_twice (W b : List Nat) : turnL W (turnL W b) = b := by
  apply List.ext_getElem?
  intro i
  by_cases hi : i < b.length
  · rw [turnL, List.getElem?_map, List.getElem?_range (by rw [turnL_len]; exact hi), Option.map_some, turnW, turnL_getD W b i hi, turnW, Nat.xor_assoc, Nat.xor_self, Nat.xor_zero, List.getD_eq_getElem?_getD, List.getElem?_eq_getElem hi]
    rfl
  · rw [List.getElem?_eq_none (by rw [turnL_len, turnL_len]; omega), List.getElem?_eq_none (by omega)]
theorem tk_twice (key : List Nat) (once : Nat) (b : List Nat) : tkL key once (tkL key once b) = b := turn_twice _ _

set_option maxRecDepth 100000 in
set_option maxHeartbeats 8000000 in
theorem walk (kv hv uv : Value) (key head b : List Nat) (once : Nat) (w : World) (hT : Lay w) (hk : Byt w kv key) (hh : Byt w hv head) (hb : Byt w uv b) (hk8 : U8 key) (hh8 : U8 head) (hb8 : U8 b) (ho : once < 18446744073709551616) :
    Calls Tryd.prog 4 #[kv, .int .u64 (once : Int), hv, uv] w fun e w' => e = .returned (.bool true) ∧ Below w.heap.size w w' := by
  have HT := hide hT
  have HK := hide hk
  have HH := hide hh
  have HB := hide hb
  have HK8 := hide hk8
  have HH8 := hide hh8
  have HB8 := hide hb8
  have HO := hide ho
  obtain ⟨ka, kc, hke⟩ := byt_shape hk
  obtain ⟨ha, hc, hhe⟩ := byt_shape hh
  obtain ⟨ba, bc, hbe⟩ := byt_shape hb
  obtain ⟨kn, hkn⟩ : ∃ n, key.length = n := ⟨_, rfl⟩
  obtain ⟨hn, hhn⟩ : ∃ n, head.length = n := ⟨_, rfl⟩
  obtain ⟨bn, hbn⟩ : ∃ n, b.length = n := ⟨_, rfl⟩
  rw [hkn] at hke
  rw [hhn] at hhe
  rw [hbn] at hbe
  subst hke hhe hbe
  have HKN := hide hkn
  have HHN := hide hhn
  have HBN := hide hbn
  have L1 := LL.three hk hh hb
  have b1 : Below w.heap.size w (w.alloc (.cells #[.slice ka kn kc, .slice ha hn hc, .slice ba bn bc] 22)) := (Below.refl _ _).alloc (Nat.le_refl _) _
  have HLG := hide (clong_any _ _ _ L1 (by simp))
  have HB1 := hide b1
  clear hT hk hh hb hk8 hh8 hb8 ho hkn hhn hbn L1 b1
  go_enter Tryd.func4, Tryd.ntmps4
  go_wp2_with fail
  generalize w.alloc (.cells #[.slice ka kn kc, .slice ha hn hc, .slice ba bn bc] 22) = w1 at *
  refine Calls.mono (unhide HLG) ?_
  rintro e wx ⟨bb, rfl, hlong, rfl⟩
  cases bb
  · have hall := hlong rfl
    have l1 : kn ≤ 4096 := by have := hall (.slice ka kn kc, key) (by simp); rw [unhide HKN] at this; exact this
    have l2 : hn ≤ 4096 := by have := hall (.slice ha hn hc, head) (by simp); rw [unhide HHN] at this; exact this
    have l3 : bn ≤ 4096 := by have := hall (.slice ba bn bc, b) (by simp); rw [unhide HBN] at this; exact this
    clear hlong hall HLG
    have HAW0 := hide (cawake_any w1 ((unhide HT).below (unhide HB1)))
    by_cases h64 : kn = 64
    · subst h64
      by_cases hs : bn < 16
      · have HOP := hide (open_short ka kc (.slice ha hn hc) ba bn bc once w1 hs)
        go_wp2_with fail
        refine Calls.mono (unhide HOP) ?_
        rintro e wx ⟨rfl, rfl⟩
        go_wp2_with fail
        refine Calls.mono (unhide HAW0) ?_
        rintro e w4 ⟨rfl, b4⟩
        go_wp2_with fail
        go_ret
        exact ⟨rfl, (unhide HB1).trans (b4.mono (unhide HB1).size)⟩
      · have HOP := hide (open_any (.slice ka 64 kc) (.slice ha hn hc) (.slice ba bn bc) key head b once w1 ((unhide HT).below (unhide HB1)) ((unhide HK).call (unhide HB1)) ((unhide HH).call (unhide HB1)) ((unhide HB).call (unhide HB1)) (unhide HK8) (unhide HH8) (unhide HB8) (unhide HKN) (by rw [unhide HHN]; omega) (by rw [unhide HBN]; omega) (by rw [unhide HBN]; omega) (unhide HO))
        rw [unhide HBN] at HOP
        obtain ⟨m, hm⟩ : ∃ x, bn - 16 = x := ⟨_, rfl⟩
        rw [hm] at HOP
        have hlm : (b.take m).length = m := by rw [List.length_take, unhide HBN]; omega
        have HLM := hide hlm
        have hmb : m + 16 = bn := by omega
        clear hlm hs hm
        go_wp2_with fail
        refine Calls.mono (unhide HOP) ?_
        rintro e w2 ⟨b2, hy, hno⟩
        have B2 := (unhide HB1).trans (b2.mono (unhide HB1).size)
        by_cases ht : b.drop m = tagL key once head (b.take m)
        · obtain ⟨v2, rfl, o2⟩ := hy ht
          rw [unhide HLM] at o2
          have hl2 : (tkL key once (b.take m)).length = m := by rw [tkL_len, unhide HLM]
          have Y2 : Byt w2 v2 (tkL key once (b.take m)) := Byt.of_own (own_cast o2 hl2.symm rfl)
          obtain ⟨xa, xc, hxe⟩ := byt_shape Y2
          rw [hl2] at hxe
          subst hxe
          have T8 : U8 (b.take m) := fun y hy => unhide HB8 y (List.mem_of_mem_take hy)
          have HSE := hide (seal_any (.slice ka 64 kc) (.slice ha hn hc) (.slice xa m xc) key head (tkL key once (b.take m)) once w2 ((unhide HT).below B2) ((unhide HK).call B2) ((unhide HH).call B2) Y2 (unhide HK8) (unhide HH8) (tkL_8 key once T8) (unhide HKN) (by rw [unhide HHN]; omega) (by rw [hl2]; omega) (unhide HO))
          have hsl : sealL key once head (tkL key once (b.take m)) = b := by rw [sealL, tk_twice, ← ht, List.take_append_drop]
          rw [hsl, hl2, hmb] at HSE
          have HB2 := hide B2
          clear hy hno ht o2 b2 B2 Y2 T8 hsl hl2 HOP HAW0
          go_wp2_with fail
          refine Calls.mono (unhide HSE) ?_
          rintro e w4 ⟨v4, rfl, o4, b4⟩
          have Y4 : Byt w4 v4 b := Byt.of_own (own_cast o4 (unhide HBN).symm rfl)
          have B4 := (unhide HB2).trans (b4.mono (unhide HB2).size)
          have HEQ := hide (equal_any v4 (.slice ba bn bc) b b w4 Y4 ((unhide HB).call B4) (unhide HB8) (unhide HB8))
          rw [show ((strOf b).toList == (strOf b).toList) = true from beq_self_eq_true _] at HEQ
          have HAW := hide (cawake_any w4 ((unhide HT).below B4))
          have HB4 := hide B4
          clear o4 b4 Y4 B4 HSE HB2
          go_wp2_with fail
          refine Calls.mono (unhide HEQ) ?_
          rintro e wx ⟨rfl, rfl⟩
          go_wp2_with fail
          refine Calls.mono (unhide HAW) ?_
          rintro e w6 ⟨rfl, b6⟩
          go_wp2_with fail
          go_ret
          exact ⟨rfl, (unhide HB4).trans (b6.mono (unhide HB4).size)⟩
        · obtain rfl := hno ht
          have HAW := hide (cawake_any w2 ((unhide HT).below B2))
          have HB2 := hide B2
          clear hy hno ht b2 B2 HOP HAW0
          go_wp2_with fail
          refine Calls.mono (unhide HAW) ?_
          rintro e w6 ⟨rfl, b6⟩
          go_wp2_with fail
          go_ret
          exact ⟨rfl, (unhide HB2).trans (b6.mono (unhide HB2).size)⟩
    · have HOP := hide (open_not ka kn kc (.slice ha hn hc) ba bn bc once w1 h64)
      have h2 : ¬ (kn : Int) = 64 := by omega
      go_wp2_with fail
      refine Calls.mono (unhide HOP) ?_
      rintro e wx ⟨rfl, rfl⟩
      go_wp2_with fail
      refine Calls.mono (unhide HAW0) ?_
      rintro e w4 ⟨rfl, b4⟩
      go_wp2_with fail
      go_ret
      exact ⟨rfl, (unhide HB1).trans (b4.mono (unhide HB1).size)⟩
  · have HAW := hide (cawake_any w1 ((unhide HT).below (unhide HB1)))
    go_wp2_with fail
    refine Calls.mono (unhide HAW) ?_
    rintro e w3 ⟨rfl, b3⟩
    go_wp2_with fail
    go_ret
    exact ⟨rfl, (unhide HB1).trans (b3.mono (unhide HB1).size)⟩

theorem contract (H : Type) (enc : TypeId × Value → H) (W : World) (base : Nat) (args : Array Value) (ds gs : List (DataW H)) (before : List MemPlace)
    (hval : ∀ (j : Nat) t v, Tryd.f4.params[j]? = some t → args[j]? = some v → Value.okWide Tryd.prog W .any base t v)
    (hW : DataW.Whole enc Tryd.prog Tryd.f4.params.toList Rows.cipherFormSpec.vars false W args.toList ds gs before) (hL : laidMetH Tryd.prog Rows.cipherFormRow.laid W) :
    Calls Tryd.prog 4 args W fun e W' => ∃ v, e = .returned v ∧ Rows.cipherFormSpec.post enc Tryd.prog Tryd.f4 false true false false W args v W' := by
  have hT : Lay W := tabs_of hL
  have hW' := hW
  obtain ⟨p, q, hA0, hV, rfl, hfz, hnd⟩ := hW
  have hA : DataW.TrodAll enc Tryd.prog W 0 (fun _ => true) true Tryd.f4.params.toList args.toList ds p := hA0
  rw [Tryd.params4] at hA hval
  obtain ⟨v0, vs0, d0, ds0, p0, q0, hargs, rfl, rfl, h0, r0⟩ := trodAll_cons hA
  obtain ⟨v1, vs1, d1, ds1, p1, q1, rfl, rfl, rfl, h1, r1⟩ := trodAll_cons r0
  obtain ⟨v2, vs2, d2, ds2, p2, q2, rfl, rfl, rfl, h2, r2⟩ := trodAll_cons r1
  obtain ⟨v3, vs3, d3, ds3, p3, q3, rfl, rfl, rfl, h3, r3⟩ := trodAll_cons r2
  obtain ⟨rfl, rfl, rfl⟩ := trodAll_nil r3
  obtain rfl : args = #[v0, v1, v2, v3] := by cases args; simp_all
  obtain ⟨rfl, rfl⟩ := trodVars_none hV
  have lt0 : ∀ x ∈ p0, x.block < W.heap.size := by obtain ⟨m, hm⟩ := h0; exact DataW.trod_lt m _ _ _ hm
  have lt1 : ∀ x ∈ p1, x.block < W.heap.size := by obtain ⟨m, hm⟩ := h1; exact DataW.trod_lt m _ _ _ hm
  have lt2 : ∀ x ∈ p2, x.block < W.heap.size := by obtain ⟨m, hm⟩ := h2; exact DataW.trod_lt m _ _ _ hm
  have lt3 : ∀ x ∈ p3, x.block < W.heap.size := by obtain ⟨m, hm⟩ := h3; exact DataW.trod_lt m _ _ _ hm
  obtain ⟨l0, hY0, h2560⟩ := open_bytes (hval 0 22 v0 rfl rfl) h0
  obtain ⟨n1, rfl, hn1⟩ := open_u64 (hval 1 23 v1 rfl rfl) h1
  obtain ⟨l2, hY2, h2562⟩ := open_bytes (hval 2 22 v2 rfl rfl) h2
  obtain ⟨l3, hY3, h2563⟩ := open_bytes (hval 3 22 v3 rfl rfl) h3
  clear hA0
  refine (walk v0 v2 v3 l0 l2 l3 n1 W hT hY0 hY2 hY3 h2560 h2562 h2563 hn1).mono fun e W' ⟨he, bel⟩ => ?_
  subst he
  exact ⟨_, rfl, _, _, _, [], _, [], hW', trodAll_mk1 (shut_bool Tryd.underlying4 _), (trodAll_cons_mk (Below.trod laidOut (by kernel_rfl) (of_decide_eq_true (by kernel_rfl)) h0 bel lt0) (trodAll_cons_mk (Below.trod laidOut (by kernel_rfl) (of_decide_eq_true (by kernel_rfl)) h1 bel lt1) (trodAll_cons_mk (Below.trod laidOut (by kernel_rfl) (of_decide_eq_true (by kernel_rfl)) h2 bel lt2) (trodAll_cons_mk (Below.trod laidOut (by kernel_rfl) (of_decide_eq_true (by kernel_rfl)) h3 bel lt3) trodAll_mk0)))), rfl, bel.frame _, fun h => by cases h⟩

set_option maxRecDepth 100000 in
theorem laid_here (os : Os) : laidMet Tryd.prog Rows.cipherFormRow.laid ((laidWorld os).forCall (fun _ _ => 0) ⟨#[], #[.slice none 0 0, .int .u64 0, .slice none 0 0, .slice none 0 0], []⟩).memory :=
  laidMet_of_run' 8 (by kernel_rfl) (by kernel_rfl)
theorem reads (os : Os) {H : Type} (enc : TypeId × Value → H) : ∃ places, DataW.whole enc Tryd.prog ((laidWorld os).forCall (fun _ _ => 0) ⟨#[], #[.slice none 0 0, .int .u64 0, .slice none 0 0, .slice none 0 0], []⟩).memory Tryd.f4.params.toList Rows.cipherFormSpec.vars false (#[.slice none 0 0, .int .u64 0, .slice none 0 0, .slice none 0 0] : Array Value).toList 8 = some ([.nil, .lit (.int .u64 0), .nil, .nil], [], places) :=
  ⟨[], by kernel_rfl⟩

set_option maxRecDepth 100000 in
theorem lifted (os : Os) (started : os.Started) (H : Type) (enc : TypeId × Value → H) (F : Stop.Interp) :
    ReturnsInHanded {} Tryd.checked os 4 .any ((OpenSpec.ofChange Rows.cipherFormSpec).preRow enc Tryd.prog Tryd.f4 Rows.cipherFormRow.domain false Rows.cipherFormRow.laid) (((OpenSpec.ofChange Rows.cipherFormSpec).at F).post enc Tryd.prog Tryd.f4 false true false false) := by
  obtain ⟨places, hx⟩ := reads os enc
  refine returnsInHanded_of_row (C := Tryd.checked) (s := OpenSpec.ofChange Rows.cipherFormSpec) own started (by kernel_rfl) Tryd.func4
    (witness_row_at (enc := enc) (C := Tryd.checked) false (laidWorld os) #[.slice none 0 0, .int .u64 0, .slice none 0 0, .slice none 0 0] rfl (by kernel_rfl) (by kernel_rfl) (by kernel_rfl)
      (OpenSpec.preRow_of_cond 8 hx (by kernel_rfl) (fun k hk => by cases hk) (by kernel_rfl) (laid_here os))) ?_
  intro W base args ds gs before hval hW _ _ _ hL _ _
  exact contract H enc W base args ds gs before hval hW hL

theorem said : Rows.CipherFormSaid :=
  OpenClaim.holds_of_cond 4 Tryd.f4 rfl rfl rfl rfl rfl rfl rfl ⟨rfl, rfl, rfl, rfl, rfl⟩ rfl rfl rfl rfl rfl (by kernel_rfl) Tryd.func4 (by kernel_rfl)
    (of_decide_eq_true (by kernel_rfl)) (by unfold Func.isWrapper; first | (rw [if_pos (by decide +kernel)]; kernel_rfl) | (rw [if_neg (by decide +kernel)]; exact ⟨rfl, rfl⟩))
    (fun os started H enc _ F => by rw [OpenClaim.pre_eq_preRow]; exact lifted os started H enc F)

theorem plain (f : FuncId) (fn : Func) (hf : Tryd.pinned.checked.prog.funcNamed "sealskin/sealskinlaw08.CipherForm" = some f) (hfn : Tryd.pinned.checked.prog.funcs[f]? = some fn) :
    false = Tryd.pinned.checked.prog.looks [] ∧ ∀ (j : Nat) t, fn.params[j]? = some t → Tryd.pinned.checked.prog.wantsStandIn t = false := by
  obtain rfl : f = 4 := Option.some.inj ((show Tryd.prog.funcNamed "sealskin/sealskinlaw08.CipherForm" = some 4 by kernel_rfl).symm.trans hf) |>.symm
  obtain rfl : fn = Tryd.f4 := (Option.some.inj (Tryd.func4.symm.trans hfn)).symm
  refine ⟨by kernel_rfl, fun j t ht => ?_⟩
  rw [Tryd.params4] at ht
  have := Array.mem_of_getElem? ht
  simp at this
  rcases this with rfl | rfl | rfl
  · exact (show Tryd.prog.wantsStandIn 22 = false by kernel_rfl)
  · exact (show Tryd.prog.wantsStandIn 23 = false by kernel_rfl)
  · exact (show Tryd.prog.wantsStandIn 22 = false by kernel_rfl)

theorem proved : Rows.CipherFormCardSaid :=
  Claim7.holds_tied_plain_at .later [] _ _ _ _ said (fun _ h => by cases h) (by kernel_rfl) (fun _ h => by cases h) cipherForm_row_tie rfl ⟨rfl, rfl⟩ (by kernel_rfl) rfl plain (by kernel_rfl)
#print axioms proved

end Go.Proofs.YtlgbkkfkobijpacDoor.form
