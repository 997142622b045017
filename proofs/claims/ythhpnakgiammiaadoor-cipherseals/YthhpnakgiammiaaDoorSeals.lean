/- For any key, number, head and bytes the Go function sealskinlaw08.CipherSeals returns true, and its arguments read as they did. No condition. -/
import Derived.Test.YthhpnakgiammiaaDoorCAwake
import Derived.Test.YthhpnakgiammiaaDoorCLong
import Derived.Test.YthhpnakgiammiaaDoorCCard
import Derived.Test.YthhpnakgiammiaaDoorCRefS
namespace Go.Proofs.YthhpnakgiammiaaDoor.seals
set_option linter.unusedVariables false
set_option linter.unusedSimpArgs false
open Go.ChangeShapes Go.WideShapes Go.ChangeAt Go.RowKit Go.Joins

theorem seal_8 (key : List Nat) (once : Nat) (head : List Nat) {b : List Nat} (h : U8 b) : U8 (sealL key once head b) := u8_app (tkL_8 key once h) (tagL_8 _ _ _ _)

set_option maxRecDepth 100000 in
set_option maxHeartbeats 8000000 in
theorem walk (kv hv bv' : Value) (key head b : List Nat) (once : Nat) (w : World) (hT : Lay w) (hk : Byt w kv key) (hh : Byt w hv head) (hb : Byt w bv' b) (hk8 : U8 key) (hh8 : U8 head) (hb8 : U8 b) (ho : once < 18446744073709551616) :
    Calls Tryd.prog 4 #[kv, .int .u64 (once : Int), hv, bv'] w fun e w' => e = .returned (.bool true) ∧ Below w.heap.size w w' := by
  have HT := hide hT
  have HK := hide hk
  have HH := hide hh
  have HB := hide hb
  have HK8 := hide hk8
  have HH8 := hide hh8
  have HB8 := hide hb8
  have HO := hide ho
  obtain ⟨ka, kc, hke⟩ := byt_shape hk
  obtain ⟨ha, hc, hhe⟩ := byt_shape hh
  obtain ⟨ba, bc, hbe⟩ := byt_shape hb
  obtain ⟨kn, hkn⟩ : ∃ n, key.length = n := ⟨_, rfl⟩
  obtain ⟨hn, hhn⟩ : ∃ n, head.length = n := ⟨_, rfl⟩
  obtain ⟨bn, hbn⟩ : ∃ n, b.length = n := ⟨_, rfl⟩
  rw [hkn] at hke
  rw [hhn] at hhe
  rw [hbn] at hbe
  subst hke hhe hbe
  have HKN := hide hkn
  have HHN := hide hhn
  have HBN := hide hbn
  have L1 := LL.three hk hh hb
  have b1 : Below w.heap.size w (w.alloc (.cells #[.slice ka kn kc, .slice ha hn hc, .slice ba bn bc] 22)) := (Below.refl _ _).alloc (Nat.le_refl _) _
  have HLG := hide (clong_any _ _ _ L1 (by simp))
  have HB1 := hide b1
  clear hT hk hh hb hk8 hh8 hb8 ho hkn hhn hbn L1 b1
  go_enter Tryd.func4, Tryd.ntmps4
  go_wp2_with fail
  generalize w.alloc (.cells #[.slice ka kn kc, .slice ha hn hc, .slice ba bn bc] 22) = w1 at *
  refine Calls.mono (unhide HLG) ?_
  rintro e wx ⟨bb, rfl, hlong, rfl⟩
  cases bb
  · have hall := hlong rfl
    have l1 : kn ≤ 4096 := by have := hall (.slice ka kn kc, key) (by simp); rw [unhide HKN] at this; exact this
    have l2 : hn ≤ 4096 := by have := hall (.slice ha hn hc, head) (by simp); rw [unhide HHN] at this; exact this
    have l3 : bn ≤ 4096 := by have := hall (.slice ba bn bc, b) (by simp); rw [unhide HBN] at this; exact this
    clear hlong hall HLG
    have HC1 := hide (clone_any (.slice ba bn bc) b w1 ((unhide HB).call (unhide HB1)) (by rw [unhide HBN]; omega))
    rw [unhide HBN] at HC1
    go_wp2_with fail
    refine Calls.mono (unhide HC1) ?_
    rintro e w2 ⟨v2, rfl, o2, b2⟩
    have B2 := (unhide HB1).trans (b2.mono (unhide HB1).size)
    have Y2 : Byt w2 v2 b := Byt.of_own (own_cast o2 (by rw [unhide HBN]) rfl)
    obtain ⟨ga, gc, hge⟩ := byt_shape Y2
    rw [unhide HBN] at hge
    subst hge
    have HG2 := hide Y2
    have HB2 := hide B2
    clear o2 b2 Y2 B2 HC1
    by_cases hs : kn = 64
    · subst hs
      have HSA := hide (seal_any (.slice ka 64 kc) (.slice ha hn hc) (.slice ga bn gc) key head b once w2 ((unhide HT).below (unhide HB2)) ((unhide HK).call (unhide HB2)) ((unhide HH).call (unhide HB2)) (unhide HG2) (unhide HK8) (unhide HH8) (unhide HB8) (unhide HKN) (by rw [unhide HHN]; omega) (by rw [unhide HBN]; omega) (unhide HO))
      rw [unhide HBN] at HSA
      go_wp2_with fail
      refine Calls.mono (unhide HSA) ?_
      rintro e w3 ⟨v3, rfl, o3, b3⟩
      have B3 := (unhide HB2).trans (b3.mono (unhide HB2).size)
      have Y3 : Byt w3 v3 (sealL key once head b) := Byt.of_own (own_cast o3 (by rw [sealL_len, unhide HBN]) rfl)
      have HRS := hide (rseal_any (.slice ka 64 kc) (.slice ha hn hc) (.slice ba bn bc) key head b once w3 ((unhide HK).call B3) ((unhide HH).call B3) ((unhide HB).call B3) (unhide HK8) (unhide HH8) (unhide HB8) (unhide HKN) (by rw [unhide HHN]; omega) (by rw [unhide HBN]; omega) (unhide HO))
      rw [unhide HBN] at HRS
      have HY3 := hide Y3
      have HG3 := hide ((unhide HG2).call b3)
      have HB3 := hide B3
      clear o3 b3 Y3 B3 HSA HG2 HB2
      go_wp2_with fail
      refine Calls.mono (unhide HRS) ?_
      rintro e w4 ⟨v4, rfl, o4, b4⟩
      have B4 := (unhide HB3).trans (b4.mono (unhide HB3).size)
      have Y4 : Byt w4 v4 (sealL key once head b) := Byt.of_own (own_cast o4 (by rw [sealL_len, unhide HBN]) rfl)
      have HE1 := hide (equal_same v3 v4 (sealL key once head b) w4 ((unhide HY3).call b4) Y4 (seal_8 key once head (unhide HB8)))
      have HE2 := hide (equal_same (.slice ga bn gc) (.slice ba bn bc) b w4 ((unhide HG3).call b4) ((unhide HB).call B4) (unhide HB8))
      have HAW := hide (cawake_any w4 ((unhide HT).below B4))
      have HB4 := hide B4
      clear o4 b4 Y4 B4 HRS HY3 HG3 HB3
      go_wp2_with fail
      refine Calls.mono (unhide HE1) ?_
      rintro e wx ⟨rfl, rfl⟩
      go_wp2_with fail
      refine Calls.mono (unhide HE2) ?_
      rintro e wx ⟨rfl, rfl⟩
      go_wp2_with fail
      refine Calls.mono (unhide HAW) ?_
      rintro e w9 ⟨rfl, b9⟩
      go_wp2_with fail
      go_ret
      exact ⟨rfl, (unhide HB4).trans (b9.mono (unhide HB4).size)⟩
    · have HX1 := hide (fun (w : World) => seal_not ka kn kc (.slice ha hn hc) (.slice ga bn gc) once w hs)
      have HX2 := hide (fun (w : World) => rseal_not ka kn kc (.slice ha hn hc) (.slice ba bn bc) once w hs)
      clear hs
      go_wp2_with fail
      refine Calls.mono (unhide HX1 _) ?_
      rintro e wx ⟨rfl, rfl⟩
      go_wp2_with fail
      refine Calls.mono (unhide HX2 _) ?_
      rintro e wx ⟨rfl, rfl⟩
      have HE1 := hide (equal_same (.slice none 0 0) (.slice none 0 0) [] w2 (.inl ⟨rfl, rfl⟩) (.inl ⟨rfl, rfl⟩) (fun y hy => by cases hy))
      have HE2 := hide (equal_same (.slice ga bn gc) (.slice ba bn bc) b w2 (unhide HG2) ((unhide HB).call (unhide HB2)) (unhide HB8))
      have HAW := hide (cawake_any w2 ((unhide HT).below (unhide HB2)))
      go_wp2_with fail
      refine Calls.mono (unhide HE1) ?_
      rintro e wx ⟨rfl, rfl⟩
      go_wp2_with fail
      refine Calls.mono (unhide HE2) ?_
      rintro e wx ⟨rfl, rfl⟩
      go_wp2_with fail
      refine Calls.mono (unhide HAW) ?_
      rintro e w9 ⟨rfl, b9⟩
      go_wp2_with fail
      go_ret
      exact ⟨rfl, (unhide HB2).trans (b9.mono (unhide HB2).size)⟩
  · have HAW := hide (cawake_any w1 ((unhide HT).below (unhide HB1)))
    go_wp2_with fail
    refine Calls.mono (unhide HAW) ?_
    rintro e w3 ⟨rfl, b3⟩
    go_wp2_with fail
    go_ret
    exact ⟨rfl, (unhide HB1).trans (b3.mono (unhide HB1).size)⟩

set_option maxRecDepth 100000 in
theorem contract (H : Type) (enc : TypeId × Value → H) (W : World) (base : Nat) (args : Array Value) (ds gs : List (DataW H)) (before : List MemPlace)
    (hval : ∀ (j : Nat) t v, Tryd.f4.params[j]? = some t → args[j]? = some v → Value.okWide Tryd.prog W .any base t v)
    (hW : DataW.Whole enc Tryd.prog Tryd.f4.params.toList Rows.cipherSealsSpec.vars false W args.toList ds gs before) (hL : laidMetH Tryd.prog Rows.cipherSealsRow.laid W) :
    Calls Tryd.prog 4 args W fun e W' => ∃ v, e = .returned v ∧ Rows.cipherSealsSpec.post enc Tryd.prog Tryd.f4 false true false false W args v W' := by
  have hT : Lay W := tabs_of hL
  have hW' := hW
  obtain ⟨p, q, hA0, hV, rfl, hfz, hnd⟩ := hW
  have hA : DataW.TrodAll enc Tryd.prog W 0 (fun _ => true) true Tryd.f4.params.toList args.toList ds p := hA0
  rw [Tryd.params4] at hA hval
  obtain ⟨v0, vs0, d0, ds0, p0, q0, hargs, rfl, rfl, h0, r0⟩ := trodAll_cons hA
  obtain ⟨v1, vs1, d1, ds1, p1, q1, rfl, rfl, rfl, h1, r1⟩ := trodAll_cons r0
  obtain ⟨v2, vs2, d2, ds2, p2, q2, rfl, rfl, rfl, h2, r2⟩ := trodAll_cons r1
  obtain ⟨v3, vs3, d3, ds3, p3, q3, rfl, rfl, rfl, h3, r3⟩ := trodAll_cons r2
  obtain ⟨rfl, rfl, rfl⟩ := trodAll_nil r3
  obtain rfl : args = #[v0, v1, v2, v3] := by cases args; simp_all
  obtain ⟨rfl, rfl⟩ := trodVars_none hV
  have lt0 : ∀ x ∈ p0, x.block < W.heap.size := by obtain ⟨m, hm⟩ := h0; exact DataW.trod_lt m _ _ _ hm
  have lt1 : ∀ x ∈ p1, x.block < W.heap.size := by obtain ⟨m, hm⟩ := h1; exact DataW.trod_lt m _ _ _ hm
  have lt2 : ∀ x ∈ p2, x.block < W.heap.size := by obtain ⟨m, hm⟩ := h2; exact DataW.trod_lt m _ _ _ hm
  have lt3 : ∀ x ∈ p3, x.block < W.heap.size := by obtain ⟨m, hm⟩ := h3; exact DataW.trod_lt m _ _ _ hm
  obtain ⟨l0, hY0, h2560⟩ := open_bytes (hval 0 22 v0 rfl rfl) h0
  obtain ⟨n1, rfl, hn1⟩ := open_u64 (hval 1 23 v1 rfl rfl) h1
  obtain ⟨l2, hY2, h2562⟩ := open_bytes (hval 2 22 v2 rfl rfl) h2
  obtain ⟨l3, hY3, h2563⟩ := open_bytes (hval 3 22 v3 rfl rfl) h3
  clear hA0
  refine (walk v0 v2 v3 l0 l2 l3 n1 W hT hY0 hY2 hY3 h2560 h2562 h2563 hn1).mono fun e W' ⟨he, bel⟩ => ?_
  subst he
  exact ⟨_, rfl, _, _, _, [], _, [], hW', trodAll_mk1 (shut_bool Tryd.underlying4 _), (trodAll_cons_mk (Below.trod laidOut (by kernel_rfl) (of_decide_eq_true (by kernel_rfl)) h0 bel lt0) (trodAll_cons_mk (Below.trod laidOut (by kernel_rfl) (of_decide_eq_true (by kernel_rfl)) h1 bel lt1) (trodAll_cons_mk (Below.trod laidOut (by kernel_rfl) (of_decide_eq_true (by kernel_rfl)) h2 bel lt2) (trodAll_cons_mk (Below.trod laidOut (by kernel_rfl) (of_decide_eq_true (by kernel_rfl)) h3 bel lt3) trodAll_mk0)))), rfl, bel.frame _, fun h => by cases h⟩

set_option maxRecDepth 100000 in
theorem laid_here (os : Os) : laidMet Tryd.prog Rows.cipherSealsRow.laid ((laidWorld os).forCall (fun _ _ => 0) ⟨#[], #[.slice none 0 0, .int .u64 0, .slice none 0 0, .slice none 0 0], []⟩).memory :=
  laidMet_of_run' 8 (by kernel_rfl) (by kernel_rfl)
theorem reads (os : Os) {H : Type} (enc : TypeId × Value → H) : ∃ places, DataW.whole enc Tryd.prog ((laidWorld os).forCall (fun _ _ => 0) ⟨#[], #[.slice none 0 0, .int .u64 0, .slice none 0 0, .slice none 0 0], []⟩).memory Tryd.f4.params.toList Rows.cipherSealsSpec.vars false (#[.slice none 0 0, .int .u64 0, .slice none 0 0, .slice none 0 0] : Array Value).toList 8 = some ([.nil, .lit (.int .u64 0), .nil, .nil], [], places) :=
  ⟨[], by kernel_rfl⟩

set_option maxRecDepth 100000 in
theorem lifted (os : Os) (started : os.Started) (H : Type) (enc : TypeId × Value → H) (F : Stop.Interp) :
    ReturnsInHanded {} Tryd.checked os 4 .any ((OpenSpec.ofChange Rows.cipherSealsSpec).preRow enc Tryd.prog Tryd.f4 Rows.cipherSealsRow.domain false Rows.cipherSealsRow.laid) (((OpenSpec.ofChange Rows.cipherSealsSpec).at F).post enc Tryd.prog Tryd.f4 false true false false) := by
  obtain ⟨places, hx⟩ := reads os enc
  refine returnsInHanded_of_row (C := Tryd.checked) (s := OpenSpec.ofChange Rows.cipherSealsSpec) own started (by kernel_rfl) Tryd.func4
    (witness_row_at (enc := enc) (C := Tryd.checked) false (laidWorld os) #[.slice none 0 0, .int .u64 0, .slice none 0 0, .slice none 0 0] rfl (by kernel_rfl) (by kernel_rfl) (by kernel_rfl)
      (OpenSpec.preRow_of_cond 8 hx (by kernel_rfl) (fun k hk => by cases hk) (by kernel_rfl) (laid_here os))) ?_
  intro W base args ds gs before hval hW _ _ _ hL _ _
  exact contract H enc W base args ds gs before hval hW hL

theorem said : Rows.CipherSealsSaid :=
  OpenClaim.holds_of_cond 4 Tryd.f4 rfl rfl rfl rfl rfl rfl rfl ⟨rfl, rfl, rfl, rfl, rfl⟩ rfl rfl rfl rfl rfl (by kernel_rfl) Tryd.func4 (by kernel_rfl)
    (of_decide_eq_true (by kernel_rfl)) (by unfold Func.isWrapper; first | (rw [if_pos (by decide +kernel)]; kernel_rfl) | (rw [if_neg (by decide +kernel)]; exact ⟨rfl, rfl⟩))
    (fun os started H enc _ F => by rw [OpenClaim.pre_eq_preRow]; exact lifted os started H enc F)

set_option maxRecDepth 100000 in
theorem plain (f : FuncId) (fn : Func) (hf : Tryd.pinned.checked.prog.funcNamed "sealskin/sealskinlaw08.CipherSeals" = some f) (hfn : Tryd.pinned.checked.prog.funcs[f]? = some fn) :
    false = Tryd.pinned.checked.prog.looks [] ∧ ∀ (j : Nat) t, fn.params[j]? = some t → Tryd.pinned.checked.prog.wantsStandIn t = false := by
  obtain rfl : f = 4 := Option.some.inj ((show Tryd.prog.funcNamed "sealskin/sealskinlaw08.CipherSeals" = some 4 by kernel_rfl).symm.trans hf) |>.symm
  obtain rfl : fn = Tryd.f4 := (Option.some.inj (Tryd.func4.symm.trans hfn)).symm
  refine ⟨by kernel_rfl, fun j t ht => ?_⟩
  rw [Tryd.params4] at ht
  have := Array.mem_of_getElem? ht
  simp at this
  rcases this with rfl | rfl | rfl
  · exact (show Tryd.prog.wantsStandIn 22 = false by kernel_rfl)
  · exact (show Tryd.prog.wantsStandIn 23 = false by kernel_rfl)
  · exact (show Tryd.prog.wantsStandIn 22 = false by kernel_rfl)

theorem proved : Rows.CipherSealsCardSaid :=
  Claim7.holds_tied_plain_at .later [] _ _ _ _ said (fun _ h => by cases h) (by kernel_rfl) (fun _ h => by cases h) cipherSeals_row_tie rfl ⟨rfl, rfl⟩ (by kernel_rfl) rfl plain (by kernel_rfl)
#print axioms proved

end Go.Proofs.YthhpnakgiammiaaDoor.seals
