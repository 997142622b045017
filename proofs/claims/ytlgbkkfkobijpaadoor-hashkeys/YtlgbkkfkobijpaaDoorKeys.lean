/- For any secret, any use and any number the Go function sealskinlaw07.HashKeys returns true, and its arguments read as they did. No condition. -/
import Derived.Test.YtlgbkkfkobijpaaDoorRefY
import Derived.Test.YtlgbkkfkobijpaaDoorLists
namespace Go.Proofs.YtlgbkkfkobijpaaDoor.keys
set_option linter.unusedVariables false
set_option linter.unusedSimpArgs false
open Go.ChangeShapes Go.WideShapes Go.ChangeAt Go.RowKit Go.Joins

set_option maxRecDepth 100000 in
set_option maxHeartbeats 8000000 in
theorem walk (sv uv : Value) (sec use : List Nat) (z : Int) (w : World) (hT : Tabs w) (hs : Byt w sv sec) (hu : Byt w uv use) (hs8 : U8 sec) (hu8 : U8 use) :
    Calls Tryd.prog 5 #[sv, uv, .int .i64 z] w fun e w' => e = .returned (.bool true) ∧ Below w.heap.size w w' := by
  have HT := hide hT
  have HK := hide hs
  have HV := hide hu
  have HK8 := hide hs8
  have H8 := hide hu8
  obtain ⟨ka, kc, hke⟩ := byt_shape hs
  obtain ⟨a, c, hve⟩ := byt_shape hu
  obtain ⟨kn, hkn⟩ : ∃ n, sec.length = n := ⟨_, rfl⟩
  obtain ⟨n, hn⟩ : ∃ n, use.length = n := ⟨_, rfl⟩
  rw [hkn] at hke
  rw [hn] at hve
  subst hke hve
  have L1 := LL.two hs hu
  have b1 : Below w.heap.size w (w.alloc (.cells #[.slice ka kn kc, .slice a n c] 22)) := (Below.refl _ _).alloc (Nat.le_refl _) _
  have HLG := hide (long_any _ _ _ L1)
  have HB1 := hide b1
  clear hT hs hu hs8 hu8 hkn hn L1 b1
  go_enter Tryd.func5, Tryd.ntmps5
  go_wp2_with fail
  generalize w.alloc (.cells #[.slice ka kn kc, .slice a n c] 22) = w1 at *
  refine Calls.mono (unhide HLG) ?_
  rintro e wx ⟨b, rfl, hlong, rfl⟩
  cases b
  · have hlen : sec.length + use.length ≤ 4096 := by have := hlong rfl; simpa [flat] using this
    have HL := hide hlen
    clear hlong hlen HLG
    by_cases hz : z < 0 ∨ 8160 < z
    · have HKB := hide (key_bad (.slice ka kn kc) (.slice a n c) z w1 hz)
      have HRB := hide (rkey_bad (.slice ka kn kc) (.slice a n c) z w1 hz)
      have HEQ := hide (equal_any (.slice none 0 0) (.slice none 0 0) [] [] w1 (.inl ⟨rfl, rfl⟩) (.inl ⟨rfl, rfl⟩) (fun y hy => by cases hy) (fun y hy => by cases hy))
      have hbt : ((strOf []).toList == (strOf []).toList) = true := beq_self_eq_true _
      rw [hbt] at HEQ
      have HAW := hide (awake_any w1 ((unhide HT).below (unhide HB1)))
      clear hz hbt
      go_wp2_with fail
      refine Calls.mono (unhide HKB) ?_
      rintro e wx ⟨rfl, rfl⟩
      go_wp2_with fail
      refine Calls.mono (unhide HRB) ?_
      rintro e wx ⟨rfl, rfl⟩
      go_wp2_with fail
      refine Calls.mono (unhide HEQ) ?_
      rintro e wx ⟨rfl, rfl⟩
      go_wp2_with fail
      refine Calls.mono (unhide HAW) ?_
      rintro e w3 ⟨rfl, b3⟩
      go_wp2_with fail
      go_ret
      exact ⟨rfl, (unhide HB1).trans (b3.mono (unhide HB1).size)⟩
    · obtain ⟨N, rfl⟩ : ∃ N : Nat, z = (N : Int) := ⟨z.toNat, by omega⟩
      have hN : N ≤ 8160 := by omega
      have HNN := hide hN
      have HKY := hide (key_any (.slice ka kn kc) (.slice a n c) sec use N w1 ((unhide HT).below (unhide HB1)) ((unhide HK).call (unhide HB1)) ((unhide HV).call (unhide HB1)) (unhide HK8) (unhide H8) (by have := unhide HL; omega) (by have := unhide HL; omega) hN)
      clear hz hN
      go_wp2_with fail
      refine Calls.mono (unhide HKY) ?_
      rintro e w2 ⟨v2, rfl, y2, b2⟩
      have B2 := (unhide HB1).trans (b2.mono (unhide HB1).size)
      have HRK := hide (rkey_any (.slice ka kn kc) (.slice a n c) sec use N w2 ((unhide HK).call B2) ((unhide HV).call B2) (unhide HK8) (unhide H8) (by have := unhide HL; omega) (by have := unhide HL; omega) (unhide HNN))
      have HB2 := hide B2
      have HY2 := hide y2
      clear b2 B2 y2 HKY
      go_wp2_with fail
      refine Calls.mono (unhide HRK) ?_
      rintro e w3 ⟨v3, rfl, y3, b3⟩
      have B3 := (unhide HB2).trans (b3.mono (unhide HB2).size)
      have K8 : U8 ((keyAll (keyedL sec use) 255).take N) := u8_take (keyAll_8 _ 255) N
      have HEQ := hide (equal_any v2 v3 _ _ w3 ((unhide HY2).call b3) y3 K8 K8)
      have hbt : ((strOf ((keyAll (keyedL sec use) 255).take N)).toList == (strOf ((keyAll (keyedL sec use) 255).take N)).toList) = true := beq_self_eq_true _
      rw [hbt] at HEQ
      have HAW := hide (awake_any w3 ((unhide HT).below B3))
      have HB3 := hide B3
      clear b3 B3 y3 K8 hbt HRK
      go_wp2_with fail
      refine Calls.mono (unhide HEQ) ?_
      rintro e wx ⟨rfl, rfl⟩
      go_wp2_with fail
      refine Calls.mono (unhide HAW) ?_
      rintro e w4 ⟨rfl, b4⟩
      go_wp2_with fail
      go_ret
      exact ⟨rfl, (unhide HB3).trans (b4.mono (unhide HB3).size)⟩
  · have HAW := hide (awake_any w1 ((unhide HT).below (unhide HB1)))
    go_wp2_with fail
    refine Calls.mono (unhide HAW) ?_
    rintro e w3 ⟨rfl, b3⟩
    go_wp2_with fail
    go_ret
    exact ⟨rfl, (unhide HB1).trans (b3.mono (unhide HB1).size)⟩

theorem open_i64 {H : Type} {enc : TypeId × Value → H} {W : World} {b0 base : Nat} {spare : Nat → Bool} {held : Bool} {v : Value} {d : DataW H} {p : List MemPlace}
    (hv : Value.okWide Tryd.prog W .any b0 3 v) (h : DataW.Trod enc Tryd.prog W base spare held 3 v d p) : ∃ n : Int, v = .int .i64 n := by
  obtain ⟨n, rfl, _, _, wn⟩ := open_int Tryd.underlying3 hv h
  exact ⟨n, rfl⟩
theorem contract (H : Type) (enc : TypeId × Value → H) (W : World) (base : Nat) (args : Array Value) (ds gs : List (DataW H)) (before : List MemPlace)
    (hval : ∀ (j : Nat) t v, Tryd.f5.params[j]? = some t → args[j]? = some v → Value.okWide Tryd.prog W .any base t v)
    (hW : DataW.Whole enc Tryd.prog Tryd.f5.params.toList Rows.hashKeysSpec.vars false W args.toList ds gs before) (hL : laidMetH Tryd.prog Rows.hashKeysRow.laid W) :
    Calls Tryd.prog 5 args W fun e W' => ∃ v, e = .returned v ∧ Rows.hashKeysSpec.post enc Tryd.prog Tryd.f5 false true false false W args v W' := by
  have hT : Tabs W := tabs_of hL
  have hW' := hW
  obtain ⟨p, q, hA0, hV, rfl, hfz, hnd⟩ := hW
  have hA : DataW.TrodAll enc Tryd.prog W 0 (fun _ => true) true Tryd.f5.params.toList args.toList ds p := hA0
  rw [Tryd.params5] at hA hval
  obtain ⟨v0, vs0, d0, ds0, p0, q0, hargs, rfl, rfl, h0, r0⟩ := trodAll_cons hA
  obtain ⟨v1, vs1, d1, ds1, p1, q1, rfl, rfl, rfl, h1, r1⟩ := trodAll_cons r0
  obtain ⟨v2, vs2, d2, ds2, p2, q2, rfl, rfl, rfl, h2, r2⟩ := trodAll_cons r1
  obtain ⟨rfl, rfl, rfl⟩ := trodAll_nil r2
  obtain rfl : args = #[v0, v1, v2] := by cases args; simp_all
  obtain ⟨rfl, rfl⟩ := trodVars_none hV
  have lt0 : ∀ x ∈ p0, x.block < W.heap.size := by obtain ⟨m, hm⟩ := h0; exact DataW.trod_lt m _ _ _ hm
  have lt1 : ∀ x ∈ p1, x.block < W.heap.size := by obtain ⟨m, hm⟩ := h1; exact DataW.trod_lt m _ _ _ hm
  have lt2 : ∀ x ∈ p2, x.block < W.heap.size := by obtain ⟨m, hm⟩ := h2; exact DataW.trod_lt m _ _ _ hm
  obtain ⟨l0, hY0, h2560⟩ := open_bytes (hval 0 22 v0 rfl rfl) h0
  obtain ⟨l1, hY1, h2561⟩ := open_bytes (hval 1 22 v1 rfl rfl) h1
  obtain ⟨n2, rfl⟩ := open_i64 (hval 2 3 v2 rfl rfl) h2
  clear hA0
  refine (walk v0 v1 l0 l1 n2 W hT hY0 hY1 h2560 h2561).mono fun e W' ⟨he, bel⟩ => ?_
  subst he
  exact ⟨_, rfl, _, _, _, [], _, [], hW', trodAll_mk1 (shut_bool Tryd.underlying4 _), (trodAll_cons_mk (Below.trod laidOut (by kernel_rfl) (of_decide_eq_true (by kernel_rfl)) h0 bel lt0) (trodAll_cons_mk (Below.trod laidOut (by kernel_rfl) (of_decide_eq_true (by kernel_rfl)) h1 bel lt1) (trodAll_cons_mk (Below.trod laidOut (by kernel_rfl) (of_decide_eq_true (by kernel_rfl)) h2 bel lt2) trodAll_mk0))), rfl, bel.frame _, fun h => by cases h⟩

set_option maxRecDepth 100000 in
theorem laid_here (os : Os) : laidMet Tryd.prog Rows.hashKeysRow.laid ((laidWorld os).forCall (fun _ _ => 0) ⟨#[], #[.slice none 0 0, .slice none 0 0, .int .i64 0], []⟩).memory :=
  laidMet_of_run' 8 (by kernel_rfl) (by kernel_rfl)
theorem reads (os : Os) {H : Type} (enc : TypeId × Value → H) : ∃ places, DataW.whole enc Tryd.prog ((laidWorld os).forCall (fun _ _ => 0) ⟨#[], #[.slice none 0 0, .slice none 0 0, .int .i64 0], []⟩).memory Tryd.f5.params.toList Rows.hashKeysSpec.vars false (#[.slice none 0 0, .slice none 0 0, .int .i64 0] : Array Value).toList 8 = some ([.nil, .nil, .lit (.int .i64 0)], [], places) :=
  ⟨[], by kernel_rfl⟩

set_option maxRecDepth 100000 in
theorem lifted (os : Os) (started : os.Started) (H : Type) (enc : TypeId × Value → H) (F : Stop.Interp) :
    ReturnsInHanded {} Tryd.checked os 5 .any ((OpenSpec.ofChange Rows.hashKeysSpec).preRow enc Tryd.prog Tryd.f5 Rows.hashKeysRow.domain false Rows.hashKeysRow.laid) (((OpenSpec.ofChange Rows.hashKeysSpec).at F).post enc Tryd.prog Tryd.f5 false true false false) := by
  obtain ⟨places, hx⟩ := reads os enc
  refine returnsInHanded_of_row (C := Tryd.checked) (s := OpenSpec.ofChange Rows.hashKeysSpec) own started (by kernel_rfl) Tryd.func5
    (witness_row_at (enc := enc) (C := Tryd.checked) false (laidWorld os) #[.slice none 0 0, .slice none 0 0, .int .i64 0] rfl (by kernel_rfl) (by kernel_rfl) (by kernel_rfl)
      (OpenSpec.preRow_of_cond 8 hx (by kernel_rfl) (fun k hk => by cases hk) (by kernel_rfl) (laid_here os))) ?_
  intro W base args ds gs before hval hW _ _ _ hL _ _
  exact contract H enc W base args ds gs before hval hW hL

theorem said : Rows.HashKeysSaid :=
  OpenClaim.holds_of_cond 5 Tryd.f5 rfl rfl rfl rfl rfl rfl rfl ⟨rfl, rfl, rfl, rfl, rfl⟩ rfl rfl rfl rfl rfl (by kernel_rfl) Tryd.func5 (by kernel_rfl)
    (of_decide_eq_true (by kernel_rfl)) (by unfold Func.isWrapper; first | (rw [if_pos (by decide +kernel)]; kernel_rfl) | (rw [if_neg (by decide +kernel)]; exact ⟨rfl, rfl⟩))
    (fun os started H enc _ F => by rw [OpenClaim.pre_eq_preRow]; exact lifted os started H enc F)

theorem plain (f : FuncId) (fn : Func) (hf : Tryd.pinned.checked.prog.funcNamed "sealskin/sealskinlaw07.HashKeys" = some f) (hfn : Tryd.pinned.checked.prog.funcs[f]? = some fn) :
    false = Tryd.pinned.checked.prog.looks [] ∧ ∀ (j : Nat) t, fn.params[j]? = some t → Tryd.pinned.checked.prog.wantsStandIn t = false := by
  obtain rfl : f = 5 := Option.some.inj ((show Tryd.prog.funcNamed "sealskin/sealskinlaw07.HashKeys" = some 5 by kernel_rfl).symm.trans hf) |>.symm
  obtain rfl : fn = Tryd.f5 := (Option.some.inj (Tryd.func5.symm.trans hfn)).symm
  refine ⟨by kernel_rfl, fun j t ht => ?_⟩
  rw [Tryd.params5] at ht
  have := Array.mem_of_getElem? ht
  simp at this
  rcases this with rfl | rfl
  · exact (show Tryd.prog.wantsStandIn 22 = false by kernel_rfl)
  · exact (show Tryd.prog.wantsStandIn 3 = false by kernel_rfl)

theorem proved : Rows.HashKeysCardSaid :=
  Claim7.holds_tied_plain_at .later [] _ _ _ _ said (fun _ h => by cases h) (by kernel_rfl) (fun _ h => by cases h) hashKeys_row_tie rfl ⟨rfl, rfl⟩ (by kernel_rfl) rfl plain (by kernel_rfl)
#print axioms proved

end Go.Proofs.YtlgbkkfkobijpaaDoor.keys
