/- For any key, number and bytes the Go function sealskinlaw08.CipherFronts returns true, and its arguments read as they did. No condition. -/
import Derived.Test.YtlgbkkfkobijpacDoorCAwake
import Derived.Test.YtlgbkkfkobijpacDoorCLong
import Derived.Test.YtlgbkkfkobijpacDoorCCard
import Derived.Test.YtlgbkkfkobijpacDoorConcat
namespace Go.Proofs.YtlgbkkfkobijpacDoor.fronts
set_option linter.unusedVariables false
set_option linter.unusedSimpArgs false
open Go.ChangeShapes Go.WideShapes Go.ChangeAt Go.RowKit Go.Joins

theorem turn_front (W a b : List Nat) : (turnL W (a ++ b)).take a.length = turnL W a := by
  apply List.ext_getElem?
  intro i
  rw [List.getElem?_take]
  by_cases hi : i < a.length
  · rw [if_pos hi, turnL, turnL, List.getElem?_map, List.getElem?_map, List.getElem?_range (by rw [List.length_append]; omega), List.getElem?_range hi]
    simp [turnW, List.getD_eq_getElem?_getD, List.getElem?_append_left hi]
  · rw [if_neg hi, List.getElem?_eq_none (by rw [turnL_len]; omega)]

set_option maxHeartbeats 2000000 in
theorem prefix_true (v x : Value) (l : List Nat) (k : Nat) (w : World) (hv : Byt w v l) (hx : Byt w x (l.take k)) (h8 : U8 l) (hk : k ≤ l.length) : Calls Tryd.prog 14 #[v, x] w fun e w' => e = .returned (.bool true) ∧ w = w' := by
  have hlk : (l.take k).length = k := by rw [List.length_take]; omega
  obtain ⟨a, c, hve⟩ := byt_shape hv
  obtain ⟨b, d, hxe⟩ := byt_shape hx
  obtain ⟨n, hn⟩ : ∃ n, l.length = n := ⟨_, rfl⟩
  have hnc : n ≤ c ∧ n ≤ 9223372036854775807 := by
    rcases hv with ⟨h0, h⟩ | ⟨_, _, h0, h1, h2, _⟩
    · rw [h0] at hve; injection hve with q1 q2 q3; rw [← hn, h]; simp
    · rw [h0] at hve; injection hve with q1 q2 q3; unfold maxLen at h2; omega
  have V2 : Byt w (.slice a k c) (l.take k) := by
    rcases hv with ⟨h0, h⟩ | ⟨ad, cap, h0, h1, h2, h3⟩
    · rw [h0] at hve
      injection hve with q1 q2 q3
      subst q1
      have hk0 : k = 0 := by rw [h] at hk; simpa using hk
      subst hk0
      exact .inl ⟨by rw [← q3], by simp⟩
    · rw [h0] at hve
      injection hve with q1 q2 q3
      subst q1 q3
      exact .inr ⟨ad, cap, by rw [hlk], by omega, h2, fun i y hy => h3 i y (by
        rw [List.getElem?_take] at hy
        split at hy
        · exact hy
        · cases hy)⟩
  have HE := hide (equal_same (.slice a k c) x (l.take k) w V2 hx (fun y hy => h8 y (List.mem_of_mem_take hy)))
  rw [hn] at hve
  rw [hlk] at hxe
  subst hve hxe
  have hkn : k ≤ n := by omega
  have hkI : (k : Int) ≤ (n : Int) := by omega
  have hkc : k ≤ c := by omega
  clear hv hx h8 hk hlk hn V2
  go_enter Tryd.func14, Tryd.ntmps14
  go_wp2_with fail
  refine Calls.mono (unhide HE) ?_
  rintro e w1 ⟨rfl, rfl⟩
  go_wp2_with fail
  go_ret
  exact ⟨rfl, rfl⟩

set_option maxRecDepth 100000 in
set_option maxHeartbeats 8000000 in
theorem walk (kv av bv' : Value) (key a b : List Nat) (once : Nat) (w : World) (hT : Lay w) (hk : Byt w kv key) (ha : Byt w av a) (hb : Byt w bv' b) (hk8 : U8 key) (ha8 : U8 a) (hb8 : U8 b) (ho : once < 18446744073709551616) :
    Calls Tryd.prog 5 #[kv, .int .u64 (once : Int), av, bv'] w fun e w' => e = .returned (.bool true) ∧ Below w.heap.size w w' := by
  have HT := hide hT
  have HK := hide hk
  have HA := hide ha
  have HB := hide hb
  have HK8 := hide hk8
  have HA8 := hide ha8
  have HB8 := hide hb8
  have HO := hide ho
  obtain ⟨ka, kc, hke⟩ := byt_shape hk
  obtain ⟨aa, ac, hae⟩ := byt_shape ha
  obtain ⟨ba, bc, hbe⟩ := byt_shape hb
  obtain ⟨kn, hkn⟩ : ∃ n, key.length = n := ⟨_, rfl⟩
  obtain ⟨an, han⟩ : ∃ n, a.length = n := ⟨_, rfl⟩
  obtain ⟨bn, hbn⟩ : ∃ n, b.length = n := ⟨_, rfl⟩
  rw [hkn] at hke
  rw [han] at hae
  rw [hbn] at hbe
  subst hke hae hbe
  have HKN := hide hkn
  have HAN := hide han
  have HBN := hide hbn
  have L1 := LL.three hk ha hb
  have b1 : Below w.heap.size w (w.alloc (.cells #[.slice ka kn kc, .slice aa an ac, .slice ba bn bc] 22)) := (Below.refl _ _).alloc (Nat.le_refl _) _
  have HLG := hide (clong_any _ _ _ L1 (by simp))
  have HB1 := hide b1
  clear hT hk ha hb hk8 ha8 hb8 ho hkn han hbn L1 b1
  go_enter Tryd.func5, Tryd.ntmps5
  go_wp2_with fail
  generalize w.alloc (.cells #[.slice ka kn kc, .slice aa an ac, .slice ba bn bc] 22) = w1 at *
  refine Calls.mono (unhide HLG) ?_
  rintro e wx ⟨bb, rfl, hlong, rfl⟩
  cases bb
  · have hall := hlong rfl
    have l1 : kn ≤ 4096 := by have := hall (.slice ka kn kc, key) (by simp); rw [unhide HKN] at this; exact this
    have l2 : an ≤ 4096 := by have := hall (.slice aa an ac, a) (by simp); rw [unhide HAN] at this; exact this
    have l3 : bn ≤ 4096 := by have := hall (.slice ba bn bc, b) (by simp); rw [unhide HBN] at this; exact this
    clear hlong hall HLG
    by_cases hs : kn < 32
    · have HT1 := hide (fun (uv : Value) (w : World) => turn_short ka kn kc uv once w hs)
      clear hs
      go_wp2_with fail
      refine Calls.mono (unhide HT1 _ _) ?_
      rintro e wx ⟨rfl, rfl⟩
      have L2 := LL.two ((unhide HA).call (unhide HB1)) ((unhide HB).call (unhide HB1))
      have b2 : Below w1.heap.size w1 (w1.alloc (.cells #[.slice aa an ac, .slice ba bn bc] 22)) := (Below.refl _ _).alloc (Nat.le_refl _) _
      have HCO := hide (concat_any _ _ _ L2 (by simp [flat]; rw [unhide HAN, unhide HBN]; omega))
      have HB2 := hide ((unhide HB1).trans (b2.mono (unhide HB1).size))
      clear L2 b2
      go_wp2_with fail
      generalize w1.alloc (.cells #[.slice aa an ac, .slice ba bn bc] 22) = w2 at *
      refine Calls.mono (unhide HCO) ?_
      rintro e w3 ⟨v3, rfl, o3, b3⟩
      have HB3 := hide ((unhide HB2).trans (b3.mono (unhide HB2).size))
      clear o3 b3 HCO HB2
      go_wp2_with fail
      refine Calls.mono (unhide HT1 _ _) ?_
      rintro e wx ⟨rfl, rfl⟩
      have HPF := hide (prefix_true (.slice none 0 0) (.slice none 0 0) [] 0 w3 (.inl ⟨rfl, rfl⟩) (.inl ⟨rfl, rfl⟩) (fun y hy => by cases hy) (by simp))
      have HAW := hide (cawake_any w3 ((unhide HT).below (unhide HB3)))
      go_wp2_with fail
      refine Calls.mono (unhide HPF) ?_
      rintro e wx ⟨rfl, rfl⟩
      go_wp2_with fail
      refine Calls.mono (unhide HAW) ?_
      rintro e w4 ⟨rfl, b4⟩
      go_wp2_with fail
      go_ret
      exact ⟨rfl, (unhide HB3).trans (b4.mono (unhide HB3).size)⟩
    · have HTA := hide (turn_any (.slice ka kn kc) (.slice aa an ac) key a once w1 ((unhide HT).below (unhide HB1)) ((unhide HK).call (unhide HB1)) ((unhide HA).call (unhide HB1)) (unhide HK8) (unhide HA8) (by rw [unhide HKN]; omega) (by rw [unhide HAN]; omega) (unhide HO))
      rw [unhide HAN] at HTA
      have HSN := hide hs
      clear hs
      go_wp2_with fail
      refine Calls.mono (unhide HTA) ?_
      rintro e w2 ⟨v2, rfl, o2, b2⟩
      have Y2 : Byt w2 v2 (tkL key once a) := Byt.of_own (own_cast o2 (by rw [tkL_len, unhide HAN]) rfl)
      obtain ⟨xa, xc, hxe⟩ := byt_shape Y2
      rw [tkL_len, unhide HAN] at hxe
      subst hxe
      have B2 := (unhide HB1).trans (b2.mono (unhide HB1).size)
      have L3 := LL.two ((unhide HA).call B2) ((unhide HB).call B2)
      have b3 : Below w2.heap.size w2 (w2.alloc (.cells #[.slice aa an ac, .slice ba bn bc] 22)) := (Below.refl _ _).alloc (Nat.le_refl _) _
      have eF : flat [(Value.slice aa an ac, a), (Value.slice ba bn bc, b)] = a ++ b := by simp [flat]
      have HCO := hide (concat_any _ _ _ L3 (by rw [eF, List.length_append, unhide HAN, unhide HBN]; omega))
      rw [eF] at HCO
      have HB3 := hide (B2.trans (b3.mono B2.size))
      have HY3 := hide (Y2.call b3)
      clear o2 b2 Y2 B2 L3 b3 eF HTA
      go_wp2_with fail
      generalize w2.alloc (.cells #[.slice aa an ac, .slice ba bn bc] 22) = w3 at *
      refine Calls.mono (unhide HCO) ?_
      rintro e w4 ⟨v4, rfl, o4, b4⟩
      have B4 := (unhide HB3).trans (b4.mono (unhide HB3).size)
      have A8 : U8 (a ++ b) := fun y hy => by
        rcases List.mem_append.1 hy with hy | hy
        · exact unhide HA8 y hy
        · exact unhide HB8 y hy
      have HTB := hide (turn_any (.slice ka kn kc) v4 key (a ++ b) once w4 ((unhide HT).below B4) ((unhide HK).call B4) (Byt.of_own o4) (unhide HK8) A8 (by rw [unhide HKN]; have := unhide HSN; omega) (by rw [List.length_append, unhide HAN, unhide HBN]; omega) (unhide HO))
      rw [List.length_append, unhide HAN, unhide HBN] at HTB
      have HB4 := hide B4
      have HY4 := hide ((unhide HY3).call b4)
      have HA84 := hide A8
      clear o4 b4 B4 A8 HCO HB3 HY3
      go_wp2_with fail
      refine Calls.mono (unhide HTB) ?_
      rintro e w5 ⟨v5, rfl, o5, b5⟩
      obtain ⟨yn, hyn⟩ : ∃ x, an + bn = x := ⟨_, rfl⟩
      have hl5 : (tkL key once (a ++ b)).length = yn := by rw [tkL_len, List.length_append, unhide HAN, unhide HBN, hyn]
      rw [hyn] at o5
      have Y5 : Byt w5 v5 (tkL key once (a ++ b)) := Byt.of_own (own_cast o5 hl5.symm rfl)
      obtain ⟨ya, yc, hye⟩ := byt_shape Y5
      rw [hl5] at hye
      subst hye
      have B5 := (unhide HB4).trans (b5.mono (unhide HB4).size)
      have eT : (tkL key once (a ++ b)).take an = tkL key once a := by rw [← unhide HAN]; exact turn_front _ a b
      have HPF := hide (prefix_true (.slice ya yn yc) (.slice xa an xc) (tkL key once (a ++ b)) an w5 Y5 (by rw [eT]; exact (unhide HY4).call b5) (tkL_8 key once (unhide HA84)) (by rw [hl5]; omega))
      have HAW := hide (cawake_any w5 ((unhide HT).below B5))
      have HB5 := hide B5
      have e9 : (an : Int) + (bn : Int) = (yn : Int) := by omega
      have e8 : yn ≤ 8192 := by omega
      clear o5 b5 hl5 Y5 B5 eT HTB HB4 HY4 hyn
      go_wp2_with fail
      refine Calls.mono (unhide HPF) ?_
      rintro e wx ⟨rfl, rfl⟩
      go_wp2_with fail
      refine Calls.mono (unhide HAW) ?_
      rintro e w6 ⟨rfl, b6⟩
      go_wp2_with fail
      go_ret
      exact ⟨rfl, (unhide HB5).trans (b6.mono (unhide HB5).size)⟩
  · have HAW := hide (cawake_any w1 ((unhide HT).below (unhide HB1)))
    go_wp2_with fail
    refine Calls.mono (unhide HAW) ?_
    rintro e w3 ⟨rfl, b3⟩
    go_wp2_with fail
    go_ret
    exact ⟨rfl, (unhide HB1).trans (b3.mono (unhide HB1).size)⟩


theorem contract (H : Type) (enc : TypeId × Value → H) (W : World) (base : Nat) (args : Array Value) (ds gs : List (DataW H)) (before : List MemPlace)
    (hval : ∀ (j : Nat) t v, Tryd.f5.params[j]? = some t → args[j]? = some v → Value.okWide Tryd.prog W .any base t v)
    (hW : DataW.Whole enc Tryd.prog Tryd.f5.params.toList Rows.cipherFrontsSpec.vars false W args.toList ds gs before) (hL : laidMetH Tryd.prog Rows.cipherFrontsRow.laid W) :
    Calls Tryd.prog 5 args W fun e W' => ∃ v, e = .returned v ∧ Rows.cipherFrontsSpec.post enc Tryd.prog Tryd.f5 false true false false W args v W' := by
  have hT : Lay W := tabs_of hL
  have hW' := hW
  obtain ⟨p, q, hA0, hV, rfl, hfz, hnd⟩ := hW
  have hA : DataW.TrodAll enc Tryd.prog W 0 (fun _ => true) true Tryd.f5.params.toList args.toList ds p := hA0
  rw [Tryd.params5] at hA hval
  obtain ⟨v0, vs0, d0, ds0, p0, q0, hargs, rfl, rfl, h0, r0⟩ := trodAll_cons hA
  obtain ⟨v1, vs1, d1, ds1, p1, q1, rfl, rfl, rfl, h1, r1⟩ := trodAll_cons r0
  obtain ⟨v2, vs2, d2, ds2, p2, q2, rfl, rfl, rfl, h2, r2⟩ := trodAll_cons r1
  obtain ⟨v3, vs3, d3, ds3, p3, q3, rfl, rfl, rfl, h3, r3⟩ := trodAll_cons r2
  obtain ⟨rfl, rfl, rfl⟩ := trodAll_nil r3
  obtain rfl : args = #[v0, v1, v2, v3] := by cases args; simp_all
  obtain ⟨rfl, rfl⟩ := trodVars_none hV
  have lt0 : ∀ x ∈ p0, x.block < W.heap.size := by obtain ⟨m, hm⟩ := h0; exact DataW.trod_lt m _ _ _ hm
  have lt1 : ∀ x ∈ p1, x.block < W.heap.size := by obtain ⟨m, hm⟩ := h1; exact DataW.trod_lt m _ _ _ hm
  have lt2 : ∀ x ∈ p2, x.block < W.heap.size := by obtain ⟨m, hm⟩ := h2; exact DataW.trod_lt m _ _ _ hm
  have lt3 : ∀ x ∈ p3, x.block < W.heap.size := by obtain ⟨m, hm⟩ := h3; exact DataW.trod_lt m _ _ _ hm
  obtain ⟨l0, hY0, h2560⟩ := open_bytes (hval 0 22 v0 rfl rfl) h0
  obtain ⟨n1, rfl, hn1⟩ := open_u64 (hval 1 23 v1 rfl rfl) h1
  obtain ⟨l2, hY2, h2562⟩ := open_bytes (hval 2 22 v2 rfl rfl) h2
  obtain ⟨l3, hY3, h2563⟩ := open_bytes (hval 3 22 v3 rfl rfl) h3
  clear hA0
  refine (walk v0 v2 v3 l0 l2 l3 n1 W hT hY0 hY2 hY3 h2560 h2562 h2563 hn1).mono fun e W' ⟨he, bel⟩ => ?_
  subst he
  exact ⟨_, rfl, _, _, _, [], _, [], hW', trodAll_mk1 (shut_bool Tryd.underlying4 _), (trodAll_cons_mk (Below.trod laidOut (by kernel_rfl) (of_decide_eq_true (by kernel_rfl)) h0 bel lt0) (trodAll_cons_mk (Below.trod laidOut (by kernel_rfl) (of_decide_eq_true (by kernel_rfl)) h1 bel lt1) (trodAll_cons_mk (Below.trod laidOut (by kernel_rfl) (of_decide_eq_true (by kernel_rfl)) h2 bel lt2) (trodAll_cons_mk (Below.trod laidOut (by kernel_rfl) (of_decide_eq_true (by kernel_rfl)) h3 bel lt3) trodAll_mk0)))), rfl, bel.frame _, fun h => by cases h⟩

set_option maxRecDepth 100000 in
theorem laid_here (os : Os) : laidMet Tryd.prog Rows.cipherFrontsRow.laid ((laidWorld os).forCall (fun _ _ => 0) ⟨#[], #[.slice none 0 0, .int .u64 0, .slice none 0 0, .slice none 0 0], []⟩).memory :=
  laidMet_of_run' 8 (by kernel_rfl) (by kernel_rfl)
theorem reads (os : Os) {H : Type} (enc : TypeId × Value → H) : ∃ places, DataW.whole enc Tryd.prog ((laidWorld os).forCall (fun _ _ => 0) ⟨#[], #[.slice none 0 0, .int .u64 0, .slice none 0 0, .slice none 0 0], []⟩).memory Tryd.f5.params.toList Rows.cipherFrontsSpec.vars false (#[.slice none 0 0, .int .u64 0, .slice none 0 0, .slice none 0 0] : Array Value).toList 8 = some ([.nil, .lit (.int .u64 0), .nil, .nil], [], places) :=
  ⟨[], by kernel_rfl⟩

set_option maxRecDepth 100000 in
theorem lifted (os : Os) (started : os.Started) (H : Type) (enc : TypeId × Value → H) (F : Stop.Interp) :
    ReturnsInHanded {} Tryd.checked os 5 .any ((OpenSpec.ofChange Rows.cipherFrontsSpec).preRow enc Tryd.prog Tryd.f5 Rows.cipherFrontsRow.domain false Rows.cipherFrontsRow.laid) (((OpenSpec.ofChange Rows.cipherFrontsSpec).at F).post enc Tryd.prog Tryd.f5 false true false false) := by
  obtain ⟨places, hx⟩ := reads os enc
  refine returnsInHanded_of_row (C := Tryd.checked) (s := OpenSpec.ofChange Rows.cipherFrontsSpec) own started (by kernel_rfl) Tryd.func5
    (witness_row_at (enc := enc) (C := Tryd.checked) false (laidWorld os) #[.slice none 0 0, .int .u64 0, .slice none 0 0, .slice none 0 0] rfl (by kernel_rfl) (by kernel_rfl) (by kernel_rfl)
      (OpenSpec.preRow_of_cond 8 hx (by kernel_rfl) (fun k hk => by cases hk) (by kernel_rfl) (laid_here os))) ?_
  intro W base args ds gs before hval hW _ _ _ hL _ _
  exact contract H enc W base args ds gs before hval hW hL

theorem said : Rows.CipherFrontsSaid :=
  OpenClaim.holds_of_cond 5 Tryd.f5 rfl rfl rfl rfl rfl rfl rfl ⟨rfl, rfl, rfl, rfl, rfl⟩ rfl rfl rfl rfl rfl (by kernel_rfl) Tryd.func5 (by kernel_rfl)
    (of_decide_eq_true (by kernel_rfl)) (by unfold Func.isWrapper; first | (rw [if_pos (by decide +kernel)]; kernel_rfl) | (rw [if_neg (by decide +kernel)]; exact ⟨rfl, rfl⟩))
    (fun os started H enc _ F => by rw [OpenClaim.pre_eq_preRow]; exact lifted os started H enc F)

theorem plain (f : FuncId) (fn : Func) (hf : Tryd.pinned.checked.prog.funcNamed "sealskin/sealskinlaw08.CipherFronts" = some f) (hfn : Tryd.pinned.checked.prog.funcs[f]? = some fn) :
    false = Tryd.pinned.checked.prog.looks [] ∧ ∀ (j : Nat) t, fn.params[j]? = some t → Tryd.pinned.checked.prog.wantsStandIn t = false := by
  obtain rfl : f = 5 := Option.some.inj ((show Tryd.prog.funcNamed "sealskin/sealskinlaw08.CipherFronts" = some 5 by kernel_rfl).symm.trans hf) |>.symm
  obtain rfl : fn = Tryd.f5 := (Option.some.inj (Tryd.func5.symm.trans hfn)).symm
  refine ⟨by kernel_rfl, fun j t ht => ?_⟩
  rw [Tryd.params5] at ht
  have := Array.mem_of_getElem? ht
  simp at this
  rcases this with rfl | rfl | rfl
  · exact (show Tryd.prog.wantsStandIn 22 = false by kernel_rfl)
  · exact (show Tryd.prog.wantsStandIn 23 = false by kernel_rfl)
  · exact (show Tryd.prog.wantsStandIn 22 = false by kernel_rfl)

theorem proved : Rows.CipherFrontsCardSaid :=
  Claim7.holds_tied_plain_at .later [] _ _ _ _ said (fun _ h => by cases h) (by kernel_rfl) (fun _ h => by cases h) cipherFronts_row_tie rfl ⟨rfl, rfl⟩ (by kernel_rfl) rfl plain (by kernel_rfl)
#print axioms proved

end Go.Proofs.YtlgbkkfkobijpacDoor.fronts
