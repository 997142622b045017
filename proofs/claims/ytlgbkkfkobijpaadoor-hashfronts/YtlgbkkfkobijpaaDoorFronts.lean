/- For any secret, any use and any two numbers the Go function sealskinlaw07.HashFronts returns true, and its arguments read as they did. No condition. -/
import Derived.Test.YtlgbkkfkobijpaaDoorKey
namespace Go.Proofs.YtlgbkkfkobijpaaDoor.fronts
set_option linter.unusedVariables false
set_option linter.unusedSimpArgs false
open Go.ChangeShapes Go.WideShapes Go.ChangeAt Go.RowKit Go.Joins

theorem mod_nat (k : Int) (n : Nat) (h : 0 < n) (h2 : n ≤ 1000000) : ∃ j : Nat, wrap64 ((IntKind.u64.wrap k).tmod (n : Int)) = (j : Int) ∧ j < n := by
  have h0 : 0 ≤ IntKind.u64.wrap k := wrap_u64_nonneg k
  rw [Int.tmod_eq_emod_of_nonneg h0]
  have g1 := Int.emod_nonneg (IntKind.u64.wrap k) (show (n : Int) ≠ 0 by omega)
  have g2 := Int.emod_lt_of_pos (IntKind.u64.wrap k) (show (0 : Int) < (n : Int) by omega)
  generalize IntKind.u64.wrap k % (n : Int) = x at *
  refine ⟨x.toNat, ?_, by omega⟩
  unfold wrap64
  omega

set_option maxHeartbeats 2000000 in
theorem prefix_true (v x : Value) (l : List Nat) (k : Nat) (w : World) (hv : Byt w v l) (hx : Byt w x (l.take k)) (h8 : U8 l) (hk : k ≤ l.length) : Calls Tryd.prog 25 #[v, x] w fun e w' => e = .returned (.bool true) ∧ w = w' := by
  have hlk : (l.take k).length = k := by rw [List.length_take]; omega
  obtain ⟨a, c, hve⟩ := byt_shape hv
  obtain ⟨b, d, hxe⟩ := byt_shape hx
  obtain ⟨n, hn⟩ : ∃ n, l.length = n := ⟨_, rfl⟩
  have hnc : n ≤ c ∧ n ≤ 9223372036854775807 := by
    rcases hv with ⟨h0, h⟩ | ⟨_, _, h0, h1, h2, _⟩
    · rw [h0] at hve; injection hve with q1 q2 q3; rw [← hn, h]; simp
    · rw [h0] at hve; injection hve with q1 q2 q3; unfold maxLen at h2; omega
  have V2 : Byt w (.slice a k c) (l.take k) := by
    rcases hv with ⟨h0, h⟩ | ⟨ad, cap, h0, h1, h2, h3⟩
    · rw [h0] at hve
      injection hve with q1 q2 q3
      subst q1
      have hk0 : k = 0 := by rw [h] at hk; simpa using hk
      subst hk0
      exact .inl ⟨by rw [← q3], by simp⟩
    · rw [h0] at hve
      injection hve with q1 q2 q3
      subst q1 q3
      exact .inr ⟨ad, cap, by rw [hlk], by omega, h2, fun i y hy => h3 i y (by
        rw [List.getElem?_take] at hy
        split at hy
        · exact hy
        · cases hy)⟩
  have HE := hide (equal_same (.slice a k c) x (l.take k) w V2 hx (fun y hy => h8 y (List.mem_of_mem_take hy)))
  rw [hn] at hve
  rw [hlk] at hxe
  subst hve hxe
  have hkn : k ≤ n := by omega
  have hkI : (k : Int) ≤ (n : Int) := by omega
  have hkc : k ≤ c := by omega
  clear hv hx h8 hk hlk hn V2
  go_enter Tryd.func25, Tryd.ntmps25
  go_wp2_with fail
  refine Calls.mono (unhide HE) ?_
  rintro e w1 ⟨rfl, rfl⟩
  go_wp2_with fail
  go_ret
  exact ⟨rfl, rfl⟩

set_option maxRecDepth 100000 in
set_option maxHeartbeats 4000000 in
theorem walk (sv uv : Value) (ls lu : List Nat) (n m : Int) (w : World) (hT : Tabs w) (hs : Byt w sv ls) (hu : Byt w uv lu) (h8s : U8 ls) (h8u : U8 lu) :
    Calls Tryd.prog 8 #[sv, uv, .int .i64 n, .int .i64 m] w fun e w' => e = .returned (.bool true) ∧ Below w.heap.size w w' := by
  have HT := hide hT
  have HS := hide hs
  have HU := hide hu
  have H8S := hide h8s
  have H8U := hide h8u
  obtain ⟨sa, sc, hse⟩ := byt_shape hs
  obtain ⟨ua, uc, hue⟩ := byt_shape hu
  obtain ⟨sn, hsn⟩ : ∃ x, ls.length = x := ⟨_, rfl⟩
  obtain ⟨un, hun⟩ : ∃ x, lu.length = x := ⟨_, rfl⟩
  rw [hsn] at hse
  rw [hun] at hue
  subst hse hue
  have L1 := LL.two hs hu
  have b1 : Below w.heap.size w (w.alloc (.cells #[.slice sa sn sc, .slice ua un uc] 22)) := (Below.refl _ _).alloc (Nat.le_refl _) _
  have HLG := hide (long_any _ _ _ L1)
  have HB1 := hide b1
  obtain ⟨i, hi, hi5⟩ := mod_nat n 500 (by decide) (by decide)
  obtain ⟨j, hj, hj5⟩ := mod_nat m 500 (by decide) (by decide)
  clear hT hs hu h8s h8u hsn hun L1 b1
  go_enter Tryd.func8, Tryd.ntmps8
  go_wp2_with fail
  generalize w.alloc (.cells #[.slice sa sn sc, .slice ua un uc] 22) = w1 at *
  refine Calls.mono (unhide HLG) ?_
  rintro e wx ⟨b, rfl, hlong, rfl⟩
  cases b
  · have hlen : ls.length + lu.length ≤ 4096 := by have := hlong rfl; simpa [flat] using this
    have HLEN := hide hlen
    clear hlong hlen HLG
    have hi' : wrap64 ((IntKind.u64.wrap n).tmod 500) = (i : Int) := hi
    have hj' : wrap64 ((IntKind.u64.wrap m).tmod 500) = (j : Int) := hj
    clear hi hj
    rcases Nat.lt_or_ge i j with hij | hij
    · have t1 : (i : Int) < (j : Int) := by omega
      have t2 : ¬ (j : Int) < (i : Int) := by omega
      have t3 : min (i : Int) (j : Int) = (i : Int) := by omega
      have t4 : max (i : Int) (j : Int) = (j : Int) := by omega
      have HKA := hide (key_any _ _ ls lu i w1 ((unhide HT).below (unhide HB1)) ((unhide HS).call (unhide HB1)) ((unhide HU).call (unhide HB1)) (unhide H8S) (unhide H8U) (by have := unhide HLEN; omega) (by have := unhide HLEN; omega) (by omega))
      go_wp2_with fail
      refine Calls.mono (unhide HKA) ?_
      rintro e w2 ⟨va, rfl, ya, b2⟩
      have B2 := (unhide HB1).trans (b2.mono (unhide HB1).size)
      have HKB := hide (key_any _ _ ls lu j w2 ((unhide HT).below B2) ((unhide HS).call B2) ((unhide HU).call B2) (unhide H8S) (unhide H8U) (by have := unhide HLEN; omega) (by have := unhide HLEN; omega) (by omega))
      have HYA := hide ya
      have HB2 := hide B2
      clear ya b2 B2 HKA
      go_wp2_with fail
      refine Calls.mono (unhide HKB) ?_
      rintro e w3 ⟨vb, rfl, yb, b3⟩
      have B3 := (unhide HB2).trans (b3.mono (unhide HB2).size)
      have YA := (unhide HYA).call b3
      obtain ⟨K, hK⟩ : ∃ K, keyAll (keyedL ls lu) 255 = K := ⟨_, rfl⟩
      have hKl : K.length = 8160 := by rw [← hK, keyAll_len]
      have h8K : U8 K := hK ▸ keyAll_8 _ _
      rw [hK] at YA yb
      have la : (K.take i).length = i := by rw [List.length_take]; omega
      have lb : (K.take j).length = j := by rw [List.length_take]; omega
      have HPF := hide (prefix_true vb va (K.take j) i w3 yb (by rw [List.take_take, Nat.min_eq_left (by omega)]; exact YA) (fun y hy => h8K y (List.mem_of_mem_take hy)) (by rw [lb]; omega))
      have HAW := hide (awake_any w3 ((unhide HT).below B3))
      obtain ⟨aa, ca, ha⟩ := byt_shape YA
      obtain ⟨ab, cb, hb⟩ := byt_shape yb
      rw [la] at ha
      rw [lb] at hb
      subst ha hb
      have HB3 := hide B3
      clear yb b3 B3 YA hK hKl h8K la lb HKB HYA
      go_wp2_with fail
      refine Calls.mono (unhide HPF) ?_
      rintro e w4 ⟨rfl, rfl⟩
      go_wp2_with fail
      refine Calls.mono (unhide HAW) ?_
      rintro e w5 ⟨rfl, b5⟩
      go_wp2_with fail
      go_ret
      exact ⟨rfl, (unhide HB3).trans (b5.mono (unhide HB3).size)⟩
    · have t2 : ¬ (i : Int) < (j : Int) := by omega
      have t3 : min (i : Int) (j : Int) = (j : Int) := by omega
      have t4 : max (i : Int) (j : Int) = (i : Int) := by omega
      have t5 : (j : Int) ≤ (i : Int) := by omega
      have HKA := hide (key_any _ _ ls lu j w1 ((unhide HT).below (unhide HB1)) ((unhide HS).call (unhide HB1)) ((unhide HU).call (unhide HB1)) (unhide H8S) (unhide H8U) (by have := unhide HLEN; omega) (by have := unhide HLEN; omega) (by omega))
      go_wp2_with fail
      refine Calls.mono (unhide HKA) ?_
      rintro e w2 ⟨va, rfl, ya, b2⟩
      have B2 := (unhide HB1).trans (b2.mono (unhide HB1).size)
      have HKB := hide (key_any _ _ ls lu i w2 ((unhide HT).below B2) ((unhide HS).call B2) ((unhide HU).call B2) (unhide H8S) (unhide H8U) (by have := unhide HLEN; omega) (by have := unhide HLEN; omega) (by omega))
      have HYA := hide ya
      have HB2 := hide B2
      clear ya b2 B2 HKA
      go_wp2_with fail
      refine Calls.mono (unhide HKB) ?_
      rintro e w3 ⟨vb, rfl, yb, b3⟩
      have B3 := (unhide HB2).trans (b3.mono (unhide HB2).size)
      have YA := (unhide HYA).call b3
      obtain ⟨K, hK⟩ : ∃ K, keyAll (keyedL ls lu) 255 = K := ⟨_, rfl⟩
      have hKl : K.length = 8160 := by rw [← hK, keyAll_len]
      have h8K : U8 K := hK ▸ keyAll_8 _ _
      rw [hK] at YA yb
      have la : (K.take j).length = j := by rw [List.length_take]; omega
      have lb : (K.take i).length = i := by rw [List.length_take]; omega
      have HPF := hide (prefix_true vb va (K.take i) j w3 yb (by rw [List.take_take, Nat.min_eq_left (by omega)]; exact YA) (fun y hy => h8K y (List.mem_of_mem_take hy)) (by rw [lb]; omega))
      have HAW := hide (awake_any w3 ((unhide HT).below B3))
      obtain ⟨aa, ca, ha⟩ := byt_shape YA
      obtain ⟨ab, cb, hb⟩ := byt_shape yb
      rw [la] at ha
      rw [lb] at hb
      subst ha hb
      have HB3 := hide B3
      clear yb b3 B3 YA hK hKl h8K la lb HKB HYA
      go_wp2_with fail
      refine Calls.mono (unhide HPF) ?_
      rintro e w4 ⟨rfl, rfl⟩
      go_wp2_with fail
      refine Calls.mono (unhide HAW) ?_
      rintro e w5 ⟨rfl, b5⟩
      go_wp2_with fail
      go_ret
      exact ⟨rfl, (unhide HB3).trans (b5.mono (unhide HB3).size)⟩
  · have HAW := hide (awake_any w1 ((unhide HT).below (unhide HB1)))
    go_wp2_with fail
    refine Calls.mono (unhide HAW) ?_
    rintro e w3 ⟨rfl, b3⟩
    go_wp2_with fail
    go_ret
    exact ⟨rfl, (unhide HB1).trans (b3.mono (unhide HB1).size)⟩
theorem open_i64 {H : Type} {enc : TypeId × Value → H} {W : World} {b0 base : Nat} {spare : Nat → Bool} {held : Bool} {v : Value} {d : DataW H} {p : List MemPlace}
    (hv : Value.okWide Tryd.prog W .any b0 3 v) (h : DataW.Trod enc Tryd.prog W base spare held 3 v d p) : ∃ n : Int, v = .int .i64 n := by
  obtain ⟨n, rfl, _, _, wn⟩ := open_int Tryd.underlying3 hv h
  exact ⟨n, rfl⟩
theorem contract (H : Type) (enc : TypeId × Value → H) (W : World) (base : Nat) (args : Array Value) (ds gs : List (DataW H)) (before : List MemPlace)
    (hval : ∀ (j : Nat) t v, Tryd.f8.params[j]? = some t → args[j]? = some v → Value.okWide Tryd.prog W .any base t v)
    (hW : DataW.Whole enc Tryd.prog Tryd.f8.params.toList Rows.hashFrontsSpec.vars false W args.toList ds gs before) (hL : laidMetH Tryd.prog Rows.hashFrontsRow.laid W) :
    Calls Tryd.prog 8 args W fun e W' => ∃ v, e = .returned v ∧ Rows.hashFrontsSpec.post enc Tryd.prog Tryd.f8 false true false false W args v W' := by
  have hT : Tabs W := tabs_of hL
  have hW' := hW
  obtain ⟨p, q, hA0, hV, rfl, hfz, hnd⟩ := hW
  have hA : DataW.TrodAll enc Tryd.prog W 0 (fun _ => true) true Tryd.f8.params.toList args.toList ds p := hA0
  rw [Tryd.params8] at hA hval
  obtain ⟨v0, vs0, d0, ds0, p0, q0, hargs, rfl, rfl, h0, r0⟩ := trodAll_cons hA
  obtain ⟨v1, vs1, d1, ds1, p1, q1, rfl, rfl, rfl, h1, r1⟩ := trodAll_cons r0
  obtain ⟨v2, vs2, d2, ds2, p2, q2, rfl, rfl, rfl, h2, r2⟩ := trodAll_cons r1
  obtain ⟨v3, vs3, d3, ds3, p3, q3, rfl, rfl, rfl, h3, r3⟩ := trodAll_cons r2
  obtain ⟨rfl, rfl, rfl⟩ := trodAll_nil r3
  obtain rfl : args = #[v0, v1, v2, v3] := by cases args; simp_all
  obtain ⟨rfl, rfl⟩ := trodVars_none hV
  have lt0 : ∀ x ∈ p0, x.block < W.heap.size := by obtain ⟨m, hm⟩ := h0; exact DataW.trod_lt m _ _ _ hm
  have lt1 : ∀ x ∈ p1, x.block < W.heap.size := by obtain ⟨m, hm⟩ := h1; exact DataW.trod_lt m _ _ _ hm
  have lt2 : ∀ x ∈ p2, x.block < W.heap.size := by obtain ⟨m, hm⟩ := h2; exact DataW.trod_lt m _ _ _ hm
  have lt3 : ∀ x ∈ p3, x.block < W.heap.size := by obtain ⟨m, hm⟩ := h3; exact DataW.trod_lt m _ _ _ hm
  obtain ⟨l0, hY0, h2560⟩ := open_bytes (hval 0 22 v0 rfl rfl) h0
  obtain ⟨l1, hY1, h2561⟩ := open_bytes (hval 1 22 v1 rfl rfl) h1
  obtain ⟨n2, rfl⟩ := open_i64 (hval 2 3 v2 rfl rfl) h2
  obtain ⟨n3, rfl⟩ := open_i64 (hval 3 3 v3 rfl rfl) h3
  clear hA0
  refine (walk v0 v1 l0 l1 n2 n3 W hT hY0 hY1 h2560 h2561).mono fun e W' ⟨he, bel⟩ => ?_
  subst he
  exact ⟨_, rfl, _, _, _, [], _, [], hW', trodAll_mk1 (shut_bool Tryd.underlying4 _), (trodAll_cons_mk (Below.trod laidOut (by kernel_rfl) (of_decide_eq_true (by kernel_rfl)) h0 bel lt0) (trodAll_cons_mk (Below.trod laidOut (by kernel_rfl) (of_decide_eq_true (by kernel_rfl)) h1 bel lt1) (trodAll_cons_mk (Below.trod laidOut (by kernel_rfl) (of_decide_eq_true (by kernel_rfl)) h2 bel lt2) (trodAll_cons_mk (Below.trod laidOut (by kernel_rfl) (of_decide_eq_true (by kernel_rfl)) h3 bel lt3) trodAll_mk0)))), rfl, bel.frame _, fun h => by cases h⟩

set_option maxRecDepth 100000 in
theorem laid_here (os : Os) : laidMet Tryd.prog Rows.hashFrontsRow.laid ((laidWorld os).forCall (fun _ _ => 0) ⟨#[], #[.slice none 0 0, .slice none 0 0, .int .i64 0, .int .i64 0], []⟩).memory :=
  laidMet_of_run' 8 (by kernel_rfl) (by kernel_rfl)
theorem reads (os : Os) {H : Type} (enc : TypeId × Value → H) : ∃ places, DataW.whole enc Tryd.prog ((laidWorld os).forCall (fun _ _ => 0) ⟨#[], #[.slice none 0 0, .slice none 0 0, .int .i64 0, .int .i64 0], []⟩).memory Tryd.f8.params.toList Rows.hashFrontsSpec.vars false (#[.slice none 0 0, .slice none 0 0, .int .i64 0, .int .i64 0] : Array Value).toList 8 = some ([.nil, .nil, .lit (.int .i64 0), .lit (.int .i64 0)], [], places) :=
  ⟨[], by kernel_rfl⟩

set_option maxRecDepth 100000 in
theorem lifted (os : Os) (started : os.Started) (H : Type) (enc : TypeId × Value → H) (F : Stop.Interp) :
    ReturnsInHanded {} Tryd.checked os 8 .any ((OpenSpec.ofChange Rows.hashFrontsSpec).preRow enc Tryd.prog Tryd.f8 Rows.hashFrontsRow.domain false Rows.hashFrontsRow.laid) (((OpenSpec.ofChange Rows.hashFrontsSpec).at F).post enc Tryd.prog Tryd.f8 false true false false) := by
  obtain ⟨places, hx⟩ := reads os enc
  refine returnsInHanded_of_row (C := Tryd.checked) (s := OpenSpec.ofChange Rows.hashFrontsSpec) own started (by kernel_rfl) Tryd.func8
    (witness_row_at (enc := enc) (C := Tryd.checked) false (laidWorld os) #[.slice none 0 0, .slice none 0 0, .int .i64 0, .int .i64 0] rfl (by kernel_rfl) (by kernel_rfl) (by kernel_rfl)
      (OpenSpec.preRow_of_cond 8 hx (by kernel_rfl) (fun k hk => by cases hk) (by kernel_rfl) (laid_here os))) ?_
  intro W base args ds gs before hval hW _ _ _ hL _ _
  exact contract H enc W base args ds gs before hval hW hL

theorem said : Rows.HashFrontsSaid :=
  OpenClaim.holds_of_cond 8 Tryd.f8 rfl rfl rfl rfl rfl rfl rfl ⟨rfl, rfl, rfl, rfl, rfl⟩ rfl rfl rfl rfl rfl (by kernel_rfl) Tryd.func8 (by kernel_rfl)
    (of_decide_eq_true (by kernel_rfl)) (by unfold Func.isWrapper; first | (rw [if_pos (by decide +kernel)]; kernel_rfl) | (rw [if_neg (by decide +kernel)]; exact ⟨rfl, rfl⟩))
    (fun os started H enc _ F => by rw [OpenClaim.pre_eq_preRow]; exact lifted os started H enc F)

theorem plain (f : FuncId) (fn : Func) (hf : Tryd.pinned.checked.prog.funcNamed "sealskin/sealskinlaw07.HashFronts" = some f) (hfn : Tryd.pinned.checked.prog.funcs[f]? = some fn) :
    false = Tryd.pinned.checked.prog.looks [] ∧ ∀ (j : Nat) t, fn.params[j]? = some t → Tryd.pinned.checked.prog.wantsStandIn t = false := by
  obtain rfl : f = 8 := Option.some.inj ((show Tryd.prog.funcNamed "sealskin/sealskinlaw07.HashFronts" = some 8 by kernel_rfl).symm.trans hf) |>.symm
  obtain rfl : fn = Tryd.f8 := (Option.some.inj (Tryd.func8.symm.trans hfn)).symm
  refine ⟨by kernel_rfl, fun j t ht => ?_⟩
  rw [Tryd.params8] at ht
  have := Array.mem_of_getElem? ht
  simp at this
  rcases this with rfl | rfl
  · exact (show Tryd.prog.wantsStandIn 22 = false by kernel_rfl)
  · exact (show Tryd.prog.wantsStandIn 3 = false by kernel_rfl)

theorem proved : Rows.HashFrontsCardSaid :=
  Claim7.holds_tied_plain_at .later [] _ _ _ _ said (fun _ h => by cases h) (by kernel_rfl) (fun _ h => by cases h) hashFronts_row_tie rfl ⟨rfl, rfl⟩ (by kernel_rfl) rfl plain (by kernel_rfl)
#print axioms proved

end Go.Proofs.YtlgbkkfkobijpaaDoor.fronts
