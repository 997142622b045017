/- For any key and any bytes the Go function sealskinlaw07.HashKeyed returns true, and its arguments read as they did. No condition. -/
import Derived.Test.YtlgbkkfkobijpaaDoorRefK
import Derived.Test.YtlgbkkfkobijpaaDoorLists
namespace Go.Proofs.YtlgbkkfkobijpaaDoor.keyed
set_option linter.unusedVariables false
set_option linter.unusedSimpArgs false
open Go.ChangeShapes Go.WideShapes Go.ChangeAt Go.RowKit Go.Joins

set_option maxRecDepth 100000 in
set_option maxHeartbeats 4000000 in
theorem under_fit (v : Value) (key : List Nat) (w : World) (hT : Tabs w) (hv : Byt w v key) (h8 : U8 key) (hf : 0 < key.length ∧ key.length ≤ 32) : Calls Tryd.prog 17 #[v] w fun e w' => ∃ g, e = .returned (.tuple #[.pointer (some ⟨g, 0, none⟩), .int .i64 0]) ∧ w.heap.size ≤ g ∧ Dg w' g (stW key.length) (kblk key) ∧ Below w.heap.size w w' := by
  have hz5 := zero55
  generalize hZ5 : (dcells (List.replicate 8 0) (List.replicate 64 0) 0 0 false).toArray = Z5 at hz5
  have HZ5 : Hid (Z5.size = 75) := hide (by rw [← hZ5, List.size_toArray]; exact dcells_len _ _ _ _ _ (List.length_replicate ..) (List.length_replicate ..))
  have HST := hide (start_any v key w hT hv hf.2)
  have H8 := hide h8
  have HF := hide hf
  obtain ⟨a, c, hve⟩ := byt_shape hv
  obtain ⟨n, hn⟩ : ∃ n, key.length = n := ⟨_, rfl⟩
  have HFI := hide (fits_any a n c w)
  rw [show decide (0 < n ∧ n ≤ 32) = true by rw [← hn]; simp [hf]] at HFI
  rw [hn] at hve
  subst hve
  clear hZ5 hT hv h8 hn hf
  go_enter Tryd.func17, Tryd.ntmps17
  go_wp2_with fail
  refine Calls.mono (unhide HFI) ?_
  rintro e wx ⟨rfl, rfl⟩
  go_wp2_with fail
  refine Calls.mono (unhide HST) ?_
  rintro e w2 ⟨rfl, b2⟩
  obtain ⟨D, hD⟩ : ∃ D, (dcells (stW key.length) (padK key) (kheld key) 0 true).toArray = D := ⟨_, rfl⟩
  have HDS : Hid (D.size = 75) := hide (by rw [← hD, List.size_toArray]; exact dcells_len _ _ _ _ _ (stW_len _) (padK_len _ (by have := unhide HF; omega)))
  have HDO : Hid (D.all (·.oneCell') = true) := hide (by rw [← hD]; simp [dcells, u32v, bv, Value.oneCell'])
  have R3 := RowAt.new w2 55 (dcells (stW key.length) (padK key) (kheld key) 0 true)
  rw [hD] at R3
  have HD3 := hide (start_dg (unhide H8) (unhide HF).2 R3)
  rw [hD]
  have HB3 := hide (b2.alloc b2.size (.cells D 55))
  have HSZ := hide b2.size
  clear R3 hD b2 HST
  go_wp2_with (refine wpList_store_new rfl 55 _ _ rfl D rfl rfl (by rw [z55, unhide HDS]) (by rw [unhide HDS, unhide HZ5]) (unhide HDO) ?_)
  go_ret2
  exact ⟨_, rfl, unhide HSZ, unhide HD3, unhide HB3⟩
theorem under_not (a : Option Addr) (n c : Nat) (w : World) (hf : ¬ (0 < n ∧ n ≤ 32)) : Calls Tryd.prog 17 #[.slice a n c] w fun e w' => e = .returned (.tuple #[.pointer none, .int .i64 1]) ∧ w = w' := by
  have HFI := hide (fits_any a n c w)
  rw [show decide (0 < n ∧ n ≤ 32) = false by simp [hf]] at HFI
  clear hf
  go_enter Tryd.func17, Tryd.ntmps17
  go_wp2_with fail
  refine Calls.mono (unhide HFI) ?_
  rintro e wx ⟨rfl, rfl⟩
  go_wp2_with fail
  go_ret2
  exact ⟨rfl, rfl⟩

set_option maxRecDepth 100000 in
set_option maxHeartbeats 8000000 in
theorem walk (kv v : Value) (key l : List Nat) (w : World) (hT : Tabs w) (hk : Byt w kv key) (hv : Byt w v l) (hk8 : U8 key) (h8 : U8 l) :
    Calls Tryd.prog 4 #[kv, v] w fun e w' => e = .returned (.bool true) ∧ Below w.heap.size w w' := by
  have HT := hide hT
  have HK := hide hk
  have HV := hide hv
  have HK8 := hide hk8
  have H8 := hide h8
  obtain ⟨ka, kc, hke⟩ := byt_shape hk
  obtain ⟨a, c, hve⟩ := byt_shape hv
  obtain ⟨kn, hkn⟩ : ∃ n, key.length = n := ⟨_, rfl⟩
  obtain ⟨n, hn⟩ : ∃ n, l.length = n := ⟨_, rfl⟩
  rw [hkn] at hke
  rw [hn] at hve
  subst hke hve
  have HKN := hide hkn
  have HN := hide hn
  have L1 := LL.two hk hv
  have b1 : Below w.heap.size w (w.alloc (.cells #[.slice ka kn kc, .slice a n c] 22)) := (Below.refl _ _).alloc (Nat.le_refl _) _
  have HLG := hide (long_any _ _ _ L1)
  have HB1 := hide b1
  clear hT hk hv hk8 h8 hkn hn L1 b1
  go_enter Tryd.func4, Tryd.ntmps4
  go_wp2_with fail
  generalize w.alloc (.cells #[.slice ka kn kc, .slice a n c] 22) = w1 at *
  refine Calls.mono (unhide HLG) ?_
  rintro e wx ⟨b, rfl, hlong, rfl⟩
  cases b
  · have hlen : key.length + l.length ≤ 4096 := by have := hlong rfl; simpa [flat] using this
    have HL := hide hlen
    have L3 := LL.one ((unhide HV).call (unhide HB1))
    have b3 : Below w1.heap.size w1 (w1.alloc (.cells #[.slice a n c] 22)) := (Below.refl _ _).alloc (Nat.le_refl _) _
    have B3 := (unhide HB1).trans (b3.mono (unhide HB1).size)
    have eF : flat [(Value.slice a n c, l)] = l := by simp [flat]
    have HKD := hide (keyed_any (.slice ka kn kc) key _ _ _ ((unhide HT).below B3) ((unhide HK).call B3) (unhide HK8) (by omega) L3 (fun x hx => by obtain rfl := List.mem_singleton.1 hx; exact unhide H8) (by rw [eF]; omega))
    rw [eF] at HKD
    have HB3 := hide B3
    clear hlong hlen HLG L3 b3 B3 eF
    go_wp2_with fail
    generalize w1.alloc (.cells #[.slice a n c] 22) = w3 at *
    refine Calls.mono (unhide HKD) ?_
    rintro e w4 ⟨rfl, b4⟩
    have B4 := (unhide HB3).trans (b4.mono (unhide HB3).size)
    have HRK := hide (rkeyed_any _ _ key l w4 ((unhide HK).call B4) ((unhide HV).call B4) (unhide HK8) (unhide H8) (by have := unhide HL; omega) (by have := unhide HL; omega))
    obtain ⟨X, hX⟩ : ∃ X, bv (keyedL key l) = X := ⟨_, rfl⟩
    have q1 := eq_sum (keyedL key l) (keyedL_len _ _)
    rw [hX] at HRK q1 ⊢
    have HB4 := hide B4
    clear b4 B4 hX HKD HB3
    go_wp2_with fail
    refine Calls.mono (unhide HRK) ?_
    rintro e w5 ⟨rfl, b5⟩
    have B5 := (unhide HB4).trans (b5.mono (unhide HB4).size)
    have HB5 := hide B5
    by_cases hfit : 0 < kn ∧ kn ≤ 32
    · have HUN := hide (under_fit _ key w5 ((unhide HT).below B5) ((unhide HK).call B5) (unhide HK8) (by rw [unhide HKN]; exact hfit))
      have f1 : ¬ (kn : Int) < 1 := by omega
      have f2 : ¬ (32 : Int) < (kn : Int) := by omega
      have HFT := hide hfit
      clear b5 B5 HRK HB4 hfit
      go_wp2_with fail
      refine Calls.mono (unhide HUN) ?_
      rintro e w6 ⟨g, rfl, hg, d6, b6⟩
      have B6 := (unhide HB5).trans (b6.mono (unhide HB5).size)
      have hw5 := (unhide HB5).size
      have L7 := LL.one ((unhide HV).call B6)
      have b7 : Below w6.heap.size w6 (w6.alloc (.cells #[.slice a n c] 22)) := (Below.refl _ _).alloc (Nat.le_refl _) _
      have B7 := B6.trans (b7.mono B6.size)
      have D7 : Dg (w6.alloc (.cells #[.slice a n c] 22)) g (stW key.length) (kblk key) := d6.only (Only.of_below (p := fun _ => False) b7) id
      have hgl := d6.lt
      have F7 : LF (.slice (some ⟨w6.heap.size, 0, none⟩) 1 1) [(.slice a n c, l)] (· = g) := by
        refine ⟨fun _ k hk e => by simp [Value.ownBlock] at hk; omega, fun x hx hne => ?_⟩
        obtain rfl := List.mem_singleton.1 hx
        exact byt_off (unhide HV) hne (p := (· = g)) (fun k hk => by omega)
      have K64 : (kblk key).length ≤ 64 := by unfold kblk; split; simp; rw [padK_len _ (by rw [unhide HKN]; have := unhide HFT; omega)]; omega
      have KU8 : U8 (kblk key) := by unfold kblk; split; (intro y hy; cases hy); exact padK_8 (unhide HK8)
      have hS32 : W32 (stW key.length) := stW_32 _ (by rw [unhide HKN]; exact (unhide HFT).2)
      have HAD := hide (add_all g (stW key.length) (kblk key) _ _ _ ((unhide HT).below B7) (by have := (unhide HT).two; omega) (stW_len _) hS32 D7 KU8 L7 F7 (fun x hx => by obtain rfl := List.mem_singleton.1 hx; exact unhide H8) (by have := unhide HL; simp [flat]; omega))
      have eF : kblk key ++ flat [(Value.slice a n c, l)] = kblk key ++ l := by simp [flat]
      rw [eF] at HAD
      have HB7 := hide B7
      have HGW : Hid (w.heap.size ≤ g) := hide (by omega)
      have HK64 := hide K64
      have HS32 := hide hS32
      clear hg d6 b6 B6 hw5 L7 b7 B7 D7 hgl F7 K64 KU8 hS32 eF HUN HB5
      go_wp2_with fail
      generalize w6.alloc (.cells #[.slice a n c] 22) = w7 at *
      refine Calls.mono (unhide HAD) ?_
      rintro e w8 ⟨rfl, d8, o8⟩
      have B8 := (unhide HB7).trans (o8.below (unhide HB7).size (fun k hk => by have := unhide HGW; omega))
      have HSM := hide (sum_any g (stW key.length) (kblk key ++ l) w8 ((unhide HT).below B8) (stW_len _) (unhide HS32) d8 (by have := unhide HL; have := unhide HK64; rw [List.length_append]; omega))
      have HB8 := hide B8
      clear d8 o8 B8 HAD HB7
      go_wp2_with fail
      refine Calls.mono (unhide HSM) ?_
      rintro e w9 ⟨rfl, b9⟩
      have B9 := (unhide HB8).trans (b9.mono (unhide HB8).size)
      have HDG := hide (digest_any _ _ key l w9 ((unhide HK).call B9) ((unhide HV).call B9) (unhide HK8) (unhide H8) (by rw [unhide HKN]; exact (unhide HFT).2) (by have := unhide HL; omega))
      obtain ⟨X2, hX2⟩ : ∃ X, bv (sumL (stW key.length) (kblk key ++ l)) = X := ⟨_, rfl⟩
      have q2 := eq_sum (sumL (stW key.length) (kblk key ++ l)) (sumL_len _ _)
      rw [hX2] at HDG q2 ⊢
      have HB9 := hide B9
      clear b9 B9 hX2 HSM HB8
      go_wp2_with fail
      refine Calls.mono (unhide HDG) ?_
      rintro e w10 ⟨rfl, b10⟩
      have B10 := (unhide HB9).trans (b10.mono (unhide HB9).size)
      have HAW := hide (awake_any w10 ((unhide HT).below B10))
      have HB10 := hide B10
      clear b10 B10 HDG HB9
      go_wp2_with fail
      refine Calls.mono (unhide HAW) ?_
      rintro e w11 ⟨rfl, b11⟩
      go_wp2_with fail
      go_ret
      exact ⟨rfl, (unhide HB10).trans (b11.mono (unhide HB10).size)⟩
    · have HUN := hide (under_not ka kn kc w5 hfit)
      have HAW := hide (awake_any w5 ((unhide HT).below B5))
      have hc : (kn : Int) < 1 ∨ (32 : Int) < (kn : Int) := by omega
      clear b5 B5 HRK HB4 hfit
      rcases hc with hc | hc
      · go_wp2_with fail
        refine Calls.mono (unhide HUN) ?_
        rintro e wx ⟨rfl, rfl⟩
        go_wp2_with fail
        refine Calls.mono (unhide HAW) ?_
        rintro e w3 ⟨rfl, b3⟩
        go_wp2_with fail
        go_ret
        exact ⟨rfl, (unhide HB5).trans (b3.mono (unhide HB5).size)⟩
      · have hc1 : ¬ (kn : Int) < 1 := by omega
        go_wp2_with fail
        refine Calls.mono (unhide HUN) ?_
        rintro e wx ⟨rfl, rfl⟩
        go_wp2_with fail
        refine Calls.mono (unhide HAW) ?_
        rintro e w3 ⟨rfl, b3⟩
        go_wp2_with fail
        go_ret
        exact ⟨rfl, (unhide HB5).trans (b3.mono (unhide HB5).size)⟩
  · have HAW := hide (awake_any w1 ((unhide HT).below (unhide HB1)))
    go_wp2_with fail
    refine Calls.mono (unhide HAW) ?_
    rintro e w3 ⟨rfl, b3⟩
    go_wp2_with fail
    go_ret
    exact ⟨rfl, (unhide HB1).trans (b3.mono (unhide HB1).size)⟩

theorem contract (H : Type) (enc : TypeId × Value → H) (W : World) (base : Nat) (args : Array Value) (ds gs : List (DataW H)) (before : List MemPlace)
    (hval : ∀ (j : Nat) t v, Tryd.f4.params[j]? = some t → args[j]? = some v → Value.okWide Tryd.prog W .any base t v)
    (hW : DataW.Whole enc Tryd.prog Tryd.f4.params.toList Rows.hashKeyedSpec.vars false W args.toList ds gs before) (hL : laidMetH Tryd.prog Rows.hashKeyedRow.laid W) :
    Calls Tryd.prog 4 args W fun e W' => ∃ v, e = .returned v ∧ Rows.hashKeyedSpec.post enc Tryd.prog Tryd.f4 false true false false W args v W' := by
  have hT : Tabs W := tabs_of hL
  have hW' := hW
  obtain ⟨p, q, hA0, hV, rfl, hfz, hnd⟩ := hW
  have hA : DataW.TrodAll enc Tryd.prog W 0 (fun _ => true) true Tryd.f4.params.toList args.toList ds p := hA0
  rw [Tryd.params4] at hA hval
  obtain ⟨v0, vs0, d0, ds0, p0, q0, hargs, rfl, rfl, h0, r0⟩ := trodAll_cons hA
  obtain ⟨v1, vs1, d1, ds1, p1, q1, rfl, rfl, rfl, h1, r1⟩ := trodAll_cons r0
  obtain ⟨rfl, rfl, rfl⟩ := trodAll_nil r1
  obtain rfl : args = #[v0, v1] := by cases args; simp_all
  obtain ⟨rfl, rfl⟩ := trodVars_none hV
  have lt0 : ∀ x ∈ p0, x.block < W.heap.size := by obtain ⟨m, hm⟩ := h0; exact DataW.trod_lt m _ _ _ hm
  have lt1 : ∀ x ∈ p1, x.block < W.heap.size := by obtain ⟨m, hm⟩ := h1; exact DataW.trod_lt m _ _ _ hm
  obtain ⟨l0, hY0, h2560⟩ := open_bytes (hval 0 22 v0 rfl rfl) h0
  obtain ⟨l1, hY1, h2561⟩ := open_bytes (hval 1 22 v1 rfl rfl) h1
  clear hA0
  refine (walk v0 v1 l0 l1 W hT hY0 hY1 h2560 h2561).mono fun e W' ⟨he, bel⟩ => ?_
  subst he
  exact ⟨_, rfl, _, _, _, [], _, [], hW', trodAll_mk1 (shut_bool Tryd.underlying4 _), (trodAll_cons_mk (Below.trod laidOut (by kernel_rfl) (of_decide_eq_true (by kernel_rfl)) h0 bel lt0) (trodAll_cons_mk (Below.trod laidOut (by kernel_rfl) (of_decide_eq_true (by kernel_rfl)) h1 bel lt1) trodAll_mk0)), rfl, bel.frame _, fun h => by cases h⟩

set_option maxRecDepth 100000 in
theorem laid_here (os : Os) : laidMet Tryd.prog Rows.hashKeyedRow.laid ((laidWorld os).forCall (fun _ _ => 0) ⟨#[], #[.slice none 0 0, .slice none 0 0], []⟩).memory :=
  laidMet_of_run' 8 (by kernel_rfl) (by kernel_rfl)
theorem reads (os : Os) {H : Type} (enc : TypeId × Value → H) : ∃ places, DataW.whole enc Tryd.prog ((laidWorld os).forCall (fun _ _ => 0) ⟨#[], #[.slice none 0 0, .slice none 0 0], []⟩).memory Tryd.f4.params.toList Rows.hashKeyedSpec.vars false (#[.slice none 0 0, .slice none 0 0] : Array Value).toList 8 = some ([.nil, .nil], [], places) :=
  ⟨[], by kernel_rfl⟩

set_option maxRecDepth 100000 in
theorem lifted (os : Os) (started : os.Started) (H : Type) (enc : TypeId × Value → H) (F : Stop.Interp) :
    ReturnsInHanded {} Tryd.checked os 4 .any ((OpenSpec.ofChange Rows.hashKeyedSpec).preRow enc Tryd.prog Tryd.f4 Rows.hashKeyedRow.domain false Rows.hashKeyedRow.laid) (((OpenSpec.ofChange Rows.hashKeyedSpec).at F).post enc Tryd.prog Tryd.f4 false true false false) := by
  obtain ⟨places, hx⟩ := reads os enc
  refine returnsInHanded_of_row (C := Tryd.checked) (s := OpenSpec.ofChange Rows.hashKeyedSpec) own started (by kernel_rfl) Tryd.func4
    (witness_row_at (enc := enc) (C := Tryd.checked) false (laidWorld os) #[.slice none 0 0, .slice none 0 0] rfl (by kernel_rfl) (by kernel_rfl) (by kernel_rfl)
      (OpenSpec.preRow_of_cond 8 hx (by kernel_rfl) (fun k hk => by cases hk) (by kernel_rfl) (laid_here os))) ?_
  intro W base args ds gs before hval hW _ _ _ hL _ _
  exact contract H enc W base args ds gs before hval hW hL

theorem said : Rows.HashKeyedSaid :=
  OpenClaim.holds_of_cond 4 Tryd.f4 rfl rfl rfl rfl rfl rfl rfl ⟨rfl, rfl, rfl, rfl, rfl⟩ rfl rfl rfl rfl rfl (by kernel_rfl) Tryd.func4 (by kernel_rfl)
    (of_decide_eq_true (by kernel_rfl)) (by unfold Func.isWrapper; first | (rw [if_pos (by decide +kernel)]; kernel_rfl) | (rw [if_neg (by decide +kernel)]; exact ⟨rfl, rfl⟩))
    (fun os started H enc _ F => by rw [OpenClaim.pre_eq_preRow]; exact lifted os started H enc F)

theorem plain (f : FuncId) (fn : Func) (hf : Tryd.pinned.checked.prog.funcNamed "sealskin/sealskinlaw07.HashKeyed" = some f) (hfn : Tryd.pinned.checked.prog.funcs[f]? = some fn) :
    false = Tryd.pinned.checked.prog.looks [] ∧ ∀ (j : Nat) t, fn.params[j]? = some t → Tryd.pinned.checked.prog.wantsStandIn t = false := by
  obtain rfl : f = 4 := Option.some.inj ((show Tryd.prog.funcNamed "sealskin/sealskinlaw07.HashKeyed" = some 4 by kernel_rfl).symm.trans hf) |>.symm
  obtain rfl : fn = Tryd.f4 := (Option.some.inj (Tryd.func4.symm.trans hfn)).symm
  refine ⟨by kernel_rfl, fun j t ht => ?_⟩
  rw [Tryd.params4] at ht
  obtain rfl : t = 22 := by simpa using Array.mem_of_getElem? ht
  exact (show Tryd.prog.wantsStandIn 22 = false by kernel_rfl)

theorem proved : Rows.HashKeyedCardSaid :=
  Claim7.holds_tied_plain_at .later [] _ _ _ _ said (fun _ h => by cases h) (by kernel_rfl) (fun _ h => by cases h) hashKeyed_row_tie rfl ⟨rfl, rfl⟩ (by kernel_rfl) rfl plain (by kernel_rfl)
#print axioms proved

end Go.Proofs.YtlgbkkfkobijpaaDoor.keyed
