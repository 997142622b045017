/- For any key and any lists of bytes the Go function sealskinlaw07.HashPieces returns true, and its arguments read as they did. No condition. -/
import Derived.Test.YtlgbkkfkobijpaaDoorLists
namespace Go.Proofs.YtlgbkkfkobijpaaDoor.pieces
set_option linter.unusedVariables false
set_option linter.unusedSimpArgs false
open Go.ChangeShapes Go.WideShapes Go.ChangeAt Go.RowKit Go.Joins

set_option maxRecDepth 100000 in
set_option maxHeartbeats 8000000 in
theorem walk (kv v : Value) (key : List Nat) (P : List (Value × List Nat)) (w : World) (hT : Tabs w) (hk : Byt w kv key) (hk8 : U8 key) (hv : LL w v P) (hP8 : ∀ x ∈ P, U8 x.2) (hreach : P.length * 24 ≤ 140737488351232) :
    Calls Tryd.prog 6 #[kv, v] w fun e w' => e = .returned (.bool true) ∧ Below w.heap.size w w' := by
  obtain ⟨i0, hi, hz0, hz1, hz2⟩ := info_parts info22
  have HT := hide hT
  have HK := hide hk
  have HK8 := hide hk8
  have HV := hide hv
  have H8 := hide hP8
  obtain ⟨ka, kc, hkv⟩ := byt_shape hk
  obtain ⟨nk, hnk⟩ : ∃ n, key.length = n := ⟨_, rfl⟩
  rw [hnk] at hkv
  subst hkv
  obtain ⟨a, cap, rfl, hcap, _⟩ := hv
  obtain ⟨N, hN⟩ : ∃ N, P.length = N := ⟨_, rfl⟩
  rw [hN] at HV hreach ⊢
  have HNN := hide hN
  have hNm : N ≤ 9223372036854775807 := by omega
  have b1 : Below w.heap.size w (w.alloc (.cells #[.slice ka nk kc] 22)) := (Below.refl _ _).alloc (Nat.le_refl _) _
  have hown : (w.alloc (.cells #[.slice ka nk kc] 22)).ownsRow w.heap.size 22 1 (.slice (some ⟨w.heap.size, 0, none⟩) 1 1) 1 [.slice ka nk kc] := ⟨rfl, .inr ⟨w.heap.size, 1, #[.slice ka nk kc], rfl, Nat.le_refl _, heap_alloc_new _ _, Nat.le_refl _, by unfold maxLen; omega, rfl, rfl⟩⟩
  have HSRC := hide (LL.src ((unhide HV).call b1) hN)
  have HONE : Hid (∀ u ∈ P.map (·.1), u.oneCell' = true) := hide (fun u hu => by
    obtain ⟨x, hx, rfl⟩ := List.mem_map.1 hu
    exact byt_one ((unhide HV).each x hx))
  have HLEN : Hid ((P.map (·.1)).length = N * 1) := hide (by rw [List.length_map, hN]; omega)
  have HB1 := hide b1
  have HOWN := hide hown
  have HS1 : Hid (w.heap.size ≤ (w.alloc (.cells #[.slice ka nk kc] 22)).heap.size) := hide (by rw [size_alloc]; omega)
  have HRE : Hid (N * 24 ≤ 140737488351232) := hide hreach
  clear hT hk hk8 hP8 hcap hN hnk b1 hown hreach
  go_enter Tryd.func6, Tryd.ntmps6
  go_wp2_with (at_builtin; refine wpList_append_src _ rfl _ _ 42 rfl w.heap.size 22 i0 (.slice none 0 0) 1 24 Tryd.underlying42 hi hz0 hz1 hz2 rfl (by decide) _ _ _ rfl (unhide HOWN) a N cap (P.map (·.1)) rfl (unhide HLEN) (unhide HSRC).1 (unhide HSRC).2 (unhide HONE) ?c3 ?c4 (unhide HS1) ?_)
  case c3 => have := unhide HRE; unfold maxLen; omega
  case c4 => have := unhide HRE; omega
  intro ad2 cap2 w2 ho2 hg2
  have B2 : Below w.heap.size w w2 := (unhide HB1).grown hg2 (unhide HB1).size (fun k hk => ((unhide HOWN).lt k hk).1)
  have L2 := LL.cons ho2 (unhide HNN) ((unhide HK).call B2) (fun x hx => ((unhide HV).call B2).each x hx)
  have HLG := hide (long_any _ _ _ L2)
  have HB2 := hide B2
  clear ho2 hg2 B2 L2 HSRC HONE HLEN HOWN HB1 HS1
  go_wp2_with fail
  refine Calls.mono (unhide HLG) ?_
  rintro e wx ⟨b, rfl, hlong, rfl⟩
  cases b
  · have hlen : key.length + (flat P).length ≤ 4096 := by have := hlong rfl; simpa [flat] using this
    have HL := hide hlen
    have HCO := hide (concat_any P _ w2 ((unhide HV).call (unhide HB2)) (by omega))
    clear hlong hlen HLG
    go_wp2_with fail
    refine Calls.mono (unhide HCO) ?_
    rintro e w3 ⟨va, rfl, ho3, b3⟩
    have B3 := (unhide HB2).trans (b3.mono (unhide HB2).size)
    have HVA := hide (Byt.of_own ho3)
    have H8A : Hid (U8 (flat P)) := hide (fun y hy => by
      simp only [flat, List.mem_flatten, List.mem_map] at hy
      obtain ⟨_, ⟨x, hx, rfl⟩, hy⟩ := hy
      exact unhide H8 x hx y hy)
    have HN1 := hide (new_any w3 ((unhide HT).below B3))
    have HB3 := hide B3
    have HF3 : Hid ((flat P).length ≤ 4096) := hide (by have := unhide HL; omega)
    clear ho3 b3 B3 HCO
    go_wp2_with fail
    refine Calls.mono (unhide HN1) ?_
    rintro e w4 ⟨g1, rfl, hg1, d4, b4⟩
    have B4 := (unhide HB3).trans (b4.mono (unhide HB3).size)
    have HN2 := hide (new_any w4 ((unhide HT).below B4))
    have HD4 := hide d4
    have HG1 := hide hg1
    have HVA4 := hide ((unhide HVA).call b4)
    have HB4 := hide B4
    have HS3 := hide (unhide HB3).size
    clear d4 hg1 b4 B4 HN1
    go_wp2_with fail
    refine Calls.mono (unhide HN2) ?_
    rintro e w5 ⟨g2, rfl, hg2, d5, b5⟩
    have HB5 := hide ((unhide HB4).trans (b5.mono (unhide HB4).size))
    have HD5 := hide ((unhide HD4).only (Only.of_below (p := fun _ => False) b5) id)
    have HE5 := hide d5
    have HVA5 := hide ((unhide HVA4).call b5)
    have HG12 : Hid (g1 < g2) := hide (Nat.lt_of_lt_of_le (unhide HD4).lt hg2)
    have HWG : Hid (w.heap.size ≤ g1) := hide (Nat.le_trans (unhide HS3) (unhide HG1))
    have HFA : Hid (flat P ≠ [] → ∀ k, va.ownBlock = some k → k < g1) := hide (fun hne k hk => by
      have := byt_off (unhide HVA) hne (p := (fun i => w3.heap.size ≤ i)) (fun k hk => hk) k hk
      have := unhide HG1
      omega)
    have HFW : Hid (∀ p : Nat → Prop, (∀ k, p k → w.heap.size ≤ k) → LF (.slice a N cap) P p) := hide (fun p hp => (unhide HV).far hp)
    clear hg2 d5 b5 HN2 HD4 HVA4
    have hg22 : Hid (2 ≤ w.heap.size) := hide (unhide HT).two
    go_wp2_with fail
    go_loopw [22] (fun s wr => ∃ k : Nat, k ≤ N ∧ s = .int .i64 (k : Int) ∧ Hid (Dg wr g1 (stW 0) (flat (P.take k)) ∧ Only (· = g1) w5 wr)) (fun s _ => (N - intOf s).toNat)
    case atStart => exact ⟨0, by omega, rfl, by simpa [flat] using unhide HD5, Only.refl _ _⟩
    case round =>
      obtain ⟨k, hk, rfl, HC⟩ := hrel
      obtain ⟨d6, o6⟩ := unhide HC
      have B6 : Below w.heap.size w wr := (unhide HB5).trans (o6.below (unhide HB5).size (fun k hk => by have := unhide HWG; omega))
      by_cases hlt : k < N
      · have hkN : (k : Int) < (N : Int) := by omega
        have hkP : k < P.length := by rw [unhide HNN]; exact hlt
        obtain ⟨⟨u, l⟩, hul⟩ : ∃ x, P[k]? = some x := ⟨_, List.getElem?_eq_getElem hkP⟩
        obtain ⟨a', cap', hav, _, hq⟩ := (unhide HV).call B6
        obtain ⟨rfl, rfl⟩ : a = a' ∧ cap = cap' := by injection hav with h1 h2 h3; exact ⟨h1, h3⟩
        obtain ⟨⟨bb, rfl, hc⟩, hby⟩ := hq k u l hul
        obtain ⟨au, cu, hu⟩ := byt_shape hby
        obtain ⟨L, hL⟩ : ∃ L, l.length = L := ⟨_, rfl⟩
        rw [hL] at hu
        subst hu
        have hmem := List.mem_of_getElem? hul
        have L7 := LL.one hby
        have b7 : Below wr.heap.size wr (wr.alloc (.cells #[.slice au L cu] 22)) := (Below.refl _ _).alloc (Nat.le_refl _) _
        have B7 := B6.trans (b7.mono B6.size)
        have D7 : Dg (wr.alloc (.cells #[.slice au L cu] 22)) g1 (stW 0) (flat (P.take k)) := d6.only (Only.of_below (p := fun _ => False) b7) id
        have F7 : LF (.slice (some ⟨wr.heap.size, 0, none⟩) 1 1) [(.slice au L cu, l)] (· = g1) := by
          have hgl := d6.lt
          refine ⟨fun _ k hk e => by simp [Value.ownBlock] at hk; omega, fun x hx hne => ?_⟩
          obtain rfl := List.mem_singleton.1 hx
          exact (unhide HFW (· = g1) (fun k hk => by have := unhide HWG; omega)).2 (.slice au L cu, l) hmem hne
        have eT := flat_step hul
        have h8k : U8 (flat (P.take k)) := fun y hy => by
          simp only [flat, List.mem_flatten, List.mem_map] at hy
          obtain ⟨_, ⟨x, hx, rfl⟩, hy⟩ := hy
          exact unhide H8 x (List.mem_of_mem_take hx) y hy
        have HAD := hide (add_all g1 (stW 0) (flat (P.take k)) _ _ _ ((unhide HT).below B7) (by have := unhide HWG; have := unhide hg22; omega) rfl (stW_32 0 (by omega)) D7 h8k L7 F7 (fun x hx => by obtain rfl := List.mem_singleton.1 hx; exact unhide H8 (.slice au L cu, l) hmem) (by have h1 := flat_le P (k + 1); rw [eT, List.length_append] at h1; have := unhide HF3; simp [flat] at h1 this ⊢; omega))
        have HO7 : Hid (Only (· = g1) w5 (wr.alloc (.cells #[.slice au L cu] 22))) := hide (o6.alloc _)
        have HET : Hid (flat (P.take k) ++ flat [(.slice au L cu, l)] = flat (P.take (k + 1))) := hide (by rw [eT]; simp [flat])
        have HLT := hide hlt
        clear d6 o6 B6 hkP hul hq hby hmem L7 b7 B7 D7 F7 eT h8k HC hlt hav hL
        go_wp2_with fail
        generalize wr.alloc (.cells #[.slice au L cu] 22) = w7 at *
        refine Calls.mono (unhide HAD) ?_
        rintro e w8 ⟨rfl, d8, o8⟩
        rw [unhide HET] at d8
        have HC2 := hide (And.intro d8 ((unhide HO7).trans o8))
        clear d8 o8 HAD
        go_wp2_with fail
        go_roundw
        case rel => exact ⟨k + 1, by have := unhide HLT; omega, by go_num, HC2⟩
        case measure => have := unhide HLT; simp [intOf]; omega
      · have hkN : ¬ (k : Int) < (N : Int) := by omega
        have hP : P.take k = P := List.take_of_length_le (by rw [unhide HNN]; omega)
        rw [hP] at d6
        have D6 : Dg wr g2 (stW 0) [] := (unhide HE5).only o6 (by have := unhide HG12; omega)
        have HAD := hide (add_all g2 (stW 0) [] P _ wr ((unhide HT).below B6) (by have := unhide HWG; have := unhide hg22; have := unhide HG12; omega) rfl (stW_32 0 (by omega)) D6 (fun y hy => by cases hy) ((unhide HV).call B6) (unhide HFW (· = g2) (fun k hk => by have := unhide HWG; have := unhide HG12; omega)) (unhide H8) (by have := unhide HF3; simp; omega))
        have VA6 : Byt wr va (flat P) := o6.byt' (unhide HVA5) (fun hne k hk e => by have := unhide HFA hne k hk; omega)
        have HVA6 := hide VA6
        have HD6 := hide d6
        have HB6 := hide B6
        have HG2L := hide D6.lt
        clear d6 o6 B6 D6 VA6 hP hlt HC HD5 HE5 HVA5
        go_wp2_with fail
        refine Calls.mono (unhide HAD) ?_
        rintro e w9 ⟨rfl, d9, o9⟩
        rw [List.nil_append] at d9
        have B9 : Below w.heap.size w w9 := (unhide HB6).trans (o9.below (unhide HB6).size (fun k hk => by have := unhide HWG; have := unhide HG12; omega))
        have A9 : Dg w9 g1 (stW 0) (flat P) := (unhide HD6).only o9 (by have := unhide HG12; omega)
        have V9 : Byt w9 va (flat P) := o9.byt' (unhide HVA6) (fun hne k hk e => by have := unhide HFA hne k hk; have := unhide HG12; omega)
        have HSA := hide (fun wz (bz : Below w9.heap.size w9 wz) => sum_any g1 (stW 0) (flat P) wz ((unhide HT).below (B9.trans (bz.mono B9.size))) rfl (stW_32 0 (by omega)) (A9.only (Only.of_below (p := fun _ => False) bz) id) (by have := unhide HF3; omega))
        have HSB := hide (fun wz (bz : Below w9.heap.size w9 wz) => sum_any g2 (stW 0) (flat P) wz ((unhide HT).below (B9.trans (bz.mono B9.size))) rfl (stW_32 0 (by omega)) (d9.only (Only.of_below (p := fun _ => False) bz) id) (by have := unhide HF3; omega))
        have eF : flat [(va, flat P)] = flat P := by simp [flat]
        have HO1 := hide (fun wz (bz : Below w9.heap.size w9 wz) => of_any [(va, flat P)] _ _ ((unhide HT).below ((B9.trans (bz.mono B9.size)).alloc (Nat.le_trans B9.size bz.size) (.cells #[va] 22))) (LL.one (V9.call bz)) (fun x hx => by obtain rfl := List.mem_singleton.1 hx; exact unhide H8A) (by rw [eF]; have := unhide HF3; omega))
        have HO2 := hide (fun wz (bz : Below w9.heap.size w9 wz) => of_any P _ wz ((unhide HT).below (B9.trans (bz.mono B9.size))) ((unhide HV).call (B9.trans (bz.mono B9.size))) (unhide H8) (by have := unhide HF3; omega))
        have HK1 := hide (fun wz (bz : Below w9.heap.size w9 wz) => keyed_any _ key P _ wz ((unhide HT).below (B9.trans (bz.mono B9.size))) ((unhide HK).call (B9.trans (bz.mono B9.size))) (unhide HK8) (by have := unhide HL; omega) ((unhide HV).call (B9.trans (bz.mono B9.size))) (unhide H8) (by have := unhide HF3; omega))
        have HK2 := hide (fun wz (bz : Below w9.heap.size w9 wz) => keyed_any _ key [(va, flat P)] _ _ ((unhide HT).below ((B9.trans (bz.mono B9.size)).alloc (Nat.le_trans B9.size bz.size) (.cells #[va] 22))) ((unhide HK).call ((B9.trans (bz.mono B9.size)).alloc (Nat.le_trans B9.size bz.size) (.cells #[va] 22))) (unhide HK8) (by have := unhide HL; omega) (LL.one (V9.call bz)) (fun x hx => by obtain rfl := List.mem_singleton.1 hx; exact unhide H8A) (by rw [eF]; have := unhide HF3; omega))
        rw [eF] at HO1 HK2
        have HAW := hide (fun wz (bz : Below w9.heap.size w9 wz) => awake_any wz ((unhide HT).below (B9.trans (bz.mono B9.size))))
        have q1 := eq_sum (sumL (stW 0) (flat P)) (sumL_len _ _)
        have q2 := eq_sum (keyedL key (flat P)) (keyedL_len _ _)
        obtain ⟨S, hS⟩ : ∃ S, (bv (sumL (stW 0) (flat P))).toArray = S := ⟨_, rfl⟩
        obtain ⟨Kd, hKd⟩ : ∃ S, (bv (keyedL key (flat P))).toArray = S := ⟨_, rfl⟩
        rw [hS] at HSA HSB HO1 HO2 q1
        rw [hKd] at HK1 HK2 q2
        have HB9 := hide B9
        obtain ⟨aa, ac, hva⟩ := byt_shape V9
        obtain ⟨na, hna⟩ : ∃ n, (flat P).length = n := ⟨_, rfl⟩
        rw [hna] at hva
        subst hva
        clear d9 o9 B9 A9 V9 eF hS hKd hna HAD HVA6 HD6 HB6 HVA HFA
        have bz := Below.refl w9.heap.size w9
        go_wp2_with fail
        refine Calls.mono (unhide HSA _ bz) ?_
        rintro e y1 ⟨rfl, c1⟩
        have bz1 := hide (bz.trans (c1.mono bz.size))
        clear c1
        go_wp2_with fail
        refine Calls.mono (unhide HO1 _ (unhide bz1)) ?_
        rintro e y2 ⟨rfl, c2⟩
        have bz2 := hide (((unhide bz1).alloc (unhide bz1).size _).trans (c2.mono (Nat.le_trans (unhide bz1).size (by rw [size_alloc]; omega))))
        clear c2 bz1
        go_wp2_with fail
        refine Calls.mono (unhide HSB _ (unhide bz2)) ?_
        rintro e y3 ⟨rfl, c3⟩
        have bz3 := hide ((unhide bz2).trans (c3.mono (unhide bz2).size))
        clear c3 bz2
        go_wp2_with fail
        refine Calls.mono (unhide HSA _ (unhide bz3)) ?_
        rintro e y4 ⟨rfl, c4⟩
        have bz4 := hide ((unhide bz3).trans (c4.mono (unhide bz3).size))
        clear c4 bz3
        go_wp2_with fail
        refine Calls.mono (unhide HO2 _ (unhide bz4)) ?_
        rintro e y5 ⟨rfl, c5⟩
        have bz5 := hide ((unhide bz4).trans (c5.mono (unhide bz4).size))
        clear c5 bz4
        go_wp2_with fail
        refine Calls.mono (unhide HSA _ (unhide bz5)) ?_
        rintro e y6 ⟨rfl, c6⟩
        have bz6 := hide ((unhide bz5).trans (c6.mono (unhide bz5).size))
        clear c6 bz5
        go_wp2_with fail
        refine Calls.mono (unhide HK1 _ (unhide bz6)) ?_
        rintro e y7 ⟨rfl, c7⟩
        have bz7 := hide ((unhide bz6).trans (c7.mono (unhide bz6).size))
        clear c7 bz6
        go_wp2_with fail
        refine Calls.mono (unhide HK2 _ (unhide bz7)) ?_
        rintro e y8 ⟨rfl, c8⟩
        have bz8 := hide (((unhide bz7).alloc (unhide bz7).size _).trans (c8.mono (Nat.le_trans (unhide bz7).size (by rw [size_alloc]; omega))))
        clear c8 bz7
        go_wp2_with fail
        refine Calls.mono (unhide HAW _ (unhide bz8)) ?_
        rintro e y9 ⟨rfl, c9⟩
        have bz9 := hide ((unhide bz8).trans (c9.mono (unhide bz8).size))
        clear c9 bz8
        go_wp2_with fail
        go_ret
        exact ⟨rfl, (unhide HB9).trans ((unhide bz9).mono (unhide HB9).size)⟩
  · have HAW := hide (awake_any w2 ((unhide HT).below (unhide HB2)))
    go_wp2_with fail
    refine Calls.mono (unhide HAW) ?_
    rintro e w3 ⟨rfl, b3⟩
    go_wp2_with fail
    go_ret
    exact ⟨rfl, (unhide HB2).trans (b3.mono (unhide HB2).size)⟩
theorem contract (H : Type) (enc : TypeId × Value → H) (W : World) (base : Nat) (args : Array Value) (ds gs : List (DataW H)) (before : List MemPlace)
    (hval : ∀ (j : Nat) t v, Tryd.f6.params[j]? = some t → args[j]? = some v → Value.okWide Tryd.prog W .any base t v)
    (hW : DataW.Whole enc Tryd.prog Tryd.f6.params.toList Rows.hashPiecesSpec.vars false W args.toList ds gs before) (hL : laidMetH Tryd.prog Rows.hashPiecesRow.laid W)
    (hsz : (DataW.weightsEach Tryd.prog (Tryd.f6.params.toList ++ (OpenSpec.ofChange Rows.hashPiecesSpec).bare.plain.varTypes Tryd.prog) (ds ++ gs)).all (· ≤ reachBytes) = true) :
    Calls Tryd.prog 6 args W fun e W' => ∃ v, e = .returned v ∧ Rows.hashPiecesSpec.post enc Tryd.prog Tryd.f6 false true false false W args v W' := by
  have hT : Tabs W := tabs_of hL
  have hW' := hW
  obtain ⟨p, q, hA0, hV, rfl, hfz, hnd⟩ := hW
  have hA : DataW.TrodAll enc Tryd.prog W 0 (fun _ => true) true Tryd.f6.params.toList args.toList ds p := hA0
  rw [Tryd.params6] at hA hval hsz
  obtain ⟨v0, vs0, d0, ds0, p0, q0, hargs, rfl, rfl, h0, r0⟩ := trodAll_cons hA
  obtain ⟨v1, vs1, d1, ds1, p1, q1, rfl, rfl, rfl, h1, r1⟩ := trodAll_cons r0
  obtain ⟨rfl, rfl, rfl⟩ := trodAll_nil r1
  obtain rfl : args = #[v0, v1] := by cases args; simp_all
  obtain ⟨rfl, rfl⟩ := trodVars_none hV
  have lt0 : ∀ x ∈ p0, x.block < W.heap.size := by obtain ⟨m, hm⟩ := h0; exact DataW.trod_lt m _ _ _ hm
  have lt1 : ∀ x ∈ p1, x.block < W.heap.size := by obtain ⟨m, hm⟩ := h1; exact DataW.trod_lt m _ _ _ hm
  obtain ⟨l0, hY0, h2560⟩ := open_bytes (hval 0 22 v0 rfl rfl) h0
  obtain ⟨P, hP, hP8, hPd⟩ := open_lists (hval 1 42 v1 rfl rfl) h1
  have hreach : P.length * 24 ≤ 140737488351232 := by
    rcases hPd with rfl | ⟨elems, sp, rfl, hq⟩
    · simp
    · have := sized_slice hsz (j := 1) (t := 42) (e := 22) rfl rfl Tryd.underlying42
      rw [show Tryd.prog.bytesOf 22 = 24 by kernel_rfl] at this
      simp only [reachBytes] at this
      omega
  clear hA0
  refine (walk v0 v1 l0 P W hT hY0 h2560 hP hP8 hreach).mono fun e W' ⟨he, bel⟩ => ?_
  subst he
  exact ⟨_, rfl, _, _, _, [], _, [], hW', trodAll_mk1 (shut_bool Tryd.underlying4 _), (trodAll_cons_mk (Below.trod laidOut (by kernel_rfl) (of_decide_eq_true (by kernel_rfl)) h0 bel lt0) (trodAll_cons_mk (Below.trod laidOut (by kernel_rfl) (of_decide_eq_true (by kernel_rfl)) h1 bel lt1) trodAll_mk0)), rfl, bel.frame _, fun h => by cases h⟩

set_option maxRecDepth 100000 in
theorem laid_here (os : Os) : laidMet Tryd.prog Rows.hashPiecesRow.laid ((laidWorld os).forCall (fun _ _ => 0) ⟨#[], #[.slice none 0 0, .slice none 0 0], []⟩).memory :=
  laidMet_of_run' 8 (by kernel_rfl) (by kernel_rfl)
theorem reads (os : Os) {H : Type} (enc : TypeId × Value → H) : ∃ places, DataW.whole enc Tryd.prog ((laidWorld os).forCall (fun _ _ => 0) ⟨#[], #[.slice none 0 0, .slice none 0 0], []⟩).memory Tryd.f6.params.toList Rows.hashPiecesSpec.vars false (#[.slice none 0 0, .slice none 0 0] : Array Value).toList 8 = some ([.nil, .nil], [], places) :=
  ⟨[], by kernel_rfl⟩

set_option maxRecDepth 100000 in
theorem lifted (os : Os) (started : os.Started) (H : Type) (enc : TypeId × Value → H) (F : Stop.Interp) :
    ReturnsInHanded {} Tryd.checked os 6 .any ((OpenSpec.ofChange Rows.hashPiecesSpec).preRow enc Tryd.prog Tryd.f6 Rows.hashPiecesRow.domain false Rows.hashPiecesRow.laid) (((OpenSpec.ofChange Rows.hashPiecesSpec).at F).post enc Tryd.prog Tryd.f6 false true false false) := by
  obtain ⟨places, hx⟩ := reads os enc
  refine returnsInHanded_of_row (C := Tryd.checked) (s := OpenSpec.ofChange Rows.hashPiecesSpec) own started (by kernel_rfl) Tryd.func6
    (witness_row_at (enc := enc) (C := Tryd.checked) false (laidWorld os) #[.slice none 0 0, .slice none 0 0] rfl (by kernel_rfl) (by kernel_rfl) (by kernel_rfl)
      (OpenSpec.preRow_of_cond 8 hx (by kernel_rfl) (fun k hk => by cases hk) (by kernel_rfl) (laid_here os))) ?_
  intro W base args ds gs before hval hW _ _ hsz hL _ _
  exact contract H enc W base args ds gs before hval hW hL hsz

theorem said : Rows.HashPiecesSaid :=
  OpenClaim.holds_of_cond 6 Tryd.f6 rfl rfl rfl rfl rfl rfl rfl ⟨rfl, rfl, rfl, rfl, rfl⟩ rfl rfl rfl rfl rfl (by kernel_rfl) Tryd.func6 (by kernel_rfl)
    (of_decide_eq_true (by kernel_rfl)) (by unfold Func.isWrapper; first | (rw [if_pos (by decide +kernel)]; kernel_rfl) | (rw [if_neg (by decide +kernel)]; exact ⟨rfl, rfl⟩))
    (fun os started H enc _ F => by rw [OpenClaim.pre_eq_preRow]; exact lifted os started H enc F)

theorem plain (f : FuncId) (fn : Func) (hf : Tryd.pinned.checked.prog.funcNamed "sealskin/sealskinlaw07.HashPieces" = some f) (hfn : Tryd.pinned.checked.prog.funcs[f]? = some fn) :
    false = Tryd.pinned.checked.prog.looks [] ∧ ∀ (j : Nat) t, fn.params[j]? = some t → Tryd.pinned.checked.prog.wantsStandIn t = false := by
  obtain rfl : f = 6 := Option.some.inj ((show Tryd.prog.funcNamed "sealskin/sealskinlaw07.HashPieces" = some 6 by kernel_rfl).symm.trans hf) |>.symm
  obtain rfl : fn = Tryd.f6 := (Option.some.inj (Tryd.func6.symm.trans hfn)).symm
  refine ⟨by kernel_rfl, fun j t ht => ?_⟩
  rw [Tryd.params6] at ht
  have := Array.mem_of_getElem? ht
  simp at this
  rcases this with rfl | rfl
  · exact (show Tryd.prog.wantsStandIn 22 = false by kernel_rfl)
  · exact (show Tryd.prog.wantsStandIn 42 = false by kernel_rfl)

theorem proved : Rows.HashPiecesCardSaid :=
  Claim7.holds_tied_plain_at .later [] _ _ _ _ said (fun _ h => by cases h) (by kernel_rfl) (fun _ h => by cases h) hashPieces_row_tie rfl ⟨rfl, rfl⟩ (by kernel_rfl) rfl plain (by kernel_rfl)
#print axioms proved

end Go.Proofs.YtlgbkkfkobijpaaDoor.pieces
