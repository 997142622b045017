/- The reference's keys. -/
import Derived.Test.YthhpnakgiammiaaDoorR9
import Derived.Deep.DeepCutAuto
import Derived.Test.YthhpnakgiammiaaDoorKey
namespace Go.Proofs.YthhpnakgiammiaaDoor
set_option linter.unusedVariables false
set_option linter.unusedSimpArgs false
open Go.ChangeShapes Go.WideShapes Go.ChangeAt Go.RowKit Go.Joins

set_option maxHeartbeats 1000000 in
theorem rkey_bad (sv uv : Value) (n : Int) (w : World) (hn : n < 0 ∨ 8160 < n) : Calls Tryd.prog 40 #[sv, uv, .int .i64 n] w fun e w' => e = .returned (.tuple #[.slice none 0 0, .int .i64 1]) ∧ w = w' := by
  rcases hn with hn | hn
  · go_enter Tryd.func40, Tryd.ntmps40
    go_wp2_with fail
    go_ret2
    exact ⟨rfl, rfl⟩
  · have h1 : ¬ n < 0 := by omega
    go_enter Tryd.func40, Tryd.ntmps40
    go_wp2_with fail
    go_ret2
    exact ⟨rfl, rfl⟩
set_option maxHeartbeats 1000000 in
theorem key_bad (sv uv : Value) (n : Int) (w : World) (hn : n < 0 ∨ 8160 < n) : Calls Tryd.prog 38 #[sv, uv, .int .i64 n] w fun e w' => e = .returned (.tuple #[.slice none 0 0, .int .i64 1]) ∧ w = w' := by
  rcases hn with hn | hn
  · go_enter Tryd.func38, Tryd.ntmps38
    go_wp2_with fail
    go_ret2
    exact ⟨rfl, rfl⟩
  · have h1 : ¬ n < 0 := by omega
    go_enter Tryd.func38, Tryd.ntmps38
    go_wp2_with fail
    go_ret2
    exact ⟨rfl, rfl⟩

set_option maxRecDepth 100000 in
set_option maxHeartbeats 8000000 in
theorem rkey_any (sv uv : Value) (sec use : List Nat) (n : Nat) (w : World) (hs : Byt w sv sec) (hu : Byt w uv use) (hs8 : U8 sec) (hu8 : U8 use) (hsl : sec.length ≤ 100000) (hul : use.length ≤ 100000) (hn : n ≤ 8160) :
    Calls Tryd.prog 40 #[sv, uv, .int .i64 (n : Int)] w fun e w' => ∃ v', e = .returned (.tuple #[v', .int .i64 0]) ∧ Byt w' v' ((keyAll (keyedL sec use) 255).take n) ∧ Below w.heap.size w w' := by
  obtain ⟨i0, hi, hz0, hz1, hz2⟩ := info_parts info5
  obtain ⟨sa, sc, hse⟩ := byt_shape hs
  obtain ⟨ua, uc, hue⟩ := byt_shape hu
  obtain ⟨sn, hsn⟩ : ∃ x, sec.length = x := ⟨_, rfl⟩
  obtain ⟨un, hun⟩ : ∃ x, use.length = x := ⟨_, rfl⟩
  rw [hsn] at hse
  rw [hun] at hue
  subst hse hue
  have HKD := hide (rkeyed_any _ _ sec use w hs hu hs8 hu8 (by omega) (by omega))
  obtain ⟨R, hR⟩ : ∃ R, keyedL sec use = R := ⟨_, rfl⟩
  rw [hR] at HKD
  have HRL : Hid (R.length = 32) := hide (hR ▸ keyedL_len _ _)
  have HR8 : Hid (U8 R) := hide (hR ▸ kkeyedL_8 _ _)
  have HRE := hide hR
  have hz := zero27
  generalize hZ : (bv (List.replicate 32 0)).toArray = Z at hz
  have HZS : Hid (Z.size = 32) := hide (by rw [← hZ, List.size_toArray, bv_len, List.length_replicate])
  have hn0 : ¬ (n : Int) < 0 := by omega
  have hn1 : ¬ (8160 : Int) < (n : Int) := by omega
  clear hs hu hs8 hu8 hsl hul hsn hun hR hZ
  go_enter Tryd.func40, Tryd.ntmps40
  go_wp2_with fail
  refine Calls.mono (unhide HKD) ?_
  rintro e w2 ⟨rfl, b2⟩
  obtain ⟨S, hS⟩ : ∃ S, (bv R).toArray = S := ⟨_, rfl⟩
  rw [hS]
  have HSS : Hid (S.size = 32) := hide (by rw [← hS, List.size_toArray, bv_len, unhide HRL])
  have HSO : Hid (S.all (·.oneCell') = true) := hide (hS ▸ one_bv _)
  obtain ⟨gr, hgr⟩ : ∃ x, w2.heap.size = x := ⟨_, rfl⟩
  have R3 : RowAt (w2.alloc (.cells S 78)) gr 78 (bv R) := by
    have := RowAt.new w2 78 (bv R)
    rw [hS, hgr] at this
    exact this
  have HB3 := hide (b2.alloc b2.size (.cells S 78))
  have HR3 := hide R3
  have HS3 : Hid ((w2.alloc (.cells S 78)).heap.size = gr + 1) := hide (by rw [size_alloc, hgr])
  have HGW : Hid (w.heap.size ≤ gr) := hide (by have := b2.size; omega)
  clear R3 b2 hS HKD
  go_wp2_with (refine wpList_store_new' rfl 78 _ _ rfl S gr hgr (by first | rfl | (rw [← hgr]; rfl)) rfl (by rw [z27, unhide HSS]) (by rw [unhide HSS, unhide HZS]) (unhide HSO) ?_)
  generalize w2.alloc (.cells S 78) = w3 at *
  try rw [hgr]
  go_loopw [22, 9, 10] (fun s out la wr => ∃ (k : Nat) (oa : Option Addr) (oc : Nat) (ta : Option Addr) (tn tc : Nat), k ≤ 255 ∧ (k = 0 ∨ 32 * (k - 1) < n) ∧ s = .int .i64 (k : Int) ∧ out = .slice oa (32 * k) oc ∧ la = .slice ta tn tc ∧ Hid (wr.ownsRow (gr + 1) 5 1 out (32 * k) (bv (keyAll R k)) ∧ Byt wr la (keyT R k) ∧ Below (gr + 1) w3 wr)) (fun s _ _ _ => (255 - intOf s).toNat)
  case atStart => exact ⟨0, none, 0, none, 0, 0, by omega, .inl rfl, rfl, rfl, rfl, World.ownsRow_nil _ _ _ _, .inl ⟨rfl, rfl⟩, Below.refl _ _⟩
  case round =>
    obtain ⟨k, oa, oc, ta, tn, tc, hk, hkc, rfl, rfl, rfl, HC⟩ := hrel
    rename World => wo
    have HRo := hide ((unhide HR3).below (unhide HC).2.2 (by omega))
    obtain ⟨m, hm⟩ : ∃ x, 32 * k = x := ⟨_, rfl⟩
    rw [hm] at HC ⊢
    have HM := hide hm
    have HK := hide hk
    have HKC := hide hkc
    have hmb : m ≤ 8160 := by omega
    have hkb : (k : Int) ≤ 255 := by omega
    by_cases hlt : k < 255
    · have hkI : (k : Int) < 255 := by omega
      by_cases hge : n ≤ m
      · have hgI : (n : Int) ≤ (m : Int) := by omega
        clear hm hk hkc
        obtain ⟨y1, y2, y3⟩ := unhide HC
        have hnm : n ≤ m := by omega
        have hTk : (keyAll R k).take n = (keyAll R 255).take n := by
          have := keyAll_take R k (255 - k) n (by have := unhide HM; omega)
          rw [show k + (255 - k) = 255 by have := unhide HK; omega] at this
          exact this.symm
        have HFIN : Hid ((keyAll (keyedL sec use) 255).take n = (keyAll R k).take n) := hide (by rw [unhide HRE, hTk])
        have BY : Byt wo (.slice oa m oc) (keyAll R k) := Byt.of_own (own_cast y1 (by rw [keyAll_len, unhide HM]) rfl)
        have HBW : Hid (Below w.heap.size w wo) := hide ((unhide HB3).trans (y3.mono (by have := unhide HGW; omega)))
        have HLA : Hid ((keyAll R k).length = m) := hide (by rw [keyAll_len, unhide HM])
        clear y1 y2 y3 HC hTk
        rcases BY with ⟨h1, h2⟩ | ⟨ad, cap, h1, h2, h3, h4⟩
        · injection h1 with e1 e2 e3
          have hn00 : n = 0 := by omega
          subst e1 e3 hn00
          subst e2
          go_wp2_with fail
          go_ret2
          exact ⟨_, rfl, .inl ⟨rfl, by simp⟩, unhide HBW⟩
        · injection h1 with e1 e2 e3
          rw [unhide HLA] at h2
          subst e1 e3
          have hno : n ≤ oc := by omega
          have hoc : oc ≤ 9223372036854775807 := by unfold maxLen at h3; omega
          have H3' := hide h3
          have H4 := hide h4
          have HE' := hide e2
          clear h3 h4 e2
          go_wp2_with fail
          all_goals go_ret2
          all_goals refine ⟨_, rfl, ?_, unhide HBW⟩
          all_goals rw [unhide HFIN]
          all_goals refine .inr ⟨ad, oc, ?_, ?_, unhide H3', fun i y hy => ?_⟩
          · rw [List.length_take, unhide HLA, Nat.min_eq_left hnm]; rfl
          · rw [List.length_take, unhide HLA, Nat.min_eq_left hnm]; exact hno
          · rw [List.getElem?_take] at hy
            split at hy
            · exact unhide H4 i y hy
            · cases hy
      · have hgI : ¬ (n : Int) ≤ (m : Int) := by omega
        obtain ⟨q, hq⟩ : ∃ q, (k + 1) % 256 = q := ⟨_, rfl⟩
        have hqI : ((k : Int) + 1) % 256 = (q : Int) := by omega
        have HQ := hide hq
        clear hm hk hkc hq
        go_upto_region 9 with fail
        obtain ⟨B, hB⟩ : ∃ x, wo.heap.size = x := ⟨_, rfl⟩
        obtain ⟨y1, y2, y3⟩ := unhide HC
        have htn : (keyT R k).length = tn := by
          obtain ⟨a9, c9, h9⟩ := byt_shape y2
          injection h9 with _ e2 _
          exact e2.symm
        have htn32 : tn ≤ 32 := by rw [← htn]; cases k with | zero => simp [keyT] | succ k => rw [keyT_len]; omega
        have HT8 : Hid (U8 (keyT R k)) := hide (keyT_8 R k)
        have HSR := hide (fun (w' : World) (hb : Below B wo w') => byt_src (y2.call (show Below wo.heap.size wo w' from hB ▸ hb)) htn)
        obtain ⟨T, hT⟩ : ∃ x, keyT R k = x := ⟨_, rfl⟩
        have HTE : Hid (keyedL R (T ++ [q]) = keyT R (k + 1)) := hide (by rw [keyT, ← hT, unhide HQ])
        rw [hT] at HSR HT8 htn
        have HLT : Hid ((bv T).length = tn * 1) := hide (by rw [bv_len, htn]; omega)
        obtain ⟨E, hE⟩ : ∃ x, (bv (keyT R (k + 1))).toArray = x := ⟨_, rfl⟩
        have HES : Hid (E.size = 32) := hide (by rw [← hE, List.size_toArray, bv_len, keyT_len])
        have HEO : Hid (E.all (·.oneCell') = true) := hide (hE ▸ one_bv _)
        have hq256 : q < 256 := by have := unhide HQ; omega
        have HKC := hide (p := ∀ (w2 : World) (a2 : Option Addr) (c2 : Nat), w2.ownsRow B 5 1 (.slice a2 (tn + 1) c2) (tn + 1) (bv (T ++ [q])) → Below B wo w2 → Calls Tryd.prog 55 #[.slice (some ⟨gr, 0, none⟩) 32 32, .slice a2 (tn + 1) c2] w2 (fun e w' => e = .returned (.agg E) ∧ Below w2.heap.size w2 w')) (by
          intro w2 a2 c2 ho hb
          have hl : (T ++ [q]).length = tn + 1 := by rw [List.length_append, htn]; rfl
          have R4 := (unhide HRo).below hb (by have := (unhide HRo).lt; omega)
          have := rkeyed_any (.slice (some ⟨gr, 0, none⟩) 32 32) (.slice a2 (tn + 1) c2) R (T ++ [q]) w2 (Byt.row R4 (unhide HRL) (by decide)) (Byt.of_own (own_cast ho hl.symm rfl)) (unhide HR8) (u8_app (unhide HT8) (fun y hy => by obtain rfl := List.mem_singleton.1 hy; omega)) (by rw [unhide HRL]; omega) (by rw [hl]; omega)
          rw [unhide HTE, hE] at this
          exact this)
        have HEE := hide hE
        clear y1 y2 y3 hT htn hE
        go_cut [12] (fun v wx => ∃ gs, v = .pointer (some ⟨gs, 0, none⟩) ∧ Hid (RowAt wx gs 78 (bv (keyT R (k + 1))) ∧ B ≤ gs ∧ Below B wo wx))
        case first =>
          obtain ⟨I, hI⟩ : ∃ I : (Nat → Bool) → Act → World → Prop, I = fun d a' w' => ∃ v12 v29 v30 v31 v32 v33 v34 v35 v36 v37 v38, a' = { tmps := #[.slice sa sn sc, .slice ua un uc, .int .i64 (n : Int), undef, undef, undef, .slice none 0 0, .int .i64 0, .pointer (some ⟨gr, 0, none⟩), .slice oa m oc, .slice ta tn tc, .int .i64 (k : Int), v12, .int .i64 (n : Int), .bool false, .bool false, .int .i64 (n : Int), .bool false, .bool false, .slice sa sn sc, .slice ua un uc, .agg S, .int .i64 (k : Int), .bool true, .int .i64 (k : Int), .slice oa m oc, .int .i64 (m : Int), .int .i64 (n : Int), .bool false, v29, v30, v31, v32, v33, v34, v35, v36, v37, v38, u39, u40, u41, u42, u43, undef, undef, undef], defers := [] } ∧ R9 B gr tn wo (.slice ta tn tc) k q T E Z d v12 v29 v30 v31 v32 v33 v34 v35 v36 v37 v38 w' := ⟨_, rfl⟩
          have HI := hide hI
          clear hI
          refine wp_region_inv I (by kernel_rfl) (by kernel_rfl) ?_ ?_ ?_
          · rw [unhide HI]
            exact ⟨_, _, _, _, _, _, _, _, _, _, _, rfl, R9.base hB⟩
          · intro d a' w' i hId hi12 hd hdep
            rw [unhide HI] at hId
            obtain ⟨v12, v29, v30, v31, v32, v33, v34, v35, v36, v37, v38, rfl, h⟩ := hId
            have hi13 : i < 12 := hi12
            have hsz := h.size
            rcases (by omega : i = 0 ∨ i = 1 ∨ i = 2 ∨ i = 3 ∨ i = 4 ∨ i = 5 ∨ i = 6 ∨ i = 7 ∨ i = 8 ∨ i = 9 ∨ i = 10 ∨ i = 11) with rfl | rfl | rfl | rfl | rfl | rfl | rfl | rfl | rfl | rfl | rfl | rfl
            · refine wpOp_of rfl rfl ?_
              go_wp2_with fail
              rw [unhide HI]
              exact ⟨_, _, _, _, _, _, _, _, _, _, _, rfl, h.s0⟩
            · refine wpOp_of rfl rfl ?_
              have h3 : d 3 = false := by
                cases hq3 : d 3 with
                | false => rfl
                | true => have := h.c3 hq3; rw [hd] at this; cases this
              go_wp2_with fail
              rw [unhide HI]
              exact ⟨_, _, _, _, _, _, _, _, _, _, _, rfl, h.s1 h3⟩
            · refine wpOp_of rfl rfl ?_
              go_wp2_with fail
              rw [unhide HI]
              exact ⟨_, _, _, _, _, _, _, _, _, _, _, rfl, h.s2⟩
            · have d1 := hdep _ rfl { on := 1, ground := .data } (by simp) rfl
              have d2 := hdep _ rfl { on := 2, ground := .data } (by simp) rfl
              obtain rfl := h.f2 d2
              refine wpOp_of rfl rfl ?_
              refine wp_append_src w' _ _ 22 rfl B 5 i0 (.int .u8 0) 1 1 Tryd.underlying22 hi hz0 hz1 hz2 rfl (by decide) v30 0 [] rfl (h.f1 d1 hd) ta tn tc (bv T) rfl (unhide HLT) (unhide HSR w' h.bel).1 (unhide HSR w' h.bel).2 (bv_one _) (by unfold maxLen; omega) (by omega) hsz ?_
              intro a1 c1 w1 ho hg h5
              rw [Nat.zero_add] at ho h5 ⊢
              rw [unhide HI]
              exact ⟨_, _, _, _, _, _, _, _, _, _, _, rfl, h.s3 d1 hd ho hg h5⟩
            · refine wpOp_of rfl rfl ?_
              go_wp2_with fail
              rw [unhide HI]
              exact ⟨_, _, _, _, _, _, _, _, _, _, _, rfl, h.s4⟩
            · have d4 := hdep _ rfl { on := 4, ground := .data } (by simp) rfl
              obtain rfl := h.f4 d4
              refine wpOp_of rfl rfl ?_
              go_wp2_with fail
              rw [unhide HI]
              exact ⟨_, _, _, _, _, _, _, _, _, _, _, rfl, h.s5⟩
            · have d5 := hdep _ rfl { on := 5, ground := .data } (by simp) rfl
              obtain rfl := h.f5 d5
              have h6 := h.s6
              rw [show ((q : Nat) : Int) = (k : Int) + 1 by omega] at h6
              refine wpOp_of rfl rfl ?_
              go_wp2_with fail
              rw [unhide HI]
              exact ⟨_, _, _, _, _, _, _, _, _, _, _, rfl, h6⟩
            · have d6 := hdep _ rfl { on := 6, ground := .data } (by simp) rfl
              obtain rfl := h.f6 d6
              have h8 : d 8 = false := by
                cases hq3 : d 8 with
                | false => rfl
                | true => have := (h.c8 hq3).2; rw [hd] at this; cases this
              refine wpOp_of rfl rfl ?_
              go_wp2_with fail
              rw [unhide HI]
              exact ⟨_, _, _, _, _, _, _, _, _, _, _, rfl, h.s7 h8⟩
            · have d3 := hdep _ rfl { on := 3, ground := .data } (by simp) rfl
              have d7 := hdep _ rfl { on := 7, ground := .data } (by simp) rfl
              obtain ⟨g7, rfl, x2, x3, x4⟩ := h.f7 d7 hd
              have o3 := h.f3 d3 hd
              refine wpOp_of rfl rfl ?_
              refine wp_append_src w' _ _ 22 rfl B 5 i0 (.int .u8 0) 1 1 Tryd.underlying22 hi hz0 hz1 hz2 rfl (by decide) v32 tn (bv T) rfl o3 (some ⟨g7, 0, none⟩) 1 1 [.int .u8 (q : Int)] rfl rfl (fun h => by cases h) (fun b hb j u hj => by
                injection hb with hb
                subst hb
                match j, hj with
                | 0, hj => injection hj with hj; subst hj; rw [add_plain]; exact x2) (fun u hu => by obtain rfl := List.mem_singleton.1 hu; rfl) (by unfold maxLen; omega) (by omega) hsz ?_
              intro a1 c1 w1 ho hg h5
              have e : bv T ++ [Value.int .u8 (q : Int)] = bv (T ++ [q]) := by rw [bv_append]; rfl
              rw [e] at ho
              rw [unhide HI]
              exact ⟨_, _, _, _, _, _, _, _, _, _, _, rfl, h.s8 d3 d7 hd ho hg⟩
            · have d0 := hdep _ rfl { on := 0, ground := .data } (by simp) rfl
              have d8 := hdep _ rfl { on := 8, ground := .data } (by simp) rfl
              obtain rfl := h.f0 d0
              have o8 := h.f8 d8 hd
              obtain ⟨a2, c2, hv37⟩ : ∃ a2 c2, v37 = .slice a2 (tn + 1) c2 := by
                rcases o8.2 with ⟨h1, h2⟩ | ⟨g, cap, cur, h1, _⟩
                · cases h2
                · exact ⟨_, _, h1⟩
              subst hv37
              refine wpOp_of rfl rfl ?_
              go_wp2_with fail
              refine Calls.mono (unhide HKC w' a2 c2 o8 h.bel) ?_
              rintro e w2 ⟨rfl, b2⟩
              go_wp2_with fail
              rw [unhide HI]
              exact ⟨_, _, _, _, _, _, _, _, _, _, _, rfl, h.s9 d8 b2⟩
            · refine wpOp_of rfl rfl ?_
              go_wp2_with fail
              rw [unhide HI]
              exact ⟨_, _, _, _, _, _, _, _, _, _, _, rfl, h.s10 hd⟩
            · have d9 := hdep _ rfl { on := 9, ground := .data } (by simp) rfl
              have d10 := hdep _ rfl { on := 10, ground := .data } (by simp) rfl
              obtain rfl := h.f9 d9
              obtain ⟨g10, rfl, x2, x3⟩ := h.f10 d10
              rw [hd] at x3
              simp only [Bool.false_eq_true, if_false] at x3
              refine wpOp_of rfl rfl ?_
              refine wp_store_row 78 _ _ rfl g10 E rfl rfl 78 Z x3 (by rw [z27, unhide HES]) (by rw [unhide HES, unhide HZS]) (unhide HEO) ?_
              rw [unhide HI]
              exact ⟨_, _, _, _, _, _, _, _, _, _, _, rfl, h.s11 d9 d10 hd rfl x2 x3⟩
          · intro d a' w' hId hall
            rw [unhide HI] at hId
            obtain ⟨v12, v29, v30, v31, v32, v33, v34, v35, v36, v37, v38, rfl, h⟩ := hId
            have d9 := hall 9 (by decide)
            obtain rfl := h.f9 d9
            obtain ⟨g10, rfl, x2, x3⟩ := h.f10 (hall 10 (by decide))
            rw [hall 11 (by decide)] at x3
            simp only [if_true] at x3
            have HX : Hid (RowAt w' g10 78 (bv (keyT R (k + 1))) ∧ B ≤ g10 ∧ Below B wo w') := hide ⟨by unfold RowAt; rw [unhide HEE]; exact x3, x2, h.bel⟩
            go_wp2_with fail
            go_meet
            case rel => exact ⟨g10, rfl, HX⟩
        case rest =>
          obtain ⟨gs, rfl, HP⟩ := hcut
          obtain ⟨z1, z2, z3⟩ := unhide HP
          obtain ⟨y1, y2, y3⟩ := unhide HC
          have bw : Below wo.heap.size wo wc := hB ▸ z3
          have hown := rown_call y1 bw
          have hs4 : gr + 1 ≤ wc.heap.size := by have := y3.size; have := unhide HS3; have := bw.size; omega
          have HLL : Hid ((bv (keyT R (k + 1))).length = 32 * 1) := hide (by rw [bv_len, keyT_len])
          have HCL : Hid (∀ (b : Addr), some (⟨gs, 0, none⟩ : Addr) = some b → ∀ j u, (bv (keyT R (k + 1)))[j]? = some u → wc.cell? (b.add j) = some u) := hide (fun b hb j u hj => by
            injection hb with hb
            subst hb
            rw [add_plain, Nat.zero_add, z1.cell]
            exact hj)
          have B5 := y3.trans (bw.mono (by have := y3.size; have := unhide HS3; omega))
          have HB5 := hide B5
          have HZ1 := hide z1
          have HGE : Hid (¬ n ≤ m) := hide hge
          have HKL := hide hlt
          have HOW := hide hown
          clear z1 z2 z3 y1 y2 y3 bw B5 HC
          go_wp2_with (at_builtin; refine wpList_append_src _ rfl _ _ 22 rfl (gr + 1) 5 i0 (.int .u8 0) 1 1 Tryd.underlying22 hi hz0 hz1 hz2 rfl (by decide) _ _ _ rfl hown (some ⟨gs, 0, none⟩) 32 32 (bv (keyT R (k + 1))) rfl (unhide HLL) (fun h => by cases h) (unhide HCL) (bv_one _) ?c3 ?c4 hs4 ?_)
          case c3 => unfold maxLen; omega
          case c4 => omega
          intro a5 c5 w5 ho5 hg5
          rw [← bv_append] at ho5
          have e5 : keyAll R k ++ keyT R (k + 1) = keyAll R (k + 1) := rfl
          rw [e5] at ho5
          have B6 : Below (gr + 1) w3 w5 := (unhide HB5).grown hg5 hs4 (fun k hk => ((unhide HOW).lt k hk).1)
          have R6 : RowAt w5 gs 78 (bv (keyT R (k + 1))) := by
            unfold RowAt
            rw [hg5.block gs (unhide HZ1).lt (own_ne (unhide HOW) (unhide HZ1) (by decide))]
            exact unhide HZ1
          have HF : Hid (w5.ownsRow (gr + 1) 5 1 (.slice a5 (m + 32) c5) (m + 32) (bv (keyAll R (k + 1))) ∧ Byt w5 (.slice (some ⟨gs, 0, none⟩) 32 32) (keyT R (k + 1)) ∧ Below (gr + 1) w3 w5) := hide ⟨ho5, Byt.row R6 (keyT_len R k) (by decide), B6⟩
          have HM2 : Hid (m + 32 = 32 * (k + 1)) := hide (by have := unhide HM; omega)
          clear ho5 hg5 B6 R6 hown
          go_wp2_with fail
          go_roundw
          case rel => exact ⟨k + 1, a5, c5, some ⟨gs, 0, none⟩, 32, 32, by have := unhide HKL; omega, .inr (by have := unhide HGE; have := unhide HM; omega), by go_num, by rw [unhide HM2], rfl, by rw [← unhide HM2]; exact HF⟩
          case measure => have := unhide HKL; simp [intOf]; omega
    · have hkI : ¬ (k : Int) < 255 := by omega
      clear hm hk hkc
      obtain ⟨y1, y2, y3⟩ := unhide HC
      have hnm : n ≤ m := by have := unhide HM; omega
      have hTk : (keyAll R k).take n = (keyAll R 255).take n := by
        have := keyAll_take R k (255 - k) n (by have := unhide HM; omega)
        rw [show k + (255 - k) = 255 by have := unhide HK; omega] at this
        exact this.symm
      have HFIN : Hid ((keyAll (keyedL sec use) 255).take n = (keyAll R k).take n) := hide (by rw [unhide HRE, hTk])
      have BY : Byt wo (.slice oa m oc) (keyAll R k) := Byt.of_own (own_cast y1 (by rw [keyAll_len, unhide HM]) rfl)
      have HBW : Hid (Below w.heap.size w wo) := hide ((unhide HB3).trans (y3.mono (by have := unhide HGW; omega)))
      have HLA : Hid ((keyAll R k).length = m) := hide (by rw [keyAll_len, unhide HM])
      clear y1 y2 y3 HC hTk
      rcases BY with ⟨h1, h2⟩ | ⟨ad, cap, h1, h2, h3, h4⟩
      · injection h1 with e1 e2 e3
        have hn00 : n = 0 := by omega
        subst e1 e3 hn00
        subst e2
        go_wp2_with fail
        go_ret2
        exact ⟨_, rfl, .inl ⟨rfl, by simp⟩, unhide HBW⟩
      · injection h1 with e1 e2 e3
        rw [unhide HLA] at h2
        subst e1 e3
        have hno : n ≤ oc := by omega
        have hoc : oc ≤ 9223372036854775807 := by unfold maxLen at h3; omega
        have H3' := hide h3
        have H4 := hide h4
        have HE' := hide e2
        clear h3 h4 e2
        go_wp2_with fail
        all_goals go_ret2
        all_goals refine ⟨_, rfl, ?_, unhide HBW⟩
        all_goals rw [unhide HFIN]
        all_goals refine .inr ⟨ad, oc, ?_, ?_, unhide H3', fun i y hy => ?_⟩
        · rw [List.length_take, unhide HLA, Nat.min_eq_left hnm]; rfl
        · rw [List.length_take, unhide HLA, Nat.min_eq_left hnm]; exact hno
        · rw [List.getElem?_take] at hy
          split at hy
          · exact unhide H4 i y hy
          · cases hy

end Go.Proofs.YthhpnakgiammiaaDoor
