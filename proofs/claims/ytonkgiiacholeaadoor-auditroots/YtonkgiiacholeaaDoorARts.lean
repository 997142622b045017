/- For any entries and any two numbers the Go function sealskinlaw15.AuditRoots returns true, and its arguments read as they did. No condition. -/
import Derived.Test.YtonkgiiacholeaaDoorASlcC
namespace Go.Proofs.YtonkgiiacholeaaDoor.aroots
set_option linter.unusedVariables false
set_option linter.unusedSimpArgs false
open Go.ChangeShapes Go.WideShapes Go.ChangeAt Go.RowKit Go.Joins

set_option maxRecDepth 100000 in
set_option maxHeartbeats 8000000 in
theorem walk (P : List (Value × List Nat)) (a : Option Addr) (n c : Nat) (i k : Int) (w : World) (hT : Tabs w) (hn : P.length = n) (hL : LL w (.slice a n c) P) (h8 : ∀ x ∈ P, U8 x.2) (hc0 : a = none → c = 0) :
    Calls Tryd.prog 4 #[.slice a n c, .int .i64 i, .int .i64 k] w fun e w' => e = .returned (.bool true) ∧ Below w.heap.size w w' := by
  have HSH := hide (short_any P a n c w hn hL)
  have HAW := hide (aawake_any w hT)
  have HT := hide hT
  have HL := hide hL
  have H8 := hide h8
  have HN := hide hn
  have HC0 := hide hc0
  have hcn : n ≤ c := by
    obtain ⟨a', c', e1, e2, _⟩ := hL
    obtain ⟨-, -, rfl⟩ : a = a' ∧ n = P.length ∧ c = c' := by simpa using e1
    omega
  clear hT hL h8 hc0
  go_enter Tryd.func4, Tryd.ntmps4
  go_wp2_with fail
  refine Calls.mono (unhide HSH) ?_
  rintro e w1 ⟨b, rfl, rfl, hb⟩
  clear HSH
  cases b with
  | false =>
    clear hb
    go_wp2_with fail
    refine Calls.mono (unhide HAW) ?_
    rintro e w9 ⟨rfl, b9⟩
    have HF := hide b9
    clear b9
    go_wp2_with fail
    go_ret
    exact ⟨rfl, unhide HF⟩
  | true =>
    obtain ⟨n40, lens⟩ := hb rfl
    have n40I : (n : Int) ≤ 40 := by omega
    have HLN := hide lens
    clear hb lens
    obtain ⟨j, hj, hj2⟩ := mod_nat k (n + 1) (by omega) (by omega)
    rw [show ((n + 1 : Nat) : Int) = (n : Int) + 1 by omega] at hj
    have jn : j ≤ n := by omega
    have q1 : (j : Int) ≤ (c : Int) := by omega
    have q2 : j ≤ c := by omega
    have q3 : (j : Int) ≤ (n : Int) := by omega
    have nz : ¬ (n : Int) + 1 = 0 := by omega
    have HMD := hide (made_log (P.take j) _ w (unhide HT) ((unhide HL).take jn) (fun x hx => unhide H8 x (List.mem_of_mem_take hx)) (fun x hx => Nat.le_trans (unhide HLN x (List.mem_of_mem_take hx)) (by decide)) (by rw [List.length_take]; omega))
    have HSL := hide (fun w => slice_from a n c j w jn hcn)
    have HLF := hide ((unhide HL).from_ jn)
    have HA2 : Hid ((if c = j then a else a.map (·.add j)) = none → c - j = 0) := hide (by
      intro h
      by_cases e : c = j
      · omega
      · rw [if_neg e] at h
        cases a with
        | none => have := unhide HC0 rfl; omega
        | some ad => cases h)
    obtain ⟨a2, ha2⟩ : ∃ q, (if c = j then a else a.map (·.add j)) = q := ⟨_, rfl⟩
    obtain ⟨n2, hn2⟩ : ∃ q, n - j = q := ⟨_, rfl⟩
    obtain ⟨c2, hc2⟩ : ∃ q, c - j = q := ⟨_, rfl⟩
    rw [ha2, hn2, hc2] at HSL HLF
    rw [ha2, hc2] at HA2
    clear ha2 hc2
    go_wp2_with fail
    refine Calls.mono (unhide HMD) ?_
    rintro e w2 ⟨rfl, τ, L2, ht2, b2⟩
    have HB2 := hide b2
    have HCL := hide (clone_lists a2 n2 c2 (P.drop j) w2 (by rw [List.length_drop]; omega) ((unhide HLF).call b2) (unhide HA2) (by omega))
    have HTG := hide (And.intro L2 ht2)
    clear b2 L2 ht2 HMD
    go_wp2_with (refine wpList_slice1 rfl 35 _ _ rfl _ _ rfl rfl _ (unhide HSL _) ?_)
    refine Calls.mono (unhide HCL) ?_
    rintro e w3 ⟨v', rfl, own3, b3⟩
    have B3 := bcall (unhide HB2) b3
    have HY3 : ∀ x ∈ P.drop j, Byt w3 x.1 x.2 := fun x hx => (((unhide HLF).call B3).each x hx)
    have LL3 : LL w3 v' (P.drop j) := LL.of_own (by rw [List.length_drop, hn, hn2]; exact own3) HY3
    obtain ⟨L2, ht2⟩ := unhide HTG
    have L3 : LogAt w3 (fun q => if q < w2.heap.size then τ q else -1) w.heap.size ((P.take j).map (·.2)) := (L2.retag (fun q hq => if_pos hq)).call b3
    have HAD := hide (add_log w.heap.size _ (fun q => if q < w2.heap.size then τ q else -1) (P.drop j) v' w3 ((unhide HT).below B3) (fun q hq => by
        have h7 := (unhide HT).two
        by_cases e : q < w.heap.size
        · exfalso
          apply hq
          by_cases e2 : q < w2.heap.size
          · show (if q < w2.heap.size then τ q else -1) = -1
            rw [if_pos e2]; exact ht2 q e
          · show (if q < w2.heap.size then τ q else -1) = -1
            rw [if_neg e2]
        · omega) L3 LL3 ⟨fun _ q hq => by
          have := (own3.lt q hq).1
          show ¬ (if q < w2.heap.size then τ q else -1) ≠ -1
          rw [if_neg (by omega)]
          simp, fun x hx hne q hq => by
          have h1 := byt_block (((unhide HLF)).each x hx) hne q hq
          show ¬ (if q < w2.heap.size then τ q else -1) ≠ -1
          by_cases e2 : q < w2.heap.size
          · rw [if_pos e2, ht2 q h1]; simp
          · rw [if_neg e2]; simp⟩ (fun x hx => unhide H8 x (List.mem_of_mem_drop hx)) (fun x hx => Nat.le_trans (unhide HLN x (List.mem_of_mem_drop hx)) (by decide)) (by rw [List.length_map, List.length_take, List.length_drop]; omega))
    obtain ⟨va, vc, hv', _⟩ := own_shape own3
    subst hv'
    have HB3 := hide B3
    have HGE : Hid (∀ q, (if q < w2.heap.size then τ q else -1) ≠ -1 → w.heap.size ≤ q) := hide (fun q hq => by
      by_cases e : q < w.heap.size
      · exfalso
        apply hq
        by_cases e2 : q < w2.heap.size
        · rw [if_pos e2]; exact ht2 q e
        · rw [if_neg e2]
      · omega)
    clear b3 B3 HY3 LL3 L2 ht2 L3 own3 HCL HTG
    go_wp2_with fail
    refine Calls.mono (unhide HAD) ?_
    rintro e w4 ⟨rfl, τ4, L4, _, o4⟩
    have HB4 := hide ((unhide HB3).trans (o4.below (unhide HB3).size (unhide HGE)))
    rw [← List.map_append, List.take_append_drop] at L4
    have HL4 := hide L4
    clear L4 o4 HAD HGE
    have hz := zero27
    obtain ⟨Z, hZ⟩ : ∃ Z, (bv (List.replicate 32 0)).toArray = Z := ⟨_, rfl⟩
    rw [hZ] at hz
    have HZS : Hid (Z.size = 32) := hide (by rw [← hZ, List.size_toArray, bv_len, List.length_replicate])
    have HZO : Hid (Z.all (·.oneCell') = true) := hide (hZ ▸ one_bv _)
    by_cases c1 : i < 0
    · have hq := eq_sums (List.replicate 32 0) (List.replicate 32 0) (List.length_replicate ..) (List.length_replicate ..)
      rw [hZ, decide_eq_true rfl] at hq
      have HRT := hide (Root_bad w.heap.size (P.map (·.2)) τ4 i w4 (unhide HL4) (by rw [List.length_map]; omega) (by rw [List.length_map, hn]; omega))
      rw [hZ] at HRT
      go_wp2_with fail
      refine Calls.mono (unhide HRT) ?_
      rintro e w5 ⟨rfl, b5⟩
      have B6 := bal (bcall (unhide HB4) b5) (.cells Z 43)
      have HLE := hide (len_log w.heap.size (P.map (·.2)) τ4 _ ((unhide HL4).call (bal (bcall (Below.refl _ _) b5) (.cells Z 43))))
      rw [List.length_map, hn] at HLE
      have HA6 := hide (aawake_any _ ((unhide HT).below B6))
      have HR6 : Hid (RowAt (w5.alloc (.cells Z 43)) w5.heap.size 43 (bv (List.replicate 32 0))) := hide (hZ ▸ RowAt.new w5 43 (bv (List.replicate 32 0)))
      have HE6 := hide ((unhide HR6).arr hZ)
      have HB6 := hide B6
      clear b5 B6 HRT
      go_wp2_with (first
        | (refine wpList_store_new rfl 43 _ _ rfl Z rfl rfl (by rw [z27, unhide HZS]) rfl (unhide HZO) ?_)
        | (refine wpList_load_if rfl 43 _ rfl w5.heap.size rfl 43 Z (0, 0) _ (unhide HE6) Tryd.underlying43 rfl (by rw [z27, unhide HZS]) ?_))
      refine Calls.mono (unhide HLE) ?_
      rintro e w6 ⟨rfl, rfl⟩
      go_wp2_with fail
      refine Calls.mono (unhide HA6) ?_
      rintro e w7 ⟨rfl, b7⟩
      have HF := hide (bcall (unhide HB6) b7)
      clear b7
      go_wp2_with fail
      go_ret
      exact ⟨rfl, unhide HF⟩
    by_cases c2 : (n : Int) < i
    · have hq := eq_sums (List.replicate 32 0) (List.replicate 32 0) (List.length_replicate ..) (List.length_replicate ..)
      rw [hZ, decide_eq_true rfl] at hq
      have HRT := hide (Root_bad w.heap.size (P.map (·.2)) τ4 i w4 (unhide HL4) (by rw [List.length_map]; omega) (by rw [List.length_map, hn]; omega))
      rw [hZ] at HRT
      go_wp2_with fail
      refine Calls.mono (unhide HRT) ?_
      rintro e w5 ⟨rfl, b5⟩
      have B6 := bal (bcall (unhide HB4) b5) (.cells Z 43)
      have HLE := hide (len_log w.heap.size (P.map (·.2)) τ4 _ ((unhide HL4).call (bal (bcall (Below.refl _ _) b5) (.cells Z 43))))
      rw [List.length_map, hn] at HLE
      have HA6 := hide (aawake_any _ ((unhide HT).below B6))
      have HR6 : Hid (RowAt (w5.alloc (.cells Z 43)) w5.heap.size 43 (bv (List.replicate 32 0))) := hide (hZ ▸ RowAt.new w5 43 (bv (List.replicate 32 0)))
      have HE6 := hide ((unhide HR6).arr hZ)
      have HB6 := hide B6
      clear b5 B6 HRT
      go_wp2_with (first
        | (refine wpList_store_new rfl 43 _ _ rfl Z rfl rfl (by rw [z27, unhide HZS]) rfl (unhide HZO) ?_)
        | (refine wpList_load_if rfl 43 _ rfl w5.heap.size rfl 43 Z (0, 0) _ (unhide HE6) Tryd.underlying43 rfl (by rw [z27, unhide HZS]) ?_))
      refine Calls.mono (unhide HLE) ?_
      rintro e w6 ⟨rfl, rfl⟩
      go_wp2_with fail
      refine Calls.mono (unhide HA6) ?_
      rintro e w7 ⟨rfl, b7⟩
      have HF := hide (bcall (unhide HB6) b7)
      clear b7
      go_wp2_with fail
      go_ret
      exact ⟨rfl, unhide HF⟩
    obtain ⟨i', rfl⟩ := Int.eq_ofNat_of_zero_le (show 0 ≤ i by omega)
    have hin : i' ≤ n := by omega
    have HRT := hide (Root_ok w.heap.size (P.map (·.2)) τ4 i' w4 ((unhide HT).below (unhide HB4)) (unhide HL4) (by rw [List.length_map]; omega) (by rw [List.length_map]; omega))
    have HDG := hide (p := ∀ W, Below w.heap.size w W → _) (fun W hW => rdig_any i' a c (P.take i') W (by rw [List.length_take]; omega) (((unhide HL).take hin).call hW) (fun x hx => unhide H8 x (List.mem_of_mem_take hx)) (fun x hx => Nat.le_trans (unhide HLN x (List.mem_of_mem_take hx)) (by decide)) (by omega))
    rw [← List.map_take] at HRT
    have dl := digL_len ((P.take i').map (·.2))
    have hq := eq_sums _ _ dl dl
    rw [decide_eq_true rfl] at hq
    obtain ⟨D, hD⟩ : ∃ D, digL ((P.take i').map (·.2)) = D := ⟨_, rfl⟩
    rw [hD] at HRT HDG dl hq
    obtain ⟨X, hX⟩ : ∃ X, bv D = X := ⟨_, rfl⟩
    rw [hX] at HRT HDG hq
    have hXs : X.length = 32 := by rw [← hX, bv_len, dl]
    have HXS : Hid (X.toArray.size = 32) := hide (by rw [List.size_toArray, hXs])
    have HXO : Hid (X.toArray.all (·.oneCell') = true) := hide (hX ▸ one_bv _)
    have hi : (Tryd.prog.info? 43).map (·.size) = some X.length := hX ▸ size43 dl
    have hu := Tryd.underlying43
    have i1 : (i' : Int) ≤ (c : Int) := by omega
    have i2 : i' ≤ c := by omega
    go_wp2_with fail
    refine Calls.mono (unhide HRT) ?_
    rintro e w5 ⟨rfl, b5⟩
    have B6 := bal (bcall (unhide HB4) b5) (.cells X.toArray 43)
    have HL6 := hide ((unhide HL4).call (bal (bcall (Below.refl _ _) b5) (.cells X.toArray 43)))
    have HR6 : Hid (RowAt (w5.alloc (.cells X.toArray 43)) w5.heap.size 43 X) := hide (RowAt.new w5 43 X)
    have HB6 := hide B6
    clear b5 B6 HRT
    go_wp2_with (refine wpList_store_new rfl 43 _ _ rfl X.toArray rfl rfl (by rw [z27, unhide HXS]) (by rw [unhide HXS, unhide HZS]) (unhide HXO) ?_)
    generalize w5.alloc (.cells X.toArray 43) = w6 at *
    obtain ⟨gs, hgs⟩ : ∃ q, w5.heap.size = q := ⟨_, rfl⟩
    rw [hgs] at HR6 ⊢
    have hst : KB w6 w6 gs X := ⟨fun q v hj => by
      have := (unhide HR6).cell q
      rw [Nat.zero_add]
      exact this.trans hj, Below.refl _ _⟩
    have hk0 : Below w6.heap.size w6 w6.drew := (Below.refl _ _).drew
    have KDG := hide (p := ∀ W, Below w6.heap.size w6 W → _) (fun W hW => unhide HDG W (bcall (unhide HB6) hW))
    have KLE := hide (p := ∀ W, Below w6.heap.size w6 W → _) (fun W hW => len_log w.heap.size (P.map (·.2)) τ4 W ((unhide HL6).call hW))
    rw [List.length_map, hn] at KLE
    have KAW := hide (p := ∀ W, Below w6.heap.size w6 W → _) (fun W hW => aawake_any W ((unhide HT).below (bcall (unhide HB6) hW)))
    clear hgs HDG HL6 HR6 HL4 HB4 HB3 HSL HLF HZS HZO hz hZ hD hX dl hXs
    go_region_held3 (fun w' => w'.rangeAt gs 0 X ∧ Below w6.heap.size w6 w')
      (first | exact KB.call hst (by assumption))
      (first
        | (go_at_call 27; with_reducible refine Calls.mono (unhide KDG w6.drew hk0) ?_; rintro e w7 ⟨rfl, b7⟩; have k7 := bcall hk0 b7)
        | (go_at_call 26; with_reducible refine Calls.mono (unhide KLE w7 k7) ?_; rintro e w8 ⟨rfl, rfl⟩)
        | (go_at_call 21; with_reducible refine Calls.mono (unhide KAW w7 k7) ?_; rintro e w8 ⟨rfl, b8⟩; have k8 := bcall k7 b8))
    all_goals go_wp2_with fail
    all_goals go_ret
    all_goals exact ⟨rfl, bcall (unhide HB6) k8⟩

set_option maxRecDepth 100000 in
theorem contract (H : Type) (enc : TypeId × Value → H) (W : World) (base : Nat) (args : Array Value) (ds gs : List (DataW H)) (before : List MemPlace)
    (hval : ∀ (j : Nat) t v, Tryd.f4.params[j]? = some t → args[j]? = some v → Value.okWide Tryd.prog W .any base t v)
    (hW : DataW.Whole enc Tryd.prog Tryd.f4.params.toList Rows.auditRootsSpec.vars false W args.toList ds gs before) (hL : laidMetH Tryd.prog Rows.auditRootsRow.laid W) :
    Calls Tryd.prog 4 args W fun e W' => ∃ v, e = .returned v ∧ Rows.auditRootsSpec.post enc Tryd.prog Tryd.f4 false true false false W args v W' := by
  have hT : Tabs W := tabs_of hL
  have hW' := hW
  obtain ⟨p, q, hA0, hV, rfl, hfz, hnd⟩ := hW
  have hA : DataW.TrodAll enc Tryd.prog W 0 (fun _ => true) true Tryd.f4.params.toList args.toList ds p := hA0
  rw [Tryd.params4] at hA hval
  obtain ⟨v0, vs0, d0, ds0, p0, q0, hargs, rfl, rfl, h0, r0⟩ := trodAll_cons hA
  obtain ⟨v1, vs1, d1, ds1, p1, q1, rfl, rfl, rfl, h1, r1⟩ := trodAll_cons r0
  obtain ⟨v2, vs2, d2, ds2, p2, q2, rfl, rfl, rfl, h2, r2⟩ := trodAll_cons r1
  obtain ⟨rfl, rfl, rfl⟩ := trodAll_nil r2
  obtain rfl : args = #[v0, v1, v2] := by cases args; simp_all
  obtain ⟨rfl, rfl⟩ := trodVars_none hV
  have lt0 : ∀ x ∈ p0, x.block < W.heap.size := by obtain ⟨m, hm⟩ := h0; exact DataW.trod_lt m _ _ _ hm
  have lt1 : ∀ x ∈ p1, x.block < W.heap.size := by obtain ⟨m, hm⟩ := h1; exact DataW.trod_lt m _ _ _ hm
  have lt2 : ∀ x ∈ p2, x.block < W.heap.size := by obtain ⟨m, hm⟩ := h2; exact DataW.trod_lt m _ _ _ hm
  obtain ⟨P, hP, hP8, hPd⟩ := open_lists (hval 0 35 v0 rfl rfl) h0
  obtain ⟨la, lc, hv, _⟩ := id hP
  subst hv
  have hc0 : la = none → lc = 0 := fun e => by subst e; exact open_nil h0
  obtain ⟨n1, rfl⟩ := open_i64 (hval 1 3 v1 rfl rfl) h1
  obtain ⟨n2, rfl⟩ := open_i64 (hval 2 3 v2 rfl rfl) h2
  clear hA0
  refine (walk P la P.length lc n1 n2 W hT rfl hP hP8 hc0).mono fun e W' ⟨he, bel⟩ => ?_
  subst he
  exact ⟨_, rfl, _, _, _, [], _, [], hW', trodAll_mk1 (shut_bool Tryd.underlying4 _), (trodAll_cons_mk (Below.trod laidOut (by kernel_rfl) (of_decide_eq_true (by kernel_rfl)) h0 bel lt0) (trodAll_cons_mk (Below.trod laidOut (by kernel_rfl) (of_decide_eq_true (by kernel_rfl)) h1 bel lt1) (trodAll_cons_mk (Below.trod laidOut (by kernel_rfl) (of_decide_eq_true (by kernel_rfl)) h2 bel lt2) trodAll_mk0))), rfl, bel.frame _, fun h => by cases h⟩

set_option maxRecDepth 100000 in
theorem laid_here (os : Os) : laidMet Tryd.prog Rows.auditRootsRow.laid ((laidWorld os).forCall (fun _ _ => 0) ⟨#[], #[.slice none 0 0, .int .i64 0, .int .i64 0], []⟩).memory :=
  laidMet_of_run' 8 (by kernel_rfl) (by kernel_rfl)
theorem reads (os : Os) {H : Type} (enc : TypeId × Value → H) : ∃ places, DataW.whole enc Tryd.prog ((laidWorld os).forCall (fun _ _ => 0) ⟨#[], #[.slice none 0 0, .int .i64 0, .int .i64 0], []⟩).memory Tryd.f4.params.toList Rows.auditRootsSpec.vars false (#[.slice none 0 0, .int .i64 0, .int .i64 0] : Array Value).toList 8 = some ([.nil, .lit (.int .i64 0), .lit (.int .i64 0)], [], places) :=
  ⟨[], by kernel_rfl⟩

set_option maxRecDepth 100000 in
theorem lifted (os : Os) (started : os.Started) (H : Type) (enc : TypeId × Value → H) (F : Stop.Interp) :
    ReturnsInHanded {} Tryd.checked os 4 .any ((OpenSpec.ofChange Rows.auditRootsSpec).preRow enc Tryd.prog Tryd.f4 Rows.auditRootsRow.domain false Rows.auditRootsRow.laid) (((OpenSpec.ofChange Rows.auditRootsSpec).at F).post enc Tryd.prog Tryd.f4 false true false false) := by
  obtain ⟨places, hx⟩ := reads os enc
  refine returnsInHanded_of_row (C := Tryd.checked) (s := OpenSpec.ofChange Rows.auditRootsSpec) own started (by kernel_rfl) Tryd.func4
    (witness_row_at (enc := enc) (C := Tryd.checked) false (laidWorld os) #[.slice none 0 0, .int .i64 0, .int .i64 0] rfl (by kernel_rfl) (by kernel_rfl) (by kernel_rfl)
      (OpenSpec.preRow_of_cond 8 hx (by kernel_rfl) (fun k hk => by cases hk) (by kernel_rfl) (laid_here os))) ?_
  intro W base args ds gs before hval hW _ _ _ hL _ _
  exact contract H enc W base args ds gs before hval hW hL

set_option maxRecDepth 100000 in
theorem said : Rows.AuditRootsSaid :=
  OpenClaim.holds_of_cond 4 Tryd.f4 rfl rfl rfl rfl rfl rfl rfl ⟨rfl, rfl, rfl, rfl, rfl⟩ rfl rfl rfl rfl rfl (by kernel_rfl) Tryd.func4 (by kernel_rfl)
    (of_decide_eq_true (by kernel_rfl)) (by unfold Func.isWrapper; first | (rw [if_pos (by decide +kernel)]; kernel_rfl) | (rw [if_neg (by decide +kernel)]; exact ⟨rfl, rfl⟩))
    (fun os started H enc _ F => by rw [OpenClaim.pre_eq_preRow]; exact lifted os started H enc F)

set_option maxRecDepth 100000 in
theorem plain (f : FuncId) (fn : Func) (hf : Tryd.pinned.checked.prog.funcNamed "sealskin/sealskinlaw15.AuditRoots" = some f) (hfn : Tryd.pinned.checked.prog.funcs[f]? = some fn) :
    false = Tryd.pinned.checked.prog.looks [] ∧ ∀ (j : Nat) t, fn.params[j]? = some t → Tryd.pinned.checked.prog.wantsStandIn t = false := by
  obtain rfl : f = 4 := Option.some.inj ((show Tryd.prog.funcNamed "sealskin/sealskinlaw15.AuditRoots" = some 4 by kernel_rfl).symm.trans hf) |>.symm
  obtain rfl : fn = Tryd.f4 := (Option.some.inj (Tryd.func4.symm.trans hfn)).symm
  refine ⟨by kernel_rfl, fun j t ht => ?_⟩
  rw [Tryd.params4] at ht
  have := Array.mem_of_getElem? ht
  simp at this
  rcases this with rfl | rfl
  · exact (show Tryd.prog.wantsStandIn 35 = false by kernel_rfl)
  · exact (show Tryd.prog.wantsStandIn 3 = false by kernel_rfl)

theorem proved : Rows.AuditRootsCardSaid :=
  Claim7.holds_tied_plain_at .later [] _ _ _ _ said (fun _ h => by cases h) (by kernel_rfl) (fun _ h => by cases h) auditRoots_row_tie rfl ⟨rfl, rfl⟩ (by kernel_rfl) rfl plain (by kernel_rfl)
#print axioms proved
end Go.Proofs.YtonkgiiacholeaaDoor.aroots
