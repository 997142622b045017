/- For any two lists of bytes the Go function sealskinlaw02.OctetBlocks returns true, and its arguments read as they did. No condition. -/
import Derived.Test.YtbahnkomdndmkacDoorRef2
namespace Go.Proofs.YtbahnkomdndmkacDoor.blocks
set_option linter.unusedVariables false
set_option linter.unusedSimpArgs false
open Go.ChangeShapes Go.WideShapes Go.ChangeAt Go.RowKit Go.Joins

theorem txt_strOf (l : List Nat) (h : ∀ y ∈ l, y < 256) : txt (strOf l) = l := by
  simp only [txt, strOf, List.map_map]
  conv => rhs; rw [← List.map_id l]
  apply List.map_congr_left
  intro y hy
  have := h y hy
  simp
  omega
theorem eq_any (v x : Value) (m : List Nat) (w : World) (hv : Byt w v m) (hx : Byt w x m) (hm : ∀ y ∈ m, y < 256) :
    Calls Tryd.prog 13 #[v, x] w fun e w' => e = .returned (.bool true) ∧ w = w' :=
  (equal_any v x m m w hv hx hm hm).mono fun e w' h => ⟨by rw [h.1]; simp, h.2⟩
theorem cap_le {w : World} {a : Option Addr} {n cap : Nat} {l : List Nat} (h : Byt w (.slice a n cap) l) : (n : Int) ≤ 9223372036854775807 := by
  rcases h with ⟨e, _⟩ | ⟨b, c, e, h1, h2, _⟩
  · injection e with e1 e2 e3; omega
  · injection e with e1 e2 e3; unfold maxLen at h2; omega

set_option maxHeartbeats 4000000 in
theorem walk (v x : Value) (l d : List Nat) (w : World) (hT : Tabs w) (hv : Byt w v l) (hx : Byt w x d) (hl256 : ∀ y ∈ l, y < 256) (hd256 : ∀ y ∈ d, y < 256) :
    Calls Tryd.prog 3 #[v, x] w fun e w' => e = .returned (.bool true) ∧ Below w.heap.size w w' := by
  obtain ⟨a, cap, rfl⟩ := byt_shape hv
  obtain ⟨a', cap', rfl⟩ := byt_shape hx
  have m1 := cap_le hv
  have m2 := cap_le hx
  obtain ⟨n, hn⟩ : ∃ n, l.length = n := ⟨_, rfl⟩
  obtain ⟨k, hk⟩ : ∃ k, d.length = k := ⟨_, rfl⟩
  have HL256 := hide hl256
  have HD256 := hide hd256
  rw [hn] at hv m1 ⊢
  rw [hk] at hx m2 ⊢
  have HN := hide hn
  have HK := hide hk
  have HV := hide hv
  have HX := hide hx
  have HP256 := hide (putB_256 hl256 hd256)
  clear hl256 hd256 hn hk hv hx
  by_cases hA : 32768 < n
  · have t1 : decide ((32768 : Int) < (n : Int)) = true := by simp; omega
    go_enter Tryd.func3, Tryd.ntmps3
    go_wp2_with (go_at_call 9; refine (awake_any _ hT).mono ?_; rintro e w3 ⟨rfl, b3⟩)
    go_ret
    exact ⟨rfl, b3⟩
  have t1 : decide ((32768 : Int) < (n : Int)) = false := by simp; omega
  by_cases hB : 32768 < k
  · have t2 : decide ((32768 : Int) < (k : Int)) = true := by simp; omega
    go_enter Tryd.func3, Tryd.ntmps3
    go_wp2_with (go_at_call 9; refine (awake_any _ hT).mono ?_; rintro e w3 ⟨rfl, b3⟩)
    go_ret
    exact ⟨rfl, b3⟩
  have t2 : decide ((32768 : Int) < (k : Int)) = false := by simp; omega
  have hl1 : l.length ≤ 100000000 := by rw [unhide HN]; omega
  have hd1 : d.length ≤ 100000000 := by rw [unhide HK]; omega
  have hd2 : d.length ≤ 1000000000 := by rw [unhide HK]; omega
  by_cases hC : 16384 < k
  · go_enter Tryd.func3, Tryd.ntmps3
    go_wp2_with fail
    refine (clone_any _ d _ (unhide HX) hd2).mono ?_
    rintro e w1 ⟨v1, rfl, ho1, D1⟩
    have Y1 := Byt.of_own ho1
    clear ho1
    obtain ⟨a1, cap1, rfl⟩ := byt_shape Y1
    rw [unhide HK] at Y1 ⊢
    have P1 := hide Y1
    clear Y1
    go_wp2_with fail
    refine (seal_long a1 k cap1 _ (by omega)).mono ?_
    rintro e w1' ⟨rfl, rfl⟩
    go_wp2_with fail
    refine (refseal_long a' k cap' _ (by omega)).mono ?_
    rintro e w1' ⟨rfl, rfl⟩
    have D3 := D1
    obtain ⟨w3, hw3⟩ : ∃ w3, w1 = w3 := ⟨_, rfl⟩
    have PF := hide (nil_byt w1)
    have PG := hide (nil_byt w1)
    have H13 : Below w1.heap.size w1 w1 := Below.refl _ _
    subst hw3
    have HSL256 : Hid (∀ y ∈ ([] : List Nat), y < 256) := hide (fun y hy => by cases hy)
    have XA := hide ((unhide HX).call D3)
    have VA := hide ((unhide HV).call D3)
    have GA := hide ((unhide P1).call H13)
    clear P1
    go_wp2_with fail
    refine (putbytes_any _ _ l d _ (unhide VA) (unhide GA) hl1 hd1).mono ?_
    rintro e w4 ⟨v4, rfl, ho4, D34⟩
    have Y4 := Byt.of_own ho4
    clear ho4
    obtain ⟨a4, cap4, rfl⟩ := byt_shape Y4
    rw [putB_len, unhide HN, unhide HK] at Y4 ⊢
    have P4 := hide Y4
    clear Y4
    have D4 := D3.trans (D34.mono D3.size)
    go_wp2_with fail
    refine (refputbytes_any _ _ l d _ ((unhide HV).call D4) ((unhide HX).call D4) hl1 hd1).mono ?_
    rintro e w5 ⟨v5, rfl, ho5, D45⟩
    have Y5 := Byt.of_own ho5
    clear ho5
    obtain ⟨a5, cap5, rfl⟩ := byt_shape Y5
    rw [putB_len, unhide HN, unhide HK] at Y5 ⊢
    have P5 := hide Y5
    clear Y5
    have D5 := D4.trans (D45.mono D4.size)
    have D35 := D34.trans (D45.mono D34.size)
    go_wp2_with fail
    refine (eq_any _ _ (putB l d) _ ((unhide P4).call D45) (unhide P5) (unhide HP256)).mono ?_
    rintro e w5' ⟨rfl, rfl⟩
    clear P4 P5
    have hcv := byt_convert ((unhide HX).call D5) (unhide HD256)
    have hsz : (strOf d).size ≤ 100000000 := by rw [strOf_size]; exact hd1
    have htx := txt_strOf d (unhide HD256)
    obtain ⟨S, hS⟩ : ∃ S, strOf d = S := ⟨_, rfl⟩
    rw [hS] at hcv hsz htx
    have HTX := hide htx
    clear htx hS
    go_wp2_with fail
    refine (puttext_any _ l S _ ((unhide HV).call D5) hl1 hsz).mono ?_
    rintro e w6 ⟨v6, rfl, ho6, D56⟩
    rw [unhide HTX] at ho6
    have Y6 := Byt.of_own ho6
    clear ho6 hcv
    obtain ⟨a6, cap6, rfl⟩ := byt_shape Y6
    rw [putB_len, unhide HN, unhide HK] at Y6 ⊢
    have P6 := hide Y6
    clear Y6
    have D6 := D5.trans (D56.mono D5.size)
    go_wp2_with fail
    refine (refputbytes_any _ _ l d _ ((unhide HV).call D6) ((unhide HX).call D6) hl1 hd1).mono ?_
    rintro e w7 ⟨v7, rfl, ho7, D67⟩
    have Y7 := Byt.of_own ho7
    clear ho7
    obtain ⟨a7, cap7, rfl⟩ := byt_shape Y7
    rw [putB_len, unhide HN, unhide HK] at Y7 ⊢
    have P7 := hide Y7
    clear Y7
    have D7 := D6.trans (D67.mono D6.size)
    have D37 := D35.trans ((D56.trans (D67.mono D56.size)).mono D35.size)
    go_wp2_with fail
    refine (eq_any _ _ (putB l d) _ ((unhide P6).call D67) (unhide P7) (unhide HP256)).mono ?_
    rintro e w7' ⟨rfl, rfl⟩
    clear P6 P7
    have T7 := hT.below D7
    have X7 := hide ((unhide HX).call D7)
    have G7 := hide ((unhide GA).call D37)
    have F7 := hide ((unhide PF).call D37)
    have S7 := hide ((unhide PG).call D37)
    clear GA PF PG
    go_wp2_with (first
      | (go_at_call 17; refine (sum_any _ d _ (unhide X7) (unhide HD256) hd2).mono ?_; rintro e w' ⟨rfl, rfl⟩)
      | (go_at_call 18; refine (refsum_any _ d _ (unhide X7) (unhide HD256) hd2).mono ?_; rintro e w' ⟨rfl, rfl⟩)
      | (go_at_call 13; refine (eq_any _ _ _ _ (unhide F7) (unhide S7) (unhide HSL256)).mono ?_; rintro e w' ⟨rfl, rfl⟩)
      | (go_at_call 13; refine (eq_any _ _ _ _ (unhide G7) (unhide X7) (unhide HD256)).mono ?_; rintro e w' ⟨rfl, rfl⟩)
      | (go_at_call 9; refine (awake_any _ T7).mono ?_; rintro e w8 ⟨rfl, b8⟩))
    go_ret
    exact ⟨rfl, D7.trans (b8.mono D7.size)⟩
  · go_enter Tryd.func3, Tryd.ntmps3
    go_wp2_with fail
    refine (clone_any _ d _ (unhide HX) hd2).mono ?_
    rintro e w1 ⟨v1, rfl, ho1, D1⟩
    have Y1 := Byt.of_own ho1
    clear ho1
    obtain ⟨a1, cap1, rfl⟩ := byt_shape Y1
    rw [unhide HK] at Y1 ⊢
    have P1 := hide Y1
    clear Y1
    go_wp2_with fail
    refine (seal_any _ d _ (unhide P1) (unhide HD256) (by rw [unhide HK]; omega)).mono ?_
    rintro e w2 ⟨v2, rfl, ho2, D12⟩
    have Y2 := Byt.of_own ho2
    clear ho2
    obtain ⟨a2, cap2, rfl⟩ := byt_shape Y2
    rw [seal_len, unhide HK] at Y2 ⊢
    have P2 := hide Y2
    clear Y2
    have D2 := D1.trans (D12.mono D1.size)
    go_wp2_with fail
    refine (refseal_any _ d _ ((unhide HX).call D2) (unhide HD256) (by rw [unhide HK]; omega)).mono ?_
    rintro e w3 ⟨v3, rfl, ho3, D23⟩
    have Y3 := Byt.of_own ho3
    clear ho3
    obtain ⟨a3, cap3, rfl⟩ := byt_shape Y3
    rw [seal_len, unhide HK] at Y3 ⊢
    have PG := hide Y3
    have PF := hide ((unhide P2).call D23)
    have D3 := D2.trans (D23.mono D2.size)
    have H13 := D12.trans (D23.mono D12.size)
    have HSL256 := hide (seal_256 (unhide HD256))
    clear Y3 P2 D23
    have XA := hide ((unhide HX).call D3)
    have VA := hide ((unhide HV).call D3)
    have GA := hide ((unhide P1).call H13)
    clear P1
    go_wp2_with fail
    refine (putbytes_any _ _ l d _ (unhide VA) (unhide GA) hl1 hd1).mono ?_
    rintro e w4 ⟨v4, rfl, ho4, D34⟩
    have Y4 := Byt.of_own ho4
    clear ho4
    obtain ⟨a4, cap4, rfl⟩ := byt_shape Y4
    rw [putB_len, unhide HN, unhide HK] at Y4 ⊢
    have P4 := hide Y4
    clear Y4
    have D4 := D3.trans (D34.mono D3.size)
    go_wp2_with fail
    refine (refputbytes_any _ _ l d _ ((unhide HV).call D4) ((unhide HX).call D4) hl1 hd1).mono ?_
    rintro e w5 ⟨v5, rfl, ho5, D45⟩
    have Y5 := Byt.of_own ho5
    clear ho5
    obtain ⟨a5, cap5, rfl⟩ := byt_shape Y5
    rw [putB_len, unhide HN, unhide HK] at Y5 ⊢
    have P5 := hide Y5
    clear Y5
    have D5 := D4.trans (D45.mono D4.size)
    have D35 := D34.trans (D45.mono D34.size)
    go_wp2_with fail
    refine (eq_any _ _ (putB l d) _ ((unhide P4).call D45) (unhide P5) (unhide HP256)).mono ?_
    rintro e w5' ⟨rfl, rfl⟩
    clear P4 P5
    have hcv := byt_convert ((unhide HX).call D5) (unhide HD256)
    have hsz : (strOf d).size ≤ 100000000 := by rw [strOf_size]; exact hd1
    have htx := txt_strOf d (unhide HD256)
    obtain ⟨S, hS⟩ : ∃ S, strOf d = S := ⟨_, rfl⟩
    rw [hS] at hcv hsz htx
    have HTX := hide htx
    clear htx hS
    go_wp2_with fail
    refine (puttext_any _ l S _ ((unhide HV).call D5) hl1 hsz).mono ?_
    rintro e w6 ⟨v6, rfl, ho6, D56⟩
    rw [unhide HTX] at ho6
    have Y6 := Byt.of_own ho6
    clear ho6 hcv
    obtain ⟨a6, cap6, rfl⟩ := byt_shape Y6
    rw [putB_len, unhide HN, unhide HK] at Y6 ⊢
    have P6 := hide Y6
    clear Y6
    have D6 := D5.trans (D56.mono D5.size)
    go_wp2_with fail
    refine (refputbytes_any _ _ l d _ ((unhide HV).call D6) ((unhide HX).call D6) hl1 hd1).mono ?_
    rintro e w7 ⟨v7, rfl, ho7, D67⟩
    have Y7 := Byt.of_own ho7
    clear ho7
    obtain ⟨a7, cap7, rfl⟩ := byt_shape Y7
    rw [putB_len, unhide HN, unhide HK] at Y7 ⊢
    have P7 := hide Y7
    clear Y7
    have D7 := D6.trans (D67.mono D6.size)
    have D37 := D35.trans ((D56.trans (D67.mono D56.size)).mono D35.size)
    go_wp2_with fail
    refine (eq_any _ _ (putB l d) _ ((unhide P6).call D67) (unhide P7) (unhide HP256)).mono ?_
    rintro e w7' ⟨rfl, rfl⟩
    clear P6 P7
    have T7 := hT.below D7
    have X7 := hide ((unhide HX).call D7)
    have G7 := hide ((unhide GA).call D37)
    have F7 := hide ((unhide PF).call D37)
    have S7 := hide ((unhide PG).call D37)
    clear GA PF PG
    go_wp2_with (first
      | (go_at_call 17; refine (sum_any _ d _ (unhide X7) (unhide HD256) hd2).mono ?_; rintro e w' ⟨rfl, rfl⟩)
      | (go_at_call 18; refine (refsum_any _ d _ (unhide X7) (unhide HD256) hd2).mono ?_; rintro e w' ⟨rfl, rfl⟩)
      | (go_at_call 13; refine (eq_any _ _ _ _ (unhide F7) (unhide S7) (unhide HSL256)).mono ?_; rintro e w' ⟨rfl, rfl⟩)
      | (go_at_call 13; refine (eq_any _ _ _ _ (unhide G7) (unhide X7) (unhide HD256)).mono ?_; rintro e w' ⟨rfl, rfl⟩)
      | (go_at_call 9; refine (awake_any _ T7).mono ?_; rintro e w8 ⟨rfl, b8⟩))
    go_ret
    exact ⟨rfl, D7.trans (b8.mono D7.size)⟩

theorem contract (H : Type) (enc : TypeId × Value → H) (W : World) (base : Nat) (args : Array Value) (ds gs : List (DataW H)) (before : List MemPlace)
    (hval : ∀ (j : Nat) t v, Tryd.f3.params[j]? = some t → args[j]? = some v → Value.okWide Tryd.prog W .any base t v)
    (hW : DataW.Whole enc Tryd.prog Tryd.f3.params.toList Rows.octetBlocksSpec.vars false W args.toList ds gs before) (hL : laidMetH Tryd.prog Rows.octetBlocksRow.laid W) :
    Calls Tryd.prog 3 args W fun e W' => ∃ v, e = .returned v ∧ Rows.octetBlocksSpec.post enc Tryd.prog Tryd.f3 false true false false W args v W' := by
  have hT : Tabs W := tabs_of hL
  have hW' := hW
  obtain ⟨p, q, hA0, hV, rfl, hfz, hnd⟩ := hW
  have hA : DataW.TrodAll enc Tryd.prog W 0 (fun _ => true) true Tryd.f3.params.toList args.toList ds p := hA0
  rw [Tryd.params3] at hA hval
  obtain ⟨v0, vs0, d0, ds0, p0, q0, hargs, rfl, rfl, h0, r0⟩ := trodAll_cons hA
  obtain ⟨v1, vs1, d1, ds1, p1, q1, rfl, rfl, rfl, h1, r1⟩ := trodAll_cons r0
  obtain ⟨rfl, rfl, rfl⟩ := trodAll_nil r1
  obtain rfl : args = #[v0, v1] := by cases args; simp_all
  obtain ⟨rfl, rfl⟩ := trodVars_none hV
  have lt0 : ∀ x ∈ p0, x.block < W.heap.size := by obtain ⟨m, hm⟩ := h0; exact DataW.trod_lt m _ _ _ hm
  have lt1 : ∀ x ∈ p1, x.block < W.heap.size := by obtain ⟨m, hm⟩ := h1; exact DataW.trod_lt m _ _ _ hm
  obtain ⟨l0, hY0, h2560⟩ := open_bytes (hval 0 22 v0 rfl rfl) h0
  obtain ⟨l1, hY1, h2561⟩ := open_bytes (hval 1 22 v1 rfl rfl) h1
  clear hA0
  refine (walk v0 v1 l0 l1 W hT hY0 hY1 h2560 h2561).mono fun e W' ⟨he, bel⟩ => ?_
  subst he
  exact ⟨_, rfl, _, _, _, [], _, [], hW', trodAll_mk1 (shut_bool Tryd.underlying4 _), (trodAll_cons_mk (Below.trod laidOut (by kernel_rfl) (of_decide_eq_true (by kernel_rfl)) h0 bel lt0) (trodAll_cons_mk (Below.trod laidOut (by kernel_rfl) (of_decide_eq_true (by kernel_rfl)) h1 bel lt1) trodAll_mk0)), rfl, bel.frame _, fun h => by cases h⟩

set_option maxRecDepth 100000 in
theorem laid_here (os : Os) : laidMet Tryd.prog Rows.octetBlocksRow.laid ((laidWorld os).forCall (fun _ _ => 0) ⟨#[], #[.slice none 0 0, .slice none 0 0], []⟩).memory :=
  laidMet_of_run' 8 (by kernel_rfl) (by kernel_rfl)
theorem reads (os : Os) {H : Type} (enc : TypeId × Value → H) : ∃ places, DataW.whole enc Tryd.prog ((laidWorld os).forCall (fun _ _ => 0) ⟨#[], #[.slice none 0 0, .slice none 0 0], []⟩).memory Tryd.f3.params.toList Rows.octetBlocksSpec.vars false (#[.slice none 0 0, .slice none 0 0] : Array Value).toList 8 = some ([.nil, .nil], [], places) :=
  ⟨[], by kernel_rfl⟩

set_option maxRecDepth 100000 in
theorem lifted (os : Os) (started : os.Started) (H : Type) (enc : TypeId × Value → H) (F : Stop.Interp) :
    ReturnsInHanded {} Tryd.checked os 3 .any ((OpenSpec.ofChange Rows.octetBlocksSpec).preRow enc Tryd.prog Tryd.f3 Rows.octetBlocksRow.domain false Rows.octetBlocksRow.laid) (((OpenSpec.ofChange Rows.octetBlocksSpec).at F).post enc Tryd.prog Tryd.f3 false true false false) := by
  obtain ⟨places, hx⟩ := reads os enc
  refine returnsInHanded_of_row (C := Tryd.checked) (s := OpenSpec.ofChange Rows.octetBlocksSpec) own started (by kernel_rfl) Tryd.func3
    (witness_row_at (enc := enc) (C := Tryd.checked) false (laidWorld os) #[.slice none 0 0, .slice none 0 0] rfl (by kernel_rfl) (by kernel_rfl) (by kernel_rfl)
      (OpenSpec.preRow_of_cond 8 hx (by kernel_rfl) (fun k hk => by cases hk) (by kernel_rfl) (laid_here os))) ?_
  intro W base args ds gs before hval hW _ _ _ hL _ _
  exact contract H enc W base args ds gs before hval hW hL

theorem said : Rows.OctetBlocksSaid :=
  OpenClaim.holds_of_cond 3 Tryd.f3 rfl rfl rfl rfl rfl rfl rfl ⟨rfl, rfl, rfl, rfl, rfl⟩ rfl rfl rfl rfl rfl (by kernel_rfl) Tryd.func3 (by kernel_rfl)
    (of_decide_eq_true (by kernel_rfl)) (by unfold Func.isWrapper; first | (rw [if_pos (by decide +kernel)]; kernel_rfl) | (rw [if_neg (by decide +kernel)]; exact ⟨rfl, rfl⟩))
    (fun os started H enc _ F => by rw [OpenClaim.pre_eq_preRow]; exact lifted os started H enc F)

theorem plain (f : FuncId) (fn : Func) (hf : Tryd.pinned.checked.prog.funcNamed "sealskin/sealskinlaw02.OctetBlocks" = some f) (hfn : Tryd.pinned.checked.prog.funcs[f]? = some fn) :
    false = Tryd.pinned.checked.prog.looks [] ∧ ∀ (j : Nat) t, fn.params[j]? = some t → Tryd.pinned.checked.prog.wantsStandIn t = false := by
  obtain rfl : f = 3 := Option.some.inj ((show Tryd.prog.funcNamed "sealskin/sealskinlaw02.OctetBlocks" = some 3 by kernel_rfl).symm.trans hf) |>.symm
  obtain rfl : fn = Tryd.f3 := (Option.some.inj (Tryd.func3.symm.trans hfn)).symm
  refine ⟨by kernel_rfl, fun j t ht => ?_⟩
  rw [Tryd.params3] at ht
  obtain rfl : t = 22 := by simpa using Array.mem_of_getElem? ht
  exact (show Tryd.prog.wantsStandIn 22 = false by kernel_rfl)

theorem proved : Rows.OctetBlocksCardSaid :=
  Claim7.holds_tied_plain_at .later [] _ _ _ _ said (fun _ h => by cases h) (by kernel_rfl) (fun _ h => by cases h) octetBlocks_row_tie rfl ⟨rfl, rfl⟩ (by kernel_rfl) rfl plain (by kernel_rfl)
#print axioms proved
end Go.Proofs.YtbahnkomdndmkacDoor.blocks
