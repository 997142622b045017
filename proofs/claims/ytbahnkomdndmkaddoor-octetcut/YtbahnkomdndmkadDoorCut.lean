/- For any bytes and any number the Go function sealskinlaw02.OctetCut returns true, and its arguments read as they did. No condition. -/
import Derived.Test.YtbahnkomdndmkadDoorBads
import Derived.Test.YtbahnkomdndmkadDoorLaid
import Derived.ChangeSlices
namespace Go.Proofs.YtbahnkomdndmkadDoor.cut
set_option linter.unusedVariables false
set_option linter.unusedSimpArgs false
open Go.ChangeShapes Go.WideShapes Go.ChangeAt Go.RowKit Go.Joins

theorem open_i64 {H : Type} {enc : TypeId × Value → H} {W : World} {b0 base : Nat} {spare : Nat → Bool} {held : Bool} {v : Value} {d : DataW H} {p : List MemPlace}
    (hv : Value.okWide Tryd.prog W .any b0 3 v) (h : DataW.Trod enc Tryd.prog W base spare held 3 v d p) : ∃ n : Int, v = .int .i64 n ∧ -9223372036854775808 ≤ n ∧ n ≤ 9223372036854775807 := by
  obtain ⟨n, rfl, _, _, wn⟩ := open_int Tryd.underlying3 hv h
  exact ⟨n, rfl, bounds_i64 wn⟩
theorem open_bytes {H : Type} {enc : TypeId × Value → H} {W : World} {b0 base : Nat} {spare : Nat → Bool} {held : Bool} {v : Value} {d : DataW H} {p : List MemPlace}
    (hv : Value.okWide Tryd.prog W .any b0 22 v) (h : DataW.Trod enc Tryd.prog W base spare held 22 v d p) : ∃ l : List Nat, Byt W v l ∧ ∀ y ∈ l, y < 256 := by
  obtain ⟨a, n, c, rfl⟩ := okWide_slice Tryd.underlying22 hv
  obtain ⟨fuel, hf⟩ := h
  rcases open_ints Tryd.underlying22 Tryd.underlying5 cells5 hf with ⟨hcs, _⟩ | ⟨a, len, cap, zs, hcs, _, hl, hm, hz, _, hc, hw⟩
  · simp [Value.cells] at hcs
    obtain ⟨rfl, rfl, rfl⟩ := hcs
    exact ⟨[], .inl ⟨rfl, rfl⟩, fun y hy => by cases hy⟩
  · simp [Value.cells] at hcs
    obtain ⟨rfl, rfl, rfl⟩ := hcs
    have hlz : n ≤ zs.length := by rw [hz]; split <;> omega
    have hb : ∀ z ∈ zs, 0 ≤ z ∧ z < 256 := fun z hz' => by
      have := bounds_u8 (hw z hz')
      omega
    refine ⟨(zs.take n).map Int.toNat, .inr ⟨a, c, by simp [Nat.min_eq_left hlz], by simp [Nat.min_eq_left hlz]; exact hl, hm, fun i y hy => ?_⟩, fun y hy => ?_⟩
    · rw [List.getElem?_map] at hy
      obtain ⟨z, hz1, rfl⟩ := Option.map_eq_some_iff.1 hy
      have hi : i < n := by
        by_cases hi : i < n
        · exact hi
        · rw [List.getElem?_eq_none (by rw [List.length_take]; omega)] at hz1; cases hz1
      rw [List.getElem?_take_of_lt hi] at hz1
      rw [hc i (by omega), List.getD_eq_getElem?_getD, hz1]
      have := hb z (List.mem_of_getElem? hz1)
      simp
      omega
    · obtain ⟨z, hz1, rfl⟩ := List.mem_map.1 hy
      have := hb z (List.mem_of_mem_take hz1)
      omega

theorem cut_j (k : Int) (n : Nat) (h : 12 ≤ n) (h2 : n ≤ 16396) : ∃ j : Nat, wrap64 ((IntKind.u64.wrap k).tmod (n : Int)) = (j : Int) ∧ j < n := by
  have h0 : 0 ≤ IntKind.u64.wrap k := wrap_u64_nonneg k
  rw [Int.tmod_eq_emod_of_nonneg h0]
  have g1 := Int.emod_nonneg (IntKind.u64.wrap k) (show (n : Int) ≠ 0 by omega)
  have g2 := Int.emod_lt_of_pos (IntKind.u64.wrap k) (show (0 : Int) < (n : Int) by omega)
  generalize IntKind.u64.wrap k % (n : Int) = x at *
  refine ⟨x.toNat, ?_, by omega⟩
  unfold wrap64
  omega
theorem cut_bad (l : List Nat) (j : Nat) (hj : j < 12 + l.length) (hl : l.length ≤ 16384) : BadBlock ((sealB l).take j) 0 2 := by
  have hlen : ((sealB l).take j).length = j := by rw [List.length_take, seal_len]; omega
  by_cases h8 : j < 8
  · exact .inl ⟨.inl ⟨by rw [hlen]; omega, rfl⟩, by decide⟩
  · have hm : numOf ((((sealB l).take j).drop 0).take 8) = l.length := by
      rw [List.drop_zero, List.take_take, Nat.min_eq_left (by omega)]
      have q := seal_head l [] (by omega)
      rwa [List.append_nil] at q
    by_cases h9 : j < 8 + l.length
    · refine .inl ⟨.inr (.inr (.inr ⟨?_, ?_, ?_, ?_, rfl⟩)), by decide⟩
      · rw [hlen]; omega
      · rw [hm]; omega
      · rw [hm]; omega
      · rw [hm, hlen]; omega
    · exact .inr ⟨l.length, hm, hl, by rw [hlen]; omega, .inl ⟨by rw [hlen]; omega, rfl⟩⟩

set_option maxHeartbeats 2000000 in
theorem walk (v : Value) (l : List Nat) (k : Int) (w : World) (hT : Tabs w) (hv : Byt w v l) (h256 : ∀ y ∈ l, y < 256) (hk : -9223372036854775808 ≤ k ∧ k ≤ 9223372036854775807) :
    Calls Tryd.prog 3 #[v, .int .i64 k] w fun e w' => e = .returned (.bool true) ∧ Below w.heap.size w w' := by
  have H256 := hide h256
  clear h256
  by_cases hlen : 16384 < l.length
  · obtain ⟨a, cap, rfl⟩ := byt_shape hv
    have hs := seal_long a l.length cap w (by omega)
    clear hv
    go_enter Tryd.func3, Tryd.ntmps3
    go_wp2_with (first
      | (go_at_call 7; refine hs.mono ?_; rintro e w' ⟨rfl, rfl⟩)
      | (go_at_call 8; refine (awake_any _ hT).mono ?_; rintro e w3 ⟨rfl, b3⟩))
    go_ret
    exact ⟨rfl, b3⟩
  · have hs := seal_any v l w hv (unhide H256) (by omega)
    obtain ⟨a, cap, rfl⟩ := byt_shape hv
    have HSL := hide (seal_len l)
    clear hv
    go_enter Tryd.func3, Tryd.ntmps3
    go_wp2_with fail
    refine hs.mono ?_
    rintro e w1 ⟨v1, rfl, ho1, hb1⟩
    clear hs
    obtain ⟨Y1, L1⟩ := own_low ho1
    clear ho1
    rcases id Y1 with ⟨_, h0⟩ | ⟨a1, cap1, rfl, c1, c2, c3⟩
    · exact absurd (congrArg List.length h0) (by rw [unhide HSL]; simp)
    obtain ⟨b1, off1, rfl⟩ := plain_of c3 (by rw [unhide HSL]; omega)
    have HC := hide c3
    clear c3
    obtain ⟨n, hn⟩ : ∃ n, (sealB l).length = n := ⟨_, rfl⟩
    have hn12 : 12 ≤ n := by rw [← hn, unhide HSL]; omega
    have hnle : n ≤ 16396 := by rw [← hn, unhide HSL]; omega
    rw [hn] at Y1 L1 c1 ⊢
    obtain ⟨j, hj, hjn⟩ := cut_j k n hn12 hnle
    have hbad := cut_bad l j (by rw [← unhide HSL, hn]; exact hjn) (by omega)
    have hlj : ((sealB l).take j).length = j := by rw [List.length_take, hn]; omega
    have Yj : Byt w1 (.slice (some ⟨b1, off1, none⟩) j cap1) ((sealB l).take j) := .inr ⟨⟨b1, off1, none⟩, cap1, by rw [hlj], by rw [hlj]; omega, c2, fun i y hy => by
      have hi : i < j := by
        by_cases hi : i < j
        · exact hi
        · rw [List.getElem?_eq_none (by rw [hlj]; omega)] at hy; cases hy
      rw [List.getElem?_take_of_lt hi] at hy
      exact unhide HC i y hy⟩
    have hop := open_bad (some ⟨b1, off1, none⟩) j cap1 ((sealB l).take j) 2 w1 Yj (byt_low Yj) (by omega) (fun y hy => seal_256 (unhide H256) y (List.mem_of_mem_take hy)) hbad
    have T1 := hT.below hb1
    have g1 : (0 : Int) ≤ (j : Int) := by omega
    have g2 : (j : Int) ≤ (cap1 : Int) := by omega
    have g3 : cap1 ≠ 0 := by omega
    have g4 : decide ((n : Int) < 12) = false := by simp; omega
    have HOP := hide hop
    clear hop Yj hbad hlj Y1 L1
    go_wp2_with fail
    refine (unhide HOP).mono ?_
    rintro e w2 ⟨rfl, hb2⟩
    have D2 := hb1.trans (hb2.mono hb1.size)
    have T2 := hT.below D2
    go_wp2_with (go_at_call 8; refine (awake_any _ T2).mono ?_; rintro e w3 ⟨rfl, b3⟩)
    go_ret
    exact ⟨rfl, D2.trans (b3.mono D2.size)⟩

theorem contract (H : Type) (enc : TypeId × Value → H) (W : World) (base : Nat) (args : Array Value) (ds gs : List (DataW H)) (before : List MemPlace)
    (hval : ∀ (j : Nat) t v, Tryd.f3.params[j]? = some t → args[j]? = some v → Value.okWide Tryd.prog W .any base t v)
    (hW : DataW.Whole enc Tryd.prog Tryd.f3.params.toList Rows.octetCutSpec.vars false W args.toList ds gs before) (hL : laidMetH Tryd.prog Rows.octetCutRow.laid W) :
    Calls Tryd.prog 3 args W fun e W' => ∃ v, e = .returned v ∧ Rows.octetCutSpec.post enc Tryd.prog Tryd.f3 false true false false W args v W' := by
  have hT : Tabs W := tabs_of hL
  have hW' := hW
  obtain ⟨p, q, hA0, hV, rfl, hfz, hnd⟩ := hW
  have hA : DataW.TrodAll enc Tryd.prog W 0 (fun _ => true) true Tryd.f3.params.toList args.toList ds p := hA0
  rw [Tryd.params3] at hA hval
  obtain ⟨v0, vs0, d0, ds0, p0, q0, hargs, rfl, rfl, h0, r0⟩ := trodAll_cons hA
  obtain ⟨v1, vs1, d1, ds1, p1, q1, rfl, rfl, rfl, h1, r1⟩ := trodAll_cons r0
  obtain ⟨rfl, rfl, rfl⟩ := trodAll_nil r1
  obtain rfl : args = #[v0, v1] := by cases args; simp_all
  obtain ⟨rfl, rfl⟩ := trodVars_none hV
  have lt0 : ∀ x ∈ p0, x.block < W.heap.size := by obtain ⟨m, hm⟩ := h0; exact DataW.trod_lt m _ _ _ hm
  have lt1 : ∀ x ∈ p1, x.block < W.heap.size := by obtain ⟨m, hm⟩ := h1; exact DataW.trod_lt m _ _ _ hm
  obtain ⟨l, hY, h256⟩ := open_bytes (hval 0 22 v0 rfl rfl) h0
  obtain ⟨x1, rfl, i1⟩ := open_i64 (hval 1 3 v1 rfl rfl) h1
  clear hA0
  refine (walk v0 l x1 W hT hY h256 i1).mono fun e W' ⟨he, bel⟩ => ?_
  subst he
  exact ⟨_, rfl, _, _, _, [], _, [], hW', trodAll_mk1 (shut_bool Tryd.underlying4 _), (trodAll_cons_mk (Below.trod laidOut (by kernel_rfl) (of_decide_eq_true (by kernel_rfl)) h0 bel lt0) (trodAll_cons_mk (Below.trod laidOut (by kernel_rfl) (of_decide_eq_true (by kernel_rfl)) h1 bel lt1) trodAll_mk0)), rfl, bel.frame _, fun h => by cases h⟩

set_option maxRecDepth 100000 in
theorem laid_here (os : Os) : laidMet Tryd.prog Rows.octetCutRow.laid ((laidWorld os).forCall (fun _ _ => 0) ⟨#[], #[.slice none 0 0, .int .i64 0], []⟩).memory :=
  laidMet_of_run' 8 (by kernel_rfl) (by kernel_rfl)
theorem reads (os : Os) {H : Type} (enc : TypeId × Value → H) : ∃ places, DataW.whole enc Tryd.prog ((laidWorld os).forCall (fun _ _ => 0) ⟨#[], #[.slice none 0 0, .int .i64 0], []⟩).memory Tryd.f3.params.toList Rows.octetCutSpec.vars false (#[.slice none 0 0, .int .i64 0] : Array Value).toList 8 = some ([.nil, .lit (.int .i64 0)], [], places) :=
  ⟨[], by kernel_rfl⟩

set_option maxRecDepth 100000 in
theorem lifted (os : Os) (started : os.Started) (H : Type) (enc : TypeId × Value → H) (F : Stop.Interp) :
    ReturnsInHanded {} Tryd.checked os 3 .any ((OpenSpec.ofChange Rows.octetCutSpec).preRow enc Tryd.prog Tryd.f3 Rows.octetCutRow.domain false Rows.octetCutRow.laid) (((OpenSpec.ofChange Rows.octetCutSpec).at F).post enc Tryd.prog Tryd.f3 false true false false) := by
  obtain ⟨places, hx⟩ := reads os enc
  refine returnsInHanded_of_row (C := Tryd.checked) (s := OpenSpec.ofChange Rows.octetCutSpec) own started (by kernel_rfl) Tryd.func3
    (witness_row_at (enc := enc) (C := Tryd.checked) false (laidWorld os) #[.slice none 0 0, .int .i64 0] rfl (by kernel_rfl) (by kernel_rfl) (by kernel_rfl)
      (OpenSpec.preRow_of_cond 8 hx (by kernel_rfl) (fun k hk => by cases hk) (by kernel_rfl) (laid_here os))) ?_
  intro W base args ds gs before hval hW _ _ _ hL _ _
  exact contract H enc W base args ds gs before hval hW hL

theorem said : Rows.OctetCutSaid :=
  OpenClaim.holds_of_cond 3 Tryd.f3 rfl rfl rfl rfl rfl rfl rfl ⟨rfl, rfl, rfl, rfl, rfl⟩ rfl rfl rfl rfl rfl (by kernel_rfl) Tryd.func3 (by kernel_rfl)
    (of_decide_eq_true (by kernel_rfl)) (by unfold Func.isWrapper; first | (rw [if_pos (by decide +kernel)]; kernel_rfl) | (rw [if_neg (by decide +kernel)]; exact ⟨rfl, rfl⟩))
    (fun os started H enc _ F => by rw [OpenClaim.pre_eq_preRow]; exact lifted os started H enc F)

theorem plain (f : FuncId) (fn : Func) (hf : Tryd.pinned.checked.prog.funcNamed "sealskin/sealskinlaw02.OctetCut" = some f) (hfn : Tryd.pinned.checked.prog.funcs[f]? = some fn) :
    false = Tryd.pinned.checked.prog.looks [] ∧ ∀ (j : Nat) t, fn.params[j]? = some t → Tryd.pinned.checked.prog.wantsStandIn t = false := by
  obtain rfl : f = 3 := Option.some.inj ((show Tryd.prog.funcNamed "sealskin/sealskinlaw02.OctetCut" = some 3 by kernel_rfl).symm.trans hf) |>.symm
  obtain rfl : fn = Tryd.f3 := (Option.some.inj (Tryd.func3.symm.trans hfn)).symm
  refine ⟨by kernel_rfl, fun j t ht => ?_⟩
  rw [Tryd.params3] at ht
  have := Array.mem_of_getElem? ht
  simp at this
  rcases this with rfl | rfl
  · exact (show Tryd.prog.wantsStandIn 22 = false by kernel_rfl)
  · exact (show Tryd.prog.wantsStandIn 3 = false by kernel_rfl)

theorem proved : Rows.OctetCutCardSaid :=
  Claim7.holds_tied_plain_at .later [] _ _ _ _ said (fun _ h => by cases h) (by kernel_rfl) (fun _ h => by cases h) octetCut_row_tie rfl ⟨rfl, rfl⟩ (by kernel_rfl) rfl plain (by kernel_rfl)
#print axioms proved
end Go.Proofs.YtbahnkomdndmkadDoor.cut
