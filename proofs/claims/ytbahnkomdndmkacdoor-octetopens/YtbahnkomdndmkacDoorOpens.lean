/- OctetOpens: whatever bytes come, the block with which they begin, or why there is none, and all of them, are what the document says; for every input. -/
import Derived.Test.YtbahnkomdndmkacDoorEq
import Derived.Test.YtbahnkomdndmkacDoorForm0

namespace Go.Proofs.YtbahnkomdndmkacDoor.opens
set_option linter.unusedVariables false
set_option linter.unusedSimpArgs false
open Go.ChangeShapes Go.WideShapes Go.ChangeAt Go.RowKit Go.Joins

theorem _root_.Go.Proofs.YtbahnkomdndmkacDoor.From.mem256 {l : List Nat} {k : Nat} {ds : List (List Nat)} {j : Nat} (h : From l k ds j) (hl : ∀ y ∈ l, y < 256) : ∀ d ∈ ds, ∀ y ∈ d, y < 256 := by
  induction h with
  | stop _ => intro d hd; cases hd
  | more _ _ ih =>
    intro d hd y hy
    rcases List.mem_cons.1 hd with rfl | hd
    · exact hl y (List.mem_of_mem_drop (List.mem_of_mem_take hy))
    · exact ih d hd y hy

set_option maxRecDepth 100000 in
set_option maxHeartbeats 4000000 in
theorem walk (v : Value) (l : List Nat) (w : World) (hT : Tabs w) (hv : Byt w v l) (h256 : ∀ y ∈ l, y < 256) :
    Calls Tryd.prog 5 #[v] w fun e w' => e = .returned (.bool true) ∧ Below w.heap.size w w' := by
  have H256 := hide h256
  have HV := hide hv
  clear h256
  obtain ⟨a, cap, rfl⟩ := byt_shape hv
  by_cases hlen : 32768 < l.length
  · have t1 : decide ((32768 : Int) < (l.length : Int)) = true := by simp; omega
    clear hv
    go_enter Tryd.func5, Tryd.ntmps5
    go_wp2_with (go_at_call 9; refine (awake_any _ hT).mono ?_; rintro e w3 ⟨rfl, b3⟩)
    go_ret
    exact ⟨rfl, b3⟩
  · have t1 : decide ((32768 : Int) < (l.length : Int)) = false := by simp; omega
    have hs := hide (clone_any _ l w hv (by omega))
    have hcs := cases l
    obtain ⟨n, hn⟩ : ∃ n, l.length = n := ⟨_, rfl⟩
    have HN := hide hn
    rw [hn] at t1 hs HV hlen ⊢
    clear hv hn
    go_enter Tryd.func5, Tryd.ntmps5
    go_wp2_with fail
    refine (unhide hs).mono ?_
    rintro e w1 ⟨v1, rfl, ho1, D1⟩
    have HG := hide (Byt.of_own (own_cast ho1 (unhide HN).symm rfl))
    obtain ⟨a1, c1, rfl⟩ := byt_shape (unhide HG)
    rw [unhide HN] at HG ⊢
    clear ho1
    have HZ := trivial
    rcases hcs with ⟨m, hg⟩ | ⟨e0, hbad⟩
    · have HGO := hide hg
      have hln := unhide HN
      have HML : Hid (((l.drop 8).take m).length = m) := hide (by have := hg.2.1; rw [List.length_take, List.length_drop]; omega)
      have HOP := hide (open_any _ _ _ l w1 (unhide HG) (byt_low (unhide HG)) (by omega) (unhide H256) m hg.1 (by have := hg.2.1; omega) hg.2.2.1 hg.2.2.2)
      clear HZ
      go_wp2_with fail
      refine Calls.mono (unhide HOP) ?_
      rintro e w2 ⟨v2, rfl, hd2, hb2⟩
      have D2 := D1.trans (hb2.mono D1.size)
      have HV2 := hide ((unhide HV).call D2)
      have HG2 := hide ((unhide HG).call (hb2))
      have HRO := hide (refopen_good _ _ _ l w2 (unhide HV2) (byt_low (unhide HV2)) (by omega) (unhide H256) m (unhide HGO))
      have HD2 := hide hd2
      go_wp2_with fail
      refine (unhide HRO).mono ?_
      rintro e w3 ⟨v3, rfl, ho3, hb3⟩
      have D3 := D2.trans (hb3.mono D2.size)
      have HG3 := hide ((unhide HG2).call hb3)
      have HD3 := hide ((unhide HD2).call hb3)
      have HO3 := hide (Byt.of_own (own_cast ho3 (unhide HML).symm rfl))
      obtain ⟨a2, c2, hv2⟩ := byt_shape (unhide HD2)
      rw [unhide HML] at hv2
      subst hv2
      obtain ⟨a3, c3, hv3⟩ := byt_shape (unhide HO3)
      rw [unhide HML] at hv3
      subst hv3
      clear hd2 ho3
      have HAL := hide (all_any _ _ _ l w3 (unhide HG3) (byt_low (unhide HG3)) (by omega) (unhide H256))
      go_wp2_with fail
      refine (unhide HAL).mono ?_
      rintro e w4 ⟨v4, ds, j, rfl, hls, hfr, hj, hdl, hb4⟩
      have D4 := D3.trans (hb4.mono D3.size)
      have HV4 := hide ((unhide HV).call D4)
      have HRA := hide (refall_any _ _ _ l w4 (unhide HV4) (byt_low (unhide HV4)) (by omega) (unhide H256))
      go_wp2_with fail
      refine (unhide HRA).mono ?_
      rintro e w5 ⟨v5, ds', j', rfl, hls', hfr', _, _, hb5⟩
      obtain ⟨rfl, rfl⟩ := hfr.same hfr'
      have D5 := D4.trans (hb5.mono D4.size)
      have T5 := hT.below D5
      have B45 := hb4.trans (hb5.mono hb4.size)
      have HEF := hide (eqfunc_any _ _ _ _ _ w5 (hls.below hb5) hls' (by omega) (hfr.mem256 (unhide H256)))
      have HE1 := hide (equal_same _ _ _ w5 ((unhide HD3).call B45) ((unhide HO3).call B45) (fun y hy => unhide H256 y (List.mem_of_mem_drop (List.mem_of_mem_take hy))))
      have HE2 := hide (equal_same _ _ _ w5 ((unhide HG3).call B45) ((unhide HV).call D5) (unhide H256))
      clear hls hls' hfr hfr'
      go_wp2_with fail
      refine Calls.mono (unhide HE1) ?_
      rintro e w' ⟨rfl, rfl⟩
      go_wp2_with fail
      refine Calls.mono (unhide HEF) ?_
      rintro e w' ⟨rfl, rfl⟩
      go_wp2_with fail
      refine Calls.mono (unhide HE2) ?_
      rintro e w' ⟨rfl, rfl⟩
      go_wp2_with fail
      refine Calls.mono (awake_any _ T5) ?_
      rintro e w6 ⟨rfl, hb6⟩
      go_wp2_with fail
      go_ret
      exact ⟨by rfl, D5.trans (hb6.mono D5.size)⟩
    · have HBA := hide hbad
      have hln := unhide HN
      have HOP := hide (open_bad _ _ _ l e0 w1 (unhide HG) (byt_low (unhide HG)) (by omega) (unhide H256) hbad)
      clear HZ
      go_wp2_with fail
      refine Calls.mono (unhide HOP) ?_
      rintro e w2 ⟨rfl, hb2⟩
      have D2 := D1.trans (hb2.mono D1.size)
      have HV2 := hide ((unhide HV).call D2)
      have HG2 := hide ((unhide HG).call (hb2))
      have HRO := hide (refopen_bad _ _ _ l e0 w2 (unhide HV2) (byt_low (unhide HV2)) (by omega) (unhide H256) (unhide HBA))
      skip
      go_wp2_with fail
      refine (unhide HRO).mono ?_
      rintro e w3 ⟨rfl, hb3⟩
      have D3 := D2.trans (hb3.mono D2.size)
      have HG3 := hide ((unhide HG2).call hb3)
      skip
      have HAL := hide (all_any _ _ _ l w3 (unhide HG3) (byt_low (unhide HG3)) (by omega) (unhide H256))
      go_wp2_with fail
      refine (unhide HAL).mono ?_
      rintro e w4 ⟨v4, ds, j, rfl, hls, hfr, hj, hdl, hb4⟩
      have D4 := D3.trans (hb4.mono D3.size)
      have HV4 := hide ((unhide HV).call D4)
      have HRA := hide (refall_any _ _ _ l w4 (unhide HV4) (byt_low (unhide HV4)) (by omega) (unhide H256))
      go_wp2_with fail
      refine (unhide HRA).mono ?_
      rintro e w5 ⟨v5, ds', j', rfl, hls', hfr', _, _, hb5⟩
      obtain ⟨rfl, rfl⟩ := hfr.same hfr'
      have D5 := D4.trans (hb5.mono D4.size)
      have T5 := hT.below D5
      have B45 := hb4.trans (hb5.mono hb4.size)
      have HEF := hide (eqfunc_any _ _ _ _ _ w5 (hls.below hb5) hls' (by omega) (hfr.mem256 (unhide H256)))
      have HE1 := hide (equal_same (.slice none 0 0) (.slice none 0 0) [] w5 (.inl ⟨rfl, rfl⟩) (.inl ⟨rfl, rfl⟩) (fun y hy => by cases hy))
      have HE2 := hide (equal_same _ _ _ w5 ((unhide HG3).call B45) ((unhide HV).call D5) (unhide H256))
      clear hls hls' hfr hfr'
      go_wp2_with fail
      refine Calls.mono (unhide HE1) ?_
      rintro e w' ⟨rfl, rfl⟩
      go_wp2_with fail
      refine Calls.mono (unhide HEF) ?_
      rintro e w' ⟨rfl, rfl⟩
      go_wp2_with fail
      refine Calls.mono (unhide HE2) ?_
      rintro e w' ⟨rfl, rfl⟩
      go_wp2_with fail
      refine Calls.mono (awake_any _ T5) ?_
      rintro e w6 ⟨rfl, hb6⟩
      go_wp2_with fail
      go_ret
      exact ⟨by rfl, D5.trans (hb6.mono D5.size)⟩

theorem contract (H : Type) (enc : TypeId × Value → H) (W : World) (base : Nat) (args : Array Value) (ds gs : List (DataW H)) (before : List MemPlace)
    (hval : ∀ (j : Nat) t v, Tryd.f5.params[j]? = some t → args[j]? = some v → Value.okWide Tryd.prog W .any base t v)
    (hW : DataW.Whole enc Tryd.prog Tryd.f5.params.toList Rows.octetOpensSpec.vars false W args.toList ds gs before) (hL : laidMetH Tryd.prog Rows.octetOpensRow.laid W) :
    Calls Tryd.prog 5 args W fun e W' => ∃ v, e = .returned v ∧ Rows.octetOpensSpec.post enc Tryd.prog Tryd.f5 false true false false W args v W' := by
  have hT : Tabs W := tabs_of hL
  have hW' := hW
  obtain ⟨p, q, hA0, hV, rfl, hfz, hnd⟩ := hW
  have hA : DataW.TrodAll enc Tryd.prog W 0 (fun _ => true) true Tryd.f5.params.toList args.toList ds p := hA0
  rw [Tryd.params5] at hA hval
  obtain ⟨v0, vs0, d0, ds0, p0, q0, hargs, rfl, rfl, h0, r0⟩ := trodAll_cons hA
  obtain ⟨rfl, rfl, rfl⟩ := trodAll_nil r0
  obtain rfl : args = #[v0] := by cases args; simp_all
  obtain ⟨rfl, rfl⟩ := trodVars_none hV
  have lt0 : ∀ x ∈ p0, x.block < W.heap.size := by obtain ⟨m, hm⟩ := h0; exact DataW.trod_lt m _ _ _ hm
  obtain ⟨l, hY, h256⟩ := open_bytes (hval 0 22 v0 rfl rfl) h0
  clear hA0
  refine (walk v0 l W hT hY h256).mono fun e W' ⟨he, bel⟩ => ?_
  subst he
  exact ⟨_, rfl, _, _, _, [], _, [], hW', trodAll_mk1 (shut_bool Tryd.underlying4 _), (trodAll_cons_mk (Below.trod laidOut (by kernel_rfl) (of_decide_eq_true (by kernel_rfl)) h0 bel lt0) trodAll_mk0), rfl, bel.frame _, fun h => by cases h⟩

set_option maxRecDepth 100000 in
theorem laid_here (os : Os) : laidMet Tryd.prog Rows.octetOpensRow.laid ((laidWorld os).forCall (fun _ _ => 0) ⟨#[], #[.slice none 0 0], []⟩).memory :=
  laidMet_of_run' 8 (by kernel_rfl) (by kernel_rfl)
theorem reads (os : Os) {H : Type} (enc : TypeId × Value → H) : ∃ places, DataW.whole enc Tryd.prog ((laidWorld os).forCall (fun _ _ => 0) ⟨#[], #[.slice none 0 0], []⟩).memory Tryd.f5.params.toList Rows.octetOpensSpec.vars false (#[.slice none 0 0] : Array Value).toList 8 = some ([.nil], [], places) :=
  ⟨[], by kernel_rfl⟩

set_option maxRecDepth 100000 in
theorem lifted (os : Os) (started : os.Started) (H : Type) (enc : TypeId × Value → H) (F : Stop.Interp) :
    ReturnsInHanded {} Tryd.checked os 5 .any ((OpenSpec.ofChange Rows.octetOpensSpec).preRow enc Tryd.prog Tryd.f5 Rows.octetOpensRow.domain false Rows.octetOpensRow.laid) (((OpenSpec.ofChange Rows.octetOpensSpec).at F).post enc Tryd.prog Tryd.f5 false true false false) := by
  obtain ⟨places, hx⟩ := reads os enc
  refine returnsInHanded_of_row (C := Tryd.checked) (s := OpenSpec.ofChange Rows.octetOpensSpec) own started (by kernel_rfl) Tryd.func5
    (witness_row_at (enc := enc) (C := Tryd.checked) false (laidWorld os) #[.slice none 0 0] rfl (by kernel_rfl) (by kernel_rfl) (by kernel_rfl)
      (OpenSpec.preRow_of_cond 8 hx (by kernel_rfl) (fun k hk => by cases hk) (by kernel_rfl) (laid_here os))) ?_
  intro W base args ds gs before hval hW _ _ _ hL _ _
  exact contract H enc W base args ds gs before hval hW hL

theorem said : Rows.OctetOpensSaid :=
  OpenClaim.holds_of_cond 5 Tryd.f5 rfl rfl rfl rfl rfl rfl rfl ⟨rfl, rfl, rfl, rfl, rfl⟩ rfl rfl rfl rfl rfl (by kernel_rfl) Tryd.func5 (by kernel_rfl)
    (of_decide_eq_true (by kernel_rfl)) (by unfold Func.isWrapper; first | (rw [if_pos (by decide +kernel)]; kernel_rfl) | (rw [if_neg (by decide +kernel)]; exact ⟨rfl, rfl⟩))
    (fun os started H enc _ F => by rw [OpenClaim.pre_eq_preRow]; exact lifted os started H enc F)

theorem plain (f : FuncId) (fn : Func) (hf : Tryd.pinned.checked.prog.funcNamed "sealskin/sealskinlaw02.OctetOpens" = some f) (hfn : Tryd.pinned.checked.prog.funcs[f]? = some fn) :
    false = Tryd.pinned.checked.prog.looks [] ∧ ∀ (j : Nat) t, fn.params[j]? = some t → Tryd.pinned.checked.prog.wantsStandIn t = false := by
  obtain rfl : f = 5 := Option.some.inj ((show Tryd.prog.funcNamed "sealskin/sealskinlaw02.OctetOpens" = some 5 by kernel_rfl).symm.trans hf) |>.symm
  obtain rfl : fn = Tryd.f5 := (Option.some.inj (Tryd.func5.symm.trans hfn)).symm
  refine ⟨by kernel_rfl, fun j t ht => ?_⟩
  rw [Tryd.params5] at ht
  obtain rfl : t = 22 := by simpa using Array.mem_of_getElem? ht
  exact (show Tryd.prog.wantsStandIn 22 = false by kernel_rfl)

theorem proved : Rows.OctetOpensCardSaid :=
  Claim7.holds_tied_plain_at .later [] _ _ _ _ said (fun _ h => by cases h) (by kernel_rfl) (fun _ h => by cases h) octetOpens_row_tie rfl ⟨rfl, rfl⟩ (by kernel_rfl) rfl plain (by kernel_rfl)
#print axioms proved
end Go.Proofs.YtbahnkomdndmkacDoor.opens
