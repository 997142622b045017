/- For any bytes the Go function sealskinlaw07.HashDigests returns true, and its argument reads as it did. No condition. -/
import Derived.Test.YtlgbkkfkobijpaaDoorRefK
import Derived.Test.YtlgbkkfkobijpaaDoorLists
namespace Go.Proofs.YtlgbkkfkobijpaaDoor.digests
set_option linter.unusedVariables false
set_option linter.unusedSimpArgs false
open Go.ChangeShapes Go.WideShapes Go.ChangeAt Go.RowKit Go.Joins

set_option maxRecDepth 100000 in
set_option maxHeartbeats 8000000 in
theorem walk (v : Value) (l : List Nat) (w : World) (hT : Tabs w) (hv : Byt w v l) (h8 : U8 l) :
    Calls Tryd.prog 3 #[v] w fun e w' => e = .returned (.bool true) ∧ Below w.heap.size w w' := by
  have HT := hide hT
  have HV := hide hv
  have H8 := hide h8
  obtain ⟨a, c, hve⟩ := byt_shape hv
  obtain ⟨n, hn⟩ : ∃ n, l.length = n := ⟨_, rfl⟩
  rw [hn] at hve
  subst hve
  have HN := hide hn
  have L1 := LL.one hv
  have b1 : Below w.heap.size w (w.alloc (.cells #[.slice a n c] 22)) := (Below.refl _ _).alloc (Nat.le_refl _) _
  have HLG := hide (long_any _ _ _ L1)
  have HB1 := hide b1
  clear hT hv h8 hn L1 b1
  go_enter Tryd.func3, Tryd.ntmps3
  go_wp2_with fail
  generalize w.alloc (.cells #[.slice a n c] 22) = w1 at *
  refine Calls.mono (unhide HLG) ?_
  rintro e wx ⟨b, rfl, hlong, rfl⟩
  cases b
  · have hlen : l.length ≤ 4096 := by have := hlong rfl; simpa [flat] using this
    have HL := hide hlen
    have HCL := hide (clone_any _ l w1 ((unhide HV).call (unhide HB1)) (by omega))
    clear hlong hlen HLG
    go_wp2_with fail
    refine Calls.mono (unhide HCL) ?_
    rintro e w2 ⟨v2, rfl, ho2, b2⟩
    have B2 := (unhide HB1).trans (b2.mono (unhide HB1).size)
    have V2 := Byt.of_own ho2
    obtain ⟨a2, c2, hve2⟩ := byt_shape V2
    rw [unhide HN] at hve2
    subst hve2
    have L3 := LL.one V2
    have b3 : Below w2.heap.size w2 (w2.alloc (.cells #[.slice a2 n c2] 22)) := (Below.refl _ _).alloc (Nat.le_refl _) _
    have B3 := B2.trans (b3.mono B2.size)
    have eF : flat [(Value.slice a2 n c2, l)] = l := by simp [flat]
    have HOF := hide (of_any _ _ _ ((unhide HT).below B3) L3 (fun x hx => by obtain rfl := List.mem_singleton.1 hx; exact unhide H8) (by rw [eF]; have := unhide HL; omega))
    rw [eF] at HOF
    have HV3 := hide (V2.call b3)
    have HB3 := hide B3
    clear ho2 b2 B2 V2 L3 b3 B3 eF HCL
    go_wp2_with fail
    generalize w2.alloc (.cells #[.slice a2 n c2] 22) = w3 at *
    refine Calls.mono (unhide HOF) ?_
    rintro e w4 ⟨rfl, b4⟩
    have B4 := (unhide HB3).trans (b4.mono (unhide HB3).size)
    have HDG := hide (digest_any (.slice none 0 0) (.slice a n c) [] l w4 (.inl ⟨rfl, rfl⟩) ((unhide HV).call B4) (fun y hy => by cases hy) (unhide H8) (by simp) (by have := unhide HL; omega))
    have e0 : sumL (stW ([] : List Nat).length) (kblk [] ++ l) = sumL (stW 0) l := rfl
    rw [e0] at HDG
    obtain ⟨X, hX⟩ : ∃ X, bv (sumL (stW 0) l) = X := ⟨_, rfl⟩
    have q1 := eq_sum (sumL (stW 0) l) (sumL_len _ _)
    rw [hX] at HDG q1 ⊢
    have HV4 := hide ((unhide HV3).call b4)
    have HB4 := hide B4
    clear b4 B4 e0 hX HOF HV3 HB3
    go_wp2_with fail
    refine Calls.mono (unhide HDG) ?_
    rintro e w5 ⟨rfl, b5⟩
    have B5 := (unhide HB4).trans (b5.mono (unhide HB4).size)
    have HEQ := hide (equal_any _ _ l l w5 ((unhide HV4).call b5) ((unhide HV).call B5) (unhide H8) (unhide H8))
    have hbt : ((strOf l).toList == (strOf l).toList) = true := beq_self_eq_true _
    rw [hbt] at HEQ
    have HAW := hide (awake_any w5 ((unhide HT).below B5))
    have HB5 := hide B5
    clear b5 B5 HDG HV4 HB4 hbt
    go_wp2_with fail
    refine Calls.mono (unhide HEQ) ?_
    rintro e wx ⟨rfl, rfl⟩
    go_wp2_with fail
    refine Calls.mono (unhide HAW) ?_
    rintro e w6 ⟨rfl, b6⟩
    go_wp2_with fail
    go_ret
    exact ⟨rfl, (unhide HB5).trans (b6.mono (unhide HB5).size)⟩
  · have HAW := hide (awake_any w1 ((unhide HT).below (unhide HB1)))
    go_wp2_with fail
    refine Calls.mono (unhide HAW) ?_
    rintro e w3 ⟨rfl, b3⟩
    go_wp2_with fail
    go_ret
    exact ⟨rfl, (unhide HB1).trans (b3.mono (unhide HB1).size)⟩

theorem contract (H : Type) (enc : TypeId × Value → H) (W : World) (base : Nat) (args : Array Value) (ds gs : List (DataW H)) (before : List MemPlace)
    (hval : ∀ (j : Nat) t v, Tryd.f3.params[j]? = some t → args[j]? = some v → Value.okWide Tryd.prog W .any base t v)
    (hW : DataW.Whole enc Tryd.prog Tryd.f3.params.toList Rows.hashDigestsSpec.vars false W args.toList ds gs before) (hL : laidMetH Tryd.prog Rows.hashDigestsRow.laid W) :
    Calls Tryd.prog 3 args W fun e W' => ∃ v, e = .returned v ∧ Rows.hashDigestsSpec.post enc Tryd.prog Tryd.f3 false true false false W args v W' := by
  have hT : Tabs W := tabs_of hL
  have hW' := hW
  obtain ⟨p, q, hA0, hV, rfl, hfz, hnd⟩ := hW
  have hA : DataW.TrodAll enc Tryd.prog W 0 (fun _ => true) true Tryd.f3.params.toList args.toList ds p := hA0
  rw [Tryd.params3] at hA hval
  obtain ⟨v0, vs0, d0, ds0, p0, q0, hargs, rfl, rfl, h0, r0⟩ := trodAll_cons hA
  obtain ⟨rfl, rfl, rfl⟩ := trodAll_nil r0
  obtain rfl : args = #[v0] := by cases args; simp_all
  obtain ⟨rfl, rfl⟩ := trodVars_none hV
  have lt0 : ∀ x ∈ p0, x.block < W.heap.size := by obtain ⟨m, hm⟩ := h0; exact DataW.trod_lt m _ _ _ hm
  obtain ⟨l0, hY0, h2560⟩ := open_bytes (hval 0 22 v0 rfl rfl) h0
  clear hA0
  refine (walk v0 l0 W hT hY0 h2560).mono fun e W' ⟨he, bel⟩ => ?_
  subst he
  exact ⟨_, rfl, _, _, _, [], _, [], hW', trodAll_mk1 (shut_bool Tryd.underlying4 _), (trodAll_cons_mk (Below.trod laidOut (by kernel_rfl) (of_decide_eq_true (by kernel_rfl)) h0 bel lt0) trodAll_mk0), rfl, bel.frame _, fun h => by cases h⟩

set_option maxRecDepth 100000 in
theorem laid_here (os : Os) : laidMet Tryd.prog Rows.hashDigestsRow.laid ((laidWorld os).forCall (fun _ _ => 0) ⟨#[], #[.slice none 0 0], []⟩).memory :=
  laidMet_of_run' 8 (by kernel_rfl) (by kernel_rfl)
theorem reads (os : Os) {H : Type} (enc : TypeId × Value → H) : ∃ places, DataW.whole enc Tryd.prog ((laidWorld os).forCall (fun _ _ => 0) ⟨#[], #[.slice none 0 0], []⟩).memory Tryd.f3.params.toList Rows.hashDigestsSpec.vars false (#[.slice none 0 0] : Array Value).toList 8 = some ([.nil], [], places) :=
  ⟨[], by kernel_rfl⟩

set_option maxRecDepth 100000 in
theorem lifted (os : Os) (started : os.Started) (H : Type) (enc : TypeId × Value → H) (F : Stop.Interp) :
    ReturnsInHanded {} Tryd.checked os 3 .any ((OpenSpec.ofChange Rows.hashDigestsSpec).preRow enc Tryd.prog Tryd.f3 Rows.hashDigestsRow.domain false Rows.hashDigestsRow.laid) (((OpenSpec.ofChange Rows.hashDigestsSpec).at F).post enc Tryd.prog Tryd.f3 false true false false) := by
  obtain ⟨places, hx⟩ := reads os enc
  refine returnsInHanded_of_row (C := Tryd.checked) (s := OpenSpec.ofChange Rows.hashDigestsSpec) own started (by kernel_rfl) Tryd.func3
    (witness_row_at (enc := enc) (C := Tryd.checked) false (laidWorld os) #[.slice none 0 0] rfl (by kernel_rfl) (by kernel_rfl) (by kernel_rfl)
      (OpenSpec.preRow_of_cond 8 hx (by kernel_rfl) (fun k hk => by cases hk) (by kernel_rfl) (laid_here os))) ?_
  intro W base args ds gs before hval hW _ _ _ hL _ _
  exact contract H enc W base args ds gs before hval hW hL

theorem said : Rows.HashDigestsSaid :=
  OpenClaim.holds_of_cond 3 Tryd.f3 rfl rfl rfl rfl rfl rfl rfl ⟨rfl, rfl, rfl, rfl, rfl⟩ rfl rfl rfl rfl rfl (by kernel_rfl) Tryd.func3 (by kernel_rfl)
    (of_decide_eq_true (by kernel_rfl)) (by unfold Func.isWrapper; first | (rw [if_pos (by decide +kernel)]; kernel_rfl) | (rw [if_neg (by decide +kernel)]; exact ⟨rfl, rfl⟩))
    (fun os started H enc _ F => by rw [OpenClaim.pre_eq_preRow]; exact lifted os started H enc F)

theorem plain (f : FuncId) (fn : Func) (hf : Tryd.pinned.checked.prog.funcNamed "sealskin/sealskinlaw07.HashDigests" = some f) (hfn : Tryd.pinned.checked.prog.funcs[f]? = some fn) :
    false = Tryd.pinned.checked.prog.looks [] ∧ ∀ (j : Nat) t, fn.params[j]? = some t → Tryd.pinned.checked.prog.wantsStandIn t = false := by
  obtain rfl : f = 3 := Option.some.inj ((show Tryd.prog.funcNamed "sealskin/sealskinlaw07.HashDigests" = some 3 by kernel_rfl).symm.trans hf) |>.symm
  obtain rfl : fn = Tryd.f3 := (Option.some.inj (Tryd.func3.symm.trans hfn)).symm
  refine ⟨by kernel_rfl, fun j t ht => ?_⟩
  rw [Tryd.params3] at ht
  obtain rfl : t = 22 := by simpa using Array.mem_of_getElem? ht
  exact (show Tryd.prog.wantsStandIn 22 = false by kernel_rfl)

theorem proved : Rows.HashDigestsCardSaid :=
  Claim7.holds_tied_plain_at .later [] _ _ _ _ said (fun _ h => by cases h) (by kernel_rfl) (fun _ h => by cases h) hashDigests_row_tie rfl ⟨rfl, rfl⟩ (by kernel_rfl) rfl plain (by kernel_rfl)
#print axioms proved

end Go.Proofs.YtlgbkkfkobijpaaDoor.digests
