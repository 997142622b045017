/- For any bytes and any two numbers the Go function sealskinlaw02.OctetTurned returns true, and its arguments read as they did. No condition. -/
import Derived.Test.YtbahnkomdndmkacDoorCases
import Derived.Laws.OwnMore
namespace Go.Proofs.YtbahnkomdndmkacDoor.turned
set_option linter.unusedVariables false
set_option linter.unusedSimpArgs false
open Go.ChangeShapes Go.WideShapes Go.ChangeAt Go.RowKit Go.Joins

theorem turn_y (c : Nat) (x : Int) (hc : c < 256) : ∃ y : Nat, bits .xor .u8 (c : Int) (IntKind.u64.wrap (1 + (IntKind.u64.wrap x).tmod 255) % 256) = (y : Int) ∧ y < 256 ∧ y ≠ c := by
  have h0 : 0 ≤ IntKind.u64.wrap x := wrap_u64_nonneg x
  rw [Int.tmod_eq_emod_of_nonneg h0]
  have g1 := Int.emod_nonneg (IntKind.u64.wrap x) (show (255 : Int) ≠ 0 by omega)
  have g2 := Int.emod_lt_of_pos (IntKind.u64.wrap x) (show (0 : Int) < 255 by omega)
  generalize IntKind.u64.wrap x % 255 = r at *
  have e : IntKind.u64.wrap (1 + r) = 1 + r := by simp [IntKind.wrap, IntKind.bits, IntKind.signed]; omega
  rw [e]
  obtain ⟨z, hz⟩ : ∃ z : Nat, (1 + r) % 256 = (z : Int) := ⟨((1 + r) % 256).toNat, by omega⟩
  rw [hz, u8_xor_nat c z hc (by omega)]
  refine ⟨c ^^^ z, rfl, Nat.xor_lt_two_pow (n := 8) hc (by omega), fun h => ?_⟩
  have hz0 : z = 0 := by
    have := congrArg (c ^^^ ·) h
    simpa [← Nat.xor_assoc] using this
  omega

set_option maxHeartbeats 2000000 in
theorem walk (v : Value) (l : List Nat) (k x : Int) (w : World) (hT : Tabs w) (hv : Byt w v l) (h256 : ∀ y ∈ l, y < 256) (hk : -9223372036854775808 ≤ k ∧ k ≤ 9223372036854775807) (hx : -9223372036854775808 ≤ x ∧ x ≤ 9223372036854775807) :
    Calls Tryd.prog 8 #[v, .int .i64 k, .int .i64 x] w fun e w' => e = .returned (.bool true) ∧ Below w.heap.size w w' := by
  have H256 := hide h256
  clear h256
  by_cases hlen : 16384 < l.length
  · obtain ⟨a, cap, rfl⟩ := byt_shape hv
    have hs := seal_long a l.length cap w (by omega)
    have t1 : decide ((16384 : Int) < (l.length : Int)) = true := by simp; omega
    clear hv
    go_enter Tryd.func8, Tryd.ntmps8
    go_wp2_with (first
      | (go_at_call 11; refine hs.mono ?_; rintro e w' ⟨rfl, rfl⟩)
      | (go_at_call 9; refine (awake_any _ hT).mono ?_; rintro e w3 ⟨rfl, b3⟩))
    go_ret
    exact ⟨rfl, b3⟩
  · have hs := seal_any v l w hv (unhide H256) (by omega)
    obtain ⟨a, cap, rfl⟩ := byt_shape hv
    have HSL := hide (seal_len l)
    clear hv
    go_enter Tryd.func8, Tryd.ntmps8
    go_wp2_with fail
    refine hs.mono ?_
    rintro e w1 ⟨v1, rfl, ho1, hb1⟩
    clear hs
    obtain ⟨n, hn⟩ : ∃ n, (sealB l).length = n := ⟨_, rfl⟩
    have hn12 : 12 ≤ n := by rw [← hn, unhide HSL]; omega
    have hnle : n ≤ 16396 := by rw [← hn, unhide HSL]; omega
    rw [hn] at ho1
    obtain ⟨g1, cap1, rfl⟩ := ownsRow_form ho1 (by omega)
    obtain ⟨j, hj, hjn⟩ := cut_j k n hn12 hnle
    have hcell := ho1.cellAt j (by omega)
    have hfro := ho1.frozenAt j
    have HO := hide ho1
    clear ho1
    have T1 := hT.below hb1
    have q1 : (0 : Int) ≤ (j : Int) := by omega
    have g4 : decide ((n : Int) < 12) = false := by simp; omega
    obtain ⟨c, hc⟩ : ∃ c, (sealB l)[j]? = some c := ⟨_, List.getElem?_eq_getElem (by rw [hn]; exact hjn)⟩
    have hcell2 : w1.cell? ⟨g1, j, none⟩ = some (.int .u8 (c : Int)) := by
      rw [hcell, bv, List.getElem?_map, hc]; rfl
    clear hcell
    go_wp2_with fail
    have hc256 : c < 256 := seal_256 (unhide H256) c (List.mem_of_getElem? hc)
    obtain ⟨y, hy, hy256, hyc⟩ := turn_y c x hc256
    rw [hy]
    have hst := (unhide HO).stored j (.int .u8 (y : Int))
    have hbs : Below w.heap.size w1 (w1.setCell ⟨g1, j, none⟩ (.int .u8 (y : Int))) := (Below.refl _ _).setCell ((unhide HO).lt g1 rfl).1 _
    have hlt : j < (sealB l).length := by rw [hn]; exact hjn
    have hset : (bv (sealB l)).set j (.int .u8 (y : Int)) = bv ((sealB l).set j y) := by
      rw [bv, bv, List.map_set]; rfl
    have hln : ((sealB l).set j y).length = n := by rw [List.length_set, hn]
    have Y := Byt.of_own (own_cast (hset ▸ hst.1) hln.symm rfl)
    have h256s : ∀ z ∈ (sealB l).set j y, z < 256 := fun z hz => by
      rcases List.mem_or_eq_of_mem_set hz with hz | rfl
      · exact seal_256 (unhide H256) z hz
      · exact hy256
    have hne : (sealB l)[j]? ≠ some y := by rw [hc]; intro h; exact hyc (Option.some.inj h).symm
    have hturn := fun m hg => turned_bad l j y (unhide H256) (by omega) hlt hy256 hne m hg
    have D1 := hb1.trans hbs
    generalize w1.setCell ⟨g1, j, none⟩ (.int .u8 (y : Int)) = w2 at *
    generalize hL : (sealB l).set j y = L at *
    clear hst hset hcell2 hfro hy hL
    have YL := byt_low Y
    rcases cases L with ⟨m, hg⟩ | ⟨e0, hbad⟩
    · have hm := hturn m hg
      have hop := open_any (some ⟨g1, 0, none⟩) n cap1 L w2 Y YL (by omega) h256s m hg.1 (by have := hg.2.1; omega) hg.2.2.1 hg.2.2.2
      have HOP := hide hop
      have t1 : ((((8 + m + 4 : Nat) : Int)) != (n : Int)) = true := by
        rw [hn] at hm
        simp
        omega
      clear hop Y YL hturn hg
      refine (unhide HOP).mono ?_
      rintro e w3 ⟨v3, rfl, _, hb3⟩
      have D3 := D1.trans (hb3.mono D1.size)
      have T3 := hT.below D3
      obtain ⟨M, hM⟩ : ∃ M : Int, ((8 + m + 4 : Nat) : Int) = M := ⟨_, rfl⟩
      rw [hM] at t1 ⊢
      go_wp2_with (go_at_call 9; refine (awake_any _ T3).mono ?_; rintro e w4 ⟨rfl, b4⟩)
      go_ret
      exact ⟨rfl, D3.trans (b4.mono D3.size)⟩
    · have hop := open_bad (some ⟨g1, 0, none⟩) n cap1 L e0 w2 Y YL (by omega) h256s hbad
      have hpos := badBlock_pos hbad
      have t1 : (e0 != 0) = true := by simpa using hpos
      have HOP := hide hop
      clear hop Y YL hturn hbad
      refine (unhide HOP).mono ?_
      rintro e w3 ⟨rfl, hb3⟩
      have D3 := D1.trans (hb3.mono D1.size)
      have T3 := hT.below D3
      go_wp2_with (go_at_call 9; refine (awake_any _ T3).mono ?_; rintro e w4 ⟨rfl, b4⟩)
      go_ret
      exact ⟨rfl, D3.trans (b4.mono D3.size)⟩
theorem contract (H : Type) (enc : TypeId × Value → H) (W : World) (base : Nat) (args : Array Value) (ds gs : List (DataW H)) (before : List MemPlace)
    (hval : ∀ (j : Nat) t v, Tryd.f8.params[j]? = some t → args[j]? = some v → Value.okWide Tryd.prog W .any base t v)
    (hW : DataW.Whole enc Tryd.prog Tryd.f8.params.toList Rows.octetTurnedSpec.vars false W args.toList ds gs before) (hL : laidMetH Tryd.prog Rows.octetTurnedRow.laid W) :
    Calls Tryd.prog 8 args W fun e W' => ∃ v, e = .returned v ∧ Rows.octetTurnedSpec.post enc Tryd.prog Tryd.f8 false true false false W args v W' := by
  have hT : Tabs W := tabs_of hL
  have hW' := hW
  obtain ⟨p, q, hA0, hV, rfl, hfz, hnd⟩ := hW
  have hA : DataW.TrodAll enc Tryd.prog W 0 (fun _ => true) true Tryd.f8.params.toList args.toList ds p := hA0
  rw [Tryd.params8] at hA hval
  obtain ⟨v0, vs0, d0, ds0, p0, q0, hargs, rfl, rfl, h0, r0⟩ := trodAll_cons hA
  obtain ⟨v1, vs1, d1, ds1, p1, q1, rfl, rfl, rfl, h1, r1⟩ := trodAll_cons r0
  obtain ⟨v2, vs2, d2, ds2, p2, q2, rfl, rfl, rfl, h2, r2⟩ := trodAll_cons r1
  obtain ⟨rfl, rfl, rfl⟩ := trodAll_nil r2
  obtain rfl : args = #[v0, v1, v2] := by cases args; simp_all
  obtain ⟨rfl, rfl⟩ := trodVars_none hV
  have lt0 : ∀ x ∈ p0, x.block < W.heap.size := by obtain ⟨m, hm⟩ := h0; exact DataW.trod_lt m _ _ _ hm
  have lt1 : ∀ x ∈ p1, x.block < W.heap.size := by obtain ⟨m, hm⟩ := h1; exact DataW.trod_lt m _ _ _ hm
  have lt2 : ∀ x ∈ p2, x.block < W.heap.size := by obtain ⟨m, hm⟩ := h2; exact DataW.trod_lt m _ _ _ hm
  obtain ⟨l, hY, h256⟩ := open_bytes (hval 0 22 v0 rfl rfl) h0
  obtain ⟨x1, rfl, i1⟩ := open_i64 (hval 1 3 v1 rfl rfl) h1
  obtain ⟨x2, rfl, i2⟩ := open_i64 (hval 2 3 v2 rfl rfl) h2
  clear hA0
  refine (walk v0 l x1 x2 W hT hY h256 i1 i2).mono fun e W' ⟨he, bel⟩ => ?_
  subst he
  exact ⟨_, rfl, _, _, _, [], _, [], hW', trodAll_mk1 (shut_bool Tryd.underlying4 _), (trodAll_cons_mk (Below.trod laidOut (by kernel_rfl) (of_decide_eq_true (by kernel_rfl)) h0 bel lt0) (trodAll_cons_mk (Below.trod laidOut (by kernel_rfl) (of_decide_eq_true (by kernel_rfl)) h1 bel lt1) (trodAll_cons_mk (Below.trod laidOut (by kernel_rfl) (of_decide_eq_true (by kernel_rfl)) h2 bel lt2) trodAll_mk0))), rfl, bel.frame _, fun h => by cases h⟩

set_option maxRecDepth 100000 in
theorem laid_here (os : Os) : laidMet Tryd.prog Rows.octetTurnedRow.laid ((laidWorld os).forCall (fun _ _ => 0) ⟨#[], #[.slice none 0 0, .int .i64 0, .int .i64 0], []⟩).memory :=
  laidMet_of_run' 8 (by kernel_rfl) (by kernel_rfl)
theorem reads (os : Os) {H : Type} (enc : TypeId × Value → H) : ∃ places, DataW.whole enc Tryd.prog ((laidWorld os).forCall (fun _ _ => 0) ⟨#[], #[.slice none 0 0, .int .i64 0, .int .i64 0], []⟩).memory Tryd.f8.params.toList Rows.octetTurnedSpec.vars false (#[.slice none 0 0, .int .i64 0, .int .i64 0] : Array Value).toList 8 = some ([.nil, .lit (.int .i64 0), .lit (.int .i64 0)], [], places) :=
  ⟨[], by kernel_rfl⟩

set_option maxRecDepth 100000 in
theorem lifted (os : Os) (started : os.Started) (H : Type) (enc : TypeId × Value → H) (F : Stop.Interp) :
    ReturnsInHanded {} Tryd.checked os 8 .any ((OpenSpec.ofChange Rows.octetTurnedSpec).preRow enc Tryd.prog Tryd.f8 Rows.octetTurnedRow.domain false Rows.octetTurnedRow.laid) (((OpenSpec.ofChange Rows.octetTurnedSpec).at F).post enc Tryd.prog Tryd.f8 false true false false) := by
  obtain ⟨places, hx⟩ := reads os enc
  refine returnsInHanded_of_row (C := Tryd.checked) (s := OpenSpec.ofChange Rows.octetTurnedSpec) own started (by kernel_rfl) Tryd.func8
    (witness_row_at (enc := enc) (C := Tryd.checked) false (laidWorld os) #[.slice none 0 0, .int .i64 0, .int .i64 0] rfl (by kernel_rfl) (by kernel_rfl) (by kernel_rfl)
      (OpenSpec.preRow_of_cond 8 hx (by kernel_rfl) (fun k hk => by cases hk) (by kernel_rfl) (laid_here os))) ?_
  intro W base args ds gs before hval hW _ _ _ hL _ _
  exact contract H enc W base args ds gs before hval hW hL

theorem said : Rows.OctetTurnedSaid :=
  OpenClaim.holds_of_cond 8 Tryd.f8 rfl rfl rfl rfl rfl rfl rfl ⟨rfl, rfl, rfl, rfl, rfl⟩ rfl rfl rfl rfl rfl (by kernel_rfl) Tryd.func8 (by kernel_rfl)
    (of_decide_eq_true (by kernel_rfl)) (by unfold Func.isWrapper; first | (rw [if_pos (by decide +kernel)]; kernel_rfl) | (rw [if_neg (by decide +kernel)]; exact ⟨rfl, rfl⟩))
    (fun os started H enc _ F => by rw [OpenClaim.pre_eq_preRow]; exact lifted os started H enc F)

theorem plain (f : FuncId) (fn : Func) (hf : Tryd.pinned.checked.prog.funcNamed "sealskin/sealskinlaw02.OctetTurned" = some f) (hfn : Tryd.pinned.checked.prog.funcs[f]? = some fn) :
    false = Tryd.pinned.checked.prog.looks [] ∧ ∀ (j : Nat) t, fn.params[j]? = some t → Tryd.pinned.checked.prog.wantsStandIn t = false := by
  obtain rfl : f = 8 := Option.some.inj ((show Tryd.prog.funcNamed "sealskin/sealskinlaw02.OctetTurned" = some 8 by kernel_rfl).symm.trans hf) |>.symm
  obtain rfl : fn = Tryd.f8 := (Option.some.inj (Tryd.func8.symm.trans hfn)).symm
  refine ⟨by kernel_rfl, fun j t ht => ?_⟩
  rw [Tryd.params8] at ht
  have := Array.mem_of_getElem? ht
  simp at this
  rcases this with rfl | rfl
  · exact (show Tryd.prog.wantsStandIn 22 = false by kernel_rfl)
  · exact (show Tryd.prog.wantsStandIn 3 = false by kernel_rfl)

theorem proved : Rows.OctetTurnedCardSaid :=
  Claim7.holds_tied_plain_at .later [] _ _ _ _ said (fun _ h => by cases h) (by kernel_rfl) (fun _ h => by cases h) octetTurned_row_tie rfl ⟨rfl, rfl⟩ (by kernel_rfl) rfl plain (by kernel_rfl)
#print axioms proved
end Go.Proofs.YtbahnkomdndmkacDoor.turned
