/- For any entries and any three numbers the Go function sealskinlaw15.AuditShort returns true, and its arguments read as they did. No condition. -/
import Derived.Test.YtonkgiiacholeaaDoorAAw
import Derived.Test.YtonkgiiacholeaaDoorAOpn
namespace Go.Proofs.YtonkgiiacholeaaDoor.ashort
set_option linter.unusedVariables false
set_option linter.unusedSimpArgs false
open Go.ChangeShapes Go.WideShapes Go.ChangeAt Go.RowKit Go.Joins

set_option maxRecDepth 100000 in
set_option maxHeartbeats 8000000 in
theorem walk (P : List (Value × List Nat)) (a : Option Addr) (n c : Nat) (i m k : Int) (w : World) (hT : Tabs w) (hn : P.length = n) (hL : LL w (.slice a n c) P) (h8 : ∀ x ∈ P, U8 x.2) :
    Calls Tryd.prog 12 #[.slice a n c, .int .i64 i, .int .i64 m, .int .i64 k] w fun e w' => e = .returned (.bool true) ∧ Below w.heap.size w w' := by
  have HSH := hide (short_any P a n c w hn hL)
  have HAW := hide (aawake_any w hT)
  have HT := hide hT
  have HL := hide hL
  have H8 := hide h8
  have HN := hide hn
  clear hT hL h8 hn
  go_enter Tryd.func12, Tryd.ntmps12
  go_wp2_with fail
  refine Calls.mono (unhide HSH) ?_
  rintro e w1 ⟨b, rfl, rfl, hb⟩
  clear HSH
  cases b with
  | false =>
    clear hb
    go_wp2_with fail
    refine Calls.mono (unhide HAW) ?_
    rintro e w9 ⟨rfl, b9⟩
    have HF := hide b9
    clear b9
    go_wp2_with fail
    go_ret
    exact ⟨rfl, unhide HF⟩
  | true =>
    obtain ⟨n40, lens⟩ := hb rfl
    have n40I : (n : Int) ≤ 40 := by omega
    by_cases hn0 : n = 0
    · subst hn0
      clear hb lens
      go_wp2_with fail
      refine Calls.mono (unhide HAW) ?_
      rintro e w9 ⟨rfl, b9⟩
      have HF := hide b9
      clear b9
      go_wp2_with fail
      go_ret
      exact ⟨rfl, unhide HF⟩
    have n0 : ((n : Int) == 0) = false := beq_eq_false_iff_ne.2 (by omega)
    have HMD := hide (made_log P _ w (unhide HT) (unhide HL) (unhide H8) (fun x hx => Nat.le_trans (lens x hx) (by decide)) (by have := unhide HN; omega))
    obtain ⟨k', hk', hk2⟩ := mod_nat k n (by omega) (by omega)
    obtain ⟨N0, hN0⟩ : ∃ N0 : Nat, k' + 1 = N0 := ⟨_, rfl⟩
    have e1 : (1 : Int) + (k' : Int) = (N0 : Int) := by omega
    have N1 : 1 ≤ N0 := by omega
    have N2 : N0 ≤ n := by omega
    have N3 : (1 : Int) ≤ (N0 : Int) := by omega
    have N4 : (N0 : Int) ≤ 40 := by omega
    have kI : (k' : Int) ≤ 40 := by omega
    obtain ⟨i', hi', hi2⟩ := mod_nat i N0 (by omega) (by omega)
    obtain ⟨m', hm', hm2⟩ := mod_nat m N0 (by omega) (by omega)
    obtain ⟨M0, hM0⟩ : ∃ M0 : Nat, m' + 1 = M0 := ⟨_, rfl⟩
    have e2 : (1 : Int) + (m' : Int) = (M0 : Int) := by omega
    have mI : (m' : Int) ≤ 40 := by omega
    have nz : ¬ (n : Int) = 0 := by omega
    have Nz : ¬ (N0 : Int) = 0 := by omega
    have hb1 : 1 ≤ M0 := by omega
    have hb2 : M0 ≤ N0 := by omega
    clear hb lens
    go_wp2_with fail
    refine Calls.mono (unhide HMD) ?_
    rintro e w2 ⟨rfl, τ, L2, _, b2⟩
    have HL2 := hide L2
    have HB2 := hide b2
    have HEL : Hid ((P.map (·.2)).length = n) := hide (by rw [List.length_map]; exact unhide HN)
    obtain ⟨E, hE⟩ : ∃ E, P.map (·.2) = E := ⟨_, rfl⟩
    rw [hE] at HL2 HEL
    clear L2 b2 HMD hE
    go_wp2_with fail
    have HX := hide (And.intro hi2 (And.intro hb1 hb2))
    have HY := hide (And.intro N1 N2)
    clear hi2 hm2 hk2 hN0 hM0 hb1 hb2 n40 hn0 N1 N2
    go_region
    go_wp2_with fail
    go_loopw [10, 11] (fun s q wr => ∃ (D K : Nat), s = .int .i64 (D : Int) ∧ q = .int .i64 (K : Int) ∧ D ≤ 40 ∧ K ≤ 40 ∧ Hid (D + bl K = bl N0) ∧ w2.drew = wr) (fun _ q _ => (intOf q).toNat)
    case atStart => exact ⟨0, N0, by simp, by simp, by omega, by omega, hide (by omega), rfl⟩
    case round =>
      obtain ⟨D, K, rfl, rfl, hD, hK, HD, rfl⟩ := hrel
      by_cases hk0 : 0 < K
      · have k0 : (0 : Int) < (K : Int) := by omega
        have hq : Int.tdiv (K : Int) 2 = ((K / 2 : Nat) : Int) := by rw [Int.tdiv_eq_ediv_of_nonneg (by omega)]; omega
        have hbl := bl_half hk0
        have HD2 : Hid ((D + 1) + bl (K / 2) = bl N0) := hide (by have := unhide HD; omega)
        have hD1 : D + 1 ≤ 40 := by
          have h1 := unhide HD2
          have h2 : bl N0 ≤ 6 := bl_le.2 (by omega)
          omega
        have DI : (D : Int) ≤ 40 := by omega
        obtain ⟨K2, hK2⟩ : ∃ q, K / 2 = q := ⟨_, rfl⟩
        rw [hK2] at hq HD2
        clear hbl
        go_wp2_with fail
        exact ⟨⟨D + 1, K2, congrArg (Value.int IntKind.i64) (by omega), rfl, hD1, by omega, HD2, trivial⟩, by simp [intOf]; omega⟩
      · obtain rfl : K = 0 := by omega
        have k0 : ¬ (0 : Int) < 0 := by omega
        have hDb : D = bl N0 := by
          have := unhide HD
          have h0 : bl 0 = 0 := rfl
          omega
        obtain ⟨hi2, hb1, hb2⟩ := unhide HX
        obtain ⟨N1, N2⟩ := unhide HY
        have B3 : Below w.heap.size w w2.drew := (unhide HB2).drew
        have B3' : Below w2.heap.size w2 w2.drew := (Below.refl _ _).drew
        have hEl := unhide HEL
        have HPR := hide (prove_log w.heap.size E τ i' N0 w2.drew ((unhide HT).below B3) ((unhide HL2).call B3') (by omega) hi2 (by omega))
        have HGR := hide (p := ∀ W, Below w2.drew.heap.size w2.drew W → _) (fun W hW => grown_log w.heap.size E τ M0 N0 W ((unhide HT).below (bcall B3 hW)) (((unhide HL2).call B3').call hW) (by omega) hb1 hb2 (by omega))
        have HAW2 := hide (p := ∀ W, Below w.heap.size w W → _) (fun W hW => aawake_any W ((unhide HT).below hW))
        have hbl1 : bl (N0 - 1) ≤ D := by rw [hDb]; exact bl_mono (by omega)
        have l1 := prove_bl N0 (E.take N0) i' (by rw [List.length_take]; omega)
        have l2 := grown_bl N0 (E.take N0) M0 true (by rw [List.length_take]; omega)
        obtain ⟨X1, hX1⟩ : ∃ X, proveL (E.take N0) i' = X := ⟨_, rfl⟩
        obtain ⟨X2, hX2⟩ : ∃ X, grownL (E.take N0) M0 true = X := ⟨_, rfl⟩
        rw [hX1] at HPR l1
        rw [hX2] at HGR l2
        have q1 : (X1.length : Int) ≤ (D : Int) := by omega
        have q2 : (X2.length : Int) ≤ (D : Int) + 1 := by omega
        have DI : (D : Int) ≤ 40 := by omega
        have HB3 := hide B3
        obtain ⟨n1, hn1⟩ : ∃ q, X1.length = q := ⟨_, rfl⟩
        obtain ⟨n2, hn2⟩ : ∃ q, X2.length = q := ⟨_, rfl⟩
        have HN1 := hide hn1
        have HN2 := hide hn2
        rw [hn1] at q1
        rw [hn2] at q2
        clear hX1 hX2 l1 l2 hbl1 hDb hEl B3 B3' hi2 hb1 hb2 N1 N2 hn1 hn2
        go_wp2_with fail
        refine Calls.mono (unhide HPR) ?_
        rintro e w3 ⟨p, rfl, b3, S3⟩
        obtain ⟨pa, pc, hp, _⟩ := own_shape S3.1
        rw [unhide HN1] at hp
        subst hp
        have HG2 := hide (unhide HGR _ b3)
        have HB4 := hide (bcall (unhide HB3) b3)
        clear b3 S3 HGR HPR
        go_wp2_with fail
        refine Calls.mono (unhide HG2) ?_
        rintro e w4 ⟨g, rfl, b4, S4⟩
        obtain ⟨ga, gc, hg, _⟩ := own_shape S4.1
        rw [unhide HN2] at hg
        subst hg
        have B5 := bcall (unhide HB4) b4
        have HA3 := hide (unhide HAW2 _ B5)
        have HB5 := hide B5
        clear b4 S4 HG2 HAW2 B5
        go_wp2_with fail
        refine Calls.mono (unhide HA3) ?_
        rintro e w5 ⟨rfl, b5⟩
        have HF := hide (bcall (unhide HB5) b5)
        clear b5
        go_wp2_with fail
        go_ret
        exact ⟨rfl, unhide HF⟩

set_option maxRecDepth 100000 in
theorem contract (H : Type) (enc : TypeId × Value → H) (W : World) (base : Nat) (args : Array Value) (ds gs : List (DataW H)) (before : List MemPlace)
    (hval : ∀ (j : Nat) t v, Tryd.f12.params[j]? = some t → args[j]? = some v → Value.okWide Tryd.prog W .any base t v)
    (hW : DataW.Whole enc Tryd.prog Tryd.f12.params.toList Rows.auditShortSpec.vars false W args.toList ds gs before) (hL : laidMetH Tryd.prog Rows.auditShortRow.laid W) :
    Calls Tryd.prog 12 args W fun e W' => ∃ v, e = .returned v ∧ Rows.auditShortSpec.post enc Tryd.prog Tryd.f12 false true false false W args v W' := by
  have hT : Tabs W := tabs_of hL
  have hW' := hW
  obtain ⟨p, q, hA0, hV, rfl, hfz, hnd⟩ := hW
  have hA : DataW.TrodAll enc Tryd.prog W 0 (fun _ => true) true Tryd.f12.params.toList args.toList ds p := hA0
  rw [Tryd.params12] at hA hval
  obtain ⟨v0, vs0, d0, ds0, p0, q0, hargs, rfl, rfl, h0, r0⟩ := trodAll_cons hA
  obtain ⟨v1, vs1, d1, ds1, p1, q1, rfl, rfl, rfl, h1, r1⟩ := trodAll_cons r0
  obtain ⟨v2, vs2, d2, ds2, p2, q2, rfl, rfl, rfl, h2, r2⟩ := trodAll_cons r1
  obtain ⟨v3, vs3, d3, ds3, p3, q3, rfl, rfl, rfl, h3, r3⟩ := trodAll_cons r2
  obtain ⟨rfl, rfl, rfl⟩ := trodAll_nil r3
  obtain rfl : args = #[v0, v1, v2, v3] := by cases args; simp_all
  obtain ⟨rfl, rfl⟩ := trodVars_none hV
  have lt0 : ∀ x ∈ p0, x.block < W.heap.size := by obtain ⟨m, hm⟩ := h0; exact DataW.trod_lt m _ _ _ hm
  have lt1 : ∀ x ∈ p1, x.block < W.heap.size := by obtain ⟨m, hm⟩ := h1; exact DataW.trod_lt m _ _ _ hm
  have lt2 : ∀ x ∈ p2, x.block < W.heap.size := by obtain ⟨m, hm⟩ := h2; exact DataW.trod_lt m _ _ _ hm
  have lt3 : ∀ x ∈ p3, x.block < W.heap.size := by obtain ⟨m, hm⟩ := h3; exact DataW.trod_lt m _ _ _ hm
  obtain ⟨P, hP, hP8, hPd⟩ := open_lists (hval 0 35 v0 rfl rfl) h0
  obtain ⟨la, lc, hv, _⟩ := id hP
  subst hv
  obtain ⟨n1, rfl⟩ := open_i64 (hval 1 3 v1 rfl rfl) h1
  obtain ⟨n2, rfl⟩ := open_i64 (hval 2 3 v2 rfl rfl) h2
  obtain ⟨n3, rfl⟩ := open_i64 (hval 3 3 v3 rfl rfl) h3
  clear hA0
  refine (walk P la P.length lc n1 n2 n3 W hT rfl hP hP8).mono fun e W' ⟨he, bel⟩ => ?_
  subst he
  exact ⟨_, rfl, _, _, _, [], _, [], hW', trodAll_mk1 (shut_bool Tryd.underlying4 _), (trodAll_cons_mk (Below.trod laidOut (by kernel_rfl) (of_decide_eq_true (by kernel_rfl)) h0 bel lt0) (trodAll_cons_mk (Below.trod laidOut (by kernel_rfl) (of_decide_eq_true (by kernel_rfl)) h1 bel lt1) (trodAll_cons_mk (Below.trod laidOut (by kernel_rfl) (of_decide_eq_true (by kernel_rfl)) h2 bel lt2) (trodAll_cons_mk (Below.trod laidOut (by kernel_rfl) (of_decide_eq_true (by kernel_rfl)) h3 bel lt3) trodAll_mk0)))), rfl, bel.frame _, fun h => by cases h⟩

set_option maxRecDepth 100000 in
theorem laid_here (os : Os) : laidMet Tryd.prog Rows.auditShortRow.laid ((laidWorld os).forCall (fun _ _ => 0) ⟨#[], #[.slice none 0 0, .int .i64 0, .int .i64 0, .int .i64 0], []⟩).memory :=
  laidMet_of_run' 8 (by kernel_rfl) (by kernel_rfl)
theorem reads (os : Os) {H : Type} (enc : TypeId × Value → H) : ∃ places, DataW.whole enc Tryd.prog ((laidWorld os).forCall (fun _ _ => 0) ⟨#[], #[.slice none 0 0, .int .i64 0, .int .i64 0, .int .i64 0], []⟩).memory Tryd.f12.params.toList Rows.auditShortSpec.vars false (#[.slice none 0 0, .int .i64 0, .int .i64 0, .int .i64 0] : Array Value).toList 8 = some ([.nil, .lit (.int .i64 0), .lit (.int .i64 0), .lit (.int .i64 0)], [], places) :=
  ⟨[], by kernel_rfl⟩

set_option maxRecDepth 100000 in
theorem lifted (os : Os) (started : os.Started) (H : Type) (enc : TypeId × Value → H) (F : Stop.Interp) :
    ReturnsInHanded {} Tryd.checked os 12 .any ((OpenSpec.ofChange Rows.auditShortSpec).preRow enc Tryd.prog Tryd.f12 Rows.auditShortRow.domain false Rows.auditShortRow.laid) (((OpenSpec.ofChange Rows.auditShortSpec).at F).post enc Tryd.prog Tryd.f12 false true false false) := by
  obtain ⟨places, hx⟩ := reads os enc
  refine returnsInHanded_of_row (C := Tryd.checked) (s := OpenSpec.ofChange Rows.auditShortSpec) own started (by kernel_rfl) Tryd.func12
    (witness_row_at (enc := enc) (C := Tryd.checked) false (laidWorld os) #[.slice none 0 0, .int .i64 0, .int .i64 0, .int .i64 0] rfl (by kernel_rfl) (by kernel_rfl) (by kernel_rfl)
      (OpenSpec.preRow_of_cond 8 hx (by kernel_rfl) (fun k hk => by cases hk) (by kernel_rfl) (laid_here os))) ?_
  intro W base args ds gs before hval hW _ _ _ hL _ _
  exact contract H enc W base args ds gs before hval hW hL

set_option maxRecDepth 100000 in
theorem said : Rows.AuditShortSaid :=
  OpenClaim.holds_of_cond 12 Tryd.f12 rfl rfl rfl rfl rfl rfl rfl ⟨rfl, rfl, rfl, rfl, rfl⟩ rfl rfl rfl rfl rfl (by kernel_rfl) Tryd.func12 (by kernel_rfl)
    (of_decide_eq_true (by kernel_rfl)) (by unfold Func.isWrapper; first | (rw [if_pos (by decide +kernel)]; kernel_rfl) | (rw [if_neg (by decide +kernel)]; exact ⟨rfl, rfl⟩))
    (fun os started H enc _ F => by rw [OpenClaim.pre_eq_preRow]; exact lifted os started H enc F)

set_option maxRecDepth 100000 in
theorem plain (f : FuncId) (fn : Func) (hf : Tryd.pinned.checked.prog.funcNamed "sealskin/sealskinlaw15.AuditShort" = some f) (hfn : Tryd.pinned.checked.prog.funcs[f]? = some fn) :
    false = Tryd.pinned.checked.prog.looks [] ∧ ∀ (j : Nat) t, fn.params[j]? = some t → Tryd.pinned.checked.prog.wantsStandIn t = false := by
  obtain rfl : f = 12 := Option.some.inj ((show Tryd.prog.funcNamed "sealskin/sealskinlaw15.AuditShort" = some 12 by kernel_rfl).symm.trans hf) |>.symm
  obtain rfl : fn = Tryd.f12 := (Option.some.inj (Tryd.func12.symm.trans hfn)).symm
  refine ⟨by kernel_rfl, fun j t ht => ?_⟩
  rw [Tryd.params12] at ht
  have := Array.mem_of_getElem? ht
  simp at this
  rcases this with rfl | rfl
  · exact (show Tryd.prog.wantsStandIn 35 = false by kernel_rfl)
  · exact (show Tryd.prog.wantsStandIn 3 = false by kernel_rfl)

theorem proved : Rows.AuditShortCardSaid :=
  Claim7.holds_tied_plain_at .later [] _ _ _ _ said (fun _ h => by cases h) (by kernel_rfl) (fun _ h => by cases h) auditShort_row_tie rfl ⟨rfl, rfl⟩ (by kernel_rfl) rfl plain (by kernel_rfl)
#print axioms proved
end Go.Proofs.YtonkgiiacholeaaDoor.ashort
