/- For any entries and any two numbers the Go function sealskinlaw15.AuditGrown returns true, and its arguments read as they did. No condition. -/
import Derived.Test.YtonkgiiacholeaaDoorARGr
import Derived.Test.YtonkgiiacholeaaDoorAOpn
namespace Go.Proofs.YtonkgiiacholeaaDoor.agrown
set_option linter.unusedVariables false
set_option linter.unusedSimpArgs false
open Go.ChangeShapes Go.WideShapes Go.ChangeAt Go.RowKit Go.Joins

set_option maxRecDepth 100000 in
set_option maxHeartbeats 8000000 in
theorem grown_bad (g : Nat) (E : List (List Nat)) (τ : Nat → Int) (i n : Int) (w : World) (hL : LogAt w τ g E) (hE : E.length ≤ 1000) (hb : i < 1 ∨ n < i ∨ (E.length : Int) < n) :
    Calls Tryd.prog 36 #[.pointer (some ⟨g, 0, none⟩), .int .i64 i, .int .i64 n] w fun e w' => e = .returned (.tuple #[.slice none 0 0, .int .i64 1]) ∧ w = w' := by
  have HM := hide (let ⟨ev, hv, h⟩ := hL.row; lmade_any g true ev hv _ h)
  have HLN := hide (len_log g E τ _ hL)
  obtain ⟨m, hm⟩ : ∃ m, E.length = m := ⟨_, rfl⟩
  rw [hm] at hb HLN hE
  have m1 : (m : Int) ≤ 1000 := by omega
  clear hL hm hE
  by_cases c1 : i < 1
  · clear hb
    go_enter Tryd.func36, Tryd.ntmps36
    go_wp2_with fail
    refine Calls.mono (unhide HM) ?_
    rintro e w2 ⟨rfl, rfl⟩
    go_wp2_with fail
    go_ret2
    exact ⟨rfl, rfl⟩
  by_cases c2 : n < i
  · clear hb
    go_enter Tryd.func36, Tryd.ntmps36
    go_wp2_with fail
    refine Calls.mono (unhide HM) ?_
    rintro e w2 ⟨rfl, rfl⟩
    go_wp2_with fail
    go_ret2
    exact ⟨rfl, rfl⟩
  · have c3 : (m : Int) < n := by omega
    have c4 : i ≤ n := by omega
    clear hb
    go_enter Tryd.func36, Tryd.ntmps36
    go_wp2_with fail
    refine Calls.mono (unhide HM) ?_
    rintro e w2 ⟨rfl, rfl⟩
    go_wp2_with fail
    refine Calls.mono (unhide HLN) ?_
    rintro e w2 ⟨rfl, rfl⟩
    go_wp2_with fail
    go_ret2
    exact ⟨rfl, rfl⟩
set_option maxRecDepth 100000 in
set_option maxHeartbeats 8000000 in
theorem walk (P : List (Value × List Nat)) (a : Option Addr) (n c : Nat) (i k : Int) (w : World) (hT : Tabs w) (hn : P.length = n) (hL : LL w (.slice a n c) P) (h8 : ∀ x ∈ P, U8 x.2) :
    Calls Tryd.prog 8 #[.slice a n c, .int .i64 i, .int .i64 k] w fun e w' => e = .returned (.bool true) ∧ Below w.heap.size w w' := by
  have HSH := hide (short_any P a n c w hn hL)
  have HAW := hide (aawake_any w hT)
  have HT := hide hT
  have HL := hide hL
  have H8 := hide h8
  have HN := hide hn
  have hcn : n ≤ c := by
    obtain ⟨a', c', e1, e2, _⟩ := hL
    obtain ⟨-, -, rfl⟩ : a = a' ∧ n = P.length ∧ c = c' := by simpa using e1
    omega
  clear hT hL h8
  go_enter Tryd.func8, Tryd.ntmps8
  go_wp2_with fail
  refine Calls.mono (unhide HSH) ?_
  rintro e w1 ⟨b, rfl, rfl, hb⟩
  clear HSH
  cases b with
  | false =>
    clear hb
    go_wp2_with fail
    refine Calls.mono (unhide HAW) ?_
    rintro e w9 ⟨rfl, b9⟩
    have HF := hide b9
    clear b9
    go_wp2_with fail
    go_ret
    exact ⟨rfl, unhide HF⟩
  | true =>
    obtain ⟨n40, lens⟩ := hb rfl
    have n40I : (n : Int) ≤ 40 := by omega
    have HMD := hide (made_log P _ w (unhide HT) (unhide HL) (unhide H8) (fun x hx => Nat.le_trans (lens x hx) (by decide)) (by omega))
    have HLN := hide lens
    clear hb lens
    by_cases c1 : i < 1
    · go_wp2_with fail
      refine Calls.mono (unhide HMD) ?_
      rintro e w2 ⟨rfl, τ, L2, _, b2⟩
      have HPB := hide (grown_bad w.heap.size _ τ i k w2 L2 (by rw [List.length_map]; omega) (by rw [List.length_map, unhide HN]; omega))
      have HB2 := hide b2
      have HA2 := hide (aawake_any w2 ((unhide HT).below b2))
      clear L2 b2 HMD
      go_wp2_with fail
      refine Calls.mono (unhide HPB) ?_
      rintro e w3 ⟨rfl, rfl⟩
      go_wp2_with fail
      refine Calls.mono (unhide HA2) ?_
      rintro e w9 ⟨rfl, b9⟩
      have HF := hide (bcall (unhide HB2) b9)
      clear b9
      go_wp2_with fail
      go_ret
      exact ⟨rfl, unhide HF⟩
    by_cases c2 : k < i
    · have c3 : ¬ i ≤ k := by omega
      go_wp2_with fail
      refine Calls.mono (unhide HMD) ?_
      rintro e w2 ⟨rfl, τ, L2, _, b2⟩
      have HPB := hide (grown_bad w.heap.size _ τ i k w2 L2 (by rw [List.length_map]; omega) (by rw [List.length_map, unhide HN]; omega))
      have HB2 := hide b2
      have HA2 := hide (aawake_any w2 ((unhide HT).below b2))
      clear L2 b2 HMD
      go_wp2_with fail
      refine Calls.mono (unhide HPB) ?_
      rintro e w3 ⟨rfl, rfl⟩
      go_wp2_with fail
      refine Calls.mono (unhide HA2) ?_
      rintro e w9 ⟨rfl, b9⟩
      have HF := hide (bcall (unhide HB2) b9)
      clear b9
      go_wp2_with fail
      go_ret
      exact ⟨rfl, unhide HF⟩
    by_cases c3 : (n : Int) < k
    · have c4 : i ≤ k := by omega
      go_wp2_with fail
      refine Calls.mono (unhide HMD) ?_
      rintro e w2 ⟨rfl, τ, L2, _, b2⟩
      have HPB := hide (grown_bad w.heap.size _ τ i k w2 L2 (by rw [List.length_map]; omega) (by rw [List.length_map, unhide HN]; omega))
      have HB2 := hide b2
      have HA2 := hide (aawake_any w2 ((unhide HT).below b2))
      clear L2 b2 HMD
      go_wp2_with fail
      refine Calls.mono (unhide HPB) ?_
      rintro e w3 ⟨rfl, rfl⟩
      go_wp2_with fail
      refine Calls.mono (unhide HA2) ?_
      rintro e w9 ⟨rfl, b9⟩
      have HF := hide (bcall (unhide HB2) b9)
      clear b9
      go_wp2_with fail
      go_ret
      exact ⟨rfl, unhide HF⟩
    obtain ⟨i', rfl⟩ := Int.eq_ofNat_of_zero_le (show 0 ≤ i by omega)
    obtain ⟨k', rfl⟩ := Int.eq_ofNat_of_zero_le (show 0 ≤ k by omega)
    have hik : i' ≤ k' := by omega
    have hi1 : 1 ≤ i' := by omega
    have hkn : k' ≤ n := by omega
    have HRP := hide (p := ∀ W, Below w.heap.size w W → _) (fun W hW => rgrown_any k' a c (P.take k') i' true W (by rw [List.length_take]; omega) (((unhide HL).take hkn).call hW) (fun x hx => unhide H8 x (List.mem_of_mem_take hx)) (fun x hx => Nat.le_trans (unhide HLN x (List.mem_of_mem_take hx)) (by decide)) hi1 hik (by omega))
    have HAW2 := hide (p := ∀ W, Below w.heap.size w W → _) (fun W hW => aawake_any W ((unhide HT).below hW))
    have hX : grownL ((P.map (·.2)).take k') i' true = grownL ((P.take k').map (·.2)) i' true := by rw [List.map_take]
    have hXl : (grownL ((P.take k').map (·.2)) i' true).length ≤ 1000 := Nat.le_trans (grownL_ok k' _ _ _ (by rw [List.length_map, List.length_take]; omega) (by omega)) (by omega)
    have q1 : (k' : Int) ≤ (c : Int) := by omega
    have q2 : k' ≤ c := by omega
    have c4 : (i' : Int) ≤ (k' : Int) := by omega
    have c5 : ¬ (i' : Int) < 1 := by omega
    go_wp2_with fail
    refine Calls.mono (unhide HMD) ?_
    rintro e w2 ⟨rfl, τ, L2, _, b2⟩
    have HPR := hide (grown_log w.heap.size _ τ i' k' w2 ((unhide HT).below b2) L2 (by rw [List.length_map]; omega) hi1 hik (by rw [List.length_map]; omega))
    rw [hX] at HPR
    obtain ⟨X, hX'⟩ : ∃ X, grownL ((P.take k').map (·.2)) i' true = X := ⟨_, rfl⟩
    rw [hX'] at HPR HRP hXl
    have HB2 := hide b2
    obtain ⟨xl, hxl⟩ : ∃ q, X.length = q := ⟨_, rfl⟩
    have HXL := hide hxl
    have HXM := hide hXl
    clear L2 b2 HMD hX hX' hXl hxl hik hkn
    go_wp2_with fail
    refine Calls.mono (unhide HPR) ?_
    rintro e w3 ⟨p, rfl, b3, S3⟩
    have B3 := bcall (unhide HB2) b3
    have HP3 := hide (PS.of_sms S3 (Nat.le_trans (unhide HXM) (by decide)))
    obtain ⟨pa, pc, hp, _⟩ := own_shape S3.1
    subst hp
    have HR3 := hide (unhide HRP _ B3)
    have HB3 := hide B3
    clear b3 S3 B3 HPR HRP
    go_wp2_with fail
    refine Calls.mono (unhide HR3) ?_
    rintro e w4 ⟨r, rfl, b4, S4⟩
    have B4 := bcall (unhide HB3) b4
    have HEQ := hide (sums_equal _ _ X X w4 ((unhide HP3).call b4) (PS.of_sms S4 (Nat.le_trans (unhide HXM) (by decide))))
    rw [decide_eq_true rfl] at HEQ
    obtain ⟨ra, rc, hr, _⟩ := own_shape S4.1
    subst hr
    have HB4 := hide B4
    clear b4 S4 B4 HR3 HP3
    go_wp2_with fail
    refine Calls.mono (unhide HEQ) ?_
    rintro e w5 ⟨rfl, b5⟩
    have B5 := bcall (unhide HB4) b5
    have HA3 := hide (unhide HAW2 _ B5)
    have HB5 := hide B5
    clear b5 B5 HAW2 HEQ
    go_wp2_with fail
    refine Calls.mono (unhide HA3) ?_
    rintro e w6 ⟨rfl, b6⟩
    have HF := hide (bcall (unhide HB5) b6)
    clear b6
    go_wp2_with fail
    go_ret
    exact ⟨rfl, unhide HF⟩

set_option maxRecDepth 100000 in
theorem contract (H : Type) (enc : TypeId × Value → H) (W : World) (base : Nat) (args : Array Value) (ds gs : List (DataW H)) (before : List MemPlace)
    (hval : ∀ (j : Nat) t v, Tryd.f8.params[j]? = some t → args[j]? = some v → Value.okWide Tryd.prog W .any base t v)
    (hW : DataW.Whole enc Tryd.prog Tryd.f8.params.toList Rows.auditGrownSpec.vars false W args.toList ds gs before) (hL : laidMetH Tryd.prog Rows.auditGrownRow.laid W) :
    Calls Tryd.prog 8 args W fun e W' => ∃ v, e = .returned v ∧ Rows.auditGrownSpec.post enc Tryd.prog Tryd.f8 false true false false W args v W' := by
  have hT : Tabs W := tabs_of hL
  have hW' := hW
  obtain ⟨p, q, hA0, hV, rfl, hfz, hnd⟩ := hW
  have hA : DataW.TrodAll enc Tryd.prog W 0 (fun _ => true) true Tryd.f8.params.toList args.toList ds p := hA0
  rw [Tryd.params8] at hA hval
  obtain ⟨v0, vs0, d0, ds0, p0, q0, hargs, rfl, rfl, h0, r0⟩ := trodAll_cons hA
  obtain ⟨v1, vs1, d1, ds1, p1, q1, rfl, rfl, rfl, h1, r1⟩ := trodAll_cons r0
  obtain ⟨v2, vs2, d2, ds2, p2, q2, rfl, rfl, rfl, h2, r2⟩ := trodAll_cons r1
  obtain ⟨rfl, rfl, rfl⟩ := trodAll_nil r2
  obtain rfl : args = #[v0, v1, v2] := by cases args; simp_all
  obtain ⟨rfl, rfl⟩ := trodVars_none hV
  have lt0 : ∀ x ∈ p0, x.block < W.heap.size := by obtain ⟨m, hm⟩ := h0; exact DataW.trod_lt m _ _ _ hm
  have lt1 : ∀ x ∈ p1, x.block < W.heap.size := by obtain ⟨m, hm⟩ := h1; exact DataW.trod_lt m _ _ _ hm
  have lt2 : ∀ x ∈ p2, x.block < W.heap.size := by obtain ⟨m, hm⟩ := h2; exact DataW.trod_lt m _ _ _ hm
  obtain ⟨P, hP, hP8, hPd⟩ := open_lists (hval 0 35 v0 rfl rfl) h0
  obtain ⟨la, lc, hv, _⟩ := id hP
  subst hv
  obtain ⟨n1, rfl⟩ := open_i64 (hval 1 3 v1 rfl rfl) h1
  obtain ⟨n2, rfl⟩ := open_i64 (hval 2 3 v2 rfl rfl) h2
  clear hA0
  refine (walk P la P.length lc n1 n2 W hT rfl hP hP8).mono fun e W' ⟨he, bel⟩ => ?_
  subst he
  exact ⟨_, rfl, _, _, _, [], _, [], hW', trodAll_mk1 (shut_bool Tryd.underlying4 _), (trodAll_cons_mk (Below.trod laidOut (by kernel_rfl) (of_decide_eq_true (by kernel_rfl)) h0 bel lt0) (trodAll_cons_mk (Below.trod laidOut (by kernel_rfl) (of_decide_eq_true (by kernel_rfl)) h1 bel lt1) (trodAll_cons_mk (Below.trod laidOut (by kernel_rfl) (of_decide_eq_true (by kernel_rfl)) h2 bel lt2) trodAll_mk0))), rfl, bel.frame _, fun h => by cases h⟩

set_option maxRecDepth 100000 in
theorem laid_here (os : Os) : laidMet Tryd.prog Rows.auditGrownRow.laid ((laidWorld os).forCall (fun _ _ => 0) ⟨#[], #[.slice none 0 0, .int .i64 0, .int .i64 0], []⟩).memory :=
  laidMet_of_run' 8 (by kernel_rfl) (by kernel_rfl)
theorem reads (os : Os) {H : Type} (enc : TypeId × Value → H) : ∃ places, DataW.whole enc Tryd.prog ((laidWorld os).forCall (fun _ _ => 0) ⟨#[], #[.slice none 0 0, .int .i64 0, .int .i64 0], []⟩).memory Tryd.f8.params.toList Rows.auditGrownSpec.vars false (#[.slice none 0 0, .int .i64 0, .int .i64 0] : Array Value).toList 8 = some ([.nil, .lit (.int .i64 0), .lit (.int .i64 0)], [], places) :=
  ⟨[], by kernel_rfl⟩

set_option maxRecDepth 100000 in
theorem lifted (os : Os) (started : os.Started) (H : Type) (enc : TypeId × Value → H) (F : Stop.Interp) :
    ReturnsInHanded {} Tryd.checked os 8 .any ((OpenSpec.ofChange Rows.auditGrownSpec).preRow enc Tryd.prog Tryd.f8 Rows.auditGrownRow.domain false Rows.auditGrownRow.laid) (((OpenSpec.ofChange Rows.auditGrownSpec).at F).post enc Tryd.prog Tryd.f8 false true false false) := by
  obtain ⟨places, hx⟩ := reads os enc
  refine returnsInHanded_of_row (C := Tryd.checked) (s := OpenSpec.ofChange Rows.auditGrownSpec) own started (by kernel_rfl) Tryd.func8
    (witness_row_at (enc := enc) (C := Tryd.checked) false (laidWorld os) #[.slice none 0 0, .int .i64 0, .int .i64 0] rfl (by kernel_rfl) (by kernel_rfl) (by kernel_rfl)
      (OpenSpec.preRow_of_cond 8 hx (by kernel_rfl) (fun k hk => by cases hk) (by kernel_rfl) (laid_here os))) ?_
  intro W base args ds gs before hval hW _ _ _ hL _ _
  exact contract H enc W base args ds gs before hval hW hL

set_option maxRecDepth 100000 in
theorem said : Rows.AuditGrownSaid :=
  OpenClaim.holds_of_cond 8 Tryd.f8 rfl rfl rfl rfl rfl rfl rfl ⟨rfl, rfl, rfl, rfl, rfl⟩ rfl rfl rfl rfl rfl (by kernel_rfl) Tryd.func8 (by kernel_rfl)
    (of_decide_eq_true (by kernel_rfl)) (by unfold Func.isWrapper; first | (rw [if_pos (by decide +kernel)]; kernel_rfl) | (rw [if_neg (by decide +kernel)]; exact ⟨rfl, rfl⟩))
    (fun os started H enc _ F => by rw [OpenClaim.pre_eq_preRow]; exact lifted os started H enc F)

set_option maxRecDepth 100000 in
theorem plain (f : FuncId) (fn : Func) (hf : Tryd.pinned.checked.prog.funcNamed "sealskin/sealskinlaw15.AuditGrown" = some f) (hfn : Tryd.pinned.checked.prog.funcs[f]? = some fn) :
    false = Tryd.pinned.checked.prog.looks [] ∧ ∀ (j : Nat) t, fn.params[j]? = some t → Tryd.pinned.checked.prog.wantsStandIn t = false := by
  obtain rfl : f = 8 := Option.some.inj ((show Tryd.prog.funcNamed "sealskin/sealskinlaw15.AuditGrown" = some 8 by kernel_rfl).symm.trans hf) |>.symm
  obtain rfl : fn = Tryd.f8 := (Option.some.inj (Tryd.func8.symm.trans hfn)).symm
  refine ⟨by kernel_rfl, fun j t ht => ?_⟩
  rw [Tryd.params8] at ht
  have := Array.mem_of_getElem? ht
  simp at this
  rcases this with rfl | rfl
  · exact (show Tryd.prog.wantsStandIn 35 = false by kernel_rfl)
  · exact (show Tryd.prog.wantsStandIn 3 = false by kernel_rfl)

theorem proved : Rows.AuditGrownCardSaid :=
  Claim7.holds_tied_plain_at .later [] _ _ _ _ said (fun _ h => by cases h) (by kernel_rfl) (fun _ h => by cases h) auditGrown_row_tie rfl ⟨rfl, rfl⟩ (by kernel_rfl) rfl plain (by kernel_rfl)
#print axioms proved
end Go.Proofs.YtonkgiiacholeaaDoor.agrown
