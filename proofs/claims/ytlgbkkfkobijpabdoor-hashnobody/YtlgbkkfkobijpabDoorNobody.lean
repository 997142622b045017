/- For any bytes the Go function sealskinlaw07.HashNobody returns true, and its argument reads as it did. No condition. -/
import Derived.Test.YtlgbkkfkobijpabDoorNone
namespace Go.Proofs.YtlgbkkfkobijpabDoor.nobody
set_option linter.unusedVariables false
set_option linter.unusedSimpArgs false
open Go.ChangeShapes Go.WideShapes Go.ChangeAt Go.RowKit Go.Joins

set_option maxRecDepth 100000 in
set_option maxHeartbeats 4000000 in
theorem walk (v : Value) (l : List Nat) (w : World) (hT : Tabs w) (hv : Byt w v l) :
    Calls Tryd.prog 5 #[v] w fun e w' => e = .returned (.bool true) ∧ Below w.heap.size w w' := by
  have HT := hide hT
  have HV := hide hv
  obtain ⟨a, c, hve⟩ := byt_shape hv
  obtain ⟨n, hn⟩ : ∃ n, l.length = n := ⟨_, rfl⟩
  rw [hn] at hve
  subst hve
  have L1 := LL.one hv
  have b1 : Below w.heap.size w (w.alloc (.cells #[.slice a n c] 22)) := (Below.refl _ _).alloc (Nat.le_refl _) _
  have HLG := hide (long_any _ _ _ L1)
  have HB1 := hide b1
  have hz5 := zero55
  generalize hZ5 : (dcells (List.replicate 8 0) (List.replicate 64 0) 0 0 false).toArray = Z5 at hz5
  have HZ5E := hide hZ5
  have hz := zero27
  have heq := eq_sum (List.replicate 32 0) rfl
  have HSN := hide sum_no
  generalize hZ : (bv (List.replicate 32 0)).toArray = Z at hz heq HSN
  clear hT hv hn L1 b1 hZ5 hZ
  go_enter Tryd.func5, Tryd.ntmps5
  go_wp2_with fail
  generalize w.alloc (.cells #[.slice a n c] 22) = w1 at *
  refine Calls.mono (unhide HLG) ?_
  rintro e w2 ⟨b, rfl, -, rfl⟩
  cases b
  · have R1 : RowAt (w1.alloc (.cells Z5 41)) w1.heap.size 41 (dcells (List.replicate 8 0) (List.replicate 64 0) 0 0 false) := by
      have := RowAt.new w1 41 (dcells (List.replicate 8 0) (List.replicate 64 0) 0 0 false)
      rw [unhide HZ5E] at this
      exact this
    have b2 : Below w1.heap.size w1 ((w1.alloc (.cells Z5 41)).alloc (.cells #[.pointer none, .pointer (some ⟨w1.heap.size, 0, none⟩)] 27)) := ((Below.refl _ _).alloc (Nat.le_refl _) _).alloc (by rw [size_alloc]; omega) _
    have R2 := R1.only (p := fun _ => False) ((Only.refl _ _).alloc (.cells #[.pointer none, .pointer (some ⟨w1.heap.size, 0, none⟩)] 27)) id
    have R3 := RowAt.new (w1.alloc (.cells Z5 41)) 27 [.pointer none, .pointer (some ⟨w1.heap.size, 0, none⟩)]
    rw [size_alloc] at R3
    have HR2 := hide R2
    have HR3 : Hid (RowAt ((w1.alloc (.cells Z5 41)).alloc (.cells #[.pointer none, .pointer (some ⟨w1.heap.size, 0, none⟩)] 27)) (w1.heap.size + 1) 27 [.pointer none, .pointer (some ⟨w1.heap.size, 0, none⟩)]) := hide R3
    have HB2 := hide ((unhide HB1).trans (b2.mono (unhide HB1).size))
    clear R1 R2 R3 b2
    go_wp2_with fail
    generalize (w1.alloc (.cells Z5 41)).alloc (.cells #[.pointer none, .pointer (some ⟨w1.heap.size, 0, none⟩)] 27) = w2 at *
    go_loopw [13] (fun s wr => ∃ k : Nat, k ≤ 2 ∧ s = .int .i64 (k : Int) ∧ Hid (Below w.heap.size w wr ∧ RowAt wr w1.heap.size 41 (dcells (List.replicate 8 0) (List.replicate 64 0) 0 0 false) ∧ RowAt wr (w1.heap.size + 1) 27 [.pointer none, .pointer (some ⟨w1.heap.size, 0, none⟩)])) (fun s _ => (2 - intOf s).toNat)
    case atStart => exact ⟨0, by omega, rfl, unhide HB2, unhide HR2, unhide HR3⟩
    case round =>
      obtain ⟨k, hk, rfl, HC⟩ := hrel
      obtain ⟨x1, x2, x3⟩ := unhide HC
      by_cases hlt : k < 2
      · obtain ⟨pa, hpa, hun⟩ : ∃ pa : Option Addr, wr.cell? ⟨w1.heap.size + 1, k, none⟩ = some (.pointer pa) ∧ Unmade wr (.pointer pa) := by
          rcases (show k = 0 ∨ k = 1 by omega) with rfl | rfl
          · exact ⟨none, by rw [x3.cell]; rfl, unmade_nil wr⟩
          · exact ⟨_, by rw [x3.cell]; rfl, unmade_row (List.length_replicate ..) (List.length_replicate ..) x2⟩
        have b4 : Below wr.heap.size wr (wr.alloc (.cells #[.slice a n c] 22)) := (Below.refl _ _).alloc (Nat.le_refl _) _
        have HAD := hide (add_no (.pointer pa) (.slice (some ⟨wr.heap.size, 0, none⟩) 1 1) _ (hun.call b4))
        have HSU := hide (unhide HSN (.pointer pa) _ (hun.call b4))
        have HUN := hide (hun.call b4)
        have HB4 := hide b4
        have hkI : (k : Int) < 2 := by omega
        have HLT := hide hlt
        have HX := HC
        clear x1 x2 x3 hun b4 HC hlt HB2 HR2 HR3
        go_wp2_with fail
        generalize wr.alloc (.cells #[.slice a n c] 22) = w4 at *
        refine Calls.mono (unhide HAD) ?_
        rintro e w5 ⟨rfl, rfl⟩
        go_wp2_with fail
        refine Calls.mono (unhide HSU) ?_
        rintro e w5 ⟨rfl, b5⟩
        have HCN := hide (clone_no (.pointer pa) w5 ((unhide HUN).call b5))
        have HB5 := hide ((unhide HB4).trans (b5.mono (unhide HB4).size))
        clear b5 HAD HSU
        go_wp2_with fail
        refine Calls.mono (unhide HCN) ?_
        rintro e w6 ⟨rfl, rfl⟩
        obtain ⟨x1, x2, x3⟩ := unhide HX
        have HF : Hid (Below w.heap.size w w5 ∧ RowAt w5 w1.heap.size 41 (dcells (List.replicate 8 0) (List.replicate 64 0) 0 0 false) ∧ RowAt w5 (w1.heap.size + 1) 27 [.pointer none, .pointer (some ⟨w1.heap.size, 0, none⟩)]) := hide
          ⟨x1.trans ((unhide HB5).mono x1.size), x2.below (unhide HB5) x2.lt, x3.below (unhide HB5) x3.lt⟩
        clear x1 x2 x3 HCN hpa
        go_wp2_with fail
        go_roundw
        case rel => exact ⟨k + 1, by have := unhide HLT; omega, by go_num, HF⟩
        case measure => have := unhide HLT; simp [intOf]; omega
      · have hkI : ¬ (k : Int) < 2 := by omega
        have HAW := hide (awake_any wr ((unhide HT).below x1))
        have HX1 := hide x1
        clear x1 x2 x3 HC hlt HB2 HR2 HR3
        go_wp2_with fail
        refine Calls.mono (unhide HAW) ?_
        rintro e w3 ⟨rfl, b3⟩
        go_wp2_with fail
        go_ret
        exact ⟨rfl, (unhide HX1).trans (b3.mono (unhide HX1).size)⟩
  · have HAW := hide (awake_any w1 ((unhide HT).below (unhide HB1)))
    go_wp2_with fail
    refine Calls.mono (unhide HAW) ?_
    rintro e w3 ⟨rfl, b3⟩
    go_wp2_with fail
    go_ret
    exact ⟨rfl, (unhide HB1).trans (b3.mono (unhide HB1).size)⟩
theorem contract (H : Type) (enc : TypeId × Value → H) (W : World) (base : Nat) (args : Array Value) (ds gs : List (DataW H)) (before : List MemPlace)
    (hval : ∀ (j : Nat) t v, Tryd.f5.params[j]? = some t → args[j]? = some v → Value.okWide Tryd.prog W .any base t v)
    (hW : DataW.Whole enc Tryd.prog Tryd.f5.params.toList Rows.hashNobodySpec.vars false W args.toList ds gs before) (hL : laidMetH Tryd.prog Rows.hashNobodyRow.laid W) :
    Calls Tryd.prog 5 args W fun e W' => ∃ v, e = .returned v ∧ Rows.hashNobodySpec.post enc Tryd.prog Tryd.f5 false true false false W args v W' := by
  have hT : Tabs W := tabs_of hL
  have hW' := hW
  obtain ⟨p, q, hA0, hV, rfl, hfz, hnd⟩ := hW
  have hA : DataW.TrodAll enc Tryd.prog W 0 (fun _ => true) true Tryd.f5.params.toList args.toList ds p := hA0
  rw [Tryd.params5] at hA hval
  obtain ⟨v0, vs0, d0, ds0, p0, q0, hargs, rfl, rfl, h0, r0⟩ := trodAll_cons hA
  obtain ⟨rfl, rfl, rfl⟩ := trodAll_nil r0
  obtain rfl : args = #[v0] := by cases args; simp_all
  obtain ⟨rfl, rfl⟩ := trodVars_none hV
  have lt0 : ∀ x ∈ p0, x.block < W.heap.size := by obtain ⟨m, hm⟩ := h0; exact DataW.trod_lt m _ _ _ hm
  obtain ⟨l0, hY0, h2560⟩ := open_bytes (hval 0 22 v0 rfl rfl) h0
  clear hA0
  refine (walk v0 l0 W hT hY0).mono fun e W' ⟨he, bel⟩ => ?_
  subst he
  exact ⟨_, rfl, _, _, _, [], _, [], hW', trodAll_mk1 (shut_bool Tryd.underlying4 _), (trodAll_cons_mk (Below.trod laidOut (by kernel_rfl) (of_decide_eq_true (by kernel_rfl)) h0 bel lt0) trodAll_mk0), rfl, bel.frame _, fun h => by cases h⟩

set_option maxRecDepth 100000 in
theorem laid_here (os : Os) : laidMet Tryd.prog Rows.hashNobodyRow.laid ((laidWorld os).forCall (fun _ _ => 0) ⟨#[], #[.slice none 0 0], []⟩).memory :=
  laidMet_of_run' 8 (by kernel_rfl) (by kernel_rfl)
theorem reads (os : Os) {H : Type} (enc : TypeId × Value → H) : ∃ places, DataW.whole enc Tryd.prog ((laidWorld os).forCall (fun _ _ => 0) ⟨#[], #[.slice none 0 0], []⟩).memory Tryd.f5.params.toList Rows.hashNobodySpec.vars false (#[.slice none 0 0] : Array Value).toList 8 = some ([.nil], [], places) :=
  ⟨[], by kernel_rfl⟩

set_option maxRecDepth 100000 in
theorem lifted (os : Os) (started : os.Started) (H : Type) (enc : TypeId × Value → H) (F : Stop.Interp) :
    ReturnsInHanded {} Tryd.checked os 5 .any ((OpenSpec.ofChange Rows.hashNobodySpec).preRow enc Tryd.prog Tryd.f5 Rows.hashNobodyRow.domain false Rows.hashNobodyRow.laid) (((OpenSpec.ofChange Rows.hashNobodySpec).at F).post enc Tryd.prog Tryd.f5 false true false false) := by
  obtain ⟨places, hx⟩ := reads os enc
  refine returnsInHanded_of_row (C := Tryd.checked) (s := OpenSpec.ofChange Rows.hashNobodySpec) own started (by kernel_rfl) Tryd.func5
    (witness_row_at (enc := enc) (C := Tryd.checked) false (laidWorld os) #[.slice none 0 0] rfl (by kernel_rfl) (by kernel_rfl) (by kernel_rfl)
      (OpenSpec.preRow_of_cond 8 hx (by kernel_rfl) (fun k hk => by cases hk) (by kernel_rfl) (laid_here os))) ?_
  intro W base args ds gs before hval hW _ _ _ hL _ _
  exact contract H enc W base args ds gs before hval hW hL

theorem said : Rows.HashNobodySaid :=
  OpenClaim.holds_of_cond 5 Tryd.f5 rfl rfl rfl rfl rfl rfl rfl ⟨rfl, rfl, rfl, rfl, rfl⟩ rfl rfl rfl rfl rfl (by kernel_rfl) Tryd.func5 (by kernel_rfl)
    (of_decide_eq_true (by kernel_rfl)) (by unfold Func.isWrapper; first | (rw [if_pos (by decide +kernel)]; kernel_rfl) | (rw [if_neg (by decide +kernel)]; exact ⟨rfl, rfl⟩))
    (fun os started H enc _ F => by rw [OpenClaim.pre_eq_preRow]; exact lifted os started H enc F)

theorem plain (f : FuncId) (fn : Func) (hf : Tryd.pinned.checked.prog.funcNamed "sealskin/sealskinlaw07.HashNobody" = some f) (hfn : Tryd.pinned.checked.prog.funcs[f]? = some fn) :
    false = Tryd.pinned.checked.prog.looks [] ∧ ∀ (j : Nat) t, fn.params[j]? = some t → Tryd.pinned.checked.prog.wantsStandIn t = false := by
  obtain rfl : f = 5 := Option.some.inj ((show Tryd.prog.funcNamed "sealskin/sealskinlaw07.HashNobody" = some 5 by kernel_rfl).symm.trans hf) |>.symm
  obtain rfl : fn = Tryd.f5 := (Option.some.inj (Tryd.func5.symm.trans hfn)).symm
  refine ⟨by kernel_rfl, fun j t ht => ?_⟩
  rw [Tryd.params5] at ht
  obtain rfl : t = 22 := by simpa using Array.mem_of_getElem? ht
  exact (show Tryd.prog.wantsStandIn 22 = false by kernel_rfl)

theorem proved : Rows.HashNobodyCardSaid :=
  Claim7.holds_tied_plain_at .later [] _ _ _ _ said (fun _ h => by cases h) (by kernel_rfl) (fun _ h => by cases h) hashNobody_row_tie rfl ⟨rfl, rfl⟩ (by kernel_rfl) rfl plain (by kernel_rfl)
#print axioms proved

end Go.Proofs.YtlgbkkfkobijpabDoor.nobody
