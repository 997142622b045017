/- For any bytes and any two numbers the Go function sealskinlaw15.AuditNobody returns true, and its arguments read as they did. No condition. -/
import Derived.Test.YtonkgiiacholeaaDoorANil
namespace Go.Proofs.YtonkgiiacholeaaDoor.anobody
set_option linter.unusedVariables false
set_option linter.unusedSimpArgs false
open Go.ChangeShapes Go.WideShapes Go.ChangeAt Go.RowKit Go.Joins

theorem bshape {w : World} {v : Value} {l : List Nat} (h : Byt w v l) : ∃ a cap, v = .slice a l.length cap := by
  rcases h with ⟨rfl, rfl⟩ | ⟨a, cap, rfl, _⟩
  · exact ⟨none, 0, rfl⟩
  · exact ⟨_, _, rfl⟩
set_option maxRecDepth 100000 in
set_option maxHeartbeats 8000000 in
theorem walk (da : Option Addr) (dn dc : Nat) (i n : Int) (w : World) (hT : Tabs w) :
    Calls Tryd.prog 13 #[.slice da dn dc, .int .i64 i, .int .i64 n] w fun e w' => e = .returned (.bool true) ∧ Below w.heap.size w w' := by
  have hz := zero27
  obtain ⟨Z, hZ⟩ : ∃ Z, (bv (List.replicate 32 0)).toArray = Z := ⟨_, rfl⟩
  rw [hZ] at hz
  have HZS : Hid (Z.size = 32) := hide (by rw [← hZ, List.size_toArray, bv_len, List.length_replicate])
  have HZO : Hid (Z.all (·.oneCell') = true) := hide (hZ ▸ one_bv _)
  have hq := eq_sums (List.replicate 32 0) (List.replicate 32 0) (List.length_replicate ..) (List.length_replicate ..)
  rw [hZ, decide_eq_true rfl] at hq
  have b1 : Below w.heap.size w (w.alloc (.cells #[.bool false, .slice none 0 0, .slice none 0 0] 69)) := bal (Below.refl _ _) _
  have r1 : RowAt (w.alloc (.cells #[.bool false, .slice none 0 0, .slice none 0 0] 69)) w.heap.size 69 [.bool false, .slice none 0 0, .slice none 0 0] := RowAt.new w 69 _
  have b2 : Below (w.alloc (.cells #[.bool false, .slice none 0 0, .slice none 0 0] 69)).heap.size (w.alloc (.cells #[.bool false, .slice none 0 0, .slice none 0 0] 69)) ((w.alloc (.cells #[.bool false, .slice none 0 0, .slice none 0 0] 69)).alloc (.cells #[.pointer none, .pointer (some ⟨w.heap.size, 0, none⟩)] 38)) := bal (Below.refl _ _) _
  have r2 := r1.below b2 r1.lt
  have r3 : RowAt ((w.alloc (.cells #[.bool false, .slice none 0 0, .slice none 0 0] 69)).alloc (.cells #[.pointer none, .pointer (some ⟨w.heap.size, 0, none⟩)] 38)) (w.heap.size + 1) 38 [.pointer none, .pointer (some ⟨w.heap.size, 0, none⟩)] := by
    have := RowAt.new (w.alloc (.cells #[.bool false, .slice none 0 0, .slice none 0 0] 69)) 38 [.pointer none, .pointer (some ⟨w.heap.size, 0, none⟩)]
    rw [size_alloc] at this
    exact this
  have HB3 := hide (bcall b1 b2)
  have HT := hide hT
  have HR2 := hide r2
  have HR3 := hide r3
  clear hT b1 r1 b2 r2 r3
  go_enter Tryd.func13, Tryd.ntmps13
  go_wp2_with fail
  generalize (w.alloc (.cells #[.bool false, .slice none 0 0, .slice none 0 0] 69)).alloc (.cells #[.pointer none, .pointer (some ⟨w.heap.size, 0, none⟩)] 38) = w3 at *
  have HN0 : Hid (Nb w3 none) := hide (.inl rfl)
  have HN1 : Hid (Nb w3 (some ⟨w.heap.size, 0, none⟩)) := hide (.inr ⟨_, rfl, unhide HR2⟩)
  have HC0 := hide (p := ∀ W, Below w3.heap.size w3 W → W.cell? ⟨w.heap.size + 1, 0, none⟩ = some (.pointer none)) (fun W hW => by
    have := ((unhide HR3).below hW (unhide HR3).lt).cell 0
    exact this)
  have HC1 := hide (p := ∀ W, Below w3.heap.size w3 W → W.cell? ⟨w.heap.size + 1, 1, none⟩ = some (.pointer (some ⟨w.heap.size, 0, none⟩))) (fun W hW => by
    have := ((unhide HR3).below hW (unhide HR3).lt).cell 1
    exact this)
  go_loopw [21] (fun s wr => ∃ k : Nat, k ≤ 2 ∧ s = .int .i64 (k : Int) ∧ Hid (Below w3.heap.size w3 wr)) (fun s _ => (2 - intOf s).toNat)
  case atStart => exact ⟨0, by omega, by simp, hide (Below.refl _ _)⟩
  case round =>
    obtain ⟨k, hk, rfl, HI⟩ := hrel
    have hk3 : k = 0 ∨ k = 1 ∨ k = 2 := by omega
    rcases hk3 with rfl | rfl | rfl
    · clear hk
      simp only [Int.cast_ofNat_Int]
      have HAT := hide (p := ∀ W, Below w3.heap.size w3 W → _) (fun W hW => nb_at ((unhide HN0).call hW) i)
      have HRO := hide (p := ∀ W, Below w3.heap.size w3 W → _) (fun W hW => nb_root ((unhide HN0).call hW) n)
      have HPR := hide (p := ∀ W, Below w3.heap.size w3 W → _) (fun W hW => nb_prove ((unhide HN0).call hW) i n)
      have HGR := hide (p := ∀ W, Below w3.heap.size w3 W → _) (fun W hW => nb_grown ((unhide HN0).call hW) i n)
      have HAD := hide (p := ∀ W, Below w3.heap.size w3 W → ∀ (a : Option Addr) (m c : Nat), _) (fun W hW a m c => nb_add ((unhide HN0).call hW) a m c)
      have HLE := hide (p := ∀ W, Below w3.heap.size w3 W → _) (fun W hW => nb_len ((unhide HN0).call hW))
      rw [hZ] at HRO
      have hcj := unhide HC0 _ (unhide HI)
      go_wp2_with fail
      refine Calls.mono (unhide HAT _ (unhide HI)) ?_
      rintro e w4 ⟨rfl, rfl⟩
      go_wp2_with fail
      refine Calls.mono (unhide HRO _ (unhide HI)) ?_
      rintro e w5 ⟨rfl, b5⟩
      have B5 := bcall (unhide HI) b5
      have HB6 := hide (bal B5 (.cells Z 43))
      have HR6 : Hid (RowAt (w5.alloc (.cells Z 43)) w5.heap.size 43 (bv (List.replicate 32 0))) := hide (hZ ▸ RowAt.new w5 43 (bv (List.replicate 32 0)))
      clear b5 B5
      go_wp2_with (refine wpList_store_new rfl 43 _ _ rfl Z rfl rfl (by rw [z27, unhide HZS]) rfl (unhide HZO) ?_)
      generalize w5.alloc (.cells Z 43) = w6 at *
      obtain ⟨gs, hgs⟩ : ∃ g, w5.heap.size = g := ⟨_, rfl⟩
      rw [hgs] at HR6 ⊢
      refine Calls.mono (unhide HPR _ (unhide HB6)) ?_
      rintro e w7 ⟨rfl, rfl⟩
      go_wp2_with fail
      refine Calls.mono (unhide HGR _ (unhide HB6)) ?_
      rintro e w7 ⟨rfl, rfl⟩
      have HB7 := hide (bal (unhide HB6) (.cells #[.slice da dn dc] 22))
      have HR7 : Hid (RowAt (w6.alloc (.cells #[.slice da dn dc] 22)) gs 43 (bv (List.replicate 32 0))) := hide ((unhide HR6).below ((Below.refl w6.heap.size w6).alloc (Nat.le_refl _) _) (unhide HR6).lt)
      have HE7 := hide ((unhide HR7).arr hZ)
      go_wp2_with fail
      refine Calls.mono (unhide HAD _ (unhide HB7) _ _ _) ?_
      rintro e w8 ⟨rfl, rfl⟩
      go_wp2_with fail
      refine Calls.mono (unhide HLE _ (unhide HB7)) ?_
      rintro e w8 ⟨rfl, rfl⟩
      go_wp2_with (refine wpList_load_if rfl 43 _ rfl gs rfl 43 Z (0, 0) _ (unhide HE7) Tryd.underlying43 rfl (by rw [z27, unhide HZS]) ?_)
      go_roundw
      case rel => exact ⟨0 + 1, by omega, by simp, hide (unhide HB7)⟩
      case measure => simp [intOf]
    · clear hk
      simp only [Int.cast_ofNat_Int]
      have HAT := hide (p := ∀ W, Below w3.heap.size w3 W → _) (fun W hW => nb_at ((unhide HN1).call hW) i)
      have HRO := hide (p := ∀ W, Below w3.heap.size w3 W → _) (fun W hW => nb_root ((unhide HN1).call hW) n)
      have HPR := hide (p := ∀ W, Below w3.heap.size w3 W → _) (fun W hW => nb_prove ((unhide HN1).call hW) i n)
      have HGR := hide (p := ∀ W, Below w3.heap.size w3 W → _) (fun W hW => nb_grown ((unhide HN1).call hW) i n)
      have HAD := hide (p := ∀ W, Below w3.heap.size w3 W → ∀ (a : Option Addr) (m c : Nat), _) (fun W hW a m c => nb_add ((unhide HN1).call hW) a m c)
      have HLE := hide (p := ∀ W, Below w3.heap.size w3 W → _) (fun W hW => nb_len ((unhide HN1).call hW))
      rw [hZ] at HRO
      have hcj := unhide HC1 _ (unhide HI)
      go_wp2_with fail
      refine Calls.mono (unhide HAT _ (unhide HI)) ?_
      rintro e w4 ⟨rfl, rfl⟩
      go_wp2_with fail
      refine Calls.mono (unhide HRO _ (unhide HI)) ?_
      rintro e w5 ⟨rfl, b5⟩
      have B5 := bcall (unhide HI) b5
      have HB6 := hide (bal B5 (.cells Z 43))
      have HR6 : Hid (RowAt (w5.alloc (.cells Z 43)) w5.heap.size 43 (bv (List.replicate 32 0))) := hide (hZ ▸ RowAt.new w5 43 (bv (List.replicate 32 0)))
      clear b5 B5
      go_wp2_with (refine wpList_store_new rfl 43 _ _ rfl Z rfl rfl (by rw [z27, unhide HZS]) rfl (unhide HZO) ?_)
      generalize w5.alloc (.cells Z 43) = w6 at *
      obtain ⟨gs, hgs⟩ : ∃ g, w5.heap.size = g := ⟨_, rfl⟩
      rw [hgs] at HR6 ⊢
      refine Calls.mono (unhide HPR _ (unhide HB6)) ?_
      rintro e w7 ⟨rfl, rfl⟩
      go_wp2_with fail
      refine Calls.mono (unhide HGR _ (unhide HB6)) ?_
      rintro e w7 ⟨rfl, rfl⟩
      have HB7 := hide (bal (unhide HB6) (.cells #[.slice da dn dc] 22))
      have HR7 : Hid (RowAt (w6.alloc (.cells #[.slice da dn dc] 22)) gs 43 (bv (List.replicate 32 0))) := hide ((unhide HR6).below ((Below.refl w6.heap.size w6).alloc (Nat.le_refl _) _) (unhide HR6).lt)
      have HE7 := hide ((unhide HR7).arr hZ)
      go_wp2_with fail
      refine Calls.mono (unhide HAD _ (unhide HB7) _ _ _) ?_
      rintro e w8 ⟨rfl, rfl⟩
      go_wp2_with fail
      refine Calls.mono (unhide HLE _ (unhide HB7)) ?_
      rintro e w8 ⟨rfl, rfl⟩
      go_wp2_with (refine wpList_load_if rfl 43 _ rfl gs rfl 43 Z (0, 0) _ (unhide HE7) Tryd.underlying43 rfl (by rw [z27, unhide HZS]) ?_)
      go_roundw
      case rel => exact ⟨1 + 1, by omega, by simp, hide (unhide HB7)⟩
      case measure => simp [intOf]
    · clear hk
      simp only [Int.cast_ofNat_Int]
      have B := bcall (unhide HB3) (unhide HI)
      have HAW := hide (aawake_any wr ((unhide HT).below B))
      have HB := hide B
      clear B
      go_wp2_with fail
      refine Calls.mono (unhide HAW) ?_
      rintro e w9 ⟨rfl, b9⟩
      have HF := hide (bcall (unhide HB) b9)
      clear b9
      go_wp2_with fail
      go_ret
      exact ⟨rfl, unhide HF⟩

set_option maxRecDepth 100000 in
theorem contract (H : Type) (enc : TypeId × Value → H) (W : World) (base : Nat) (args : Array Value) (ds gs : List (DataW H)) (before : List MemPlace)
    (hval : ∀ (j : Nat) t v, Tryd.f13.params[j]? = some t → args[j]? = some v → Value.okWide Tryd.prog W .any base t v)
    (hW : DataW.Whole enc Tryd.prog Tryd.f13.params.toList Rows.auditNobodySpec.vars false W args.toList ds gs before) (hL : laidMetH Tryd.prog Rows.auditNobodyRow.laid W) :
    Calls Tryd.prog 13 args W fun e W' => ∃ v, e = .returned v ∧ Rows.auditNobodySpec.post enc Tryd.prog Tryd.f13 false true false false W args v W' := by
  have hT : Tabs W := tabs_of hL
  have hW' := hW
  obtain ⟨p, q, hA0, hV, rfl, hfz, hnd⟩ := hW
  have hA : DataW.TrodAll enc Tryd.prog W 0 (fun _ => true) true Tryd.f13.params.toList args.toList ds p := hA0
  rw [Tryd.params13] at hA hval
  obtain ⟨v0, vs0, d0, ds0, p0, q0, hargs, rfl, rfl, h0, r0⟩ := trodAll_cons hA
  obtain ⟨v1, vs1, d1, ds1, p1, q1, rfl, rfl, rfl, h1, r1⟩ := trodAll_cons r0
  obtain ⟨v2, vs2, d2, ds2, p2, q2, rfl, rfl, rfl, h2, r2⟩ := trodAll_cons r1
  obtain ⟨rfl, rfl, rfl⟩ := trodAll_nil r2
  obtain rfl : args = #[v0, v1, v2] := by cases args; simp_all
  obtain ⟨rfl, rfl⟩ := trodVars_none hV
  have lt0 : ∀ x ∈ p0, x.block < W.heap.size := by obtain ⟨m, hm⟩ := h0; exact DataW.trod_lt m _ _ _ hm
  have lt1 : ∀ x ∈ p1, x.block < W.heap.size := by obtain ⟨m, hm⟩ := h1; exact DataW.trod_lt m _ _ _ hm
  have lt2 : ∀ x ∈ p2, x.block < W.heap.size := by obtain ⟨m, hm⟩ := h2; exact DataW.trod_lt m _ _ _ hm
  obtain ⟨l0, hY0, h2560⟩ := open_bytes (hval 0 22 v0 rfl rfl) h0
  obtain ⟨da, dc, rfl⟩ := bshape hY0
  obtain ⟨n1, rfl⟩ := open_i64 (hval 1 3 v1 rfl rfl) h1
  obtain ⟨n2, rfl⟩ := open_i64 (hval 2 3 v2 rfl rfl) h2
  clear hA0
  refine (walk da l0.length dc n1 n2 W hT).mono fun e W' ⟨he, bel⟩ => ?_
  subst he
  exact ⟨_, rfl, _, _, _, [], _, [], hW', trodAll_mk1 (shut_bool Tryd.underlying4 _), (trodAll_cons_mk (Below.trod laidOut (by kernel_rfl) (of_decide_eq_true (by kernel_rfl)) h0 bel lt0) (trodAll_cons_mk (Below.trod laidOut (by kernel_rfl) (of_decide_eq_true (by kernel_rfl)) h1 bel lt1) (trodAll_cons_mk (Below.trod laidOut (by kernel_rfl) (of_decide_eq_true (by kernel_rfl)) h2 bel lt2) trodAll_mk0))), rfl, bel.frame _, fun h => by cases h⟩

set_option maxRecDepth 100000 in
theorem laid_here (os : Os) : laidMet Tryd.prog Rows.auditNobodyRow.laid ((laidWorld os).forCall (fun _ _ => 0) ⟨#[], #[.slice none 0 0, .int .i64 0, .int .i64 0], []⟩).memory :=
  laidMet_of_run' 8 (by kernel_rfl) (by kernel_rfl)
theorem reads (os : Os) {H : Type} (enc : TypeId × Value → H) : ∃ places, DataW.whole enc Tryd.prog ((laidWorld os).forCall (fun _ _ => 0) ⟨#[], #[.slice none 0 0, .int .i64 0, .int .i64 0], []⟩).memory Tryd.f13.params.toList Rows.auditNobodySpec.vars false (#[.slice none 0 0, .int .i64 0, .int .i64 0] : Array Value).toList 8 = some ([.nil, .lit (.int .i64 0), .lit (.int .i64 0)], [], places) :=
  ⟨[], by kernel_rfl⟩

set_option maxRecDepth 100000 in
theorem lifted (os : Os) (started : os.Started) (H : Type) (enc : TypeId × Value → H) (F : Stop.Interp) :
    ReturnsInHanded {} Tryd.checked os 13 .any ((OpenSpec.ofChange Rows.auditNobodySpec).preRow enc Tryd.prog Tryd.f13 Rows.auditNobodyRow.domain false Rows.auditNobodyRow.laid) (((OpenSpec.ofChange Rows.auditNobodySpec).at F).post enc Tryd.prog Tryd.f13 false true false false) := by
  obtain ⟨places, hx⟩ := reads os enc
  refine returnsInHanded_of_row (C := Tryd.checked) (s := OpenSpec.ofChange Rows.auditNobodySpec) own started (by kernel_rfl) Tryd.func13
    (witness_row_at (enc := enc) (C := Tryd.checked) false (laidWorld os) #[.slice none 0 0, .int .i64 0, .int .i64 0] rfl (by kernel_rfl) (by kernel_rfl) (by kernel_rfl)
      (OpenSpec.preRow_of_cond 8 hx (by kernel_rfl) (fun k hk => by cases hk) (by kernel_rfl) (laid_here os))) ?_
  intro W base args ds gs before hval hW _ _ _ hL _ _
  exact contract H enc W base args ds gs before hval hW hL

set_option maxRecDepth 100000 in
theorem said : Rows.AuditNobodySaid :=
  OpenClaim.holds_of_cond 13 Tryd.f13 rfl rfl rfl rfl rfl rfl rfl ⟨rfl, rfl, rfl, rfl, rfl⟩ rfl rfl rfl rfl rfl (by kernel_rfl) Tryd.func13 (by kernel_rfl)
    (of_decide_eq_true (by kernel_rfl)) (by unfold Func.isWrapper; first | (rw [if_pos (by decide +kernel)]; kernel_rfl) | (rw [if_neg (by decide +kernel)]; exact ⟨rfl, rfl⟩))
    (fun os started H enc _ F => by rw [OpenClaim.pre_eq_preRow]; exact lifted os started H enc F)

set_option maxRecDepth 100000 in
theorem plain (f : FuncId) (fn : Func) (hf : Tryd.pinned.checked.prog.funcNamed "sealskin/sealskinlaw15.AuditNobody" = some f) (hfn : Tryd.pinned.checked.prog.funcs[f]? = some fn) :
    false = Tryd.pinned.checked.prog.looks [] ∧ ∀ (j : Nat) t, fn.params[j]? = some t → Tryd.pinned.checked.prog.wantsStandIn t = false := by
  obtain rfl : f = 13 := Option.some.inj ((show Tryd.prog.funcNamed "sealskin/sealskinlaw15.AuditNobody" = some 13 by kernel_rfl).symm.trans hf) |>.symm
  obtain rfl : fn = Tryd.f13 := (Option.some.inj (Tryd.func13.symm.trans hfn)).symm
  refine ⟨by kernel_rfl, fun j t ht => ?_⟩
  rw [Tryd.params13] at ht
  have := Array.mem_of_getElem? ht
  simp at this
  rcases this with rfl | rfl
  · exact (show Tryd.prog.wantsStandIn 22 = false by kernel_rfl)
  · exact (show Tryd.prog.wantsStandIn 3 = false by kernel_rfl)

theorem proved : Rows.AuditNobodyCardSaid :=
  Claim7.holds_tied_plain_at .later [] _ _ _ _ said (fun _ h => by cases h) (by kernel_rfl) (fun _ h => by cases h) auditNobody_row_tie rfl ⟨rfl, rfl⟩ (by kernel_rfl) rfl plain (by kernel_rfl)
#print axioms proved
end Go.Proofs.YtonkgiiacholeaaDoor.anobody
