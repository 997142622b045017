/- For every list of parts and text the Go function sealskinlaw03.EditApplies returns true, and its arguments read as they did. No condition. -/
import Derived.Test.YtidblnjohkadhaaDoorIvt
import Derived.Test.YtidblnjohkadhaaDoorRin
import Derived.LaidSub
namespace Go.Proofs.YtidblnjohkadhaaDoor
set_option linter.unusedVariables false
set_option linter.unusedSimpArgs false
open Go.ChangeShapes Go.WideShapes Go.ChangeAt Go.RowKit Go.Joins Go.Deep

theorem invert_at {w W : World} {a : Option Addr} {l : List Pt} {c n : Nat} (s : ByteArray) (hU : UT W) (he : Edit W a l c) (hn : l.length = n) (hl : n ≤ 1099511627776) (hs : s.size ≤ 281474976710656) (hb : Below w.heap.size w W) :
    Calls Tryd.prog 41 #[.slice a n c, .string s] W fun r w' => IvtR W w' l s r ∧ Below w.heap.size w w' := by
  subst hn
  refine Calls.mono (invert_any a l c s W hU he.pts (Nat.le_trans he.cap he.max) he.txt2 hs hl) ?_
  rintro r w' ⟨h, h2⟩
  exact ⟨h, hb.trans (h2.mono hb.size)⟩
theorem ed_inv {l c : List Pt} {t : Nat} {cs : List (List UInt8)} (h : IsEd l cs.length t) (h3 : NfG 0 c) (h4 : atomsL c = At.can (At.inv (atomsL l) cs)) : IsEd c t cs.length := by
  have hs := At.inv_sizes (atomsL l) cs h.2.1.symm
  refine ⟨h3, ?_, ?_, h.2.2.2.2, h.2.2.2.1⟩
  · rw [h4, ← At.fromN_sw (At.can_sw _), hs.1, h.2.2.1]
  · rw [h4, ← At.toN_sw (At.can_sw _), hs.2, h.2.1]
theorem edit_nil (w : World) : Edit w none [] 0 := ⟨.inl rfl, by first | exact AtB.none _ | (unfold AtB; simp), Nat.le_refl _, by unfold maxLen; omega, (fun p hp => by cases hp), by simp⟩
theorem cs_le {s : ByteArray} {cs : List (List UInt8)} (h : Tx s cs) : cs.length ≤ s.size := by
  rw [h.size]
  have := h.cps
  clear h
  induction cs with
  | nil => simp
  | cons c cs ih =>
    have h1 := ih this.tail
    have h2 := List.length_pos_iff.2 this.head.ne
    simp only [List.flatten_cons, List.length_append, List.length_cons]
    omega
set_option maxRecDepth 100000 in
set_option maxHeartbeats 4000000 in
theorem applies_law (e : Option Addr) (le : List Pt) (ce : Nat) (s : ByteArray) (w : World) (hT : UT w) (ee : Edit w e le ce) (hs : s.size ≤ 140737488351232) : Calls Tryd.prog 7 #[.slice e le.length ce, .string s] w fun r w' => r = .returned (.bool true) ∧ Below w.heap.size w w' := by
  have HU : Hid (∀ W, Below w.heap.size w W → UT W) := hide (fun W h => hT.call h)
  have HB0 := hide (Below.refl w.heap.size w)
  have Ee : Hid (∀ W, Below w.heap.size w W → Edit W e le ce) := hide (fun W h => ee.call h)
  have Te := hide (⟨ee.txt, ee.cap, ee.max, ee.num⟩ : _ ∧ _ ∧ _ ∧ _)
  have hbL : Below w.heap.size w (w.alloc (.cells #[.slice e le.length ce] 22)) := (Below.refl _ _).alloc (Nat.le_refl _) _
  have HLT := hide (light_any w.heap.size [⟨e, le, ce⟩] (w.alloc (.cells #[.slice e le.length ce] 22)) (RowAt.new w 22 _) (by
    intro e he
    simp only [List.mem_cons, List.not_mem_nil, or_false] at he
    rcases he with rfl
    · exact (ee.call hbL).pts
    ) (by
    intro e he
    simp only [List.mem_cons, List.not_mem_nil, or_false] at he
    rcases he with rfl
    · exact Nat.le_trans ee.cap ee.max
    ) (by simp))
  have HBL := hide hbL
  have HS := hide hs
  obtain ⟨ne, hne⟩ : ∃ z, le.length = z := ⟨_, rfl⟩
  simp only [hne] at HLT HBL ⊢
  have Ne := hide hne
  clear hT hbL ee hne hs
  go_enter Tryd.func7, Tryd.ntmps7
  go_wp2_with fail
  refine Calls.mono (unhide HLT) ?_
  rintro r w1 ⟨⟨lb_, rfl, hlb⟩, hb1⟩
  have HB1 := hide ((unhide HBL).trans (hb1.mono (unhide HBL).size))
  have HLB := hide hlb
  clear hb1 HLT hlb HBL
  cases lb_ with
  | false =>
    go_wp2_with fail
    refine Calls.mono (awake_any _ (unhide HU _ (unhide HB1))) ?_
    rintro r wa ⟨rfl, hba⟩
    have HBa := hide ((unhide HB1).trans (hba.mono (unhide HB1).size))
    clear hba
    go_wp2_with fail
    go_ret
    exact ⟨rfl, unhide HBa⟩
  | true =>
    have qe : Hid (ne ≤ 200) := hide (by have h := (unhide HLB rfl).1 ⟨e, le, ce⟩ (by simp); rw [← unhide Ne]; exact h)
    have HWS := hide (unhide HLB rfl).2
    clear HLB
    by_cases hsz : (4096 : Int) < (s.size : Int)
    · skip
      go_wp2_with fail
      refine Calls.mono (awake_any _ (unhide HU _ (unhide HB1))) ?_
      rintro r wa ⟨rfl, hba⟩
      have HBa := hide ((unhide HB1).trans (hba.mono (unhide HB1).size))
      clear hba
      go_wp2_with fail
      go_ret
      exact ⟨rfl, unhide HBa⟩
    · have hs48 : Hid (s.size ≤ 281474976710656) := hide (by have := unhide HS; omega)
      have hs12 : Hid (s.size ≤ 4096) := hide (by omega)
      obtain ⟨sz, hsz2⟩ : ∃ z, s.size = z := ⟨_, rfl⟩
      rw [hsz2] at hsz
      go_wp2_with fail
      refine Calls.mono (apply_at (w := w1) s (unhide HU _ (unhide HB1)) (unhide Ee _ (unhide HB1)) (unhide Ne) (unhide hs48) (Below.refl w1.heap.size w1)) ?_
      rintro r w2 ⟨h_, hb_⟩
      have HB2 := hide ((unhide HB1).trans (hb_.mono (unhide HB1).size))
      clear hb_
      clear hsz2
      rcases h_ with ⟨h_, rfl⟩ | ⟨h_, S1, c0, x0, x1, rfl⟩
      · have HNO := hide h_
        clear h_
        have HRA := hide (fun W hW => rapply_no (s := s) (unhide Ee W hW) (by have := unhide hs12; omega) (unhide HNO))
        have HRI := hide (fun W hW => rinvert_no (s := s) (unhide Ee W hW) (by have := unhide hs12; omega) (unhide HNO))
        rw [unhide Ne] at HRA HRI
        go_wp2_with fail
        refine Calls.mono (unhide HRA _ (unhide HB2)) ?_
        rintro r w3 ⟨rfl, hb_⟩
        have HB3 := hide ((unhide HB2).trans (hb_.mono (unhide HB2).size))
        clear hb_
        go_wp2_with fail
        refine Calls.mono (invert_at (w := w3) s (unhide HU _ (unhide HB3)) (unhide Ee _ (unhide HB3)) (unhide Ne) (by have := unhide qe; omega) (unhide hs48) (Below.refl w3.heap.size w3)) ?_
        rintro r w4 ⟨h_, hb_⟩
        have HB4 := hide ((unhide HB3).trans (hb_.mono (unhide HB3).size))
        clear hb_
        rcases h_ with ⟨_, rfl⟩ | ⟨h_, _⟩
        rotate_left
        · rw [unhide HNO] at h_; cases h_
        go_wp2_with fail
        refine Calls.mono (unhide HRI _ (unhide HB4)) ?_
        rintro r w5 ⟨rfl, hb_⟩
        have HB5 := hide ((unhide HB4).trans (hb_.mono (unhide HB4).size))
        clear hb_
        go_wp2_with fail
        refine Calls.mono (rsame_at (w := w5) (edit_nil _) (edit_nil _) rfl rfl rfl (Below.refl w5.heap.size w5)) ?_
        rintro r w6 ⟨rfl, hb_⟩
        have HB6 := hide ((unhide HB5).trans (hb_.mono (unhide HB5).size))
        clear hb_
        go_wp2_with fail
        refine Calls.mono (awake_any _ (unhide HU _ (unhide HB6))) ?_
        rintro r wa ⟨rfl, hba⟩
        have HBa := hide ((unhide HB6).trans (hba.mono (unhide HB6).size))
        clear hba
        go_wp2_with fail
        go_ret
        exact ⟨rfl, unhide HBa⟩
      obtain ⟨cs, ta, y0, hEe⟩ := isOf_ed h_
      obtain rfl : c0 = cs := x0.inj y0
      obtain rfl : S1 = txB (At.app (atomsL le) c0) := (txB_of x1).symm
      have X0 := hide x0
      have D := hide hEe
      have HIO := hide h_
      have HCL : Hid (c0.length ≤ 4096) := hide (by have := cs_le x0; have := unhide hs12; omega)
      have HRA := hide (fun W hW => rapply_ok (unhide Ee W hW) (by have := unhide hs12; omega) (unhide X0) rfl (unhide D) (by have := unhide qe; have := unhide Ne; omega))
      have HRI := hide (fun W hW => rinvert_ok (unhide Ee W hW) (by have := unhide hs12; omega) (unhide X0) rfl (unhide D) (by have := unhide qe; have := unhide Ne; omega) (by have := unhide HCL; omega))
      rw [unhide Ne] at HRA HRI
      obtain ⟨S2, hS2⟩ : ∃ z, txB (At.app (atomsL le) c0) = z := ⟨_, rfl⟩
      rw [hS2] at HRA ⊢
      clear h_ x0 x1 y0 hEe hS2
      go_wp2_with fail
      refine Calls.mono (unhide HRA _ (unhide HB2)) ?_
      rintro r w3 ⟨rfl, hb_⟩
      have HB3 := hide ((unhide HB2).trans (hb_.mono (unhide HB2).size))
      clear hb_
      go_wp2_with fail
      refine Calls.mono (invert_at (w := w3) s (unhide HU _ (unhide HB3)) (unhide Ee _ (unhide HB3)) (unhide Ne) (by have := unhide qe; omega) (unhide hs48) (Below.refl w3.heap.size w3)) ?_
      rintro r w4 ⟨h_, hb_⟩
      have HB4 := hide ((unhide HB3).trans (hb_.mono (unhide HB3).size))
      clear hb_
      rcases h_ with ⟨h_, _⟩ | ⟨_, v, lx, cs, x2, rfl, ov, nf_, at_, ln_⟩
      · rw [unhide HIO] at h_; cases h_
      obtain rfl : cs = c0 := x2.inj (unhide X0)
      have hEi := ed_inv (unhide D) nf_ at_
      have hli : lx.length ≤ 403 := by have h1 := unhide qe; have h2 := unhide Ne; omega
      have Dx := hide hEi
      have Ax := hide (And.intro nf_ at_)
      have HLX := hide hli
      clear x2 nf_ at_ ln_ hli
      obtain ⟨x, cx, hvx, hEx⟩ := ov.edit (ed_txt hEi) (by have := unhide HLX; omega)
      subst hvx
      have Ox4 := hide hEx
      obtain ⟨nx, hnx⟩ : ∃ z, lx.length = z := ⟨_, rfl⟩
      rw [hnx]
      have Nx := hide hnx
      clear hEx hnx ov
      clear hEi
      go_wp2_with fail
      refine Calls.mono (unhide HRI _ (unhide HB4)) ?_
      rintro r w5 ⟨v2, L, rfl, ho_, hn_, ha_, hb_⟩
      have HB5 := hide ((unhide HB4).trans (hb_.mono (unhide HB4).size))
      have Ox5 := hide ((unhide Ox4).call hb_)
      clear Ox4
      clear hb_
      obtain rfl : L = lx := nf_unique _ _ _ _ hn_ (unhide Ax).1 (by rw [ha_, (unhide Ax).2])
      obtain ⟨y, cy, hvy, hEy⟩ := OwnP.edit ho_ (ed_txt (unhide Dx)) (by have := unhide HLX; omega)
      rw [unhide Nx] at hvy
      subst hvy
      have Oy5 := hide hEy
      clear hEy hn_ ha_ ho_
      go_wp2_with fail
      refine Calls.mono (rsame_at (w := w5) (unhide Ox5) (unhide Oy5) rfl (unhide Nx) (unhide Nx) (Below.refl w5.heap.size w5)) ?_
      rintro r w6 ⟨rfl, hb_⟩
      have HB6 := hide ((unhide HB5).trans (hb_.mono (unhide HB5).size))
      have Ox6 := hide ((unhide Ox5).call hb_)
      clear Ox5
      have Oy6 := hide ((unhide Oy5).call hb_)
      clear Oy5
      clear hb_
      go_wp2_with fail
      refine Calls.mono (awake_any _ (unhide HU _ (unhide HB6))) ?_
      rintro r wa ⟨rfl, hba⟩
      have HBa := hide ((unhide HB6).trans (hba.mono (unhide HB6).size))
      clear hba
      go_wp2_with fail
      go_ret
      exact ⟨rfl, unhide HBa⟩
end Go.Proofs.YtidblnjohkadhaaDoor

namespace Go.Proofs.YtidblnjohkadhaaDoor.applies
set_option linter.unusedVariables false
set_option linter.unusedSimpArgs false
set_option maxRecDepth 100000
open Go.ChangeShapes Go.WideShapes Go.ChangeAt Go.RowKit Go.Joins Go.Deep

theorem contract (H : Type) (enc : TypeId × Value → H) (W : World) (base : Nat) (args : Array Value) (ds gs : List (DataW H)) (before : List MemPlace)
    (hval : ∀ (j : Nat) t v, Tryd.f7.params[j]? = some t → args[j]? = some v → Value.okWide Tryd.prog W .any base t v)
    (hW : DataW.Whole enc Tryd.prog Tryd.f7.params.toList Rows.editAppliesSpec.vars false W args.toList ds gs before) (hL : laidMetH Tryd.prog Rows.editAppliesRow.laid W)
    (hsz : (DataW.weightsEach Tryd.prog (Tryd.f7.params.toList ++ (OpenSpec.ofChange Rows.editAppliesSpec).bare.plain.varTypes Tryd.prog) (ds ++ gs)).all (· ≤ reachBytes) = true) :
    Calls Tryd.prog 7 args W fun e W' => ∃ v, e = .returned v ∧ Rows.editAppliesSpec.post enc Tryd.prog Tryd.f7 false true false false W args v W' := by
  have hT : UT W := ut_of hL
  have hW' := hW
  obtain ⟨p, q, hA0, hV, rfl, hfz, hnd⟩ := hW
  have hA : DataW.TrodAll enc Tryd.prog W 0 (fun _ => true) true Tryd.f7.params.toList args.toList ds p := hA0
  rw [Tryd.params7] at hA hval hsz
  obtain ⟨v0, vs0, d0, ds0, p0, q0, hargs, rfl, rfl, h0, r0⟩ := trodAll_cons hA
  obtain ⟨v1, vs1, d1, ds1, p1, q1, rfl, rfl, rfl, h1, r1⟩ := trodAll_cons r0
  obtain ⟨rfl, rfl, rfl⟩ := trodAll_nil r1
  obtain rfl : args = #[v0, v1] := by cases args; simp_all
  obtain ⟨rfl, rfl⟩ := trodVars_none hV
  have lt0 : ∀ x ∈ p0, x.block < W.heap.size := by obtain ⟨m, hm⟩ := h0; exact DataW.trod_lt m _ _ _ hm
  have lt1 : ∀ x ∈ p1, x.block < W.heap.size := by obtain ⟨m, hm⟩ := h1; exact DataW.trod_lt m _ _ _ hm
  obtain ⟨a0, l0, c0, rfl, e0⟩ := open_edit (hval 0 22 v0 rfl rfl) h0 (fun n hn => of_decide_eq_true (List.all_eq_true.1 hsz n (DataW.weights_mem_each (j := 0) rfl rfl n hn)))
  obtain ⟨s1, rfl, z1⟩ := open_text (hval 1 9 v1 rfl rfl) h1 (fun n hn => of_decide_eq_true (List.all_eq_true.1 hsz n (DataW.weights_mem_each (j := 1) rfl rfl n hn)))
  clear hA0
  refine (applies_law a0 l0 c0 s1 W hT e0 z1).mono fun e W' ⟨he, bel⟩ => ?_
  subst he
  exact ⟨_, rfl, _, _, _, [], _, [], hW', trodAll_mk1 (shut_bool Tryd.underlying4 _), (trodAll_cons_mk (Below.trod laidOut (by kernel_rfl) (of_decide_eq_true (by kernel_rfl)) h0 bel lt0) (trodAll_cons_mk (Below.trod laidOut (by kernel_rfl) (of_decide_eq_true (by kernel_rfl)) h1 bel lt1) trodAll_mk0)), rfl, bel.frame _, fun h => by cases h⟩

set_option maxRecDepth 100000 in
theorem laid_here (os : Os) : laidMet Tryd.prog Rows.editAppliesRow.laid ((laidWorld os).forCall (fun _ _ => 0) ⟨#[], #[.slice none 0 0, .string ⟨#[]⟩], []⟩).memory :=
  laidMet_of_run' 8 (by kernel_rfl) (by kernel_rfl)
theorem reads (os : Os) {H : Type} (enc : TypeId × Value → H) : ∃ places, DataW.whole enc Tryd.prog ((laidWorld os).forCall (fun _ _ => 0) ⟨#[], #[.slice none 0 0, .string ⟨#[]⟩], []⟩).memory Tryd.f7.params.toList Rows.editAppliesSpec.vars false (#[.slice none 0 0, .string ⟨#[]⟩] : Array Value).toList 8 = some ([.nil, .lit (.string [])], [], places) :=
  ⟨[], by kernel_rfl⟩

set_option maxRecDepth 100000 in
theorem lifted (os : Os) (started : os.Started) (H : Type) (enc : TypeId × Value → H) (F : Stop.Interp) :
    ReturnsInHanded {} Tryd.checked os 7 .any ((OpenSpec.ofChange Rows.editAppliesSpec).preRow enc Tryd.prog Tryd.f7 Rows.editAppliesRow.domain false Rows.editAppliesRow.laid) (((OpenSpec.ofChange Rows.editAppliesSpec).at F).post enc Tryd.prog Tryd.f7 false true false false) := by
  obtain ⟨places, hx⟩ := reads os enc
  refine returnsInHanded_of_row (C := Tryd.checked) (s := OpenSpec.ofChange Rows.editAppliesSpec) own started (by kernel_rfl) Tryd.func7
    (witness_row_at (enc := enc) (C := Tryd.checked) false (laidWorld os) #[.slice none 0 0, .string ⟨#[]⟩] rfl (by kernel_rfl) (by kernel_rfl) (by kernel_rfl)
      (OpenSpec.preRow_of_cond 8 hx (by kernel_rfl) (fun k hk => by cases hk) (by kernel_rfl) (laid_here os))) ?_
  intro W base args ds gs before hval hW _ _ hsz hL _ _
  exact contract H enc W base args ds gs before hval hW hL hsz

theorem said : Rows.EditAppliesSaid :=
  OpenClaim.holds_of_cond 7 Tryd.f7 rfl rfl rfl rfl rfl rfl rfl ⟨rfl, rfl, rfl, rfl, rfl⟩ rfl rfl rfl rfl rfl (by kernel_rfl) Tryd.func7 (by kernel_rfl)
    (of_decide_eq_true (by kernel_rfl)) (by unfold Func.isWrapper; first | (rw [if_pos (by decide +kernel)]; kernel_rfl) | (rw [if_neg (by decide +kernel)]; exact ⟨rfl, rfl⟩))
    (fun os started H enc _ F => by rw [OpenClaim.pre_eq_preRow]; exact lifted os started H enc F)

theorem plain (f : FuncId) (fn : Func) (hf : Tryd.pinned.checked.prog.funcNamed "sealskin/sealskinlaw03.EditApplies" = some f) (hfn : Tryd.pinned.checked.prog.funcs[f]? = some fn) :
    false = Tryd.pinned.checked.prog.looks [] ∧ ∀ (j : Nat) t, fn.params[j]? = some t → Tryd.pinned.checked.prog.wantsStandIn t = false := by
  obtain rfl : f = 7 := Option.some.inj ((show Tryd.prog.funcNamed "sealskin/sealskinlaw03.EditApplies" = some 7 by kernel_rfl).symm.trans hf) |>.symm
  obtain rfl : fn = Tryd.f7 := (Option.some.inj (Tryd.func7.symm.trans hfn)).symm
  refine ⟨by kernel_rfl, fun j t ht => ?_⟩
  rw [Tryd.params7] at ht
  have := Array.mem_of_getElem? ht
  simp at this
  rcases this with rfl | rfl
  · exact (show Tryd.prog.wantsStandIn 22 = false by kernel_rfl)
  · exact (show Tryd.prog.wantsStandIn 9 = false by kernel_rfl)

theorem proved : Rows.EditAppliesCardSaid :=
  Claim7.holds_tied_plain_at .later [] _ _ _ _ said (fun _ h => by cases h) (by kernel_rfl) (fun _ h => by cases h) editApplies_row_tie rfl ⟨rfl, rfl⟩ (by kernel_rfl) rfl plain (by kernel_rfl)
#print axioms proved
end Go.Proofs.YtidblnjohkadhaaDoor.applies
