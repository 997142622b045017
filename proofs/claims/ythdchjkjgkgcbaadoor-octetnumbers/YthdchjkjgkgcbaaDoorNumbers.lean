/- For any bytes and any numbers the Go function sealskinlaw02.OctetNumbers returns true, and its arguments read as they did. No condition. -/
import Derived.Test.YthdchjkjgkgcbaaDoorNumbers0
namespace Go.Proofs.YthdchjkjgkgcbaaDoor.numbers
set_option linter.unusedVariables false
set_option linter.unusedSimpArgs false
open Go.ChangeShapes Go.WideShapes Go.ChangeAt Go.RowKit Go.Joins

theorem eq_any (v x : Value) (m : List Nat) (w : World) (hv : Byt w v m) (hx : Byt w x m) (hm : ∀ y ∈ m, y < 256) :
    Calls Tryd.prog 7 #[v, x] w fun e w' => e = .returned (.bool true) ∧ w = w' :=
  (equal_any v x m m w hv hx hm hm).mono fun e w' h => ⟨by rw [h.1]; simp, h.2⟩
theorem cap_le {w : World} {a : Option Addr} {n cap : Nat} {l : List Nat} (h : Byt w (.slice a n cap) l) : (n : Int) ≤ 9223372036854775807 := by
  rcases h with ⟨e, _⟩ | ⟨b, c, e, h1, h2, _⟩
  · injection e with e1 e2 e3; omega
  · injection e with e1 e2 e3; unfold maxLen at h2; omega
theorem putN_256 {l : List Nat} (N : Nat → Int) (h : ∀ y ∈ l, y < 256) : ∀ k, ∀ y ∈ putN l N k, y < 256
  | 0 => h
  | k + 1 => by
    intro y hy
    rcases List.mem_append.1 hy with hy | hy
    · exact putN_256 N h k y hy
    · exact num8_256 _ y hy
/-- bytes that can be turned -/
def Tog (w : World) (g K : Nat) : Prop := ∀ j, j < K → (∃ y : Int, w.cell? ⟨g, j, none⟩ = some (.int .u8 y)) ∧ w.frozen? ⟨g, j, none⟩ = false
theorem Tog.put {w : World} {g K : Nat} (h : Tog w g K) (i : Nat) (y : Int) : Tog (w.setCell ⟨g, i, none⟩ (.int .u8 y)) g K := by
  intro j hj
  obtain ⟨⟨z, hz⟩, hf⟩ := h j hj
  refine ⟨?_, by simpa using hf⟩
  by_cases hij : i = j
  · subst hij
    exact ⟨y, set_same _ hz⟩
  · exact ⟨z, by rw [set_other _ hij]; exact hz⟩
theorem tog_of {w w' : World} {base : Nat} {v : Value} {l : List Nat} (h : w.ownsRow base 5 1 v l.length (bv l)) (hb : Below w.heap.size w w') :
    ∃ a cap, v = .slice a l.length cap ∧ (l.length = 0 ∨ ∃ g, a = some ⟨g, 0, none⟩ ∧ base ≤ g ∧ Tog w' g l.length) := by
  rcases Joins.ownsRow_forms h with ⟨rfl, hz⟩ | ⟨g, cp, rfl⟩
  · rw [hz]; exact ⟨none, 0, rfl, .inl rfl⟩
  · refine ⟨some ⟨g, 0, none⟩, cp, rfl, .inr ⟨g, rfl, (h.lt g rfl).1, fun j hj => ?_⟩⟩
    have hg := (h.lt g rfl).2
    have hc := h.cellAt j (by omega)
    have hf := h.frozenAt j
    rw [bv, List.getElem?_map, List.getElem?_eq_getElem hj] at hc
    refine ⟨⟨_, cell_keep hb hg hc⟩, ?_⟩
    rw [hb.frozen (p := ⟨g, j, none⟩) hg]; exact hf

set_option maxHeartbeats 4000000 in
theorem walk (v : Value) (l : List Nat) (la : Option Addr) (n cap' : Nat) (N : Nat → Int) (w : World) (hT : Tabs w) (hv : Byt w v l) (h256 : ∀ y ∈ l, y < 256) (hI : Ints w la n N) (hN : ∀ i, i < n → N i ≤ 9223372036854775807) (hnm : (n : Int) ≤ 9223372036854775807) :
    Calls Tryd.prog 3 #[v, .slice la n cap'] w fun e w' => e = .returned (.bool true) ∧ Below w.heap.size w w' := by
  obtain ⟨a, cap, rfl⟩ := byt_shape hv
  have m1 := cap_le hv
  obtain ⟨m, hm⟩ : ∃ m, l.length = m := ⟨_, rfl⟩
  have H256 := hide h256
  rw [hm] at hv m1 ⊢
  have HM := hide hm
  have HV := hide hv
  have HI := hide hI
  have HNN := hide hN
  have HP256 := hide (putN_256 N h256 n)
  clear h256 hm hv hI hN
  by_cases hA : 32768 < m
  · have t1 : decide ((32768 : Int) < (m : Int)) = true := by simp; omega
    go_enter Tryd.func3, Tryd.ntmps3
    go_wp2_with (go_at_call 4; refine (awake_any _ hT).mono ?_; rintro e w3 ⟨rfl, b3⟩)
    go_ret
    exact ⟨rfl, b3⟩
  have t1 : decide ((32768 : Int) < (m : Int)) = false := by simp; omega
  by_cases hB : 1000 < n
  · have t2 : decide ((1000 : Int) < (n : Int)) = true := by simp; omega
    go_enter Tryd.func3, Tryd.ntmps3
    go_wp2_with (go_at_call 4; refine (awake_any _ hT).mono ?_; rintro e w3 ⟨rfl, b3⟩)
    go_ret
    exact ⟨rfl, b3⟩
  have t2 : decide ((1000 : Int) < (n : Int)) = false := by simp; omega
  have hl1 : l.length ≤ 100000000 := by rw [unhide HM]; omega
  have hl2 : l.length ≤ 1000000000 := by rw [unhide HM]; omega
  have hpl : (putN l N n).length = m + 8 * n := by rw [putN_len, unhide HM]
  obtain ⟨K, hK⟩ : ∃ K, m + 8 * n = K := ⟨_, rfl⟩
  rw [hK] at hpl
  have hK1 : (K : Int) ≤ 1000000 := by omega
  have HPL := hide hpl
  clear hpl hK
  go_enter Tryd.func3, Tryd.ntmps3
  go_wp2_with fail
  refine (clone_any _ l _ (unhide HV) hl2).mono ?_
  rintro e w1 ⟨v1, rfl, ho1, D1⟩
  have Y1 := Byt.of_own ho1
  clear ho1
  obtain ⟨a1, cap1, rfl⟩ := byt_shape Y1
  rw [unhide HM] at Y1 ⊢
  have P1 := hide Y1
  clear Y1
  go_wp2_with fail
  refine (putm_any _ l la n cap' N _ (unhide P1) hl1 (by omega) ((unhide HI).call D1) (unhide HNN)).mono ?_
  rintro e w2 ⟨v2, rfl, ho2, D12⟩
  have D2 := D1.trans (D12.mono D1.size)
  have Y2 := Byt.of_own ho2
  obtain ⟨a2, cap2, hv2⟩ := byt_shape Y2
  subst hv2
  have HO2 := hide ho2
  rw [unhide HPL] at Y2 ⊢
  have P2 := hide Y2
  clear Y2 ho2
  go_wp2_with fail
  refine (refputm_any _ l la n cap' N _ ((unhide HV).call D2) hl1 (by omega) ((unhide HI).call D2) (unhide HNN)).mono ?_
  rintro e w3 ⟨v3, rfl, ho3, D23⟩
  have D3 := D2.trans (D23.mono D2.size)
  have Y3 := Byt.of_own ho3
  clear ho3
  obtain ⟨a3, cap3, hv3⟩ := byt_shape Y3
  subst hv3
  rw [unhide HPL] at Y3 ⊢
  have P3 := hide Y3
  clear Y3
  obtain ⟨a2', cap2', hv2', hTog⟩ := tog_of (unhide HO2) D23
  injection hv2' with e1 e2 e3
  subst e1 e3
  rw [unhide HPL] at hTog
  clear e2
  have D13 := D12.trans (D23.mono D12.size)
  go_wp2_with fail
  refine (eq_any _ _ (putN l N n) _ ((unhide P2).call D23) (unhide P3) (unhide HP256)).mono ?_
  rintro e w3' ⟨rfl, rfl⟩
  clear P2 P3 HO2
  go_wp2_with fail
  go_loopw [30] (fun i wr => ∃ k : Nat, k ≤ K ∧ i = .int .i64 k ∧ (K = 0 ∨ ∃ g, a2 = some ⟨g, 0, none⟩ ∧ w1.heap.size ≤ g ∧ Tog wr g K) ∧ Below w1.heap.size w1 wr) (fun i _ => K - (intOf i).toNat)
  case atStart => exact ⟨0, Nat.zero_le _, rfl, hTog, D13⟩
  case round =>
    obtain ⟨k, hk, rfl, hTg, hBr⟩ := hrel
    by_cases hlt : k < K
    · rcases hTg with h | ⟨g, rfl, hg, hTg⟩
      · omega
      obtain ⟨⟨y, hy⟩, hfz⟩ := hTg k hlt
      have g0 : (0 : Int) ≤ (k : Int) := by omega
      have g1 : (k : Int) < (K : Int) := by omega
      go_wp2_with fail
      go_roundw
      case rel => exact ⟨k + 1, by omega, by go_num, .inr ⟨g, rfl, hg, hTg.put k _⟩, hBr.setCell hg _⟩
      case measure => simp [intOf]; omega
    · have hkn : ¬ (k : Int) < (K : Int) := by omega
      have DR := D1.trans (hBr.mono D1.size)
      have TR := hT.below DR
      have G := hide ((unhide P1).call hBr)
      have X := hide ((unhide HV).call DR)
      go_wp2_with (first
        | (go_at_call 7; refine (eq_any _ _ l _ (unhide G) (unhide X) (unhide H256)).mono ?_; rintro e w' ⟨rfl, rfl⟩)
        | (go_at_call 4; refine (awake_any _ TR).mono ?_; rintro e w8 ⟨rfl, b8⟩))
      go_ret
      exact ⟨rfl, DR.trans (b8.mono DR.size)⟩

theorem open_bytes {H : Type} {enc : TypeId × Value → H} {W : World} {b0 base : Nat} {spare : Nat → Bool} {held : Bool} {v : Value} {d : DataW H} {p : List MemPlace}
    (hv : Value.okWide Tryd.prog W .any b0 22 v) (h : DataW.Trod enc Tryd.prog W base spare held 22 v d p) : ∃ l : List Nat, Byt W v l ∧ ∀ y ∈ l, y < 256 := by
  obtain ⟨a, n, c, rfl⟩ := okWide_slice Tryd.underlying22 hv
  obtain ⟨fuel, hf⟩ := h
  rcases open_ints Tryd.underlying22 Tryd.underlying5 cells5 hf with ⟨hcs, _⟩ | ⟨a, len, cap, zs, hcs, _, hl, hm, hz, _, hc, hw⟩
  · simp [Value.cells] at hcs
    obtain ⟨rfl, rfl, rfl⟩ := hcs
    exact ⟨[], .inl ⟨rfl, rfl⟩, fun y hy => by cases hy⟩
  · simp [Value.cells] at hcs
    obtain ⟨rfl, rfl, rfl⟩ := hcs
    have hlz : n ≤ zs.length := by rw [hz]; split <;> omega
    have hb : ∀ z ∈ zs, 0 ≤ z ∧ z < 256 := fun z hz' => by
      have := bounds_u8 (hw z hz')
      omega
    refine ⟨(zs.take n).map Int.toNat, .inr ⟨a, c, by simp [Nat.min_eq_left hlz], by simp [Nat.min_eq_left hlz]; exact hl, hm, fun i y hy => ?_⟩, fun y hy => ?_⟩
    · rw [List.getElem?_map] at hy
      obtain ⟨z, hz1, rfl⟩ := Option.map_eq_some_iff.1 hy
      have hi : i < n := by
        by_cases hi : i < n
        · exact hi
        · rw [List.getElem?_eq_none (by rw [List.length_take]; omega)] at hz1; cases hz1
      rw [List.getElem?_take_of_lt hi] at hz1
      rw [hc i (by omega), List.getD_eq_getElem?_getD, hz1]
      have := hb z (List.mem_of_getElem? hz1)
      simp
      omega
    · obtain ⟨z, hz1, rfl⟩ := List.mem_map.1 hy
      have := hb z (List.mem_of_mem_take hz1)
      omega

theorem cells3 : Tryd.prog.cellsOf 3 = 1 := by kernel_rfl
theorem open_nums {H : Type} {enc : TypeId × Value → H} {W : World} {b0 base : Nat} {spare : Nat → Bool} {held : Bool} {v : Value} {d : DataW H} {p : List MemPlace}
    (hv : Value.okWide Tryd.prog W .any b0 23 v) (h : DataW.Trod enc Tryd.prog W base spare held 23 v d p) : ∃ la n cap N, v = .slice la n cap ∧ Ints W la n N ∧ (∀ i, i < n → N i ≤ 9223372036854775807) ∧ (n : Int) ≤ 9223372036854775807 := by
  obtain ⟨a, n, c, rfl⟩ := okWide_slice Tryd.underlying23 hv
  obtain ⟨fuel, hf⟩ := h
  rcases open_ints Tryd.underlying23 Tryd.underlying3 cells3 hf with ⟨hcs, _⟩ | ⟨a, len, cap, zs, hcs, _, hl, hm, hz, hlt, hc, hw⟩
  · simp [Value.cells] at hcs
    obtain ⟨rfl, rfl, rfl⟩ := hcs
    exact ⟨none, 0, 0, fun _ => 0, rfl, .inl rfl, fun i hi => by omega, by omega⟩
  · simp [Value.cells] at hcs
    obtain ⟨rfl, rfl, rfl⟩ := hcs
    have hlz : n ≤ zs.length := by rw [hz]; split <;> omega
    refine ⟨some a, n, c, fun i => zs.getD i 0, rfl, ?_, fun i hi => ?_, by unfold maxLen at hm; omega⟩
    · by_cases hn : n = 0
      · exact .inl hn
      · have h0 := hc 0 (by omega)
        obtain ⟨b, off, spot⟩ := a
        have hspot : spot = none := by simpa [Addr.add] using World.cell?_spot h0
        subst hspot
        have hb : b < W.heap.size := by
          have := lt_of_cell h0
          simpa [Addr.add] using this
        refine .inr ⟨b, off, rfl, hb, fun i hi => ?_⟩
        have := hc i (by omega)
        rw [add_plain] at this
        exact this
    · have hi' : i < zs.length := by omega
      have := bounds_i64 (hw (zs.getD i 0) (by rw [List.getD_eq_getElem?_getD, List.getElem?_eq_getElem hi']; exact List.getElem_mem hi'))
      exact this.2

theorem contract (H : Type) (enc : TypeId × Value → H) (W : World) (base : Nat) (args : Array Value) (ds gs : List (DataW H)) (before : List MemPlace)
    (hval : ∀ (j : Nat) t v, Tryd.f3.params[j]? = some t → args[j]? = some v → Value.okWide Tryd.prog W .any base t v)
    (hW : DataW.Whole enc Tryd.prog Tryd.f3.params.toList Rows.octetNumbersSpec.vars false W args.toList ds gs before) (hL : laidMetH Tryd.prog Rows.octetNumbersRow.laid W) :
    Calls Tryd.prog 3 args W fun e W' => ∃ v, e = .returned v ∧ Rows.octetNumbersSpec.post enc Tryd.prog Tryd.f3 false true false false W args v W' := by
  have hT : Tabs W := tabs_of hL
  have hW' := hW
  obtain ⟨p, q, hA0, hV, rfl, hfz, hnd⟩ := hW
  have hA : DataW.TrodAll enc Tryd.prog W 0 (fun _ => true) true Tryd.f3.params.toList args.toList ds p := hA0
  rw [Tryd.params3] at hA hval
  obtain ⟨v0, vs0, d0, ds0, p0, q0, hargs, rfl, rfl, h0, r0⟩ := trodAll_cons hA
  obtain ⟨v1, vs1, d1, ds1, p1, q1, rfl, rfl, rfl, h1, r1⟩ := trodAll_cons r0
  obtain ⟨rfl, rfl, rfl⟩ := trodAll_nil r1
  obtain rfl : args = #[v0, v1] := by cases args; simp_all
  obtain ⟨rfl, rfl⟩ := trodVars_none hV
  have lt0 : ∀ x ∈ p0, x.block < W.heap.size := by obtain ⟨m, hm⟩ := h0; exact DataW.trod_lt m _ _ _ hm
  have lt1 : ∀ x ∈ p1, x.block < W.heap.size := by obtain ⟨m, hm⟩ := h1; exact DataW.trod_lt m _ _ _ hm
  obtain ⟨l0, hY0, h2560⟩ := open_bytes (hval 0 22 v0 rfl rfl) h0
  obtain ⟨la, n, cp, NN, rfl, hI, hNb, hnm⟩ := open_nums (hval 1 23 v1 rfl rfl) h1
  clear hA0
  refine (walk v0 l0 la n cp NN W hT hY0 h2560 hI hNb hnm).mono fun e W' ⟨he, bel⟩ => ?_
  subst he
  exact ⟨_, rfl, _, _, _, [], _, [], hW', trodAll_mk1 (shut_bool Tryd.underlying4 _), (trodAll_cons_mk (Below.trod laidOut (by kernel_rfl) (of_decide_eq_true (by kernel_rfl)) h0 bel lt0) (trodAll_cons_mk (Below.trod laidOut (by kernel_rfl) (of_decide_eq_true (by kernel_rfl)) h1 bel lt1) trodAll_mk0)), rfl, bel.frame _, fun h => by cases h⟩

set_option maxRecDepth 100000 in
theorem laid_here (os : Os) : laidMet Tryd.prog Rows.octetNumbersRow.laid ((laidWorld os).forCall (fun _ _ => 0) ⟨#[], #[.slice none 0 0, .slice none 0 0], []⟩).memory :=
  laidMet_of_run' 8 (by kernel_rfl) (by kernel_rfl)
theorem reads (os : Os) {H : Type} (enc : TypeId × Value → H) : ∃ places, DataW.whole enc Tryd.prog ((laidWorld os).forCall (fun _ _ => 0) ⟨#[], #[.slice none 0 0, .slice none 0 0], []⟩).memory Tryd.f3.params.toList Rows.octetNumbersSpec.vars false (#[.slice none 0 0, .slice none 0 0] : Array Value).toList 8 = some ([.nil, .nil], [], places) :=
  ⟨[], by kernel_rfl⟩

set_option maxRecDepth 100000 in
theorem lifted (os : Os) (started : os.Started) (H : Type) (enc : TypeId × Value → H) (F : Stop.Interp) :
    ReturnsInHanded {} Tryd.checked os 3 .any ((OpenSpec.ofChange Rows.octetNumbersSpec).preRow enc Tryd.prog Tryd.f3 Rows.octetNumbersRow.domain false Rows.octetNumbersRow.laid) (((OpenSpec.ofChange Rows.octetNumbersSpec).at F).post enc Tryd.prog Tryd.f3 false true false false) := by
  obtain ⟨places, hx⟩ := reads os enc
  refine returnsInHanded_of_row (C := Tryd.checked) (s := OpenSpec.ofChange Rows.octetNumbersSpec) own started (by kernel_rfl) Tryd.func3
    (witness_row_at (enc := enc) (C := Tryd.checked) false (laidWorld os) #[.slice none 0 0, .slice none 0 0] rfl (by kernel_rfl) (by kernel_rfl) (by kernel_rfl)
      (OpenSpec.preRow_of_cond 8 hx (by kernel_rfl) (fun k hk => by cases hk) (by kernel_rfl) (laid_here os))) ?_
  intro W base args ds gs before hval hW _ _ _ hL _ _
  exact contract H enc W base args ds gs before hval hW hL

theorem said : Rows.OctetNumbersSaid :=
  OpenClaim.holds_of_cond 3 Tryd.f3 rfl rfl rfl rfl rfl rfl rfl ⟨rfl, rfl, rfl, rfl, rfl⟩ rfl rfl rfl rfl rfl (by kernel_rfl) Tryd.func3 (by kernel_rfl)
    (of_decide_eq_true (by kernel_rfl)) (by unfold Func.isWrapper; first | (rw [if_pos (by decide +kernel)]; kernel_rfl) | (rw [if_neg (by decide +kernel)]; exact ⟨rfl, rfl⟩))
    (fun os started H enc _ F => by rw [OpenClaim.pre_eq_preRow]; exact lifted os started H enc F)

theorem plain (f : FuncId) (fn : Func) (hf : Tryd.pinned.checked.prog.funcNamed "sealskin/sealskinlaw02.OctetNumbers" = some f) (hfn : Tryd.pinned.checked.prog.funcs[f]? = some fn) :
    false = Tryd.pinned.checked.prog.looks [] ∧ ∀ (j : Nat) t, fn.params[j]? = some t → Tryd.pinned.checked.prog.wantsStandIn t = false := by
  obtain rfl : f = 3 := Option.some.inj ((show Tryd.prog.funcNamed "sealskin/sealskinlaw02.OctetNumbers" = some 3 by kernel_rfl).symm.trans hf) |>.symm
  obtain rfl : fn = Tryd.f3 := (Option.some.inj (Tryd.func3.symm.trans hfn)).symm
  refine ⟨by kernel_rfl, fun j t ht => ?_⟩
  rw [Tryd.params3] at ht
  have := Array.mem_of_getElem? ht
  simp at this
  rcases this with rfl | rfl
  · exact (show Tryd.prog.wantsStandIn 22 = false by kernel_rfl)
  · exact (show Tryd.prog.wantsStandIn 23 = false by kernel_rfl)

theorem proved : Rows.OctetNumbersCardSaid :=
  Claim7.holds_tied_plain_at .later [] _ _ _ _ said (fun _ h => by cases h) (by kernel_rfl) (fun _ h => by cases h) octetNumbers_row_tie rfl ⟨rfl, rfl⟩ (by kernel_rfl) rfl plain (by kernel_rfl)
#print axioms proved
end Go.Proofs.YthdchjkjgkgcbaaDoor.numbers
