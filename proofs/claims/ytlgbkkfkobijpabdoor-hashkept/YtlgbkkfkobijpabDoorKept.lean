/- For any two lists of bytes the Go function sealskinlaw07.HashKept returns true, and its arguments read as they did. No condition. -/
import Derived.Test.YtlgbkkfkobijpabDoorNew
namespace Go.Proofs.YtlgbkkfkobijpabDoor.kept
set_option linter.unusedVariables false
set_option linter.unusedSimpArgs false
open Go.ChangeShapes Go.WideShapes Go.ChangeAt Go.RowKit Go.Joins

/-- the first n cells of a block are bytes -/
def Bys (w : World) (g n : Nat) : Prop := ∃ cs, RowAt w g 5 cs ∧ ∀ i, i < n → ∃ y : Nat, y < 256 ∧ cs[i]? = some (.int .u8 (y : Int))
theorem Bys.of_own {w : World} {base : Nat} {v : Value} {l : List Nat} (h : w.ownsRow base 5 1 v l.length (bv l)) (h8 : U8 l) : (v = .slice none 0 0 ∧ l = []) ∨ ∃ g cap, v = .slice (some ⟨g, 0, none⟩) l.length cap ∧ base ≤ g ∧ Bys w g l.length := by
  obtain ⟨_, ⟨rfl, hz⟩ | ⟨g, cap, cur, rfl, hg, hh, h1, h2, h3, h4⟩⟩ := h
  · exact .inl ⟨rfl, List.length_eq_zero_iff.1 hz⟩
  · refine .inr ⟨g, cap, rfl, hg, cur.toList, by simpa [RowAt] using hh, fun i hi => ?_⟩
    have e : (cur.toList.take (l.length * 1))[i]? = (bv l)[i]? := by rw [h4]
    rw [List.getElem?_take_of_lt (by omega), bv, List.getElem?_map, List.getElem?_eq_getElem hi] at e
    exact ⟨l[i], h8 _ (List.getElem_mem hi), e⟩
theorem Bys.set {w : World} {g n k y : Nat} (h : Bys w g n) (hy : y < 256) : Bys (w.setCell ⟨g, k, none⟩ (.int .u8 (y : Int))) g n := by
  obtain ⟨cs, h1, h2⟩ := h
  refine ⟨_, h1.set k _, fun i hi => ?_⟩
  obtain ⟨z, hz, hc⟩ := h2 i hi
  rw [List.getElem?_set]
  split
  · rename_i e
    subst e
    have : k < cs.length := (List.getElem?_eq_some_iff.1 hc).1
    exact ⟨y, hy, by simp [this]⟩
  · exact ⟨z, hz, hc⟩
theorem Bys.only {p : Nat → Prop} {w w' : World} {g n : Nat} (h : Bys w g n) (ho : Only p w w') (hg : ¬ p g) : Bys w' g n := by
  obtain ⟨cs, h1, h2⟩ := h
  exact ⟨cs, h1.only ho hg, h2⟩

set_option maxRecDepth 100000 in
set_option maxHeartbeats 4000000 in
theorem walk (va vb : Value) (la lb : List Nat) (w : World) (hT : Tabs w) (hva : Byt w va la) (hvb : Byt w vb lb) (h8a : U8 la) (h8b : U8 lb) :
    Calls Tryd.prog 4 #[va, vb] w fun e w' => e = .returned (.bool true) ∧ Below w.heap.size w w' := by
  have HT := hide hT
  have HA := hide hva
  have HB := hide hvb
  have H8A := hide h8a
  have H8B := hide h8b
  obtain ⟨aa, ca, hae⟩ := byt_shape hva
  obtain ⟨ab, cb, hbe⟩ := byt_shape hvb
  obtain ⟨na, hna⟩ : ∃ n, la.length = n := ⟨_, rfl⟩
  obtain ⟨nb, hnb⟩ : ∃ n, lb.length = n := ⟨_, rfl⟩
  rw [hna] at hae
  rw [hnb] at hbe
  subst hae hbe
  have L1 := LL.two hva hvb
  have b1 : Below w.heap.size w (w.alloc (.cells #[.slice aa na ca, .slice ab nb cb] 22)) := (Below.refl _ _).alloc (Nat.le_refl _) _
  have HLG := hide (long_any _ _ _ L1)
  have HB1 := hide b1
  have HNA := hide hna
  clear hT hva hvb h8a h8b hna hnb L1 b1
  go_enter Tryd.func4, Tryd.ntmps4
  go_wp2_with fail
  generalize w.alloc (.cells #[.slice aa na ca, .slice ab nb cb] 22) = w1 at *
  refine Calls.mono (unhide HLG) ?_
  rintro e w2 ⟨b, rfl, hlong, rfl⟩
  cases b
  · have hlen : la.length + lb.length ≤ 4096 := by have := hlong rfl; simpa [flat] using this
    have HCL := hide (clone_any _ la w1 ((unhide HA).call (unhide HB1)) (by omega))
    have HLEN := hide hlen
    clear hlong hlen HLG
    go_wp2_with fail
    refine Calls.mono (unhide HCL) ?_
    rintro e w2 ⟨v2, rfl, ho2, b2⟩
    have B2 := (unhide HB1).trans (b2.mono (unhide HB1).size)
    have HV2 := hide (Byt.of_own ho2)
    have HY2 := hide (Bys.of_own ho2 (unhide H8A))
    have HS2 := hide b2.size
    have HNW := hide (new_any w2 ((unhide HT).below B2))
    have HB2 := hide B2
    have HS1 := hide (unhide HB1).size
    obtain ⟨a2, c2, hv2⟩ := byt_shape (unhide HV2)
    rw [unhide HNA] at hv2
    subst hv2
    clear ho2 b2 B2 HCL
    go_wp2_with fail
    refine Calls.mono (unhide HNW) ?_
    rintro e w3 ⟨g, rfl, hg, d3, b3⟩
    have B3 := (unhide HB2).trans (b3.mono (unhide HB2).size)
    have V3 := (unhide HV2).call b3
    have L4 := LL.one V3
    have b4 : Below w3.heap.size w3 (w3.alloc (.cells #[.slice a2 na c2] 22)) := (Below.refl _ _).alloc (Nat.le_refl _) _
    have T4 := (unhide HT).below (B3.trans (b4.mono B3.size))
    have D4 : Dg (w3.alloc (.cells #[.slice a2 na c2] 22)) g (stW 0) [] := d3.only (Only.of_below (p := fun _ => False) b4) id
    have hF4 : LF (.slice (some ⟨w3.heap.size, 0, none⟩) 1 1) [(.slice a2 na c2, la)] (· = g) := by
      have hgl := d3.lt
      refine ⟨fun _ k hk e => by simp [Value.ownBlock] at hk; omega, fun x hx hne => ?_⟩
      obtain rfl := List.mem_singleton.1 hx
      exact byt_off (unhide HV2) hne (fun k hk => by omega)
    have HAD := hide (add_all g (stW 0) [] _ _ _ T4 (by have := (unhide HT).two; have := (unhide HB2).size; omega) rfl (stW_32 0 (by omega)) D4 (fun y hy => by cases hy) L4 hF4 (fun x hx => by obtain rfl := List.mem_singleton.1 hx; exact unhide H8A) (by have := unhide HLEN; simp [flat]; omega))
    have HB4 := hide (B3.trans (b4.mono B3.size))
    have HG := hide hg
    have HB34 := hide (b3.trans (b4.mono b3.size))
    have HGL := hide d3.lt
    clear d3 b3 B3 V3 L4 b4 T4 D4 hF4 hg HNW
    go_wp2_with fail
    generalize w3.alloc (.cells #[.slice a2 na c2] 22) = w4 at *
    refine Calls.mono (unhide HAD) ?_
    rintro e w5 ⟨rfl, d5, o5⟩
    rw [List.nil_append, show flat [(Value.slice a2 na c2, la)] = la by simp [flat]] at d5
    -- bytes that are written over
    have HY5 : Hid ((Value.slice a2 na c2 = .slice none 0 0 ∧ la = []) ∨ ∃ gv cap, Value.slice a2 na c2 = .slice (some ⟨gv, 0, none⟩) la.length cap ∧ w.heap.size ≤ gv ∧ gv < g ∧ Bys w5 gv la.length) := hide (by
      rcases unhide HY2 with h | ⟨gv, cap, h1, h2, h3⟩
      · exact .inl h
      · have hlt : gv < w2.heap.size := by obtain ⟨cs, hr, _⟩ := h3; exact hr.lt
        have hgg := unhide HG
        refine .inr ⟨gv, cap, h1, by have := unhide HS1; omega, by omega, ?_⟩
        exact (h3.only (Only.of_below (p := fun _ => False) (unhide HB34)) id).only o5 (by omega))
    have HW5 := hide (show Below w.heap.size w w5 from (unhide HB4).trans (o5.below (unhide HB4).size (fun k hk => by have := unhide HG; have := (unhide HB2).size; omega)))
    have HD5 := hide d5
    clear d5 o5 HAD HY2 HV2
    have hN : Hid (na ≤ 4096) := hide (by have := unhide HLEN; have := unhide HNA; omega)
    have hNA : na ≤ 4096 := unhide hN
    go_wp2_with fail
    go_loopw [22] (fun s wr => ∃ k : Nat, k ≤ na ∧ s = .int .i64 (k : Int) ∧ Hid (Dg wr g (stW 0) la ∧ Below w.heap.size w wr ∧ g < wr.heap.size ∧ ((Value.slice a2 na c2 = .slice none 0 0 ∧ la = []) ∨ ∃ gv cap, Value.slice a2 na c2 = .slice (some ⟨gv, 0, none⟩) la.length cap ∧ w.heap.size ≤ gv ∧ gv < g ∧ Bys wr gv la.length))) (fun s _ => (na - intOf s).toNat)
    case atStart => exact ⟨0, by omega, rfl, unhide HD5, unhide HW5, (unhide HD5).lt, unhide HY5⟩
    case round =>
      obtain ⟨k, hk, rfl, HC⟩ := hrel
      by_cases hlt : k < na
      · obtain ⟨x1, x2, x3, x4⟩ := unhide HC
        rcases x4 with ⟨_, e⟩ | ⟨gv, cap, e, x5, x6, x7⟩
        · exfalso
          have := unhide HNA
          rw [e] at this
          simp at this
          omega
        injection e with e1 e2 e3
        subst e1 e3
        have x7' := x7
        obtain ⟨cs, r1, r2⟩ := x7
        obtain ⟨y, hy, hc⟩ := r2 k (by rw [unhide HNA]; exact hlt)
        have c0 := (r1.cell k).trans hc
        have f0 := r1.frozen k
        obtain ⟨z, hz⟩ : ∃ z, z = y ^^^ 255 := ⟨_, rfl⟩
        have hz256 : z < 256 := hz ▸ Nat.xor_lt_two_pow (n := 8) hy (by decide)
        have xx : bits .xor .u8 (y : Int) 255 = (z : Int) := by rw [hz]; exact u8_xor_nat y 255 hy (by decide)
        have hkI : (k : Int) < (na : Int) := by omega
        have O := Only.set (Only.refl (· = gv) wr) gv k (.int .u8 (z : Int)) rfl
        have HC2 : Hid (Dg (wr.setCell ⟨gv, k, none⟩ (.int .u8 (z : Int))) g (stW 0) la ∧ Below w.heap.size w (wr.setCell ⟨gv, k, none⟩ (.int .u8 (z : Int))) ∧ g < (wr.setCell ⟨gv, k, none⟩ (.int .u8 (z : Int))).heap.size ∧ ((Value.slice (some ⟨gv, 0, none⟩) na c2 = .slice none 0 0 ∧ la = []) ∨ ∃ gv' cap, Value.slice (some ⟨gv, 0, none⟩) na c2 = .slice (some ⟨gv', 0, none⟩) la.length cap ∧ w.heap.size ≤ gv' ∧ gv' < g ∧ Bys (wr.setCell ⟨gv, k, none⟩ (.int .u8 (z : Int))) gv' la.length)) := hide
          ⟨x1.only O (by omega), x2.trans (O.below x2.size (fun k hk => by omega)), Nat.lt_of_lt_of_le x3 O.size, .inr ⟨gv, c2, by rw [unhide HNA], x5, x6, x7'.set hz256⟩⟩
        clear x1 x2 x3 x7' r1 r2 hc hy hz O x5 x6 e2 HD5 HW5 HY5
        have HLT := hide hlt
        go_wp2_with fail
        go_roundw
        case rel => exact ⟨k + 1, by have := unhide HLT; omega, by go_num, HC2⟩
        case measure => have := unhide HLT; simp [intOf]; omega
      · have hkI : ¬ (k : Int) < (na : Int) := by omega
        obtain ⟨x1, x2, x3, x4⟩ := unhide HC
        have VB := (unhide HB).call x2
        have L6 := LL.one VB
        have b6 : Below wr.heap.size wr (wr.alloc (.cells #[.slice ab nb cb] 22)) := (Below.refl _ _).alloc (Nat.le_refl _) _
        have B6 := x2.trans (b6.mono x2.size)
        have D6 : Dg (wr.alloc (.cells #[.slice ab nb cb] 22)) g (stW 0) la := x1.only (Only.of_below (p := fun _ => False) b6) id
        have hF6 : LF (.slice (some ⟨wr.heap.size, 0, none⟩) 1 1) [(.slice ab nb cb, lb)] (· = g) := by
          refine ⟨fun _ k hk e => by simp [Value.ownBlock] at hk; omega, fun x hx hne => ?_⟩
          obtain rfl := List.mem_singleton.1 hx
          have := unhide HG
          have := (unhide HB2).size
          exact byt_off (unhide HB) hne (fun k hk => by omega)
        have HAD := hide (add_all g (stW 0) la _ _ _ ((unhide HT).below B6) (by have := (unhide HT).two; have := (unhide HB2).size; have := unhide HG; omega) rfl (stW_32 0 (by omega)) D6 (unhide H8A) L6 hF6 (fun x hx => by obtain rfl := List.mem_singleton.1 hx; exact unhide H8B) (by have := unhide HLEN; simp [flat]; omega))
        have HB6 := hide B6
        clear x1 x2 x3 x4 VB L6 b6 B6 D6 hF6 HC HD5 HW5 HY5 hlt
        go_wp2_with fail
        generalize wr.alloc (.cells #[.slice ab nb cb] 22) = w6 at *
        refine Calls.mono (unhide HAD) ?_
        rintro e w7 ⟨rfl, d7, o7⟩
        rw [show la ++ flat [(Value.slice ab nb cb, lb)] = la ++ lb by simp [flat]] at d7
        have B7 := (unhide HB6).trans (o7.below (unhide HB6).size (fun k hk => by have := unhide HG; have := (unhide HB2).size; omega))
        have HSM := hide (sum_any g (stW 0) (la ++ lb) w7 ((unhide HT).below B7) rfl (stW_32 0 (by omega)) d7 (by have := unhide HLEN; rw [List.length_append]; omega))
        have HB7 := hide B7
        clear d7 o7 B7 HAD
        go_wp2_with fail
        refine Calls.mono (unhide HSM) ?_
        rintro e w8 ⟨rfl, b8⟩
        have B8 := (unhide HB7).trans (b8.mono (unhide HB7).size)
        have L8 := LL.two ((unhide HA).call B8) ((unhide HB).call B8)
        have B9 := B8.alloc B8.size (.cells #[.slice aa na ca, .slice ab nb cb] 22)
        have HOF := hide (of_any _ _ _ ((unhide HT).below B9) L8 (fun x hx => by
          rcases List.mem_cons.1 hx with rfl | hx
          · exact unhide H8A
          · obtain rfl := List.mem_singleton.1 hx
            exact unhide H8B) (by have := unhide HLEN; simp [flat]; omega))
        have eF : flat [(Value.slice aa na ca, la), (Value.slice ab nb cb, lb)] = la ++ lb := by simp [flat]
        rw [eF] at HOF
        have heq := eq_sum (sumL (stW 0) (la ++ lb)) (sumL_len _ _)
        obtain ⟨S, hS⟩ : ∃ S, (bv (sumL (stW 0) (la ++ lb))).toArray = S := ⟨_, rfl⟩
        rw [hS] at HOF heq ⊢
        have HB9 := hide B9
        clear b8 B8 L8 B9 eF hS HSM
        go_wp2_with fail
        generalize w8.alloc (.cells #[.slice aa na ca, .slice ab nb cb] 22) = w9 at *
        refine Calls.mono (unhide HOF) ?_
        rintro e w10 ⟨rfl, b10⟩
        have B10 := (unhide HB9).trans (b10.mono (unhide HB9).size)
        have HAW := hide (awake_any w10 ((unhide HT).below B10))
        have HB10 := hide B10
        clear b10 B10 HOF
        go_wp2_with fail
        refine Calls.mono (unhide HAW) ?_
        rintro e w11 ⟨rfl, b11⟩
        go_wp2_with fail
        go_ret
        exact ⟨rfl, (unhide HB10).trans (b11.mono (unhide HB10).size)⟩
  · have HAW := hide (awake_any w1 ((unhide HT).below (unhide HB1)))
    go_wp2_with fail
    refine Calls.mono (unhide HAW) ?_
    rintro e w3 ⟨rfl, b3⟩
    go_wp2_with fail
    go_ret
    exact ⟨rfl, (unhide HB1).trans (b3.mono (unhide HB1).size)⟩
theorem contract (H : Type) (enc : TypeId × Value → H) (W : World) (base : Nat) (args : Array Value) (ds gs : List (DataW H)) (before : List MemPlace)
    (hval : ∀ (j : Nat) t v, Tryd.f4.params[j]? = some t → args[j]? = some v → Value.okWide Tryd.prog W .any base t v)
    (hW : DataW.Whole enc Tryd.prog Tryd.f4.params.toList Rows.hashKeptSpec.vars false W args.toList ds gs before) (hL : laidMetH Tryd.prog Rows.hashKeptRow.laid W) :
    Calls Tryd.prog 4 args W fun e W' => ∃ v, e = .returned v ∧ Rows.hashKeptSpec.post enc Tryd.prog Tryd.f4 false true false false W args v W' := by
  have hT : Tabs W := tabs_of hL
  have hW' := hW
  obtain ⟨p, q, hA0, hV, rfl, hfz, hnd⟩ := hW
  have hA : DataW.TrodAll enc Tryd.prog W 0 (fun _ => true) true Tryd.f4.params.toList args.toList ds p := hA0
  rw [Tryd.params4] at hA hval
  obtain ⟨v0, vs0, d0, ds0, p0, q0, hargs, rfl, rfl, h0, r0⟩ := trodAll_cons hA
  obtain ⟨v1, vs1, d1, ds1, p1, q1, rfl, rfl, rfl, h1, r1⟩ := trodAll_cons r0
  obtain ⟨rfl, rfl, rfl⟩ := trodAll_nil r1
  obtain rfl : args = #[v0, v1] := by cases args; simp_all
  obtain ⟨rfl, rfl⟩ := trodVars_none hV
  have lt0 : ∀ x ∈ p0, x.block < W.heap.size := by obtain ⟨m, hm⟩ := h0; exact DataW.trod_lt m _ _ _ hm
  have lt1 : ∀ x ∈ p1, x.block < W.heap.size := by obtain ⟨m, hm⟩ := h1; exact DataW.trod_lt m _ _ _ hm
  obtain ⟨l0, hY0, h2560⟩ := open_bytes (hval 0 22 v0 rfl rfl) h0
  obtain ⟨l1, hY1, h2561⟩ := open_bytes (hval 1 22 v1 rfl rfl) h1
  clear hA0
  refine (walk v0 v1 l0 l1 W hT hY0 hY1 h2560 h2561).mono fun e W' ⟨he, bel⟩ => ?_
  subst he
  exact ⟨_, rfl, _, _, _, [], _, [], hW', trodAll_mk1 (shut_bool Tryd.underlying4 _), (trodAll_cons_mk (Below.trod laidOut (by kernel_rfl) (of_decide_eq_true (by kernel_rfl)) h0 bel lt0) (trodAll_cons_mk (Below.trod laidOut (by kernel_rfl) (of_decide_eq_true (by kernel_rfl)) h1 bel lt1) trodAll_mk0)), rfl, bel.frame _, fun h => by cases h⟩

set_option maxRecDepth 100000 in
theorem laid_here (os : Os) : laidMet Tryd.prog Rows.hashKeptRow.laid ((laidWorld os).forCall (fun _ _ => 0) ⟨#[], #[.slice none 0 0, .slice none 0 0], []⟩).memory :=
  laidMet_of_run' 8 (by kernel_rfl) (by kernel_rfl)
theorem reads (os : Os) {H : Type} (enc : TypeId × Value → H) : ∃ places, DataW.whole enc Tryd.prog ((laidWorld os).forCall (fun _ _ => 0) ⟨#[], #[.slice none 0 0, .slice none 0 0], []⟩).memory Tryd.f4.params.toList Rows.hashKeptSpec.vars false (#[.slice none 0 0, .slice none 0 0] : Array Value).toList 8 = some ([.nil, .nil], [], places) :=
  ⟨[], by kernel_rfl⟩

set_option maxRecDepth 100000 in
theorem lifted (os : Os) (started : os.Started) (H : Type) (enc : TypeId × Value → H) (F : Stop.Interp) :
    ReturnsInHanded {} Tryd.checked os 4 .any ((OpenSpec.ofChange Rows.hashKeptSpec).preRow enc Tryd.prog Tryd.f4 Rows.hashKeptRow.domain false Rows.hashKeptRow.laid) (((OpenSpec.ofChange Rows.hashKeptSpec).at F).post enc Tryd.prog Tryd.f4 false true false false) := by
  obtain ⟨places, hx⟩ := reads os enc
  refine returnsInHanded_of_row (C := Tryd.checked) (s := OpenSpec.ofChange Rows.hashKeptSpec) own started (by kernel_rfl) Tryd.func4
    (witness_row_at (enc := enc) (C := Tryd.checked) false (laidWorld os) #[.slice none 0 0, .slice none 0 0] rfl (by kernel_rfl) (by kernel_rfl) (by kernel_rfl)
      (OpenSpec.preRow_of_cond 8 hx (by kernel_rfl) (fun k hk => by cases hk) (by kernel_rfl) (laid_here os))) ?_
  intro W base args ds gs before hval hW _ _ _ hL _ _
  exact contract H enc W base args ds gs before hval hW hL

theorem said : Rows.HashKeptSaid :=
  OpenClaim.holds_of_cond 4 Tryd.f4 rfl rfl rfl rfl rfl rfl rfl ⟨rfl, rfl, rfl, rfl, rfl⟩ rfl rfl rfl rfl rfl (by kernel_rfl) Tryd.func4 (by kernel_rfl)
    (of_decide_eq_true (by kernel_rfl)) (by unfold Func.isWrapper; first | (rw [if_pos (by decide +kernel)]; kernel_rfl) | (rw [if_neg (by decide +kernel)]; exact ⟨rfl, rfl⟩))
    (fun os started H enc _ F => by rw [OpenClaim.pre_eq_preRow]; exact lifted os started H enc F)

theorem plain (f : FuncId) (fn : Func) (hf : Tryd.pinned.checked.prog.funcNamed "sealskin/sealskinlaw07.HashKept" = some f) (hfn : Tryd.pinned.checked.prog.funcs[f]? = some fn) :
    false = Tryd.pinned.checked.prog.looks [] ∧ ∀ (j : Nat) t, fn.params[j]? = some t → Tryd.pinned.checked.prog.wantsStandIn t = false := by
  obtain rfl : f = 4 := Option.some.inj ((show Tryd.prog.funcNamed "sealskin/sealskinlaw07.HashKept" = some 4 by kernel_rfl).symm.trans hf) |>.symm
  obtain rfl : fn = Tryd.f4 := (Option.some.inj (Tryd.func4.symm.trans hfn)).symm
  refine ⟨by kernel_rfl, fun j t ht => ?_⟩
  rw [Tryd.params4] at ht
  obtain rfl : t = 22 := by simpa using Array.mem_of_getElem? ht
  exact (show Tryd.prog.wantsStandIn 22 = false by kernel_rfl)

theorem proved : Rows.HashKeptCardSaid :=
  Claim7.holds_tied_plain_at .later [] _ _ _ _ said (fun _ h => by cases h) (by kernel_rfl) (fun _ h => by cases h) hashKept_row_tie rfl ⟨rfl, rfl⟩ (by kernel_rfl) rfl plain (by kernel_rfl)
#print axioms proved

end Go.Proofs.YtlgbkkfkobijpabDoor.kept
