/- For any two lists of bytes the Go function sealskinlaw07.HashEquals returns true, and its arguments read as they did. No condition. -/
import Derived.Test.YtlgbkkfkobijpabDoorNew
import Derived.SizedLaws
namespace Go.Proofs.YtlgbkkfkobijpabDoor.equals
set_option linter.unusedVariables false
set_option linter.unusedSimpArgs false
open Go.ChangeShapes Go.WideShapes Go.ChangeAt Go.RowKit Go.Joins

set_option maxHeartbeats 1000000 in
theorem clone_reach (v : Value) (l : List Nat) (w : World) (hv : Byt w v l) (hl : l.length ≤ 140737488351232) :
    Calls Tryd.prog 11 #[v] w fun e w' => ∃ v', e = .returned v' ∧ w'.ownsRow w.heap.size 5 1 v' l.length (bv l) ∧ Below w.heap.size w w' := by
  obtain ⟨i0, hi, hz0, hz1, hz2⟩ := info_parts info5
  rcases hv with ⟨rfl, rfl⟩ | ⟨a, cap, rfl, h1, h2, h3⟩
  · have hq := fun W => Go.run_eql_slice_nil (P := Tryd.prog) W 22 5 none 0 0 Tryd.underlying22
    go_enter Tryd.func11, Tryd.ntmps11
    go_wp2
    go_ret
    exact ⟨_, rfl, ⟨rfl, .inl ⟨rfl, rfl⟩⟩, Below.refl _ _⟩
  · have hq := fun W => Go.run_eql_slice_nil (P := Tryd.prog) W 22 5 (some a) l.length cap Tryd.underlying22
    have hB : Below w.heap.size w (w.alloc (.cells #[] 5)) := (Below.refl _ _).alloc (Nat.le_refl _) _
    have hnews := Byt.news h3
    generalize hn : l.length = n at *
    have HN := hide hnews
    have HL := hide hn
    clear hnews h3 hn
    have hown : (w.alloc (.cells #[] 5)).ownsRow w.heap.size 5 1 (.slice (some ⟨w.heap.size, 0, none⟩) 0 0) 0 [] := World.ownsRow_made w #[] 0 (Nat.le_refl _) (Nat.zero_le _) rfl
    go_enter Tryd.func11, Tryd.ntmps11
    go_wp2_with (at_builtin; refine wpList_append_own _ rfl _ _ 22 rfl w.heap.size 5 i0 (.int .u8 0) 1 1 Tryd.underlying22 hi hz0 hz1 hz2 rfl (by decide) _ _ _ rfl hown a n cap (bv l) rfl ?c0 ?c1 ?c2 ?c3 ?c4 ?c5 ?_)
    case c0 => rw [bv_len, unhide HL]; omega
    case c1 =>
      intro j u hj
      have := unhide HN j u hj
      exact cell_keep hB (lt_of_cell this) this
    case c2 => exact bv_one l
    case c3 => unfold maxLen; omega
    case c4 => omega
    case c5 => simp
    intro v' w2 hown' hgrow' _
    go_wp2
    go_ret
    refine ⟨_, rfl, ?_, ?_⟩
    · simpa using hown'
    · exact hB.grown hgrow' hB.size (fun k hk => by simp [Value.ownBlock] at hk; omega)


theorem xor_zero (a b : Nat) : a ^^^ b = 0 ↔ a = b := by
  constructor
  · intro h
    apply Nat.eq_of_testBit_eq
    intro i
    have : (a ^^^ b).testBit i = false := by rw [h]; simp
    rw [Nat.testBit_xor] at this
    cases h1 : a.testBit i <;> cases h2 : b.testBit i <;> simp_all
  · rintro rfl; exact Nat.xor_self a
/-- 'Equal' tells whether they are the same -/
def EqR (w : World) (l m : List Nat) (e : Ending) (w' : World) : Prop := e = .returned (.bool (decide (l = m))) ∧ w = w'
set_option maxRecDepth 100000 in
set_option maxHeartbeats 4000000 in
theorem equal_all (v x : Value) (l m : List Nat) (w : World) (hv : Byt w v l) (hx : Byt w x m) (hl : U8 l) (hm : U8 m) : Calls Tryd.prog 9 #[v, x] w fun e w' => EqR w l m e w' := by
  have HV := hide hv
  have HX := hide hx
  have HL := hide hl
  have HM := hide hm
  obtain ⟨a, c, hve⟩ := byt_shape hv
  obtain ⟨b, d, hxe⟩ := byt_shape hx
  obtain ⟨n, hn⟩ : ∃ n, l.length = n := ⟨_, rfl⟩
  obtain ⟨k, hk⟩ : ∃ n, m.length = n := ⟨_, rfl⟩
  have hn63 : n ≤ 9223372036854775807 := by
    rcases hv with ⟨_, h⟩ | ⟨_, _, _, h1, h2, _⟩
    · rw [← hn, h]; simp
    · unfold maxLen at h2; omega
  have hk63 : k ≤ 9223372036854775807 := by
    rcases hx with ⟨_, h⟩ | ⟨_, _, _, h1, h2, _⟩
    · rw [← hk, h]; simp
    · unfold maxLen at h2; omega
  rw [hn] at hve
  rw [hk] at hxe
  subst hve hxe
  have HN := hide hn
  have HK := hide hk
  clear hv hx hl hm hn hk
  by_cases hnk : n = k
  · subst hnk
    clear hk63
    go_enter Tryd.func9, Tryd.ntmps9
    go_wp2_with fail
    go_loopw [5, 15] (fun s i wr => w = wr ∧ ∃ (u j : Nat), j ≤ n ∧ s = .int .u8 (u : Int) ∧ i = .int .i64 (j : Int) ∧ Hid (u < 256 ∧ (u = 0 ↔ l.take j = m.take j))) (fun _ i _ => (n - intOf i).toNat)
    case atStart => exact ⟨rfl, 0, 0, by omega, rfl, rfl, by omega, by simp⟩
    case round =>
      obtain ⟨rfl, u, j, hj, rfl, rfl, HI⟩ := hrel
      rename World => w
      by_cases hlt : j < n
      · have hjI : (j : Int) < (n : Int) := by omega
        have e1 : j < l.length := by rw [unhide HN]; exact hlt
        have e2 : j < m.length := by rw [unhide HK]; exact hlt
        obtain ⟨ad, hca⟩ : ∃ ad, a = some ad ∧ w.cell? (ad.add j) = some (.int .u8 (l[j] : Int)) := by
          rcases unhide HV with ⟨_, h⟩ | ⟨ad, cap, h1, _, _, h3⟩
          · rw [h] at e1; simp at e1
          · injection h1 with q1 q2 q3
            exact ⟨ad, q1, h3 j _ (List.getElem?_eq_getElem e1)⟩
        obtain ⟨bd, hcb⟩ : ∃ bd, b = some bd ∧ w.cell? (bd.add j) = some (.int .u8 (m[j] : Int)) := by
          rcases unhide HX with ⟨_, h⟩ | ⟨ad, cap, h1, _, _, h3⟩
          · rw [h] at e2; simp at e2
          · injection h1 with q1 q2 q3
            exact ⟨ad, q1, h3 j _ (List.getElem?_eq_getElem e2)⟩
        obtain ⟨rfl, c1⟩ := hca
        obtain ⟨rfl, c2⟩ := hcb
        have g1 := unhide HL _ (List.getElem_mem e1)
        have g2 := unhide HM _ (List.getElem_mem e2)
        have eL := List.take_succ_eq_append_getElem e1
        have eM := List.take_succ_eq_append_getElem e2
        have hlen : (l.take j).length = (m.take j).length := by rw [List.length_take, List.length_take]; omega
        generalize l[j] = x1 at *
        generalize m[j] = x2 at *
        have t1 := u8_xor_nat x1 x2 g1 g2
        have g3 : x1 ^^^ x2 < 256 := Nat.xor_lt_two_pow (n := 8) g1 g2
        have t2 := u8_or_nat u (x1 ^^^ x2) (unhide HI).1 g3
        have HI2 : Hid ((u ||| (x1 ^^^ x2)) < 256 ∧ ((u ||| (x1 ^^^ x2)) = 0 ↔ l.take (j + 1) = m.take (j + 1))) := hide ⟨Nat.or_lt_two_pow (n := 8) (unhide HI).1 g3, by
          rw [Nat.or_eq_zero_iff, xor_zero, eL, eM, (unhide HI).2]
          constructor
          · rintro ⟨h1, h2⟩; rw [h1, h2]
          · intro h
            have := List.append_inj h hlen
            exact ⟨this.1, by simpa using this.2⟩⟩
        generalize x1 ^^^ x2 = x3 at *
        generalize u ||| x3 = x4 at *
        clear e1 e2 g1 g2 eL eM hlen g3
        have HLT := hide hlt
        go_wp2_with fail
        refine ⟨⟨trivial, x4, j + 1, by have := unhide HLT; omega, by go_num, by go_num, HI2⟩, by have := unhide HLT; simp [intOf]; omega⟩
      · have hjI : ¬ (j : Int) < (n : Int) := by omega
        rw [List.take_of_length_le (by rw [unhide HN]; omega), List.take_of_length_le (by rw [unhide HK]; omega)] at HI
        clear hlt
        by_cases hu : u = 0
        · have huI : (u : Int) = 0 := by omega
          have hlm := (unhide HI).2.1 hu
          have hd : decide (l = m) = true := by simp [hlm]
          clear hu hlm
          go_wp2_with fail
          go_ret
          exact ⟨by rw [hd]; try rfl, rfl⟩
        · have huI : ¬ (u : Int) = 0 := by omega
          have hlm : ¬ l = m := fun e => hu ((unhide HI).2.2 e)
          have hd : decide (l = m) = false := by simp [hlm]
          have hbq : ((u : Int) == 0) = false := by simp; exact hu
          clear hlm
          go_wp2_with fail
          go_ret
          exact ⟨by rw [hd]; simp [hbq], rfl⟩
  · have hnI : ¬ (n : Int) = (k : Int) := by omega
    have hd : decide (l = m) = false := by
      simp only [decide_eq_false_iff_not]
      intro e
      apply hnk
      rw [← unhide HN, ← unhide HK, e]
    go_enter Tryd.func9, Tryd.ntmps9
    go_wp2_with fail
    go_ret
    exact ⟨by rw [hd]; try rfl, rfl⟩

theorem strOf_inj {l m : List Nat} (hl : ∀ y ∈ l, y < 256) (hm : ∀ y ∈ m, y < 256) (h : strOf l = strOf m) : l = m := by
  have h1 : l.map UInt8.ofNat = m.map UInt8.ofNat := by
    have := congrArg (fun s : ByteArray => s.data.toList) h
    simpa [strOf] using this
  have back : ∀ (x : List Nat), (∀ y ∈ x, y < 256) → (x.map UInt8.ofNat).map UInt8.toNat = x := by
    intro x hx
    rw [List.map_map]
    conv => rhs; rw [← List.map_id x]
    refine List.map_congr_left fun y hy => ?_
    simp only [Function.comp, id, UInt8.toNat_ofNat']
    have := hx y hy
    omega
  rw [← back l hl, ← back m hm, h1]
theorem strOf_ne {l m : List Nat} (hl : ∀ y ∈ l, y < 256) (hm : ∀ y ∈ m, y < 256) (h : l ≠ m) : ((strOf l).toList == (strOf m).toList) = false := by
  rw [← Go.beq_toListBytes]
  have h2 : strOf l ≠ strOf m := fun e => h (strOf_inj hl hm e)
  have h3 : (strOf l).data ≠ (strOf m).data := fun e => h2 (congrArg ByteArray.mk e)
  show ((strOf l).data == (strOf m).data) = false
  exact beq_eq_false_iff_ne.mpr h3


theorem str_eq (l m : List Nat) (hl : U8 l) (hm : U8 m) : ((strOf l).toList == (strOf m).toList) = decide (l = m) := by
  by_cases h : l = m
  · subst h; simp
  · rw [strOf_ne hl hm h]; simp [h]

set_option maxRecDepth 100000 in
set_option maxHeartbeats 4000000 in
theorem walk (va vb : Value) (la lb : List Nat) (w : World) (hT : Tabs w) (hva : Byt w va la) (hvb : Byt w vb lb) (h8a : U8 la) (h8b : U8 lb) (hreach : la.length ≤ 140737488351232) :
    Calls Tryd.prog 3 #[va, vb] w fun e w' => e = .returned (.bool true) ∧ Below w.heap.size w w' := by
  have HT := hide hT
  have HA := hide hva
  have H8A := hide h8a
  have H1 := hide (equal_all va vb la lb w hva hvb h8a h8b)
  have H2 := hide (equal_any va vb la lb w hva hvb h8a h8b)
  rw [str_eq la lb h8a h8b] at H2
  have H3 := hide (clone_reach va la w hva hreach)
  obtain ⟨aa, ca, hae⟩ := byt_shape hva
  obtain ⟨ab, cb, hbe⟩ := byt_shape hvb
  obtain ⟨na, hna⟩ : ∃ n, la.length = n := ⟨_, rfl⟩
  obtain ⟨nb, hnb⟩ : ∃ n, lb.length = n := ⟨_, rfl⟩
  rw [hna] at hae
  rw [hnb] at hbe
  subst hae hbe
  have HNA := hide hna
  obtain ⟨q, hq⟩ : ∃ q, decide (la = lb) = q := ⟨_, rfl⟩
  unfold EqR at H1
  rw [hq] at H1 H2
  have hqq : (q == q) = true := by simp
  clear hT hva hvb h8a h8b hreach hna hnb hq
  go_enter Tryd.func3, Tryd.ntmps3
  go_wp2_with fail
  refine Calls.mono (unhide H1) ?_
  rintro e w1 ⟨rfl, rfl⟩
  go_wp2_with fail
  refine Calls.mono (unhide H2) ?_
  rintro e w1 ⟨rfl, rfl⟩
  go_wp2_with fail
  refine Calls.mono (unhide H3) ?_
  rintro e w2 ⟨v2, rfl, ho2, b2⟩
  have V2 := Byt.of_own ho2
  have H4 := hide (equal_all _ v2 la la w2 ((unhide HA).call b2) V2 (unhide H8A) (unhide H8A))
  unfold EqR at H4
  rw [show decide (la = la) = true by simp] at H4
  obtain ⟨a2, c2, hv2⟩ := byt_shape V2
  rw [unhide HNA] at hv2
  subst hv2
  have HB2 := hide b2
  clear ho2 b2 V2 H3
  go_wp2_with fail
  refine Calls.mono (unhide H4) ?_
  rintro e w3 ⟨rfl, rfl⟩
  have HAW := hide (awake_any w2 ((unhide HT).below (unhide HB2)))
  go_wp2_with fail
  refine Calls.mono (unhide HAW) ?_
  rintro e w3 ⟨rfl, b3⟩
  go_wp2_with fail
  go_ret
  exact ⟨rfl, (unhide HB2).trans (b3.mono (unhide HB2).size)⟩
theorem bytes_len {H : Type} {enc : TypeId × Value → H} {W : World} {base : Nat} {spare : Nat → Bool} {held : Bool} {a : Option Addr} {n cap : Nat} {d : DataW H} {p : List MemPlace}
    (h : DataW.Trod enc Tryd.prog W base spare held 22 (.slice a n cap) d p) : n = 0 ∨ ∃ elems sp, d = .slice elems sp ∧ elems.length = n := by
  obtain ⟨fuel, hf⟩ := h
  rcases Deep.open_slice Tryd.underlying22 hf with h0 | ⟨a', len, cap', m, n', D, Pl, hcs, hb, hl, hm, hmm, hx, _⟩
  · have hcs := h0.1
    simp [Value.cells] at hcs
    exact .inl hcs.2.1
  · simp [Value.cells] at hcs
    obtain ⟨rfl, rfl, rfl⟩ := hcs
    right
    injection hx with hx _
    exact ⟨_, _, hx, by simp⟩

theorem contract (H : Type) (enc : TypeId × Value → H) (W : World) (base : Nat) (args : Array Value) (ds gs : List (DataW H)) (before : List MemPlace)
    (hval : ∀ (j : Nat) t v, Tryd.f3.params[j]? = some t → args[j]? = some v → Value.okWide Tryd.prog W .any base t v)
    (hW : DataW.Whole enc Tryd.prog Tryd.f3.params.toList Rows.hashEqualsSpec.vars false W args.toList ds gs before) (hL : laidMetH Tryd.prog Rows.hashEqualsRow.laid W)
    (hsz : (DataW.weightsEach Tryd.prog (Tryd.f3.params.toList ++ (OpenSpec.ofChange Rows.hashEqualsSpec).bare.plain.varTypes Tryd.prog) (ds ++ gs)).all (· ≤ reachBytes) = true) :
    Calls Tryd.prog 3 args W fun e W' => ∃ v, e = .returned v ∧ Rows.hashEqualsSpec.post enc Tryd.prog Tryd.f3 false true false false W args v W' := by
  have hT : Tabs W := tabs_of hL
  have hW' := hW
  obtain ⟨p, q, hA0, hV, rfl, hfz, hnd⟩ := hW
  have hA : DataW.TrodAll enc Tryd.prog W 0 (fun _ => true) true Tryd.f3.params.toList args.toList ds p := hA0
  rw [Tryd.params3] at hA hval hsz
  obtain ⟨v0, vs0, d0, ds0, p0, q0, hargs, rfl, rfl, h0, r0⟩ := trodAll_cons hA
  obtain ⟨v1, vs1, d1, ds1, p1, q1, rfl, rfl, rfl, h1, r1⟩ := trodAll_cons r0
  obtain ⟨rfl, rfl, rfl⟩ := trodAll_nil r1
  obtain rfl : args = #[v0, v1] := by cases args; simp_all
  obtain ⟨rfl, rfl⟩ := trodVars_none hV
  have lt0 : ∀ x ∈ p0, x.block < W.heap.size := by obtain ⟨m, hm⟩ := h0; exact DataW.trod_lt m _ _ _ hm
  have lt1 : ∀ x ∈ p1, x.block < W.heap.size := by obtain ⟨m, hm⟩ := h1; exact DataW.trod_lt m _ _ _ hm
  obtain ⟨l0, hY0, h2560⟩ := open_bytes (hval 0 22 v0 rfl rfl) h0
  obtain ⟨l1, hY1, h2561⟩ := open_bytes (hval 1 22 v1 rfl rfl) h1
  obtain ⟨aa, ca, hae⟩ := byt_shape hY0
  have hreach : l0.length ≤ 140737488351232 := by
    rcases bytes_len (hae ▸ h0) with q | ⟨elems, sp, rfl, q⟩
    · rw [q]; decide
    · have := sized_slice hsz (j := 0) (t := 22) (e := 5) rfl rfl Tryd.underlying22
      rw [show Tryd.prog.bytesOf 5 = 1 by kernel_rfl] at this
      simp only [reachBytes] at this
      omega
  clear hae
  clear hA0
  refine (walk v0 v1 l0 l1 W hT hY0 hY1 h2560 h2561 hreach).mono fun e W' ⟨he, bel⟩ => ?_
  subst he
  exact ⟨_, rfl, _, _, _, [], _, [], hW', trodAll_mk1 (shut_bool Tryd.underlying4 _), (trodAll_cons_mk (Below.trod laidOut (by kernel_rfl) (of_decide_eq_true (by kernel_rfl)) h0 bel lt0) (trodAll_cons_mk (Below.trod laidOut (by kernel_rfl) (of_decide_eq_true (by kernel_rfl)) h1 bel lt1) trodAll_mk0)), rfl, bel.frame _, fun h => by cases h⟩

set_option maxRecDepth 100000 in
theorem laid_here (os : Os) : laidMet Tryd.prog Rows.hashEqualsRow.laid ((laidWorld os).forCall (fun _ _ => 0) ⟨#[], #[.slice none 0 0, .slice none 0 0], []⟩).memory :=
  laidMet_of_run' 8 (by kernel_rfl) (by kernel_rfl)
theorem reads (os : Os) {H : Type} (enc : TypeId × Value → H) : ∃ places, DataW.whole enc Tryd.prog ((laidWorld os).forCall (fun _ _ => 0) ⟨#[], #[.slice none 0 0, .slice none 0 0], []⟩).memory Tryd.f3.params.toList Rows.hashEqualsSpec.vars false (#[.slice none 0 0, .slice none 0 0] : Array Value).toList 8 = some ([.nil, .nil], [], places) :=
  ⟨[], by kernel_rfl⟩

set_option maxRecDepth 100000 in
theorem lifted (os : Os) (started : os.Started) (H : Type) (enc : TypeId × Value → H) (F : Stop.Interp) :
    ReturnsInHanded {} Tryd.checked os 3 .any ((OpenSpec.ofChange Rows.hashEqualsSpec).preRow enc Tryd.prog Tryd.f3 Rows.hashEqualsRow.domain false Rows.hashEqualsRow.laid) (((OpenSpec.ofChange Rows.hashEqualsSpec).at F).post enc Tryd.prog Tryd.f3 false true false false) := by
  obtain ⟨places, hx⟩ := reads os enc
  refine returnsInHanded_of_row (C := Tryd.checked) (s := OpenSpec.ofChange Rows.hashEqualsSpec) own started (by kernel_rfl) Tryd.func3
    (witness_row_at (enc := enc) (C := Tryd.checked) false (laidWorld os) #[.slice none 0 0, .slice none 0 0] rfl (by kernel_rfl) (by kernel_rfl) (by kernel_rfl)
      (OpenSpec.preRow_of_cond 8 hx (by kernel_rfl) (fun k hk => by cases hk) (by kernel_rfl) (laid_here os))) ?_
  intro W base args ds gs before hval hW _ _ hsz hL _ _
  exact contract H enc W base args ds gs before hval hW hL hsz

theorem said : Rows.HashEqualsSaid :=
  OpenClaim.holds_of_cond 3 Tryd.f3 rfl rfl rfl rfl rfl rfl rfl ⟨rfl, rfl, rfl, rfl, rfl⟩ rfl rfl rfl rfl rfl (by kernel_rfl) Tryd.func3 (by kernel_rfl)
    (of_decide_eq_true (by kernel_rfl)) (by unfold Func.isWrapper; first | (rw [if_pos (by decide +kernel)]; kernel_rfl) | (rw [if_neg (by decide +kernel)]; exact ⟨rfl, rfl⟩))
    (fun os started H enc _ F => by rw [OpenClaim.pre_eq_preRow]; exact lifted os started H enc F)

theorem plain (f : FuncId) (fn : Func) (hf : Tryd.pinned.checked.prog.funcNamed "sealskin/sealskinlaw07.HashEquals" = some f) (hfn : Tryd.pinned.checked.prog.funcs[f]? = some fn) :
    false = Tryd.pinned.checked.prog.looks [] ∧ ∀ (j : Nat) t, fn.params[j]? = some t → Tryd.pinned.checked.prog.wantsStandIn t = false := by
  obtain rfl : f = 3 := Option.some.inj ((show Tryd.prog.funcNamed "sealskin/sealskinlaw07.HashEquals" = some 3 by kernel_rfl).symm.trans hf) |>.symm
  obtain rfl : fn = Tryd.f3 := (Option.some.inj (Tryd.func3.symm.trans hfn)).symm
  refine ⟨by kernel_rfl, fun j t ht => ?_⟩
  rw [Tryd.params3] at ht
  obtain rfl : t = 22 := by simpa using Array.mem_of_getElem? ht
  exact (show Tryd.prog.wantsStandIn 22 = false by kernel_rfl)

theorem proved : Rows.HashEqualsCardSaid :=
  Claim7.holds_tied_plain_at .later [] _ _ _ _ said (fun _ h => by cases h) (by kernel_rfl) (fun _ h => by cases h) hashEquals_row_tie rfl ⟨rfl, rfl⟩ (by kernel_rfl) rfl plain (by kernel_rfl)
#print axioms proved

end Go.Proofs.YtlgbkkfkobijpabDoor.equals
