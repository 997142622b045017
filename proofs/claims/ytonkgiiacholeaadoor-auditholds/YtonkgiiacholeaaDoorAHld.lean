/- For any entries, any three numbers and any bytes the Go function sealskinlaw15.AuditHolds returns true, and its arguments read as they did. No condition. -/
import Derived.Test.YtonkgiiacholeaaDoorAGAll
import Derived.Test.YtonkgiiacholeaaDoorAHld0
namespace Go.Proofs.YtonkgiiacholeaaDoor.aholds
set_option linter.unusedVariables false
set_option linter.unusedSimpArgs false
open Go.ChangeShapes Go.WideShapes Go.ChangeAt Go.RowKit Go.Joins Go.Deep

theorem strOf_inj {l m : List Nat} (hl : ∀ y ∈ l, y < 256) (hm : ∀ y ∈ m, y < 256) (h : strOf l = strOf m) : l = m := by
  have h1 : l.map UInt8.ofNat = m.map UInt8.ofNat := by
    have := congrArg (fun s : ByteArray => s.data.toList) h
    simpa [strOf] using this
  have back : ∀ (x : List Nat), (∀ y ∈ x, y < 256) → (x.map UInt8.ofNat).map UInt8.toNat = x := by
    intro x hx
    rw [List.map_map]
    conv => rhs; rw [← List.map_id x]
    refine List.map_congr_left fun y hy => ?_
    simp only [Function.comp, id, UInt8.toNat_ofNat']
    have := hx y hy
    omega
  rw [← back l hl, ← back m hm, h1]
theorem strOf_ne {l m : List Nat} (hl : ∀ y ∈ l, y < 256) (hm : ∀ y ∈ m, y < 256) (h : l ≠ m) : ((strOf l).toList == (strOf m).toList) = false := by
  rw [← Go.beq_toListBytes]
  have h2 : strOf l ≠ strOf m := fun e => h (strOf_inj hl hm e)
  have h3 : (strOf l).data ≠ (strOf m).data := fun e => h2 (congrArg ByteArray.mk e)
  show ((strOf l).data == (strOf m).data) = false
  exact beq_eq_false_iff_ne.mpr h3
theorem z54' : (Tryd.prog.info? 43).map (·.size) = some 32 := z27
theorem slice_one' (g o n c : Nat) (w : World) (h1 : 1 ≤ n) (hn : n ≤ c) :
    (Instr.sliceAt 54 (.slice (some ⟨g, o, none⟩) n c) (some (.int .i64 1)) none none).run Tryd.prog w = .ok (.slice (if c = 1 then some ⟨g, o, none⟩ else some ⟨g, o + 32, none⟩) (n - 1) (c - 1)) w := by
  have e1 : ((0 : Int) ≤ (n : Int) ∧ (n : Int) ≤ (c : Int)) := by omega
  have e3 : ((0 : Int) ≤ (1 : Int) ∧ (1 : Int) ≤ (n : Int)) := by omega
  simp [Instr.sliceAt, run_underlying Tryd.underlying54, Instr.slice, Instr.sliceBounds, Instr.sliceBound, asIntOf, e1, e1.1, e1.2, e3, e3.1, e3.2, h1, hn, run_size z54', add_plain]
theorem PS.tail' {w : World} {g o n c : Nat} {f : List Nat} {Q : List (List Nat)} (h : PS w (.slice (some ⟨g, o, none⟩) n c) (f :: Q)) : PS w (.slice (if c = 1 then some ⟨g, o, none⟩ else some ⟨g, o + 32, none⟩) (n - 1) (c - 1)) Q := by
  obtain ⟨a', c', h1, h2, h3, h4, h5⟩ := h
  obtain ⟨rfl, rfl, rfl⟩ : some ⟨g, o, none⟩ = a' ∧ n = (f :: Q).length ∧ c = c' := by simpa using h1
  rw [List.length_cons] at h2 h3
  refine ⟨_, _, by rw [List.length_cons, Nat.add_sub_cancel], by omega, by omega, fun s hs => h4 s (List.mem_cons_of_mem _ hs), ?_⟩
  cases Q with
  | nil => exact .inl rfl
  | cons q Q =>
    rw [if_neg (by rw [List.length_cons] at h2; omega)]
    rcases h5 with h5 | ⟨g', o', h5, h6⟩
    · cases h5
    · obtain ⟨rfl, rfl⟩ : g = g' ∧ o = o' := by simpa using h5
      refine .inr ⟨g, o + 32, rfl, rfl, fun i s hs => ?_⟩
      obtain ⟨x1, x2, x3⟩ := h6.at_ (i + 1) s (by simpa using hs)
      refine ⟨x1, x2, ?_⟩
      simp only at x3 ⊢
      rw [show o + 32 + i * 32 = o + (i + 1) * 32 by omega]
      exact x3
theorem yieldsIf_slice1 {P : Program} {ops : Array Oper} {S : World → Prop} {o : Oper} {a : Act} (hw : Region.wanted o (yielded ops a.tmps) = true) (t : TypeId) (x lo : Operand) (ho : o.op = .slice t x (some lo) none none)
    (v vl : Value) (hx : a.eval x = v) (hlo : a.eval lo = vl) (r : Value) (hrun : ∀ w, (Instr.sliceAt t v (some vl) none none).run P w = .ok r w) : YieldsIf P ops S o r a :=
  .inl ⟨hw, fun w _ => by
    unfold execOp
    simp only [ho, hx, hlo, Option.map_some, Option.map_none, Sem.run_bind, Sem.run_pure, Result.andThen_ok, hrun]⟩
/-- a slice read by its cell -/
theorem yieldsIf_load_cell {ops : Array Oper} {S : World → Prop} {o : Oper} {a : Act} (hw : Region.wanted o (yielded ops a.tmps) = true) (x : Operand) (ho : o.op = .load 22 x) (p : Addr) (hx : a.eval x = .pointer (some p)) (u : Value)
    (hc : ∀ w, S w → (loadVar 22 p).run Tryd.prog w = .ok u w) : YieldsIf Tryd.prog ops S o u a :=
  .inl ⟨hw, fun w hs => by
    unfold execOp
    simp only [ho, hx, Instr.loadAt, Instr.sureAddr, Sem.run_bind, Sem.run_pure, Result.andThen_ok, hc w hs]⟩
set_option maxRecDepth 100000 in
set_option maxHeartbeats 8000000 in
theorem walk (P : List (Value × List Nat)) (a : Option Addr) (n c : Nat) (i m k : Int) (d : List Nat) (va : Option Addr) (dn vc : Nat) (w : World) (hT : Tabs w) (hn : P.length = n) (hL : LL w (.slice a n c) P) (h8 : ∀ x ∈ P, U8 x.2) (hdn : d.length = dn) (hd : Byt w (.slice va dn vc) d) (hd8 : U8 d) :
    Calls Tryd.prog 10 #[.slice a n c, .int .i64 i, .int .i64 m, .int .i64 k, .slice va dn vc] w fun e w' => e = .returned (.bool true) ∧ Below w.heap.size w w' := by
  have HSH := hide (short_any P a n c w hn hL)
  have HAW := hide (aawake_any w hT)
  have HT := hide hT
  have HL := hide hL
  have H8 := hide h8
  have HN := hide hn
  have HD := hide (And.intro hdn (And.intro hd hd8))
  clear hT hL h8 hdn hd hd8
  go_enter Tryd.func10, Tryd.ntmps10
  go_wp2_with fail
  refine Calls.mono (unhide HSH) ?_
  rintro e w1 ⟨b, rfl, rfl, hb⟩
  clear HSH
  cases b with
  | false =>
    clear hb
    go_wp2_with fail
    refine Calls.mono (unhide HAW) ?_
    rintro e w9 ⟨rfl, b9⟩
    have HF := hide b9
    clear b9
    go_wp2_with fail
    go_ret
    exact ⟨rfl, unhide HF⟩
  | true =>
    obtain ⟨n40, lens⟩ := hb rfl
    have n40I : (n : Int) ≤ 40 := by omega
    by_cases hn0 : n = 0
    · subst hn0
      clear hb lens
      go_wp2_with fail
      refine Calls.mono (unhide HAW) ?_
      rintro e w9 ⟨rfl, b9⟩
      have HF := hide b9
      clear b9
      go_wp2_with fail
      go_ret
      exact ⟨rfl, unhide HF⟩
    have n0 : ((n : Int) == 0) = false := beq_eq_false_iff_ne.2 (by omega)
    by_cases q : 4096 < dn
    · have q1 : (4096 : Int) < (dn : Int) := by omega
      clear hb lens
      go_wp2_with fail
      refine Calls.mono (unhide HAW) ?_
      rintro e w9 ⟨rfl, b9⟩
      have HF := hide b9
      clear b9
      go_wp2_with fail
      go_ret
      exact ⟨rfl, unhide HF⟩
    have q1 : ¬ (4096 : Int) < (dn : Int) := by omega
    have HLN := hide lens
    have HMD := hide (made_log P _ w (unhide HT) (unhide HL) (unhide H8) (fun x hx => Nat.le_trans (lens x hx) (by decide)) (by have := unhide HN; omega))
    obtain ⟨k', hk', hk2⟩ := mod_nat k n (by omega) (by omega)
    obtain ⟨N0, hN0⟩ : ∃ N0 : Nat, k' + 1 = N0 := ⟨_, rfl⟩
    have e1 : (1 : Int) + (k' : Int) = (N0 : Int) := by omega
    have N1 : 1 ≤ N0 := by omega
    have N2 : N0 ≤ n := by omega
    have N3 : (1 : Int) ≤ (N0 : Int) := by omega
    have N4 : (N0 : Int) ≤ 40 := by omega
    have kI : (k' : Int) ≤ 40 := by omega
    obtain ⟨i', hi', hi2⟩ := mod_nat i N0 (by omega) (by omega)
    obtain ⟨m', hm', hm2⟩ := mod_nat m N0 (by omega) (by omega)
    obtain ⟨M0, hM0⟩ : ∃ M0 : Nat, m' + 1 = M0 := ⟨_, rfl⟩
    have e2 : (1 : Int) + (m' : Int) = (M0 : Int) := by omega
    have mI : (m' : Int) ≤ 40 := by omega
    have nz : ¬ (n : Int) = 0 := by omega
    have Nz : ¬ (N0 : Int) = 0 := by omega
    have hb1 : 1 ≤ M0 := by omega
    have hb2 : M0 ≤ N0 := by omega
    clear hb lens
    go_wp2_with fail
    refine Calls.mono (unhide HMD) ?_
    rintro e w2 ⟨rfl, τ, L2, _, b2⟩
    have HL2 := hide L2
    have HB2 := hide b2
    have HEL : Hid ((P.map (·.2)).length = n) := hide (by rw [List.length_map]; exact unhide HN)
    obtain ⟨E, hE'⟩ : ∃ E, P.map (·.2) = E := ⟨_, rfl⟩
    have HEE := hide hE'
    rw [hE'] at HL2 HEL
    clear L2 b2 HMD hE'
    go_wp2_with fail
    have HX := hide (And.intro hi2 (And.intro hb1 hb2))
    have HY := hide (And.intro N1 N2)
    clear hi2 hm2 hk2 hN0 hM0 hb1 hb2 n40 hn0 N1 N2 q
    go_region
    go_wp2_with fail
    obtain ⟨hi2, hb1, hb2⟩ := unhide HX
    obtain ⟨N1, N2⟩ := unhide HY
    have B3 : Below w.heap.size w w2.drew := (unhide HB2).drew
    have B3' : Below w2.heap.size w2 w2.drew := (Below.refl _ _).drew
    have hEl := unhide HEL
    have HPR := hide (prove_log w.heap.size E τ i' N0 w2.drew ((unhide HT).below B3) ((unhide HL2).call B3') (by omega) hi2 (by omega))
    have HGR := hide (p := ∀ W, Below w2.drew.heap.size w2.drew W → _) (fun W hW => grown_log w.heap.size E τ M0 N0 W ((unhide HT).below (bcall B3 hW)) (((unhide HL2).call B3').call hW) (by omega) hb1 hb2 (by omega))
    have hXl : (E.take N0).length = N0 := by rw [List.length_take]; omega
    have l1 := proveL_ok N0 (E.take N0) i' hXl
    have l2 := grownL_ok N0 (E.take N0) M0 true hXl N1
    obtain ⟨X1, hX1⟩ : ∃ X, proveL (E.take N0) i' = X := ⟨_, rfl⟩
    obtain ⟨X2, hX2⟩ : ∃ X, grownL (E.take N0) M0 true = X := ⟨_, rfl⟩
    rw [hX1] at HPR l1
    rw [hX2] at HGR l2
    have HL3 := hide ((unhide HL2).call B3')
    have HB3 := hide B3
    obtain ⟨pl, hpl⟩ : ∃ q, X1.length = q := ⟨_, rfl⟩
    obtain ⟨gl, hgl⟩ : ∃ q, X2.length = q := ⟨_, rfl⟩
    have HPLn := hide hpl
    have HGLn := hide hgl
    have HXX := hide (And.intro hX1 (And.intro hX2 (And.intro l1 l2)))
    clear hX1 hX2 l1 l2 hpl hgl B3 B3' hEl hXl hi2 hb1 hb2 N1 N2
    refine Calls.mono (unhide HPR) ?_
    rintro e w3 ⟨p, rfl, b3, S3⟩
    have HP3 := hide (PS.of_sms S3 (by have := (unhide HXX).2.2.1; omega))
    obtain ⟨pa, pc, hp, hpcc⟩ := own_shape S3.1
    have HPS := hide (own_some S3.1)
    rw [unhide HPLn] at hp hpcc
    subst hp
    have HG2 := hide (unhide HGR _ b3)
    have HB4 := hide (bcall (unhide HB3) b3)
    have HL4 := hide ((unhide HL3).call b3)
    have HPC := hide hpcc
    clear b3 S3 HGR HPR HL3 HB3 HL2 HB2 hpcc
    go_wp2_with fail
    refine Calls.mono (unhide HG2) ?_
    rintro e w6 ⟨g, rfl, b4, S4⟩
    have HG6 := hide (PS.of_sms S4 (by have := (unhide HXX).2.2.2; omega))
    obtain ⟨ga, gc, hg, _⟩ := own_shape S4.1
    rw [unhide HGLn] at hg
    subst hg
    have HB6 := hide (bcall (unhide HB4) b4)
    have HL6 := hide ((unhide HL4).call b4)
    have HP6 := hide ((unhide HP3).call b4)
    clear b4 S4 HG2 HB4 HL4 HP3
    -- what is called from here on
    obtain ⟨hi2, hb1, hb2⟩ := unhide HX
    obtain ⟨N1, N2⟩ := unhide HY
    obtain ⟨hX1, hX2, l1, l2⟩ := unhide HXX
    have hEl := unhide HEL
    have hXl : (E.take N0).length = N0 := by rw [List.length_take]; omega
    obtain ⟨hdn, hd, hd8⟩ := unhide HD
    obtain ⟨⟨u, l⟩, hul⟩ : ∃ x, P[i']? = some x := ⟨_, List.getElem?_eq_getElem (by have := unhide HN; omega)⟩
    have hmem := List.mem_of_getElem? hul
    obtain ⟨a', c', e5, _, hq⟩ := unhide HL
    obtain ⟨⟨ad, had, hcell⟩, hby⟩ := hq i' u l hul
    obtain ⟨rfl, -, rfl⟩ : a = a' ∧ n = P.length ∧ c = c' := by simpa using e5
    subst had
    have hEi : (E.take N0)[i']? = some l := by rw [List.getElem?_take_of_lt hi2, ← unhide HEE, List.getElem?_map, hul]; rfl
    have hul8 : U8 l := unhide H8 _ hmem
    have hull : l.length ≤ 4096 := unhide HLN _ hmem
    obtain ⟨ln, hln⟩ : ∃ q, l.length = q := ⟨_, rfl⟩
    have HCX : Hid (∀ W, Below w6.heap.size w6 W → W.cell? (ad.add i') = some u) := hide (fun W hW => by
      have hb' := bcall (unhide HB6) hW
      exact (World.cell?_of_block (hb'.block _ (World.block_lt_of_cell? _ _ hcell))).trans hcell)
    have HCU : Hid (∀ W, Below w6.heap.size w6 W → (loadVar 22 (ad.add i')).run Tryd.prog W = .ok u W) := hide (fun W hW => by
      have h := unhide HCX W hW
      simp [loadVar, run_underlying Tryd.underlying22, h])
    have KRN := hide (p := ∀ W, Below w6.heap.size w6 W → _) (fun W hW => root_ok w.heap.size E τ N0 W ((unhide HT).below (bcall (unhide HB6) hW)) ((unhide HL6).call hW) (by omega) (by omega))
    have KRM := hide (p := ∀ W, Below w6.heap.size w6 W → _) (fun W hW => root_ok w.heap.size E τ M0 W ((unhide HT).below (bcall (unhide HB6) hW)) ((unhide HL6).call hW) (by omega) (by omega))
    have KPV := hide (p := ∀ W, Below w6.heap.size w6 W → _) (fun W hW => proves_ok u _ l i' N0 X1 (digL (E.take N0)) W ((unhide HT).below (bcall (unhide HB6) hW)) (hby.call (bcall (unhide HB6) hW)) hul8 (by omega) hi2 (by omega) ((unhide HP6).call hW) (digL_len _))
    have KGW := hide (p := ∀ W, Below w6.heap.size w6 W → _) (fun W hW => grows_ok M0 N0 (digL (E.take M0)) (digL (E.take N0)) X2 _ W ((unhide HT).below (bcall (unhide HB6) hW)) hb1 hb2 (by omega) (digL_len _) (digL_8 _) (digL_len _) ((unhide HG6).call hW))
    have KPO := hide (p := ∀ W, Below w6.heap.size w6 W → _) (fun W hW => proves_ok _ _ d i' N0 X1 (digL (E.take N0)) W ((unhide HT).below (bcall (unhide HB6) hW)) (hd.call (bcall (unhide HB6) hW)) hd8 (by omega) hi2 (by omega) ((unhide HP6).call hW) (digL_len _))
    have KRO := hide (p := ∀ W, Below w6.heap.size w6 W → _) (fun W hW => rproves_ok _ _ d i' N0 X1 (digL (E.take N0)) W (hd.call (bcall (unhide HB6) hW)) hd8 (by omega) hi2 (by omega) ((unhide HP6).call hW) (digL_len _))
    have KAW := hide (p := ∀ W, Below w6.heap.size w6 W → _) (fun W hW => aawake_any W ((unhide HT).below (bcall (unhide HB6) hW)))
    have KEQ := hide (p := ∀ W, Below w6.heap.size w6 W → _) (fun W hW => equal_any _ _ d l W (hd.call (bcall (unhide HB6) hW)) (hby.call (bcall (unhide HB6) hW)) hd8 hul8)
    have hz1 : provesE l i' N0 X1 (digL (E.take N0)) = 0 := by rw [← hX1]; exact proves_own hXl hEi
    have hz2 : growsE M0 N0 (digL (E.take M0)) (digL (E.take N0)) X2 = 0 := by
      rw [← hX2]
      have := grows_own hXl hb1 hb2
      rw [List.take_take, Nat.min_eq_left hb2] at this
      exact this
    rw [hz1] at KPV
    rw [hz2] at KGW
    obtain ⟨hE, hhE⟩ : ∃ h, provesE d i' N0 X1 (digL (E.take N0)) = h := ⟨_, rfl⟩
    rw [hhE] at KPO KRO
    have HOWN : Hid (hE ≠ 0 → ((strOf d).toList == (strOf l).toList) = false) := hide (fun h => by
      refine strOf_ne hd8 hul8 (fun e => h ?_)
      rw [← hhE, e, hz1])
    have HTWO : Hid (2 ≤ N0 → ∃ (ra : Option Addr) (ql rc : Nat), (∀ W, Below w6.heap.size w6 W → Calls Tryd.prog 34 #[u, .int .i64 (i' : Int), .int .i64 (N0 : Int), .slice ra ql rc, .agg (bv (digL (E.take N0))).toArray] W fun e w' => e = .returned (.int .i64 140) ∧ Below W.heap.size W w') ∧ ((pl : Int) == 0) = false ∧ ∀ W, (Instr.sliceAt 54 (.slice pa pl pc) (some (.int .i64 1)) none none).run Tryd.prog W = .ok (.slice ra ql rc) W) := hide (fun h2 => by
      have hne := prove_some (i := i') hXl h2
      rw [hX1] at hne
      cases hXc : X1 with
      | nil => exact absurd hXc hne
      | cons f Q =>
        have hlen : X1.length = pl := unhide HPLn
        have hpl1 : 1 ≤ pl := by rw [← hlen, hXc, List.length_cons]; omega
        obtain ⟨g0, c0, hs0, _⟩ := unhide HPS (by rw [hlen]; omega)
        rw [hlen] at hs0
        obtain ⟨rfl, rfl⟩ : pa = some ⟨g0, 0, none⟩ ∧ pc = c0 := by simpa using hs0
        have hP := unhide HP6
        rw [hXc] at hP
        have hPt := PS.tail' hP
        refine ⟨_, _, _, fun W hW => ?_, beq_eq_false_iff_ne.2 (by omega), fun W => slice_one' g0 0 pl pc W hpl1 (unhide HPC)⟩
        have := proves_ok u _ l i' N0 Q (digL (E.take N0)) W ((unhide HT).below (bcall (unhide HB6) hW)) (hby.call (bcall (unhide HB6) hW)) hul8 (by omega) hi2 (by omega) (hPt.call hW) (digL_len _)
        rw [proves_less hXl hi2 (by rw [hX1, hXc])] at this
        exact this)
    obtain ⟨RN, hRN⟩ : ∃ A, (bv (digL (E.take N0))).toArray = A := ⟨_, rfl⟩
    obtain ⟨RM, hRM⟩ : ∃ A, (bv (digL (E.take M0))).toArray = A := ⟨_, rfl⟩
    rw [hRN] at KRN KPV KGW KPO KRO HTWO
    rw [hRM] at KRM KGW
    have iI : (i' : Int) < (n : Int) := by omega
    have iI2 : i' < n := by omega
    obtain ⟨ua, uc, hus⟩ := byt_shape hby
    rw [hln] at hus
    subst hus
    clear HX HY HXX hX1 hX2 l1 l2 hEl hXl hdn hd hd8 hul hmem e5 hq hby hEi hul8 hull hln hz1 hz2 hhE hRN hRM hi2 hb1 hb2 N1 N2 hcell HP6 HG6 HL6 HPS HPC
    go_wp2_with fail
    have hk0 : Below w6.heap.size w6 w6.drew := (Below.refl _ _).drew
    refine wp_region_held_drew (S := fun w' => Below w6.heap.size w6 w') (by kernel_rfl) hk0 (fun hHeld => ?_)
    refine wpAnyH_take (i := 0) (oi := { dst := some 68, op := Op.move (Operand.tmp 13), type := 26, pos := "law.go:138", after := #[], guard := none }) (v := .int .i64 0) rfl (by kernel_rfl) (by kernel_rfl) (by kernel_rfl) (fun _ _ _ h => h) (Or.inl ⟨by rfl, ?_⟩) hHeld ?_
    · intro w hSw
      first
        | rfl
        | (go_simp; done)
    try simp only [Act.put, List.setIfInBounds_toArray, List.set_cons_zero, List.set_cons_succ]
    refine wpAnyH_take (i := 1) (oi := { dst := some 69, op := Op.binOp BinOp.neq 26 (Operand.tmp 68) (Operand.const (Value.int IntKind.i64 0)) 26, type := 4, pos := "law.go:138", after := #[{ on := 0, ground := Ground.data }], guard := none }) (v := .bool false) rfl (by kernel_rfl) (by kernel_rfl) (by kernel_rfl) (fun _ _ _ h => h) (Or.inl ⟨by rfl, ?_⟩) hHeld ?_
    · intro w hSw
      first
        | rfl
        | (go_simp; done)
    try simp only [Act.put, List.setIfInBounds_toArray, List.set_cons_zero, List.set_cons_succ]
    refine wpAnyH_take (i := 2) (oi := { dst := some 70, op := Op.move (Operand.tmp 69), type := 4, pos := "law.go:138", after := #[{ on := 1, ground := Ground.data }], guard := none }) (v := .bool false) rfl (by kernel_rfl) (by kernel_rfl) (by kernel_rfl) (fun _ _ _ h => h) (Or.inl ⟨by rfl, ?_⟩) hHeld ?_
    · intro w hSw
      first
        | rfl
        | (go_simp; done)
    try simp only [Act.put, List.setIfInBounds_toArray, List.set_cons_zero, List.set_cons_succ]
    refine wpAnyH_take (i := 3) (oi := { dst := some 71, op := Op.move (Operand.tmp 15), type := 26, pos := "law.go:138", after := #[{ on := 2, ground := Ground.guard }], guard := some (2, false) }) (v := .int .i64 0) rfl (by kernel_rfl) (by kernel_rfl) (by kernel_rfl) (fun _ _ _ h => h) (Or.inl ⟨by rfl, ?_⟩) hHeld ?_
    · intro w hSw
      first
        | rfl
        | (go_simp; done)
    try simp only [Act.put, List.setIfInBounds_toArray, List.set_cons_zero, List.set_cons_succ]
    refine wpAnyH_take (i := 4) (oi := { dst := some 72, op := Op.binOp BinOp.neq 26 (Operand.tmp 71) (Operand.const (Value.int IntKind.i64 0)) 26, type := 4, pos := "law.go:138", after := #[{ on := 3, ground := Ground.data }, { on := 2, ground := Ground.guard }], guard := some (2, false) }) (v := .bool false) rfl (by kernel_rfl) (by kernel_rfl) (by kernel_rfl) (fun _ _ _ h => h) (Or.inl ⟨by rfl, ?_⟩) hHeld ?_
    · intro w hSw
      first
        | rfl
        | (go_simp; done)
    try simp only [Act.put, List.setIfInBounds_toArray, List.set_cons_zero, List.set_cons_succ]
    refine wpAnyH_take (i := 5) (oi := { dst := some 73, op := Op.pick (Operand.tmp 70) (Operand.const (Value.bool true)) (Operand.tmp 72), type := 4, pos := "law.go:138", after := #[{ on := 2, ground := Ground.data }, { on := 4, ground := Ground.data }], guard := none }) (v := .bool false) rfl (by kernel_rfl) (by kernel_rfl) (by kernel_rfl) (fun _ _ _ h => h) (Or.inl ⟨by rfl, ?_⟩) hHeld ?_
    · intro w hSw
      first
        | rfl
        | (go_simp; done)
    try simp only [Act.put, List.setIfInBounds_toArray, List.set_cons_zero, List.set_cons_succ]
    refine wpAnyH_take (i := 6) (oi := { dst := some 74, op := Op.move (Operand.tmp 73), type := 4, pos := "law.go:138", after := #[{ on := 5, ground := Ground.data }, { on := 2, ground := Ground.chain }], guard := none }) (v := .bool false) rfl (by kernel_rfl) (by kernel_rfl) (by kernel_rfl) (fun _ _ _ h => h) (Or.inl ⟨by rfl, ?_⟩) hHeld ?_
    · intro w hSw
      first
        | rfl
        | (go_simp; done)
    try simp only [Act.put, List.setIfInBounds_toArray, List.set_cons_zero, List.set_cons_succ]
    refine wpAnyH_take (i := 7) (oi := { dst := some 75, op := Op.move (Operand.tmp 0), type := 35, pos := "law.go:138", after := #[{ on := 6, ground := Ground.guard }], guard := some (6, false) }) (v := .slice (some ad) n c) rfl (by kernel_rfl) (by kernel_rfl) (by kernel_rfl) (fun _ _ _ h => h) (Or.inl ⟨by rfl, ?_⟩) hHeld ?_
    · intro w hSw
      first
        | rfl
        | (go_simp; done)
    try simp only [Act.put, List.setIfInBounds_toArray, List.set_cons_zero, List.set_cons_succ]
    refine wpAnyH_take (i := 8) (oi := { dst := some 76, op := Op.move (Operand.tmp 1), type := 3, pos := "law.go:138", after := #[{ on := 6, ground := Ground.guard }], guard := some (6, false) }) (v := .int .i64 (i' : Int)) rfl (by kernel_rfl) (by kernel_rfl) (by kernel_rfl) (fun _ _ _ h => h) (Or.inl ⟨by rfl, ?_⟩) hHeld ?_
    · intro w hSw
      first
        | rfl
        | (go_simp; done)
    try simp only [Act.put, List.setIfInBounds_toArray, List.set_cons_zero, List.set_cons_succ]
    refine wpAnyH_take (i := 9) (oi := { dst := some 77, op := Op.indexAddr 35 (Operand.tmp 75) (Operand.tmp 76), type := 0, pos := "law.go:138", after := #[{ on := 7, ground := Ground.data }, { on := 8, ground := Ground.data }, { on := 6, ground := Ground.guard }], guard := some (6, false) }) (v := .pointer (some (ad.add i'))) rfl (by kernel_rfl) (by kernel_rfl) (by kernel_rfl) (fun _ _ _ h => h) (Or.inl ⟨by rfl, ?_⟩) hHeld ?_
    · intro w hSw
      first
        | rfl
        | (go_simp; done)
    try simp only [Act.put, List.setIfInBounds_toArray, List.set_cons_zero, List.set_cons_succ]
    refine wpAnyH_take (i := 10) (oi := { dst := some 78, op := Op.load 22 (Operand.tmp 77), type := 22, pos := "law.go:138", after := #[{ on := 9, ground := Ground.data }, { on := 6, ground := Ground.guard }], guard := some (6, false) }) (v := .slice ua ln uc) rfl (by kernel_rfl) (by kernel_rfl) (by kernel_rfl) (fun _ _ _ h => h)
      (yieldsIf_load_cell (by rfl) _ rfl (ad.add i') rfl (.slice ua ln uc) (unhide HCU)) hHeld ?_
    try simp only [Act.put, List.setIfInBounds_toArray, List.set_cons_zero, List.set_cons_succ]
    refine wpAnyH_take (i := 11) (oi := { dst := some 79, op := Op.move (Operand.tmp 1), type := 3, pos := "law.go:138", after := #[{ on := 6, ground := Ground.guard }], guard := some (6, false) }) (v := .int .i64 (i' : Int)) rfl (by kernel_rfl) (by kernel_rfl) (by kernel_rfl) (fun _ _ _ h => h) (Or.inl ⟨by rfl, ?_⟩) hHeld ?_
    · intro w hSw
      first
        | rfl
        | (go_simp; done)
    try simp only [Act.put, List.setIfInBounds_toArray, List.set_cons_zero, List.set_cons_succ]
    refine wpAnyH_take (i := 12) (oi := { dst := some 80, op := Op.move (Operand.tmp 3), type := 3, pos := "law.go:138", after := #[{ on := 6, ground := Ground.guard }], guard := some (6, false) }) (v := .int .i64 (N0 : Int)) rfl (by kernel_rfl) (by kernel_rfl) (by kernel_rfl) (fun _ _ _ h => h) (Or.inl ⟨by rfl, ?_⟩) hHeld ?_
    · intro w hSw
      first
        | rfl
        | (go_simp; done)
    try simp only [Act.put, List.setIfInBounds_toArray, List.set_cons_zero, List.set_cons_succ]
    refine wpAnyH_take (i := 13) (oi := { dst := some 81, op := Op.move (Operand.tmp 12), type := 54, pos := "law.go:138", after := #[{ on := 6, ground := Ground.guard }], guard := some (6, false) }) (v := .slice pa pl pc) rfl (by kernel_rfl) (by kernel_rfl) (by kernel_rfl) (fun _ _ _ h => h) (Or.inl ⟨by rfl, ?_⟩) hHeld ?_
    · intro w hSw
      first
        | rfl
        | (go_simp; done)
    try simp only [Act.put, List.setIfInBounds_toArray, List.set_cons_zero, List.set_cons_succ]
    refine wpAnyH_take (i := 14) (oi := { dst := some 82, op := Op.move (Operand.tmp 11), type := 38, pos := "law.go:138", after := #[{ on := 6, ground := Ground.guard }], guard := some (6, false) }) (v := .pointer (some ⟨w.heap.size, 0, none⟩)) rfl (by kernel_rfl) (by kernel_rfl) (by kernel_rfl) (fun _ _ _ h => h) (Or.inl ⟨by rfl, ?_⟩) hHeld ?_
    · intro w hSw
      first
        | rfl
        | (go_simp; done)
    try simp only [Act.put, List.setIfInBounds_toArray, List.set_cons_zero, List.set_cons_succ]
    refine wpAnyH_take (i := 15) (oi := { dst := some 83, op := Op.move (Operand.tmp 3), type := 3, pos := "law.go:138", after := #[{ on := 6, ground := Ground.guard }], guard := some (6, false) }) (v := .int .i64 (N0 : Int)) rfl (by kernel_rfl) (by kernel_rfl) (by kernel_rfl) (fun _ _ _ h => h) (Or.inl ⟨by rfl, ?_⟩) hHeld ?_
    · intro w hSw
      first
        | rfl
        | (go_simp; done)
    try simp only [Act.put, List.setIfInBounds_toArray, List.set_cons_zero, List.set_cons_succ]
    refine wpAnyH_ready (rs := [16]) (by kernel_rfl) (by simp) ?_
    refine AllReadyH.cons (o := { dst := some 84, op := Op.call { callee := Callee.value (Operand.func 30), args := #[Operand.tmp 82, Operand.tmp 83], argTypes := #[38, 3] }, type := 43, pos := "law.go:138", after := #[{ on := 14, ground := Ground.data }, { on := 15, ground := Ground.data }, { on := 6, ground := Ground.chain }, { on := 6, ground := Ground.guard }], guard := some (6, false) }) rfl (fun K hK => ?_) AllReadyH.nil
    go_simp
    refine Calls.mono (unhide KRN _ hk0) ?_
    rintro e wa ⟨rfl, ba⟩
    have ka := bcall hk0 ba
    go_wp2_with fail
    refine hK.out _ _ ?_ (fun hHeld => ?_)
    · exact ka
    clear hK K
    try simp only [Act.put, List.setIfInBounds_toArray, List.set_cons_zero, List.set_cons_succ]
    refine wpAnyH_ready (rs := [17]) (by kernel_rfl) (by simp) ?_
    refine AllReadyH.cons (o := { dst := some 85, op := Op.call { callee := Callee.value (Operand.func 34), args := #[Operand.tmp 78, Operand.tmp 79, Operand.tmp 80, Operand.tmp 81, Operand.tmp 84], argTypes := #[22, 3, 3, 54, 43] }, type := 26, pos := "law.go:138", after := #[{ on := 10, ground := Ground.data }, { on := 11, ground := Ground.data }, { on := 12, ground := Ground.data }, { on := 13, ground := Ground.data }, { on := 16, ground := Ground.data }, { on := 16, ground := Ground.chain }, { on := 6, ground := Ground.guard }], guard := some (6, false) }) rfl (fun K hK => ?_) AllReadyH.nil
    go_simp
    refine Calls.mono (unhide KPV _ ka) ?_
    rintro e wb ⟨rfl, bb⟩
    have kb := bcall ka bb
    go_wp2_with fail
    refine hK.out _ _ ?_ (fun hHeld => ?_)
    · exact kb
    clear hK K
    try simp only [Act.put, List.setIfInBounds_toArray, List.set_cons_zero, List.set_cons_succ]
    refine wpAnyH_take (i := 18) (oi := { dst := some 86, op := Op.binOp BinOp.neq 26 (Operand.tmp 85) (Operand.const (Value.int IntKind.i64 0)) 26, type := 4, pos := "law.go:138", after := #[{ on := 17, ground := Ground.data }, { on := 6, ground := Ground.guard }], guard := some (6, false) }) (v := .bool false) rfl (by kernel_rfl) (by kernel_rfl) (by kernel_rfl) (fun _ _ _ h => h) (Or.inl ⟨by rfl, ?_⟩) hHeld ?_
    · intro w hSw
      first
        | rfl
        | (go_simp; done)
    try simp only [Act.put, List.setIfInBounds_toArray, List.set_cons_zero, List.set_cons_succ]
    refine wpAnyH_take (i := 19) (oi := { dst := some 87, op := Op.pick (Operand.tmp 74) (Operand.const (Value.bool true)) (Operand.tmp 86), type := 4, pos := "law.go:138", after := #[{ on := 6, ground := Ground.data }, { on := 18, ground := Ground.data }], guard := none }) (v := .bool false) rfl (by kernel_rfl) (by kernel_rfl) (by kernel_rfl) (fun _ _ _ h => h) (Or.inl ⟨by rfl, ?_⟩) hHeld ?_
    · intro w hSw
      first
        | rfl
        | (go_simp; done)
    try simp only [Act.put, List.setIfInBounds_toArray, List.set_cons_zero, List.set_cons_succ]
    refine wpAnyH_take (i := 20) (oi := { dst := some 88, op := Op.move (Operand.tmp 87), type := 4, pos := "law.go:138", after := #[{ on := 19, ground := Ground.data }, { on := 17, ground := Ground.chain }], guard := none }) (v := .bool false) rfl (by kernel_rfl) (by kernel_rfl) (by kernel_rfl) (fun _ _ _ h => h) (Or.inl ⟨by rfl, ?_⟩) hHeld ?_
    · intro w hSw
      first
        | rfl
        | (go_simp; done)
    try simp only [Act.put, List.setIfInBounds_toArray, List.set_cons_zero, List.set_cons_succ]
    refine wpAnyH_take (i := 21) (oi := { dst := some 89, op := Op.move (Operand.tmp 2), type := 3, pos := "law.go:138", after := #[{ on := 20, ground := Ground.guard }], guard := some (20, false) }) (v := .int .i64 (M0 : Int)) rfl (by kernel_rfl) (by kernel_rfl) (by kernel_rfl) (fun _ _ _ h => h) (Or.inl ⟨by rfl, ?_⟩) hHeld ?_
    · intro w hSw
      first
        | rfl
        | (go_simp; done)
    try simp only [Act.put, List.setIfInBounds_toArray, List.set_cons_zero, List.set_cons_succ]
    refine wpAnyH_take (i := 22) (oi := { dst := some 90, op := Op.move (Operand.tmp 3), type := 3, pos := "law.go:138", after := #[{ on := 20, ground := Ground.guard }], guard := some (20, false) }) (v := .int .i64 (N0 : Int)) rfl (by kernel_rfl) (by kernel_rfl) (by kernel_rfl) (fun _ _ _ h => h) (Or.inl ⟨by rfl, ?_⟩) hHeld ?_
    · intro w hSw
      first
        | rfl
        | (go_simp; done)
    try simp only [Act.put, List.setIfInBounds_toArray, List.set_cons_zero, List.set_cons_succ]
    refine wpAnyH_take (i := 23) (oi := { dst := some 91, op := Op.move (Operand.tmp 11), type := 38, pos := "law.go:138", after := #[{ on := 20, ground := Ground.guard }], guard := some (20, false) }) (v := .pointer (some ⟨w.heap.size, 0, none⟩)) rfl (by kernel_rfl) (by kernel_rfl) (by kernel_rfl) (fun _ _ _ h => h) (Or.inl ⟨by rfl, ?_⟩) hHeld ?_
    · intro w hSw
      first
        | rfl
        | (go_simp; done)
    try simp only [Act.put, List.setIfInBounds_toArray, List.set_cons_zero, List.set_cons_succ]
    refine wpAnyH_take (i := 24) (oi := { dst := some 92, op := Op.move (Operand.tmp 2), type := 3, pos := "law.go:138", after := #[{ on := 20, ground := Ground.guard }], guard := some (20, false) }) (v := .int .i64 (M0 : Int)) rfl (by kernel_rfl) (by kernel_rfl) (by kernel_rfl) (fun _ _ _ h => h) (Or.inl ⟨by rfl, ?_⟩) hHeld ?_
    · intro w hSw
      first
        | rfl
        | (go_simp; done)
    try simp only [Act.put, List.setIfInBounds_toArray, List.set_cons_zero, List.set_cons_succ]
    refine wpAnyH_take (i := 26) (oi := { dst := some 94, op := Op.move (Operand.tmp 11), type := 38, pos := "law.go:138", after := #[{ on := 20, ground := Ground.guard }], guard := some (20, false) }) (v := .pointer (some ⟨w.heap.size, 0, none⟩)) rfl (by kernel_rfl) (by kernel_rfl) (by kernel_rfl) (fun _ _ _ h => h) (Or.inl ⟨by rfl, ?_⟩) hHeld ?_
    · intro w hSw
      first
        | rfl
        | (go_simp; done)
    try simp only [Act.put, List.setIfInBounds_toArray, List.set_cons_zero, List.set_cons_succ]
    refine wpAnyH_take (i := 27) (oi := { dst := some 95, op := Op.move (Operand.tmp 3), type := 3, pos := "law.go:138", after := #[{ on := 20, ground := Ground.guard }], guard := some (20, false) }) (v := .int .i64 (N0 : Int)) rfl (by kernel_rfl) (by kernel_rfl) (by kernel_rfl) (fun _ _ _ h => h) (Or.inl ⟨by rfl, ?_⟩) hHeld ?_
    · intro w hSw
      first
        | rfl
        | (go_simp; done)
    try simp only [Act.put, List.setIfInBounds_toArray, List.set_cons_zero, List.set_cons_succ]
    refine wpAnyH_take (i := 29) (oi := { dst := some 97, op := Op.move (Operand.tmp 14), type := 54, pos := "law.go:138", after := #[{ on := 20, ground := Ground.guard }], guard := some (20, false) }) (v := .slice ga gl gc) rfl (by kernel_rfl) (by kernel_rfl) (by kernel_rfl) (fun _ _ _ h => h) (Or.inl ⟨by rfl, ?_⟩) hHeld ?_
    · intro w hSw
      first
        | rfl
        | (go_simp; done)
    try simp only [Act.put, List.setIfInBounds_toArray, List.set_cons_zero, List.set_cons_succ]
    refine wpAnyH_ready (rs := [25]) (by kernel_rfl) (by simp) ?_
    refine AllReadyH.cons (o := { dst := some 93, op := Op.call { callee := Callee.value (Operand.func 30), args := #[Operand.tmp 91, Operand.tmp 92], argTypes := #[38, 3] }, type := 43, pos := "law.go:138", after := #[{ on := 23, ground := Ground.data }, { on := 24, ground := Ground.data }, { on := 20, ground := Ground.chain }, { on := 20, ground := Ground.guard }], guard := some (20, false) }) rfl (fun K hK => ?_) AllReadyH.nil
    go_simp
    refine Calls.mono (unhide KRM _ kb) ?_
    rintro e wc ⟨rfl, bc⟩
    have kc := bcall kb bc
    go_wp2_with fail
    refine hK.out _ _ ?_ (fun hHeld => ?_)
    · exact kc
    clear hK K
    try simp only [Act.put, List.setIfInBounds_toArray, List.set_cons_zero, List.set_cons_succ]
    refine wpAnyH_ready (rs := [28]) (by kernel_rfl) (by simp) ?_
    refine AllReadyH.cons (o := { dst := some 96, op := Op.call { callee := Callee.value (Operand.func 30), args := #[Operand.tmp 94, Operand.tmp 95], argTypes := #[38, 3] }, type := 43, pos := "law.go:138", after := #[{ on := 26, ground := Ground.data }, { on := 27, ground := Ground.data }, { on := 25, ground := Ground.chain }, { on := 20, ground := Ground.guard }], guard := some (20, false) }) rfl (fun K hK => ?_) AllReadyH.nil
    go_simp
    refine Calls.mono (unhide KRN _ kc) ?_
    rintro e wd ⟨rfl, bd⟩
    have kd := bcall kc bd
    go_wp2_with fail
    refine hK.out _ _ ?_ (fun hHeld => ?_)
    · exact kd
    clear hK K
    try simp only [Act.put, List.setIfInBounds_toArray, List.set_cons_zero, List.set_cons_succ]
    refine wpAnyH_ready (rs := [30]) (by kernel_rfl) (by simp) ?_
    refine AllReadyH.cons (o := { dst := some 98, op := Op.call { callee := Callee.value (Operand.func 38), args := #[Operand.tmp 89, Operand.tmp 90, Operand.tmp 93, Operand.tmp 96, Operand.tmp 97], argTypes := #[3, 3, 43, 43, 54] }, type := 26, pos := "law.go:138", after := #[{ on := 21, ground := Ground.data }, { on := 22, ground := Ground.data }, { on := 25, ground := Ground.data }, { on := 28, ground := Ground.data }, { on := 29, ground := Ground.data }, { on := 28, ground := Ground.chain }, { on := 20, ground := Ground.guard }], guard := some (20, false) }) rfl (fun K hK => ?_) AllReadyH.nil
    go_simp
    refine Calls.mono (unhide KGW _ kd) ?_
    rintro e we ⟨rfl, be⟩
    have ke := bcall kd be
    go_wp2_with fail
    refine hK.out _ _ ?_ (fun hHeld => ?_)
    · exact ke
    clear hK K
    try simp only [Act.put, List.setIfInBounds_toArray, List.set_cons_zero, List.set_cons_succ]
    refine wpAnyH_take (i := 31) (oi := { dst := some 99, op := Op.binOp BinOp.neq 26 (Operand.tmp 98) (Operand.const (Value.int IntKind.i64 0)) 26, type := 4, pos := "law.go:138", after := #[{ on := 30, ground := Ground.data }, { on := 20, ground := Ground.guard }], guard := some (20, false) }) (v := .bool false) rfl (by kernel_rfl) (by kernel_rfl) (by kernel_rfl) (fun _ _ _ h => h) (Or.inl ⟨by rfl, ?_⟩) hHeld ?_
    · intro w hSw
      first
        | rfl
        | (go_simp; done)
    try simp only [Act.put, List.setIfInBounds_toArray, List.set_cons_zero, List.set_cons_succ]
    refine wpAnyH_take (i := 32) (oi := { dst := some 100, op := Op.pick (Operand.tmp 88) (Operand.const (Value.bool true)) (Operand.tmp 99), type := 4, pos := "law.go:138", after := #[{ on := 20, ground := Ground.data }, { on := 31, ground := Ground.data }], guard := none }) (v := .bool false) rfl (by kernel_rfl) (by kernel_rfl) (by kernel_rfl) (fun _ _ _ h => h) (Or.inl ⟨by rfl, ?_⟩) hHeld ?_
    · intro w hSw
      first
        | rfl
        | (go_simp; done)
    try simp only [Act.put, List.setIfInBounds_toArray, List.set_cons_zero, List.set_cons_succ]
    refine wpAnyH_done (by kernel_rfl) ?_ _
    have HKE := hide ke
    clear ba bb bc bd be ka kb kc kd ke hHeld
    go_wp2_with fail
    by_cases h2 : 2 ≤ N0
    rotate_left
    · have g1 : ¬ (1 : Int) < (N0 : Int) := by omega
      have k0d : Below w6.heap.size w6 we.drew := (unhide HKE).drew
      refine wp_region_held_drew (S := fun w' => Below w6.heap.size w6 w') (by kernel_rfl) k0d (fun hHeld => ?_)
      refine wpAnyH_take (i := 0) (oi := { dst := some 101, op := Op.move (Operand.tmp 3), type := 3, pos := "law.go:141", after := #[], guard := none }) (v := .int .i64 (N0 : Int)) rfl (by kernel_rfl) (by kernel_rfl) (by kernel_rfl) (fun _ _ _ h => h) (Or.inl ⟨by rfl, ?_⟩) hHeld ?_
      · intro w hSw
        first
          | rfl
          | (go_simp; done)
      try simp only [Act.put, List.setIfInBounds_toArray, List.set_cons_zero, List.set_cons_succ]
      refine wpAnyH_take (i := 1) (oi := { dst := some 102, op := Op.binOp BinOp.gtr 3 (Operand.tmp 101) (Operand.const (Value.int IntKind.i64 1)) 3, type := 4, pos := "law.go:141", after := #[{ on := 0, ground := Ground.data }], guard := none }) (v := .bool false) rfl (by kernel_rfl) (by kernel_rfl) (by kernel_rfl) (fun _ _ _ h => h) (Or.inl ⟨by rfl, ?_⟩) hHeld ?_
      · intro w hSw
        first
          | rfl
          | (go_simp; done)
      try simp only [Act.put, List.setIfInBounds_toArray, List.set_cons_zero, List.set_cons_succ]
      refine wpAnyH_take (i := 2) (oi := { dst := some 103, op := Op.move (Operand.tmp 102), type := 4, pos := "law.go:141", after := #[{ on := 1, ground := Ground.data }], guard := none }) (v := .bool false) rfl (by kernel_rfl) (by kernel_rfl) (by kernel_rfl) (fun _ _ _ h => h) (Or.inl ⟨by rfl, ?_⟩) hHeld ?_
      · intro w hSw
        first
          | rfl
          | (go_simp; done)
      try simp only [Act.put, List.setIfInBounds_toArray, List.set_cons_zero, List.set_cons_succ]
      refine wpAnyH_take (i := 3) (oi := { dst := some 104, op := Op.move (Operand.tmp 12), type := 54, pos := "law.go:141", after := #[{ on := 2, ground := Ground.guard }], guard := some (2, true) }) (v := undef) rfl (by kernel_rfl) (by kernel_rfl) (by kernel_rfl) (fun _ _ _ h => h) (Or.inr ⟨by rfl, rfl⟩) hHeld ?_
      try simp only [Act.put, List.setIfInBounds_toArray, List.set_cons_zero, List.set_cons_succ]
      refine wpAnyH_take (i := 4) (oi := { dst := some 105, op := Op.call { callee := Callee.builtin Builtin.len, args := #[Operand.tmp 104], argTypes := #[54] }, type := 3, pos := "law.go:141", after := #[{ on := 3, ground := Ground.data }, { on := 2, ground := Ground.guard }], guard := some (2, true) }) (v := undef) rfl (by kernel_rfl) (by kernel_rfl) (by kernel_rfl) (fun _ _ _ h => h) (Or.inr ⟨by rfl, rfl⟩) hHeld ?_
      try simp only [Act.put, List.setIfInBounds_toArray, List.set_cons_zero, List.set_cons_succ]
      refine wpAnyH_take (i := 5) (oi := { dst := some 106, op := Op.binOp BinOp.eql 3 (Operand.tmp 105) (Operand.const (Value.int IntKind.i64 0)) 3, type := 4, pos := "law.go:141", after := #[{ on := 4, ground := Ground.data }, { on := 2, ground := Ground.guard }], guard := some (2, true) }) (v := undef) rfl (by kernel_rfl) (by kernel_rfl) (by kernel_rfl) (fun _ _ _ h => h) (Or.inr ⟨by rfl, rfl⟩) hHeld ?_
      try simp only [Act.put, List.setIfInBounds_toArray, List.set_cons_zero, List.set_cons_succ]
      refine wpAnyH_take (i := 6) (oi := { dst := some 107, op := Op.move (Operand.tmp 106), type := 4, pos := "law.go:141", after := #[{ on := 5, ground := Ground.data }, { on := 2, ground := Ground.chain }, { on := 2, ground := Ground.guard }], guard := some (2, true) }) (v := undef) rfl (by kernel_rfl) (by kernel_rfl) (by kernel_rfl) (fun _ _ _ h => h) (Or.inr ⟨by rfl, rfl⟩) hHeld ?_
      try simp only [Act.put, List.setIfInBounds_toArray, List.set_cons_zero, List.set_cons_succ]
      refine wpAnyH_take (i := 7) (oi := { dst := some 108, op := Op.move (Operand.tmp 0), type := 35, pos := "law.go:141", after := #[{ on := 6, ground := Ground.guard }], guard := some (6, false) }) (v := undef) rfl (by kernel_rfl) (by kernel_rfl) (by kernel_rfl) (fun _ _ _ h => h) (Or.inr ⟨by rfl, rfl⟩) hHeld ?_
      try simp only [Act.put, List.setIfInBounds_toArray, List.set_cons_zero, List.set_cons_succ]
      refine wpAnyH_take (i := 8) (oi := { dst := some 109, op := Op.move (Operand.tmp 1), type := 3, pos := "law.go:141", after := #[{ on := 6, ground := Ground.guard }], guard := some (6, false) }) (v := undef) rfl (by kernel_rfl) (by kernel_rfl) (by kernel_rfl) (fun _ _ _ h => h) (Or.inr ⟨by rfl, rfl⟩) hHeld ?_
      try simp only [Act.put, List.setIfInBounds_toArray, List.set_cons_zero, List.set_cons_succ]
      refine wpAnyH_take (i := 9) (oi := { dst := some 110, op := Op.indexAddr 35 (Operand.tmp 108) (Operand.tmp 109), type := 0, pos := "law.go:141", after := #[{ on := 7, ground := Ground.data }, { on := 8, ground := Ground.data }, { on := 6, ground := Ground.guard }], guard := some (6, false) }) (v := undef) rfl (by kernel_rfl) (by kernel_rfl) (by kernel_rfl) (fun _ _ _ h => h) (Or.inr ⟨by rfl, rfl⟩) hHeld ?_
      try simp only [Act.put, List.setIfInBounds_toArray, List.set_cons_zero, List.set_cons_succ]
      refine wpAnyH_take (i := 10) (oi := { dst := some 111, op := Op.load 22 (Operand.tmp 110), type := 22, pos := "law.go:141", after := #[{ on := 9, ground := Ground.data }, { on := 6, ground := Ground.guard }], guard := some (6, false) }) (v := undef) rfl (by kernel_rfl) (by kernel_rfl) (by kernel_rfl) (fun _ _ _ h => h) (Or.inr ⟨by rfl, rfl⟩) hHeld ?_
      try simp only [Act.put, List.setIfInBounds_toArray, List.set_cons_zero, List.set_cons_succ]
      refine wpAnyH_take (i := 11) (oi := { dst := some 112, op := Op.move (Operand.tmp 1), type := 3, pos := "law.go:141", after := #[{ on := 6, ground := Ground.guard }], guard := some (6, false) }) (v := undef) rfl (by kernel_rfl) (by kernel_rfl) (by kernel_rfl) (fun _ _ _ h => h) (Or.inr ⟨by rfl, rfl⟩) hHeld ?_
      try simp only [Act.put, List.setIfInBounds_toArray, List.set_cons_zero, List.set_cons_succ]
      refine wpAnyH_take (i := 12) (oi := { dst := some 113, op := Op.move (Operand.tmp 3), type := 3, pos := "law.go:141", after := #[{ on := 6, ground := Ground.guard }], guard := some (6, false) }) (v := undef) rfl (by kernel_rfl) (by kernel_rfl) (by kernel_rfl) (fun _ _ _ h => h) (Or.inr ⟨by rfl, rfl⟩) hHeld ?_
      try simp only [Act.put, List.setIfInBounds_toArray, List.set_cons_zero, List.set_cons_succ]
      refine wpAnyH_take (i := 13) (oi := { dst := some 114, op := Op.move (Operand.tmp 12), type := 54, pos := "law.go:141", after := #[{ on := 6, ground := Ground.guard }], guard := some (6, false) }) (v := undef) rfl (by kernel_rfl) (by kernel_rfl) (by kernel_rfl) (fun _ _ _ h => h) (Or.inr ⟨by rfl, rfl⟩) hHeld ?_
      try simp only [Act.put, List.setIfInBounds_toArray, List.set_cons_zero, List.set_cons_succ]
      refine wpAnyH_take (i := 14) (oi := { dst := some 115, op := Op.slice 54 (Operand.tmp 114) (some (Operand.const (Value.int IntKind.i64 1))) none none, type := 54, pos := "law.go:141", after := #[{ on := 13, ground := Ground.data }, { on := 6, ground := Ground.guard }], guard := some (6, false) }) (v := undef) rfl (by kernel_rfl) (by kernel_rfl) (by kernel_rfl) (fun _ _ _ h => h) (Or.inr ⟨by rfl, rfl⟩) hHeld ?_
      try simp only [Act.put, List.setIfInBounds_toArray, List.set_cons_zero, List.set_cons_succ]
      refine wpAnyH_take (i := 15) (oi := { dst := some 116, op := Op.move (Operand.tmp 11), type := 38, pos := "law.go:141", after := #[{ on := 6, ground := Ground.guard }], guard := some (6, false) }) (v := undef) rfl (by kernel_rfl) (by kernel_rfl) (by kernel_rfl) (fun _ _ _ h => h) (Or.inr ⟨by rfl, rfl⟩) hHeld ?_
      try simp only [Act.put, List.setIfInBounds_toArray, List.set_cons_zero, List.set_cons_succ]
      refine wpAnyH_take (i := 16) (oi := { dst := some 117, op := Op.move (Operand.tmp 3), type := 3, pos := "law.go:141", after := #[{ on := 6, ground := Ground.guard }], guard := some (6, false) }) (v := undef) rfl (by kernel_rfl) (by kernel_rfl) (by kernel_rfl) (fun _ _ _ h => h) (Or.inr ⟨by rfl, rfl⟩) hHeld ?_
      try simp only [Act.put, List.setIfInBounds_toArray, List.set_cons_zero, List.set_cons_succ]
      refine wpAnyH_take (i := 17) (oi := { dst := some 118, op := Op.call { callee := Callee.value (Operand.func 30), args := #[Operand.tmp 116, Operand.tmp 117], argTypes := #[38, 3] }, type := 43, pos := "law.go:141", after := #[{ on := 15, ground := Ground.data }, { on := 16, ground := Ground.data }, { on := 6, ground := Ground.chain }, { on := 6, ground := Ground.guard }], guard := some (6, false) }) (v := undef) rfl (by kernel_rfl) (by kernel_rfl) (by kernel_rfl) (fun _ _ _ h => h) (Or.inr ⟨by rfl, rfl⟩) hHeld ?_
      try simp only [Act.put, List.setIfInBounds_toArray, List.set_cons_zero, List.set_cons_succ]
      refine wpAnyH_take (i := 18) (oi := { dst := some 119, op := Op.call { callee := Callee.value (Operand.func 34), args := #[Operand.tmp 111, Operand.tmp 112, Operand.tmp 113, Operand.tmp 115, Operand.tmp 118], argTypes := #[22, 3, 3, 54, 43] }, type := 26, pos := "law.go:141", after := #[{ on := 10, ground := Ground.data }, { on := 11, ground := Ground.data }, { on := 12, ground := Ground.data }, { on := 14, ground := Ground.data }, { on := 17, ground := Ground.data }, { on := 17, ground := Ground.chain }, { on := 6, ground := Ground.guard }], guard := some (6, false) }) (v := undef) rfl (by kernel_rfl) (by kernel_rfl) (by kernel_rfl) (fun _ _ _ h => h) (Or.inr ⟨by rfl, rfl⟩) hHeld ?_
      try simp only [Act.put, List.setIfInBounds_toArray, List.set_cons_zero, List.set_cons_succ]
      refine wpAnyH_take (i := 19) (oi := { dst := some 120, op := Op.binOp BinOp.neq 26 (Operand.tmp 119) (Operand.const (Value.int IntKind.i64 140)) 26, type := 4, pos := "law.go:141", after := #[{ on := 18, ground := Ground.data }, { on := 6, ground := Ground.guard }], guard := some (6, false) }) (v := undef) rfl (by kernel_rfl) (by kernel_rfl) (by kernel_rfl) (fun _ _ _ h => h) (Or.inr ⟨by rfl, rfl⟩) hHeld ?_
      try simp only [Act.put, List.setIfInBounds_toArray, List.set_cons_zero, List.set_cons_succ]
      refine wpAnyH_take (i := 20) (oi := { dst := some 121, op := Op.pick (Operand.tmp 107) (Operand.const (Value.bool true)) (Operand.tmp 120), type := 4, pos := "law.go:141", after := #[{ on := 6, ground := Ground.data }, { on := 19, ground := Ground.data }, { on := 2, ground := Ground.guard }], guard := some (2, true) }) (v := undef) rfl (by kernel_rfl) (by kernel_rfl) (by kernel_rfl) (fun _ _ _ h => h) (Or.inr ⟨by rfl, rfl⟩) hHeld ?_
      try simp only [Act.put, List.setIfInBounds_toArray, List.set_cons_zero, List.set_cons_succ]
      refine wpAnyH_take (i := 21) (oi := { dst := some 122, op := Op.pick (Operand.tmp 103) (Operand.tmp 121) (Operand.const (Value.bool false)), type := 4, pos := "law.go:141", after := #[{ on := 2, ground := Ground.data }, { on := 20, ground := Ground.data }], guard := none }) (v := .bool false) rfl (by kernel_rfl) (by kernel_rfl) (by kernel_rfl) (fun _ _ _ h => h) (Or.inl ⟨by rfl, ?_⟩) hHeld ?_
      · intro w hSw
        first
          | rfl
          | (go_simp; done)
      try simp only [Act.put, List.setIfInBounds_toArray, List.set_cons_zero, List.set_cons_succ]
      refine wpAnyH_done (by kernel_rfl) ?_ _
      go_wp2_with fail
      refine Calls.mono (unhide KRN _ k0d) ?_
      rintro e xa ⟨rfl, ba⟩
      have xka := bcall k0d ba
      go_wp2_with fail
      refine Calls.mono (unhide KPO _ xka) ?_
      rintro e xb ⟨rfl, bb⟩
      have xkb := bcall xka bb
      go_wp2_with fail
      refine Calls.mono (unhide KRN _ xkb) ?_
      rintro e xc ⟨rfl, bc⟩
      have xkc := bcall xkb bc
      by_cases h0 : hE = 0
      · have hb0 : (hE == 0) = true := by simp [h0]
        go_wp2_with fail
        refine Calls.mono (unhide KRO _ xkc) ?_
        rintro e xd ⟨rfl, bd⟩
        have xkd := bcall xkc bd
        go_wp2_with fail
        refine Calls.mono (unhide KAW _ xkd) ?_
        rintro e xe ⟨rfl, be⟩
        have HF := hide (bcall (unhide HB6) (bcall xkd be))
        clear be
        go_wp2_with fail
        go_ret
        exact ⟨rfl, unhide HF⟩
      · have hb0 : (hE == 0) = false := by simp [h0]
        have HNE := hide (unhide HOWN h0)
        go_wp2_with fail
        refine Calls.mono (unhide KRO _ xkc) ?_
        rintro e xd ⟨rfl, bd⟩
        have xkd := bcall xkc bd
        have hcx := unhide HCX _ xkd
        have KE := hide (unhide KEQ _ xkd)
        rw [unhide HNE] at KE
        go_wp2_with fail
        refine Calls.mono (unhide KE) ?_
        rintro e xf ⟨rfl, rfl⟩
        go_wp2_with fail
        refine Calls.mono (unhide KAW _ xkd) ?_
        rintro e xe ⟨rfl, be⟩
        have HF := hide (bcall (unhide HB6) (bcall xkd be))
        clear be
        go_wp2_with fail
        go_ret
        exact ⟨rfl, unhide HF⟩
    · have g1 : (1 : Int) < (N0 : Int) := by omega
      have k0d : Below w6.heap.size w6 we.drew := (unhide HKE).drew
      obtain ⟨ra, ql, rc, KPL, hpz, HSL⟩ := unhide HTWO (by omega)
      have HPL := hide KPL
      clear KPL
      refine wp_region_held_drew (S := fun w' => Below w6.heap.size w6 w') (by kernel_rfl) k0d (fun hHeld => ?_)
      refine wpAnyH_take (i := 0) (oi := { dst := some 101, op := Op.move (Operand.tmp 3), type := 3, pos := "law.go:141", after := #[], guard := none }) (v := .int .i64 (N0 : Int)) rfl (by kernel_rfl) (by kernel_rfl) (by kernel_rfl) (fun _ _ _ h => h) (Or.inl ⟨by rfl, ?_⟩) hHeld ?_
      · intro w hSw
        first
          | rfl
          | (go_simp; done)
      try simp only [Act.put, List.setIfInBounds_toArray, List.set_cons_zero, List.set_cons_succ]
      refine wpAnyH_take (i := 1) (oi := { dst := some 102, op := Op.binOp BinOp.gtr 3 (Operand.tmp 101) (Operand.const (Value.int IntKind.i64 1)) 3, type := 4, pos := "law.go:141", after := #[{ on := 0, ground := Ground.data }], guard := none }) (v := .bool true) rfl (by kernel_rfl) (by kernel_rfl) (by kernel_rfl) (fun _ _ _ h => h) (Or.inl ⟨by rfl, ?_⟩) hHeld ?_
      · intro w hSw
        first
          | rfl
          | (go_simp; done)
      try simp only [Act.put, List.setIfInBounds_toArray, List.set_cons_zero, List.set_cons_succ]
      refine wpAnyH_take (i := 2) (oi := { dst := some 103, op := Op.move (Operand.tmp 102), type := 4, pos := "law.go:141", after := #[{ on := 1, ground := Ground.data }], guard := none }) (v := .bool true) rfl (by kernel_rfl) (by kernel_rfl) (by kernel_rfl) (fun _ _ _ h => h) (Or.inl ⟨by rfl, ?_⟩) hHeld ?_
      · intro w hSw
        first
          | rfl
          | (go_simp; done)
      try simp only [Act.put, List.setIfInBounds_toArray, List.set_cons_zero, List.set_cons_succ]
      refine wpAnyH_take (i := 3) (oi := { dst := some 104, op := Op.move (Operand.tmp 12), type := 54, pos := "law.go:141", after := #[{ on := 2, ground := Ground.guard }], guard := some (2, true) }) (v := .slice pa pl pc) rfl (by kernel_rfl) (by kernel_rfl) (by kernel_rfl) (fun _ _ _ h => h) (Or.inl ⟨by rfl, ?_⟩) hHeld ?_
      · intro w hSw
        first
          | rfl
          | (go_simp; done)
      try simp only [Act.put, List.setIfInBounds_toArray, List.set_cons_zero, List.set_cons_succ]
      refine wpAnyH_take (i := 4) (oi := { dst := some 105, op := Op.call { callee := Callee.builtin Builtin.len, args := #[Operand.tmp 104], argTypes := #[54] }, type := 3, pos := "law.go:141", after := #[{ on := 3, ground := Ground.data }, { on := 2, ground := Ground.guard }], guard := some (2, true) }) (v := .int .i64 (pl : Int)) rfl (by kernel_rfl) (by kernel_rfl) (by kernel_rfl) (fun _ _ _ h => h) (Or.inl ⟨by rfl, ?_⟩) hHeld ?_
      · intro w hSw
        first
          | rfl
          | (go_simp; done)
      try simp only [Act.put, List.setIfInBounds_toArray, List.set_cons_zero, List.set_cons_succ]
      refine wpAnyH_take (i := 5) (oi := { dst := some 106, op := Op.binOp BinOp.eql 3 (Operand.tmp 105) (Operand.const (Value.int IntKind.i64 0)) 3, type := 4, pos := "law.go:141", after := #[{ on := 4, ground := Ground.data }, { on := 2, ground := Ground.guard }], guard := some (2, true) }) (v := .bool false) rfl (by kernel_rfl) (by kernel_rfl) (by kernel_rfl) (fun _ _ _ h => h) (Or.inl ⟨by rfl, ?_⟩) hHeld ?_
      · intro w hSw
        first
          | rfl
          | (go_simp; done)
      try simp only [Act.put, List.setIfInBounds_toArray, List.set_cons_zero, List.set_cons_succ]
      refine wpAnyH_take (i := 6) (oi := { dst := some 107, op := Op.move (Operand.tmp 106), type := 4, pos := "law.go:141", after := #[{ on := 5, ground := Ground.data }, { on := 2, ground := Ground.chain }, { on := 2, ground := Ground.guard }], guard := some (2, true) }) (v := .bool false) rfl (by kernel_rfl) (by kernel_rfl) (by kernel_rfl) (fun _ _ _ h => h) (Or.inl ⟨by rfl, ?_⟩) hHeld ?_
      · intro w hSw
        first
          | rfl
          | (go_simp; done)
      try simp only [Act.put, List.setIfInBounds_toArray, List.set_cons_zero, List.set_cons_succ]
      refine wpAnyH_take (i := 7) (oi := { dst := some 108, op := Op.move (Operand.tmp 0), type := 35, pos := "law.go:141", after := #[{ on := 6, ground := Ground.guard }], guard := some (6, false) }) (v := .slice (some ad) n c) rfl (by kernel_rfl) (by kernel_rfl) (by kernel_rfl) (fun _ _ _ h => h) (Or.inl ⟨by rfl, ?_⟩) hHeld ?_
      · intro w hSw
        first
          | rfl
          | (go_simp; done)
      try simp only [Act.put, List.setIfInBounds_toArray, List.set_cons_zero, List.set_cons_succ]
      refine wpAnyH_take (i := 8) (oi := { dst := some 109, op := Op.move (Operand.tmp 1), type := 3, pos := "law.go:141", after := #[{ on := 6, ground := Ground.guard }], guard := some (6, false) }) (v := .int .i64 (i' : Int)) rfl (by kernel_rfl) (by kernel_rfl) (by kernel_rfl) (fun _ _ _ h => h) (Or.inl ⟨by rfl, ?_⟩) hHeld ?_
      · intro w hSw
        first
          | rfl
          | (go_simp; done)
      try simp only [Act.put, List.setIfInBounds_toArray, List.set_cons_zero, List.set_cons_succ]
      refine wpAnyH_take (i := 9) (oi := { dst := some 110, op := Op.indexAddr 35 (Operand.tmp 108) (Operand.tmp 109), type := 0, pos := "law.go:141", after := #[{ on := 7, ground := Ground.data }, { on := 8, ground := Ground.data }, { on := 6, ground := Ground.guard }], guard := some (6, false) }) (v := .pointer (some (ad.add i'))) rfl (by kernel_rfl) (by kernel_rfl) (by kernel_rfl) (fun _ _ _ h => h) (Or.inl ⟨by rfl, ?_⟩) hHeld ?_
      · intro w hSw
        first
          | rfl
          | (go_simp; done)
      try simp only [Act.put, List.setIfInBounds_toArray, List.set_cons_zero, List.set_cons_succ]
      refine wpAnyH_take (i := 10) (oi := { dst := some 111, op := Op.load 22 (Operand.tmp 110), type := 22, pos := "law.go:141", after := #[{ on := 9, ground := Ground.data }, { on := 6, ground := Ground.guard }], guard := some (6, false) }) (v := .slice ua ln uc) rfl (by kernel_rfl) (by kernel_rfl) (by kernel_rfl) (fun _ _ _ h => h)
        (yieldsIf_load_cell (by rfl) _ rfl (ad.add i') rfl (.slice ua ln uc) (unhide HCU)) hHeld ?_
      try simp only [Act.put, List.setIfInBounds_toArray, List.set_cons_zero, List.set_cons_succ]
      refine wpAnyH_take (i := 11) (oi := { dst := some 112, op := Op.move (Operand.tmp 1), type := 3, pos := "law.go:141", after := #[{ on := 6, ground := Ground.guard }], guard := some (6, false) }) (v := .int .i64 (i' : Int)) rfl (by kernel_rfl) (by kernel_rfl) (by kernel_rfl) (fun _ _ _ h => h) (Or.inl ⟨by rfl, ?_⟩) hHeld ?_
      · intro w hSw
        first
          | rfl
          | (go_simp; done)
      try simp only [Act.put, List.setIfInBounds_toArray, List.set_cons_zero, List.set_cons_succ]
      refine wpAnyH_take (i := 12) (oi := { dst := some 113, op := Op.move (Operand.tmp 3), type := 3, pos := "law.go:141", after := #[{ on := 6, ground := Ground.guard }], guard := some (6, false) }) (v := .int .i64 (N0 : Int)) rfl (by kernel_rfl) (by kernel_rfl) (by kernel_rfl) (fun _ _ _ h => h) (Or.inl ⟨by rfl, ?_⟩) hHeld ?_
      · intro w hSw
        first
          | rfl
          | (go_simp; done)
      try simp only [Act.put, List.setIfInBounds_toArray, List.set_cons_zero, List.set_cons_succ]
      refine wpAnyH_take (i := 13) (oi := { dst := some 114, op := Op.move (Operand.tmp 12), type := 54, pos := "law.go:141", after := #[{ on := 6, ground := Ground.guard }], guard := some (6, false) }) (v := .slice pa pl pc) rfl (by kernel_rfl) (by kernel_rfl) (by kernel_rfl) (fun _ _ _ h => h) (Or.inl ⟨by rfl, ?_⟩) hHeld ?_
      · intro w hSw
        first
          | rfl
          | (go_simp; done)
      try simp only [Act.put, List.setIfInBounds_toArray, List.set_cons_zero, List.set_cons_succ]
      refine wpAnyH_take (i := 14) (oi := { dst := some 115, op := Op.slice 54 (Operand.tmp 114) (some (Operand.const (Value.int IntKind.i64 1))) none none, type := 54, pos := "law.go:141", after := #[{ on := 13, ground := Ground.data }, { on := 6, ground := Ground.guard }], guard := some (6, false) }) (v := .slice ra ql rc) rfl (by kernel_rfl) (by kernel_rfl) (by kernel_rfl) (fun _ _ _ h => h)
        (yieldsIf_slice1 (by rfl) 54 _ _ rfl (.slice pa pl pc) (.int .i64 1) rfl rfl _ HSL) hHeld ?_
      try simp only [Act.put, List.setIfInBounds_toArray, List.set_cons_zero, List.set_cons_succ]
      refine wpAnyH_take (i := 15) (oi := { dst := some 116, op := Op.move (Operand.tmp 11), type := 38, pos := "law.go:141", after := #[{ on := 6, ground := Ground.guard }], guard := some (6, false) }) (v := .pointer (some ⟨w.heap.size, 0, none⟩)) rfl (by kernel_rfl) (by kernel_rfl) (by kernel_rfl) (fun _ _ _ h => h) (Or.inl ⟨by rfl, ?_⟩) hHeld ?_
      · intro w hSw
        first
          | rfl
          | (go_simp; done)
      try simp only [Act.put, List.setIfInBounds_toArray, List.set_cons_zero, List.set_cons_succ]
      refine wpAnyH_take (i := 16) (oi := { dst := some 117, op := Op.move (Operand.tmp 3), type := 3, pos := "law.go:141", after := #[{ on := 6, ground := Ground.guard }], guard := some (6, false) }) (v := .int .i64 (N0 : Int)) rfl (by kernel_rfl) (by kernel_rfl) (by kernel_rfl) (fun _ _ _ h => h) (Or.inl ⟨by rfl, ?_⟩) hHeld ?_
      · intro w hSw
        first
          | rfl
          | (go_simp; done)
      try simp only [Act.put, List.setIfInBounds_toArray, List.set_cons_zero, List.set_cons_succ]
      refine wpAnyH_ready (rs := [17]) (by kernel_rfl) (by simp) ?_
      refine AllReadyH.cons (o := { dst := some 118, op := Op.call { callee := Callee.value (Operand.func 30), args := #[Operand.tmp 116, Operand.tmp 117], argTypes := #[38, 3] }, type := 43, pos := "law.go:141", after := #[{ on := 15, ground := Ground.data }, { on := 16, ground := Ground.data }, { on := 6, ground := Ground.chain }, { on := 6, ground := Ground.guard }], guard := some (6, false) }) rfl (fun K hK => ?_) AllReadyH.nil
      go_simp
      refine Calls.mono (unhide KRN _ k0d) ?_
      rintro e wg ⟨rfl, bg⟩
      have kg := bcall k0d bg
      go_wp2_with fail
      refine hK.out _ _ ?_ (fun hHeld => ?_)
      · exact kg
      clear hK K
      try simp only [Act.put, List.setIfInBounds_toArray, List.set_cons_zero, List.set_cons_succ]
      refine wpAnyH_ready (rs := [18]) (by kernel_rfl) (by simp) ?_
      refine AllReadyH.cons (o := { dst := some 119, op := Op.call { callee := Callee.value (Operand.func 34), args := #[Operand.tmp 111, Operand.tmp 112, Operand.tmp 113, Operand.tmp 115, Operand.tmp 118], argTypes := #[22, 3, 3, 54, 43] }, type := 26, pos := "law.go:141", after := #[{ on := 10, ground := Ground.data }, { on := 11, ground := Ground.data }, { on := 12, ground := Ground.data }, { on := 14, ground := Ground.data }, { on := 17, ground := Ground.data }, { on := 17, ground := Ground.chain }, { on := 6, ground := Ground.guard }], guard := some (6, false) }) rfl (fun K hK => ?_) AllReadyH.nil
      go_simp
      refine Calls.mono (unhide HPL _ kg) ?_
      rintro e wh ⟨rfl, bh⟩
      have kh := bcall kg bh
      go_wp2_with fail
      refine hK.out _ _ ?_ (fun hHeld => ?_)
      · exact kh
      clear hK K
      try simp only [Act.put, List.setIfInBounds_toArray, List.set_cons_zero, List.set_cons_succ]
      refine wpAnyH_take (i := 19) (oi := { dst := some 120, op := Op.binOp BinOp.neq 26 (Operand.tmp 119) (Operand.const (Value.int IntKind.i64 140)) 26, type := 4, pos := "law.go:141", after := #[{ on := 18, ground := Ground.data }, { on := 6, ground := Ground.guard }], guard := some (6, false) }) (v := .bool false) rfl (by kernel_rfl) (by kernel_rfl) (by kernel_rfl) (fun _ _ _ h => h) (Or.inl ⟨by rfl, ?_⟩) hHeld ?_
      · intro w hSw
        first
          | rfl
          | (go_simp; done)
      try simp only [Act.put, List.setIfInBounds_toArray, List.set_cons_zero, List.set_cons_succ]
      refine wpAnyH_take (i := 20) (oi := { dst := some 121, op := Op.pick (Operand.tmp 107) (Operand.const (Value.bool true)) (Operand.tmp 120), type := 4, pos := "law.go:141", after := #[{ on := 6, ground := Ground.data }, { on := 19, ground := Ground.data }, { on := 2, ground := Ground.guard }], guard := some (2, true) }) (v := .bool false) rfl (by kernel_rfl) (by kernel_rfl) (by kernel_rfl) (fun _ _ _ h => h) (Or.inl ⟨by rfl, ?_⟩) hHeld ?_
      · intro w hSw
        first
          | rfl
          | (go_simp; done)
      try simp only [Act.put, List.setIfInBounds_toArray, List.set_cons_zero, List.set_cons_succ]
      refine wpAnyH_take (i := 21) (oi := { dst := some 122, op := Op.pick (Operand.tmp 103) (Operand.tmp 121) (Operand.const (Value.bool false)), type := 4, pos := "law.go:141", after := #[{ on := 2, ground := Ground.data }, { on := 20, ground := Ground.data }], guard := none }) (v := .bool false) rfl (by kernel_rfl) (by kernel_rfl) (by kernel_rfl) (fun _ _ _ h => h) (Or.inl ⟨by rfl, ?_⟩) hHeld ?_
      · intro w hSw
        first
          | rfl
          | (go_simp; done)
      try simp only [Act.put, List.setIfInBounds_toArray, List.set_cons_zero, List.set_cons_succ]
      refine wpAnyH_done (by kernel_rfl) ?_ _
      go_wp2_with fail
      refine Calls.mono (unhide KRN _ kh) ?_
      rintro e xa ⟨rfl, ba⟩
      have xka := bcall kh ba
      go_wp2_with fail
      refine Calls.mono (unhide KPO _ xka) ?_
      rintro e xb ⟨rfl, bb⟩
      have xkb := bcall xka bb
      go_wp2_with fail
      refine Calls.mono (unhide KRN _ xkb) ?_
      rintro e xc ⟨rfl, bc⟩
      have xkc := bcall xkb bc
      by_cases h0 : hE = 0
      · have hb0 : (hE == 0) = true := by simp [h0]
        go_wp2_with fail
        refine Calls.mono (unhide KRO _ xkc) ?_
        rintro e xd ⟨rfl, bd⟩
        have xkd := bcall xkc bd
        go_wp2_with fail
        refine Calls.mono (unhide KAW _ xkd) ?_
        rintro e xe ⟨rfl, be⟩
        have HF := hide (bcall (unhide HB6) (bcall xkd be))
        clear be
        go_wp2_with fail
        go_ret
        exact ⟨rfl, unhide HF⟩
      · have hb0 : (hE == 0) = false := by simp [h0]
        have HNE := hide (unhide HOWN h0)
        go_wp2_with fail
        refine Calls.mono (unhide KRO _ xkc) ?_
        rintro e xd ⟨rfl, bd⟩
        have xkd := bcall xkc bd
        have hcx := unhide HCX _ xkd
        have KE := hide (unhide KEQ _ xkd)
        rw [unhide HNE] at KE
        go_wp2_with fail
        refine Calls.mono (unhide KE) ?_
        rintro e xf ⟨rfl, rfl⟩
        go_wp2_with fail
        refine Calls.mono (unhide KAW _ xkd) ?_
        rintro e xe ⟨rfl, be⟩
        have HF := hide (bcall (unhide HB6) (bcall xkd be))
        clear be
        go_wp2_with fail
        go_ret
        exact ⟨rfl, unhide HF⟩

set_option maxRecDepth 100000 in
theorem contract (H : Type) (enc : TypeId × Value → H) (W : World) (base : Nat) (args : Array Value) (ds gs : List (DataW H)) (before : List MemPlace)
    (hval : ∀ (j : Nat) t v, Tryd.f10.params[j]? = some t → args[j]? = some v → Value.okWide Tryd.prog W .any base t v)
    (hW : DataW.Whole enc Tryd.prog Tryd.f10.params.toList Rows.auditHoldsSpec.vars false W args.toList ds gs before) (hL : laidMetH Tryd.prog Rows.auditHoldsRow.laid W) :
    Calls Tryd.prog 10 args W fun e W' => ∃ v, e = .returned v ∧ Rows.auditHoldsSpec.post enc Tryd.prog Tryd.f10 false true false false W args v W' := by
  have hT : Tabs W := tabs_of hL
  have hW' := hW
  obtain ⟨p, q, hA0, hV, rfl, hfz, hnd⟩ := hW
  have hA : DataW.TrodAll enc Tryd.prog W 0 (fun _ => true) true Tryd.f10.params.toList args.toList ds p := hA0
  rw [Tryd.params10] at hA hval
  obtain ⟨v0, vs0, d0, ds0, p0, q0, hargs, rfl, rfl, h0, r0⟩ := trodAll_cons hA
  obtain ⟨v1, vs1, d1, ds1, p1, q1, rfl, rfl, rfl, h1, r1⟩ := trodAll_cons r0
  obtain ⟨v2, vs2, d2, ds2, p2, q2, rfl, rfl, rfl, h2, r2⟩ := trodAll_cons r1
  obtain ⟨v3, vs3, d3, ds3, p3, q3, rfl, rfl, rfl, h3, r3⟩ := trodAll_cons r2
  obtain ⟨v4, vs4, d4, ds4, p4, q4, rfl, rfl, rfl, h4, r4⟩ := trodAll_cons r3
  obtain ⟨rfl, rfl, rfl⟩ := trodAll_nil r4
  obtain rfl : args = #[v0, v1, v2, v3, v4] := by cases args; simp_all
  obtain ⟨rfl, rfl⟩ := trodVars_none hV
  have lt0 : ∀ x ∈ p0, x.block < W.heap.size := by obtain ⟨m, hm⟩ := h0; exact DataW.trod_lt m _ _ _ hm
  have lt1 : ∀ x ∈ p1, x.block < W.heap.size := by obtain ⟨m, hm⟩ := h1; exact DataW.trod_lt m _ _ _ hm
  have lt2 : ∀ x ∈ p2, x.block < W.heap.size := by obtain ⟨m, hm⟩ := h2; exact DataW.trod_lt m _ _ _ hm
  have lt3 : ∀ x ∈ p3, x.block < W.heap.size := by obtain ⟨m, hm⟩ := h3; exact DataW.trod_lt m _ _ _ hm
  have lt4 : ∀ x ∈ p4, x.block < W.heap.size := by obtain ⟨m, hm⟩ := h4; exact DataW.trod_lt m _ _ _ hm
  obtain ⟨P, hP, hP8, hPd⟩ := open_lists (hval 0 35 v0 rfl rfl) h0
  obtain ⟨la, lc, hv, _⟩ := id hP
  subst hv
  obtain ⟨n1, rfl⟩ := open_i64 (hval 1 3 v1 rfl rfl) h1
  obtain ⟨n2, rfl⟩ := open_i64 (hval 2 3 v2 rfl rfl) h2
  obtain ⟨n3, rfl⟩ := open_i64 (hval 3 3 v3 rfl rfl) h3
  obtain ⟨d, hd, hd8⟩ := open_bytes (hval 4 22 v4 rfl rfl) h4
  obtain ⟨va, vc, hvd⟩ := byt_shape hd
  subst hvd
  clear hA0
  refine (walk P la P.length lc n1 n2 n3 d va d.length vc W hT rfl hP hP8 rfl hd hd8).mono fun e W' ⟨he, bel⟩ => ?_
  subst he
  exact ⟨_, rfl, _, _, _, [], _, [], hW', trodAll_mk1 (shut_bool Tryd.underlying4 _), (trodAll_cons_mk (Below.trod laidOut (by kernel_rfl) (of_decide_eq_true (by kernel_rfl)) h0 bel lt0) (trodAll_cons_mk (Below.trod laidOut (by kernel_rfl) (of_decide_eq_true (by kernel_rfl)) h1 bel lt1) (trodAll_cons_mk (Below.trod laidOut (by kernel_rfl) (of_decide_eq_true (by kernel_rfl)) h2 bel lt2) (trodAll_cons_mk (Below.trod laidOut (by kernel_rfl) (of_decide_eq_true (by kernel_rfl)) h3 bel lt3) (trodAll_cons_mk (Below.trod laidOut (by kernel_rfl) (of_decide_eq_true (by kernel_rfl)) h4 bel lt4) trodAll_mk0))))), rfl, bel.frame _, fun h => by cases h⟩

set_option maxRecDepth 100000 in
theorem laid_here (os : Os) : laidMet Tryd.prog Rows.auditHoldsRow.laid ((laidWorld os).forCall (fun _ _ => 0) ⟨#[], #[.slice none 0 0, .int .i64 0, .int .i64 0, .int .i64 0, .slice none 0 0], []⟩).memory :=
  laidMet_of_run' 8 (by kernel_rfl) (by kernel_rfl)
theorem reads (os : Os) {H : Type} (enc : TypeId × Value → H) : ∃ places, DataW.whole enc Tryd.prog ((laidWorld os).forCall (fun _ _ => 0) ⟨#[], #[.slice none 0 0, .int .i64 0, .int .i64 0, .int .i64 0, .slice none 0 0], []⟩).memory Tryd.f10.params.toList Rows.auditHoldsSpec.vars false (#[.slice none 0 0, .int .i64 0, .int .i64 0, .int .i64 0, .slice none 0 0] : Array Value).toList 8 = some ([.nil, .lit (.int .i64 0), .lit (.int .i64 0), .lit (.int .i64 0), .nil], [], places) :=
  ⟨[], by kernel_rfl⟩

set_option maxRecDepth 100000 in
theorem lifted (os : Os) (started : os.Started) (H : Type) (enc : TypeId × Value → H) (F : Stop.Interp) :
    ReturnsInHanded {} Tryd.checked os 10 .any ((OpenSpec.ofChange Rows.auditHoldsSpec).preRow enc Tryd.prog Tryd.f10 Rows.auditHoldsRow.domain false Rows.auditHoldsRow.laid) (((OpenSpec.ofChange Rows.auditHoldsSpec).at F).post enc Tryd.prog Tryd.f10 false true false false) := by
  obtain ⟨places, hx⟩ := reads os enc
  refine returnsInHanded_of_row (C := Tryd.checked) (s := OpenSpec.ofChange Rows.auditHoldsSpec) own started (by kernel_rfl) Tryd.func10
    (witness_row_at (enc := enc) (C := Tryd.checked) false (laidWorld os) #[.slice none 0 0, .int .i64 0, .int .i64 0, .int .i64 0, .slice none 0 0] rfl (by kernel_rfl) (by kernel_rfl) (by kernel_rfl)
      (OpenSpec.preRow_of_cond 8 hx (by kernel_rfl) (fun k hk => by cases hk) (by kernel_rfl) (laid_here os))) ?_
  intro W base args ds gs before hval hW _ _ _ hL _ _
  exact contract H enc W base args ds gs before hval hW hL

set_option maxRecDepth 100000 in
theorem said : Rows.AuditHoldsSaid :=
  OpenClaim.holds_of_cond 10 Tryd.f10 rfl rfl rfl rfl rfl rfl rfl ⟨rfl, rfl, rfl, rfl, rfl⟩ rfl rfl rfl rfl rfl (by kernel_rfl) Tryd.func10 (by kernel_rfl)
    (of_decide_eq_true (by kernel_rfl)) (by unfold Func.isWrapper; first | (rw [if_pos (by decide +kernel)]; kernel_rfl) | (rw [if_neg (by decide +kernel)]; exact ⟨rfl, rfl⟩))
    (fun os started H enc _ F => by rw [OpenClaim.pre_eq_preRow]; exact lifted os started H enc F)

set_option maxRecDepth 100000 in
theorem plain (f : FuncId) (fn : Func) (hf : Tryd.pinned.checked.prog.funcNamed "sealskin/sealskinlaw15.AuditHolds" = some f) (hfn : Tryd.pinned.checked.prog.funcs[f]? = some fn) :
    false = Tryd.pinned.checked.prog.looks [] ∧ ∀ (j : Nat) t, fn.params[j]? = some t → Tryd.pinned.checked.prog.wantsStandIn t = false := by
  obtain rfl : f = 10 := Option.some.inj ((show Tryd.prog.funcNamed "sealskin/sealskinlaw15.AuditHolds" = some 10 by kernel_rfl).symm.trans hf) |>.symm
  obtain rfl : fn = Tryd.f10 := (Option.some.inj (Tryd.func10.symm.trans hfn)).symm
  refine ⟨by kernel_rfl, fun j t ht => ?_⟩
  rw [Tryd.params10] at ht
  have := Array.mem_of_getElem? ht
  simp at this
  rcases this with rfl | rfl | rfl
  · exact (show Tryd.prog.wantsStandIn 35 = false by kernel_rfl)
  · exact (show Tryd.prog.wantsStandIn 3 = false by kernel_rfl)
  · exact (show Tryd.prog.wantsStandIn 22 = false by kernel_rfl)

theorem proved : Rows.AuditHoldsCardSaid :=
  Claim7.holds_tied_plain_at .later [] _ _ _ _ said (fun _ h => by cases h) (by kernel_rfl) (fun _ h => by cases h) auditHolds_row_tie rfl ⟨rfl, rfl⟩ (by kernel_rfl) rfl plain (by kernel_rfl)
#print axioms proved
end Go.Proofs.YtonkgiiacholeaaDoor.aholds
