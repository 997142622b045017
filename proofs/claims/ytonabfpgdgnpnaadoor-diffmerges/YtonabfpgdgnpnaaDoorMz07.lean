/- Parts of the walk: Trn. -/
import Derived.Test.YtonabfpgdgnpnaaDoorMz06
import Derived.Deep.LoopGhost
namespace Go.Proofs.YtonabfpgdgnpnaaDoor
set_option linter.unusedVariables false
set_option linter.unusedSimpArgs false
open Go.ChangeShapes Go.WideShapes Go.ChangeAt Go.RowKit Go.Joins Go.Deep

abbrev ztrn5 : Oper := { dst := some 84, op := Op.call { callee := Callee.value (Operand.func 66), args := #[Operand.tmp 83], argTypes := #[3] }, type := 39, pos := "pair.go:95", after := #[{ on := 2, ground := Ground.data }], guard := none }
abbrev ztrn6 : Oper := { dst := some 89, op := Op.buildSlice 24 1 #[(0, Operand.tmp 88)], type := 24, pos := "pair.go:95", after := #[{ on := 7, ground := Ground.data }], guard := none }
abbrev ztrn7 : Oper := { dst := some 85, op := Op.buildSlice 24 1 #[(0, Operand.tmp 84)], type := 24, pos := "pair.go:95", after := #[{ on := 3, ground := Ground.data }], guard := none }
abbrev ztrn8 : Oper := { dst := some 86, op := Op.call { callee := Callee.builtin Builtin.append, args := #[Operand.tmp 81, Operand.tmp 85], argTypes := #[24, 24] }, type := 24, pos := "pair.go:95", after := #[{ on := 0, ground := Ground.data }, { on := 4, ground := Ground.data }, { on := 3, ground := Ground.chain }], guard := none }
abbrev ztrn9 : Oper := { dst := some 90, op := Op.call { callee := Callee.builtin Builtin.append, args := #[Operand.tmp 87, Operand.tmp 89], argTypes := #[24, 24] }, type := 24, pos := "pair.go:95", after := #[{ on := 6, ground := Ground.data }, { on := 8, ground := Ground.data }, { on := 5, ground := Ground.chain }], guard := none }
abbrev ztrn18 : Oper := { dst := some 50, op := Op.call { callee := Callee.value (Operand.func 68), args := #[Operand.tmp 48, Operand.tmp 49], argTypes := #[39, 39] }, type := 39, pos := "pair.go:98", after := #[{ on := 1, ground := Ground.data }, { on := 2, ground := Ground.data }], guard := none }
abbrev ztrn19 : Oper := { dst := some 51, op := Op.buildSlice 24 1 #[(0, Operand.tmp 50)], type := 24, pos := "pair.go:98", after := #[{ on := 3, ground := Ground.data }], guard := none }
abbrev ztrn20 : Oper := { dst := some 52, op := Op.call { callee := Callee.builtin Builtin.append, args := #[Operand.tmp 47, Operand.tmp 51], argTypes := #[24, 24] }, type := 24, pos := "pair.go:98", after := #[{ on := 0, ground := Ground.data }, { on := 4, ground := Ground.data }, { on := 3, ground := Ground.chain }], guard := none }
abbrev ztrn21 : Oper := { dst := some 56, op := Op.call { callee := Callee.value (Operand.func 68), args := #[Operand.tmp 54, Operand.tmp 55], argTypes := #[39, 39] }, type := 39, pos := "pair.go:98", after := #[{ on := 7, ground := Ground.data }, { on := 8, ground := Ground.data }, { on := 5, ground := Ground.chain }], guard := none }
abbrev ztrn22 : Oper := { dst := some 57, op := Op.buildSlice 24 1 #[(0, Operand.tmp 56)], type := 24, pos := "pair.go:98", after := #[{ on := 9, ground := Ground.data }], guard := none }
abbrev ztrn23 : Oper := { dst := some 58, op := Op.call { callee := Callee.builtin Builtin.append, args := #[Operand.tmp 53, Operand.tmp 57], argTypes := #[24, 24] }, type := 24, pos := "pair.go:98", after := #[{ on := 6, ground := Ground.data }, { on := 10, ground := Ground.data }, { on := 9, ground := Ground.chain }], guard := none }
theorem bx3 {W : World} {q : Nat} {p : Pt} (h : RowAt W q 39 [.int .i64 p.kind, .int .i64 p.n, .string p.text]) : W.cell? ⟨q, 0, none⟩ = some (.int .i64 p.kind) ∧ W.cell? ⟨q, 1, none⟩ = some (.int .i64 p.n) ∧ W.cell? ⟨q, 2, none⟩ = some (.string p.text) := ⟨h.cell 0, h.cell 1, h.cell 2⟩
theorem TW.unpush {w wr : World} {g1 g2 B : Nat} {v1 v2 : Value} {lf lg L1 L2 : List Pt} {b : Nat × Pt} {bx : List (Nat × Pt)} (h : TW w wr g1 g2 B v1 v2 lf lg L1 L2 (b :: bx)) : TW w wr g1 g2 B v1 v2 lf lg L1 L2 bx :=
  ⟨h.f1, h.f2, h.o1, h.o2, h.sep, h.bel, h.ne, h.h1, h.h2, h.hB, fun q p m => h.box q p (List.mem_cons_of_mem _ m)⟩
theorem wpAnyT_two {P : Program} {ops : Array Oper} {Q : Exit → Act → World → Prop} {md : Region.Mode} {S : World → Prop} {hd : Nat → Bool} {i j : Nat} {oi oj : Oper} {fuel : Nat} {listed : Array Bool} {a : Act} {w : World} (hr : Region.ready md ops listed = [i, j]) (hoi : ops[i]? = some oi) (hoj : ops[j]? = some oj)
    (hi : ∀ K' : Act → World → Prop, Shut (∀ a w, (hd i = true → S w) → wpAnyT P md ops Q S hd fuel (listed.setIfInBounds i true) a w → K' a w) → if Region.wanted oi (yielded ops a.tmps) = true then Oper.wp P oi a w K' Q else K' (a.put oi.dst undef) w)
    (hj : ∀ K' : Act → World → Prop, Shut (∀ a w, (hd j = true → S w) → wpAnyT P md ops Q S hd fuel (listed.setIfInBounds j true) a w → K' a w) → if Region.wanted oj (yielded ops a.tmps) = true then Oper.wp P oj a w K' Q else K' (a.put oj.dst undef) w) :
    wpAnyT P md ops Q S hd (fuel + 1) listed a w := by
  refine ⟨fun h0 => absurd (hr ▸ h0) (by simp), fun k hk => ?_⟩
  rw [hr] at hk
  rcases List.mem_cons.1 hk with rfl | hk
  · exact wpOp_step hoi (fun K' hK => hi K' (fun a w hS hW => hK a w ⟨hS, hW⟩))
  · obtain rfl := List.mem_singleton.1 hk
    exact wpOp_step hoj (fun K' hK => hj K' (fun a w hS hW => hK a w ⟨hS, hW⟩))
def traB (la lb : List Pt) : Bool := match sizeL la with
  | none => false
  | some (f, _, _) => decide (checkE lb f = 0)
/-- what Transform answers -/
def TraR (w w' : World) (la lb : List Pt) (r : Ending) : Prop := (traB la lb = false ∧ r = .returned (.tuple #[.slice none 0 0, .slice none 0 0, .int .i64 30]) ∨ traB la lb = true ∧ ∃ c1 c2, NfG 0 c1 ∧ NfG 0 c2 ∧ atomsL c1 = At.can (At.one (atomsL la) (atomsL lb)) ∧ atomsL c2 = At.can (At.two (atomsL la) (atomsL lb)) ∧ c1.length ≤ 2 * (la.length + lb.length) + 3 ∧ c2.length ≤ 2 * (la.length + lb.length) + 3 ∧
  (sizeL c1 = none ∧ r = .returned (.tuple #[.slice none 0 0, .slice none 0 0, .int .i64 4]) ∨ sizeL c1 ≠ none ∧ ∃ v1 v2, r = .returned (.tuple #[v1, v2, .int .i64 0]) ∧ OwnP w' w.heap.size v1 c1 ∧ OwnP w' w.heap.size v2 c2)) ∧ Below w.heap.size w w'
theorem nf_text {l : List Pt} {a : Int} (h : NfG a l) (hl : ((atomsL l).length : Int) ≤ 70368744177664) : ∀ p ∈ l, p.text.size ≤ 281474976710656 := by
  intro p hp
  have hg := h.good p hp
  have h1 := hg.size
  have h2 := hg.len.1
  have h3 : (atoms p).length ≤ (atomsL l).length := by
    clear h1 h2 hl h hg
    induction l with
    | nil => cases hp
    | cons q l ih =>
      rw [atomsL, List.length_append]
      rcases List.mem_cons.1 hp with rfl | hp
      · omega
      · have := ih hp; omega
  omega
theorem rep_len_can : ∀ (x : List At) (ps : List (List UInt8)) (n : Nat), (At.canG ps n x).length = ps.length + n + x.length
  | [], ps, n => by simp [At.canG]
  | .k :: x, ps, n => by simp only [At.canG, List.length_append, List.length_map, List.length_replicate, List.length_cons]; rw [rep_len_can x [] 0]; simp
  | .d :: x, ps, n => by simp only [At.canG, List.length_cons]; rw [rep_len_can x ps (n + 1)]; omega
  | .p c :: x, ps, n => by simp only [At.canG, List.length_cons]; rw [rep_len_can x (ps ++ [c]) n]; simp; omega
theorem can_len (x : List At) : (At.can x).length = x.length := by unfold At.can; rw [rep_len_can]; simp
set_option maxRecDepth 100000 in
set_option maxHeartbeats 4000000 in
theorem transform_any (a b : Option Addr) (la lb : List Pt) (ca cb : Nat) (w : World) (hT : UT w) (hpa : PtsAt w a la) (hpb : PtsAt w b lb) (hba : AtB w a) (hbb : AtB w b) (hca : la.length ≤ ca) (hcb : lb.length ≤ cb) (hma : ca ≤ maxLen) (hmb : cb ≤ maxLen) (hsa : ∀ p ∈ la, p.text.size ≤ 281474976710656) (hsb : ∀ p ∈ lb, p.text.size ≤ 281474976710656) (hl : la.length + lb.length ≤ 1099511627776) :
    Calls Tryd.prog 43 #[.slice a la.length ca, .slice b lb.length cb] w fun r w' => TraR w w' la lb r := by
  have HSA := hide (size_any a la ca w hT hpa (Nat.le_trans hca hma) hsa)
  have HU := hide hT
  unfold TraR
  cases hsz : sizeL la with
  | none =>
    have HV : Hid (traB la lb = false) := hide (by unfold traB; rw [hsz])
    have e : szVal la = .tuple #[.int .i64 0, .int .i64 0, .int .i64 30] := by unfold szVal; rw [hsz]
    rw [e] at HSA
    obtain ⟨na, hna⟩ : ∃ z, la.length = z := ⟨_, rfl⟩
    obtain ⟨nb, hnb⟩ : ∃ z, lb.length = z := ⟨_, rfl⟩
    rw [hna] at HSA ⊢
    rw [hnb]
    clear hT hpa hpb hba hbb hsa hsb hsz e hna hnb hca hcb hl
    go_enter Tryd.func43, Tryd.ntmps43
    go_wp2_with fail
    refine Calls.mono (unhide HSA) ?_
    rintro r w1 ⟨rfl, hb1⟩
    have HB1 := hide hb1
    clear hb1 HSA
    go_wp2_with fail
    go_ret3
    exact ⟨.inl ⟨unhide HV, rfl⟩, unhide HB1⟩
  | some x =>
    obtain ⟨fa, ta, ka⟩ := x
    have e : szVal la = .tuple #[.int .i64 fa, .int .i64 ta, .int .i64 0] := by unfold szVal; rw [hsz]
    rw [e] at HSA
    have HCB : Hid (traB la lb = decide (checkE lb fa = 0)) := hide (by unfold traB; rw [hsz])
    have HCK : Hid (∀ W, Below w.heap.size w W → Calls Tryd.prog 59 #[.slice b lb.length cb, .int .i64 fa] W fun r w' => r = .returned (.int .i64 (checkE lb fa)) ∧ Below W.heap.size W w') := hide (fun W hW => check_any b lb cb fa W (hT.call hW) (hpb.call hW) (Nat.le_trans hcb hmb) hsb)
    obtain ⟨hEa, hta, _⟩ := size_ed hsz
    have HEA := hide hEa
    rcases check_two lb fa with hc | hc
    · rw [hc] at HCK HCB
      obtain ⟨tb, hEb, hfb⟩ := check_ed hc
      have HEB := hide hEb
      have HCI : Hid (TI (atomsL la) (atomsL lb) la lb [] [] (la.length + lb.length)) := hide (TI.start la lb (by have h1 := hEa.2.1; have h2 := hEb.2.1; omega))
      have HPA := hide hpa
      have HPB := hide hpb
      have HLA : Hid (∀ W : World, Below w.heap.size w W → Calls Tryd.prog 63 #[.slice a la.length ca] W fun r w' => r = .returned (.pointer (some ⟨W.heap.size, 0, none⟩)) ∧ Fa w' W.heap.size w.heap.size la ∧ Below W.heap.size W w') := hide (fun W hW => feedOf_any (hpa.call hW) hba hW.size hca hma (ed_fit hEa))
      have HLB : Hid (∀ W : World, Below w.heap.size w W → Calls Tryd.prog 63 #[.slice b lb.length cb] W fun r w' => r = .returned (.pointer (some ⟨W.heap.size, 0, none⟩)) ∧ Fa w' W.heap.size w.heap.size lb ∧ Below W.heap.size W w') := hide (fun W hW => feedOf_any (hpb.call hW) hbb hW.size hcb hmb (ed_fit hEb))
      have HLL := hide hl
      obtain ⟨na, hna⟩ : ∃ z, la.length = z := ⟨_, rfl⟩
      obtain ⟨nb, hnb⟩ : ∃ z, lb.length = z := ⟨_, rfl⟩
      rw [hna] at HSA HLA HCI HLL ⊢
      rw [hnb] at HCK HLB HCI HLL ⊢
      have HNA := hide hna
      have HNB := hide hnb
      clear hT hpa hpb hba hbb hsa hsb hsz e hna hnb hca hcb hl hEa hEb hc hta hfb hma hmb
      go_enter Tryd.func43, Tryd.ntmps43
      go_wp2_with fail
      refine Calls.mono (unhide HSA) ?_
      rintro r w1 ⟨rfl, hb1⟩
      have HB1 := hide hb1
      clear hb1 HSA
      go_wp2_with fail
      refine Calls.mono (unhide HCK _ (unhide HB1)) ?_
      rintro r w2 ⟨rfl, hb2⟩
      have HB2 := hide ((unhide HB1).trans (hb2.mono (unhide HB1).size))
      clear hb2 HB1 HCK
      go_wp2_with fail
      refine Calls.mono (unhide HLA _ (unhide HB2)) ?_
      rintro r w3 ⟨rfl, hf3, hb3⟩
      have HF3 := hide hf3
      have HB3 := hide ((unhide HB2).trans (hb3.mono (unhide HB2).size))
      have HG1 := hide (unhide HB2).size
      clear hf3 hb3 HB2 HLA
      obtain ⟨g1, hg1⟩ : ∃ z, w2.heap.size = z := ⟨_, rfl⟩
      rw [hg1] at HF3 HG1 ⊢
      clear hg1
      go_wp2_with fail
      refine Calls.mono (unhide HLB _ (unhide HB3)) ?_
      rintro r w4 ⟨rfl, hf4, hb4⟩
      have HC : Hid (TW w w4 g1 w3.heap.size w.heap.size (.slice none 0 0) (.slice none 0 0) la lb [] [] []) := hide ⟨(unhide HF3).call hb4, hf4, OwnP.nil _ _, OwnP.nil _ _, (fun k hk => by cases hk), (unhide HB3).trans (hb4.mono (unhide HB3).size), (by have := (unhide HF3).lt; omega), unhide HG1, (unhide HB3).size, Nat.le_refl _, (fun q p m => by cases m)⟩
      clear hf4 hb4 HB3 HLB HF3 HG1
      obtain ⟨g2, hg2⟩ : ∃ z, w3.heap.size = z := ⟨_, rfl⟩
      rw [hg2] at HC ⊢
      clear hg2
      go_wp2_with fail
      go_loopg [4, 5] (na + nb) (fun gk v1 v2 wr => ∃ lf lg L1 L2 : List Pt, gk = lf.length + lg.length ∧ Hid (TW w wr g1 g2 w.heap.size v1 v2 lf lg L1 L2 []) ∧ Hid (TI (atomsL la) (atomsL lb) lf lg L1 L2 (na + nb)))
      case atStart => exact ⟨la, lb, [], [], by rw [unhide HNA, unhide HNB], HC, HCI⟩
      case round =>
        clear HC HCI
        obtain ⟨lf, lg, L1, L2, hgk, HT_, HI⟩ := hrel
        have hLn1 : L1.length < 4398046511104 := by have := (unhide HI).len1; have := unhide HLL; omega
        have hLn2 : L2.length < 4398046511104 := by have := (unhide HI).len2; have := unhide HLL; omega
        have HKf := hide (kind_any (unhide HT_).f1)
        have HKg := hide (kind_any (unhide HT_).f2)
        have HGK := hide hgk
        clear hgk
        rcases head_kind (unhide HT_).f1.good with ⟨e1, _⟩ | ⟨h1, lf', e1, gd1, k1⟩
        · subst e1
          have HKf : Hid (Calls Tryd.prog 64 #[.pointer (some ⟨g1, 0, none⟩)] wr fun r w' => r = .returned (.int .i64 0) ∧ wr = w') := HKf
          rcases head_kind (unhide HT_).f2.good with ⟨e2, _⟩ | ⟨h2, lg', e2, gd2, k2⟩
          · subst e2
            have HKg : Hid (Calls Tryd.prog 64 #[.pointer (some ⟨g2, 0, none⟩)] wr fun r w' => r = .returned (.int .i64 0) ∧ wr = w') := HKg
            go_wp2_with fail
            refine Calls.mono (unhide HKf) ?_
            rintro r wk ⟨rfl, rfl⟩
            go_wp2_with fail
            refine Calls.mono (unhide HKg) ?_
            rintro r wk ⟨rfl, rfl⟩
            go_wp2_with fail
            obtain ⟨a1, c1, hv1, hp1, hb1, hl1, hm1⟩ := (unhide HT_).o1.open
            obtain ⟨a2, c2, hv2, hp2, hb2, hl2, hm2⟩ := (unhide HT_).o2.open
            have hEE := (unhide HI).ends
            have htl := tr_len (atomsL la) (atomsL lb)
            have h3 := ed_len (unhide HEA)
            have h4 := ed_len (unhide HEB)
            have hd1 := (unhide HI).len1
            have hd2 := (unhide HI).len2
            have hx1 := (unhide HI).txt1
            have hx2 := (unhide HI).txt2
            rw [hEE.1] at hx1
            rw [hEE.2] at hx2
            have hbnd := unhide HLL
            have hla := unhide HNA
            have hlb := unhide HNB
            have HG1 := hide (norm_good L1 (by show ((fitA L1).length : Int) ≤ _; rw [hEE.1]; omega))
            have HG2 := hide (norm_good L2 (by show ((fitA L2).length : Int) ≤ _; rw [hEE.2]; omega))
            have HE1 : Hid (atomsL (normL L1) = At.can (At.one (atomsL la) (atomsL lb))) := hide (by rw [(unhide HG1).2, ← hEE.1]; rfl)
            have HE2 : Hid (atomsL (normL L2) = At.can (At.two (atomsL la) (atomsL lb))) := hide (by rw [(unhide HG2).2, ← hEE.2]; rfl)
            have HL1 : Hid ((normL L1).length ≤ 2 * (na + nb) + 3) := hide (by have := normL_len L1; simp at hd1; omega)
            have HL2 : Hid ((normL L2).length ≤ 2 * (na + nb) + 3) := hide (by have := normL_len L2; simp at hd2; omega)
            have HTX := hide (nf_text (unhide HG1).1 (by rw [unhide HE1]; have hq := can_len (At.one (atomsL la) (atomsL lb)); omega))
            have HNM : Hid ((normL L1).length ≤ maxLen) := hide (by have := unhide HL1; unfold maxLen; omega)
            have HN1 : Hid (∀ W, Below wr.heap.size wr W → Calls Tryd.prog 53 #[.slice a1 L1.length c1] W fun r w' => ∃ v, r = .returned v ∧ w'.ownsRow W.heap.size 39 3 v (normL L1).length (ptc (normL L1)) ∧ Below W.heap.size W w') := hide (fun W hW => norm_any a1 L1 c1 W (((unhide HU).call (unhide HT_).bel).call hW) (hp1.call hW) (by simp at hd1; omega) (by omega))
            have HN2 : Hid (∀ W, Below wr.heap.size wr W → Calls Tryd.prog 53 #[.slice a2 L2.length c2] W fun r w' => ∃ v, r = .returned v ∧ w'.ownsRow W.heap.size 39 3 v (normL L2).length (ptc (normL L2)) ∧ Below W.heap.size W w') := hide (fun W hW => norm_any a2 L2 c2 W (((unhide HU).call (unhide HT_).bel).call hW) (hp2.call hW) (by simp at hd2; omega) (by omega))
            have HBW := hide (unhide HT_).bel
            subst hv1 hv2
            clear hp1 hp2 hb1 hb2 hl1 hl2 hm1 hm2 hEE htl h3 h4 hd1 hd2 hx1 hx2 hla hlb hbnd HT_ hLn1 hLn2
            obtain ⟨ln1, hln1⟩ : ∃ z, L1.length = z := ⟨_, rfl⟩
            obtain ⟨ln2, hln2⟩ : ∃ z, L2.length = z := ⟨_, rfl⟩
            rw [hln1] at HN1 ⊢
            rw [hln2] at HN2 ⊢
            clear hln1 hln2
            refine Calls.mono (unhide HN1 _ (Below.refl _ _)) ?_
            rintro r w5 ⟨v5, rfl, hv5, hb5⟩
            have HV5 : Hid (OwnP w5 w.heap.size v5 (normL L1)) := hide (own_base hv5 (unhide HBW).size)
            have HB5 := hide hb5
            clear hv5 hb5 HN1
            go_wp2_with fail
            refine Calls.mono (unhide HN2 _ (unhide HB5)) ?_
            rintro r w6 ⟨v6, rfl, hv6, hb6⟩
            have HV6 : Hid (OwnP w6 w.heap.size v6 (normL L2)) := hide (own_base hv6 (Nat.le_trans (unhide HBW).size (unhide HB5).size))
            have HV56 := hide ((unhide HV5).call hb6)
            have HB6 := hide (((unhide HBW).trans ((unhide HB5).mono (unhide HBW).size)).trans (hb6.mono (Nat.le_trans (unhide HBW).size (unhide HB5).size)))
            clear hv6 hb6 HN2 HV5 HB5 HBW
            obtain ⟨a5, c5, hv5, hp5, _, hl5, hm5⟩ := (unhide HV56).open
            have HLI := hide (inLimit_any a5 (normL L1) c5 v6 w6 ((unhide HU).call (unhide HB6)) hp5 (unhide HNM) (unhide HTX))
            rw [← hv5] at HLI
            clear hv5 hp5 hl5 hm5
            go_wp2_with fail
            refine Calls.mono (unhide HLI) ?_
            rintro r w7 ⟨hr7, hb7⟩
            have HB7 := hide ((unhide HB6).trans (hb7.mono (unhide HB6).size))
            have HV67 := hide ((unhide HV6).call hb7)
            have HV57 := hide ((unhide HV56).call hb7)
            clear hb7 HB6 HV6 HV56 HLI
            rcases hr7 with ⟨hz, rfl⟩ | ⟨hz, rfl⟩
            · have HZ := hide hz
              clear hz
              go_wp2_with fail
              go_ret3
              exact ⟨.inr ⟨by rw [unhide HCB]; rfl, normL L1, normL L2, (unhide HG1).1, (unhide HG2).1, unhide HE1, unhide HE2, unhide HL1, unhide HL2, .inl ⟨unhide HZ, rfl⟩⟩, unhide HB7⟩
            · have HZ := hide hz
              clear hz
              go_wp2_with fail
              go_ret3
              exact ⟨.inr ⟨by rw [unhide HCB]; rfl, normL L1, normL L2, (unhide HG1).1, (unhide HG2).1, unhide HE1, unhide HE2, unhide HL1, unhide HL2, .inr ⟨unhide HZ, v5, v6, rfl, unhide HV57, unhide HV67⟩⟩, unhide HB7⟩
          · subst e2
            have k2 : h2.kind = 2 := by
              have hs := (unhide HI).sz
              have hc := gd2.1.counts.1
              rw [atomsL, atomsL, At.from_app] at hs
              have h1 := gd2.1.1
              rcases k2 with k2 | k2 | k2
              · rw [if_neg (by omega)] at hc; simp [At.fromN] at hs; omega
              · exact k2
              · rw [if_neg (by omega)] at hc; simp [At.fromN] at hs; omega
            have HG2 := hide gd2
            have HND : Hid (NotP (atomsL ([] : List Pt))) := hide (fun c y e => by cases e)
            have HKg : Hid (Calls Tryd.prog 64 #[.pointer (some ⟨g2, 0, none⟩)] wr fun r w' => r = .returned (.int .i64 2) ∧ wr = w') := hide (by have h := unhide HKg; rw [List.headD_cons, k2] at h; exact h)
            have HK2 := hide k2
            clear k2 gd2
            go_wp2_with fail
            refine Calls.mono (unhide HKf) ?_
            rintro r wk ⟨rfl, rfl⟩
            go_wp2_with fail
            refine Calls.mono (unhide HKg) ?_
            rintro r wk ⟨rfl, rfl⟩
            go_wp2_with fail
            refine Calls.mono (unhide HKf) ?_
            rintro r wk ⟨rfl, rfl⟩
            go_wp2_with fail
            refine Calls.mono (unhide HKg) ?_
            rintro r wk ⟨rfl, rfl⟩
            go_wp2_with fail
            refine Calls.mono (whole_any (unhide HT_).f2 ((unhide HU).call (unhide HT_).bel)) ?_
            rintro r w1 ⟨rfl, hf1, ho1⟩
            have HT1 := hide (((unhide HT_).two hf1 ho1).push h2)
            clear hf1 ho1 HT_
            unfold pv
            go_wp2_with fail
            obtain ⟨q, hq⟩ : ∃ z, w1.heap.size = z := ⟨_, rfl⟩
            obtain ⟨wq, hwq⟩ : ∃ z, w1.alloc (.cells #[.int .i64 h2.kind, .int .i64 h2.n, .string h2.text] 39) = z := ⟨_, rfl⟩
            rw [hwq] at HT1 ⊢
            rw [hq] at HT1 ⊢
            clear hq hwq
            obtain ⟨kp, hkp⟩ : ∃ z : Pt, (⟨1, h2.n, ByteArray.empty⟩ : Pt) = z := ⟨_, rfl⟩
            have HKP : Hid (∀ W, Calls Tryd.prog 66 #[.int .i64 h2.n] W fun r w' => r = .returned (pv kp) ∧ Below W.heap.size W w') := hide (fun W => by have := keep_any h2.n W; rw [hkp] at this; exact this)
            have HKE := hide hkp
            clear hkp
            have HT0 := hide ((unhide HT1).call (Below.drew (Below.refl _ _)))
            refine wp_region_T (S := fun W => (W.cell? ⟨q, 0, none⟩ = some (.int .i64 h2.kind) ∧ W.cell? ⟨q, 1, none⟩ = some (.int .i64 h2.n) ∧ W.cell? ⟨q, 2, none⟩ = some (.string h2.text))) (fun i => decide (i < 12)) (by kernel_rfl) ⟨((unhide HT0).box q h2 (by simp)).1.cell 0, ((unhide HT0).box q h2 (by simp)).1.cell 1, ((unhide HT0).box q h2 (by simp)).1.cell 2⟩ (fun hHeld => ?_)
            clear HT1
            obtain ⟨wd, hwd⟩ : ∃ z, wq.drew = z := ⟨_, rfl⟩
            rw [hwd] at HT0 hHeld ⊢
            clear hwd
            refine tk 0 (v := u4) rfl (Or.inl ⟨by rfl, ?_⟩) hHeld ?_
            · intro w hSw
              obtain ⟨s0, s1, s2⟩ := hSw
              first
                | rfl
                | (go_simp; done)
            try go_frame
            refine tk 1 (v := .pointer (some ⟨q, 1, none⟩)) rfl (Or.inl ⟨by rfl, ?_⟩) hHeld ?_
            · intro w hSw
              obtain ⟨s0, s1, s2⟩ := hSw
              first
                | rfl
                | (go_simp; done)
            try go_frame
            refine tk 2 (v := .int .i64 h2.n) rfl (Or.inl ⟨by rfl, ?_⟩) hHeld ?_
            · intro w hSw
              obtain ⟨s0, s1, s2⟩ := hSw
              first
                | rfl
                | (go_simp; done)
            try go_frame
            refine tk 6 (v := u5) rfl (Or.inl ⟨by rfl, ?_⟩) hHeld ?_
            · intro w hSw
              obtain ⟨s0, s1, s2⟩ := hSw
              first
                | rfl
                | (go_simp; done)
            try go_frame
            refine tk 7 (v := .agg #[.int .i64 h2.kind, .int .i64 h2.n, .string h2.text]) rfl (Or.inl ⟨by rfl, ?_⟩) hHeld ?_
            · intro w hSw
              obtain ⟨s0, s1, s2⟩ := hSw
              first
                | rfl
                | (go_simp; done)
            try go_frame
            refine wpAnyT_two (i := 3) (j := 8) (oi := ztrn5) (oj := ztrn6) (by kernel_rfl) rfl rfl (fun K hK => ?_) (fun K hK => ?_)
            · skip
              go_simp
              refine Calls.mono (unhide HKP _) ?_
              rintro e wz1 ⟨rfl, hbz⟩
              have HZ1 := hide ((unhide HT0).call hbz)
              clear hbz HT0
              have hSS := bx3 ((unhide HZ1).box q h2 (by simp)).1
              go_wp2_with fail
              refine hK.out _ _ (fun _ => hSS) ?_
              clear hK K
              clear hSS
              try go_frame
              refine wpAnyT_two (i := 4) (j := 8) (oi := ztrn7) (oj := ztrn6) (by kernel_rfl) rfl rfl (fun K hK => ?_) (fun K hK => ?_)
              · skip
                try simp only [pv]
                go_simp
                have HZ2 := hide ((unhide HZ1).push kp)
                clear HZ1
                obtain ⟨wz2, hwz2⟩ : ∃ z, wz1.alloc (.cells #[.int .i64 kp.kind, .int .i64 kp.n, .string kp.text] 39) = z := ⟨_, rfl⟩
                obtain ⟨qwz2, hqwz2⟩ : ∃ z, wz1.heap.size = z := ⟨_, rfl⟩
                rw [hwz2] at HZ2 ⊢
                rw [hqwz2] at HZ2 ⊢
                clear hwz2 hqwz2
                have hSS := bx3 ((unhide HZ2).box q h2 (by simp)).1
                refine hK.out _ _ (fun _ => hSS) ?_
                clear hK K
                clear hSS
                try go_frame
                refine wpAnyT_two (i := 5) (j := 8) (oi := ztrn8) (oj := ztrn6) (by kernel_rfl) rfl rfl (fun K hK => ?_) (fun K hK => ?_)
                · skip
                  refine wp_append_part (Operand.tmp 81) (Operand.tmp 85) rfl w.heap.size u4 L1.length (ptc L1) kp qwz2 1 rfl (unhide HZ2).o1 hLn1 (unhide HZ2).bel.size rfl (fun j u hu => by rw [((unhide HZ2).box qwz2 kp (by simp)).1.cell]; exact hu) (fun kk cap wz3 hv3 ho3 hk3 => ?_)
                  have HZ3 := hide ((unhide HZ2).app1 hv3 ho3 (own_lit hk3))
                  clear hv3 ho3 hk3 HZ2
                  have hSS := bx3 ((unhide HZ3).box q h2 (by simp)).1
                  obtain ⟨v1n, hv1n⟩ : ∃ z, Value.slice (some ⟨kk, 0, none⟩) (L1.length + 1) cap = z := ⟨_, rfl⟩
                  simp only [hv1n]
                  rw [hv1n] at HZ3
                  clear hv1n
                  refine hK.out _ _ (fun _ => hSS) ?_
                  clear hK K
                  clear hSS
                  try go_frame
                  refine wpAnyT_one (i := 8) (o := ztrn6) (by kernel_rfl) rfl (fun K hK => ?_)
                  try simp only [pv]
                  go_simp
                  have HZ4 := hide ((unhide HZ3).push h2)
                  clear HZ3
                  obtain ⟨wz4, hwz4⟩ : ∃ z, wz3.alloc (.cells #[.int .i64 h2.kind, .int .i64 h2.n, .string h2.text] 39) = z := ⟨_, rfl⟩
                  obtain ⟨qwz4, hqwz4⟩ : ∃ z, wz3.heap.size = z := ⟨_, rfl⟩
                  rw [hwz4] at HZ4 ⊢
                  rw [hqwz4] at HZ4 ⊢
                  clear hwz4 hqwz4
                  have hSS := bx3 ((unhide HZ4).box q h2 (by simp)).1
                  refine hK.out _ _ (fun _ => hSS) ?_
                  clear hK K
                  clear hSS
                  try go_frame
                  refine wpAnyT_one (i := 9) (o := ztrn9) (by kernel_rfl) rfl (fun K hK => ?_)
                  refine wp_append_part (Operand.tmp 87) (Operand.tmp 89) rfl w.heap.size u5 L2.length (ptc L2) h2 qwz4 1 rfl (unhide HZ4).o2 hLn2 (unhide HZ4).bel.size rfl (fun j u hu => by rw [((unhide HZ4).box qwz4 h2 (by simp)).1.cell]; exact hu) (fun kk cap wz5 hv3 ho3 hk3 => ?_)
                  have HZ5 := hide ((unhide HZ4).app2 hv3 ho3 (own_lit hk3))
                  clear hv3 ho3 hk3 HZ4
                  have hSS := bx3 ((unhide HZ5).box q h2 (by simp)).1
                  obtain ⟨v2n, hv2n⟩ : ∃ z, Value.slice (some ⟨kk, 0, none⟩) (L2.length + 1) cap = z := ⟨_, rfl⟩
                  simp only [hv2n]
                  rw [hv2n] at HZ5
                  clear hv2n
                  refine hK.out _ _ (fun _ => hSS) ?_
                  clear hK K
                  clear hSS
                  try go_frame
                  have hSS := bx3 ((unhide HZ5).box q h2 (by simp)).1
                  refine tk 10 (v := v1n) rfl (Or.inl ⟨by rfl, ?_⟩) hSS ?_
                  · intro w hSw
                    obtain ⟨s0, s1, s2⟩ := hSw
                    first
                      | rfl
                      | (go_simp; done)
                  try go_frame
                  refine tk 11 (v := v2n) rfl (Or.inl ⟨by rfl, ?_⟩) hSS ?_
                  · intro w hSw
                    obtain ⟨s0, s1, s2⟩ := hSw
                    first
                      | rfl
                      | (go_simp; done)
                  try go_frame
                  refine wpAnyT_done (by kernel_rfl) ?_ _
                  have HT3 := hide (unhide HZ5).pop
                  clear HZ5 hSS hHeld
                  go_wp2_with fail
                  go_roundg ((([] : List Pt)).length + lg'.length)
                  case measure => rw [unhide HGK]; simp only [List.length_cons]; omega
                  case rel => exact ⟨([] : List Pt), lg', L1 ++ [kp], L2 ++ [h2], (by rfl), HT3, hide (by rw [← unhide HKE]; exact (unhide HI).putg (unhide HG2) (unhide HK2) (unhide HND))⟩
                · skip
                  try simp only [pv]
                  go_simp
                  have HZ6 := hide ((unhide HZ2).push h2)
                  clear HZ2
                  obtain ⟨wz6, hwz6⟩ : ∃ z, wz2.alloc (.cells #[.int .i64 h2.kind, .int .i64 h2.n, .string h2.text] 39) = z := ⟨_, rfl⟩
                  obtain ⟨qwz6, hqwz6⟩ : ∃ z, wz2.heap.size = z := ⟨_, rfl⟩
                  rw [hwz6] at HZ6 ⊢
                  rw [hqwz6] at HZ6 ⊢
                  clear hwz6 hqwz6
                  have hSS := bx3 ((unhide HZ6).box q h2 (by simp)).1
                  refine hK.out _ _ (fun _ => hSS) ?_
                  clear hK K
                  clear hSS
                  try go_frame
                  refine wpAnyT_one (i := 5) (o := ztrn8) (by kernel_rfl) rfl (fun K hK => ?_)
                  refine wp_append_part (Operand.tmp 81) (Operand.tmp 85) rfl w.heap.size u4 L1.length (ptc L1) kp qwz2 1 rfl (unhide HZ6).o1 hLn1 (unhide HZ6).bel.size rfl (fun j u hu => by rw [((unhide HZ6).box qwz2 kp (by simp)).1.cell]; exact hu) (fun kk cap wz7 hv3 ho3 hk3 => ?_)
                  have HZ7 := hide ((unhide HZ6).app1 hv3 ho3 (own_lit hk3))
                  clear hv3 ho3 hk3 HZ6
                  have hSS := bx3 ((unhide HZ7).box q h2 (by simp)).1
                  obtain ⟨v1n, hv1n⟩ : ∃ z, Value.slice (some ⟨kk, 0, none⟩) (L1.length + 1) cap = z := ⟨_, rfl⟩
                  simp only [hv1n]
                  rw [hv1n] at HZ7
                  clear hv1n
                  refine hK.out _ _ (fun _ => hSS) ?_
                  clear hK K
                  clear hSS
                  try go_frame
                  refine wpAnyT_one (i := 9) (o := ztrn9) (by kernel_rfl) rfl (fun K hK => ?_)
                  refine wp_append_part (Operand.tmp 87) (Operand.tmp 89) rfl w.heap.size u5 L2.length (ptc L2) h2 qwz6 1 rfl (unhide HZ7).o2 hLn2 (unhide HZ7).bel.size rfl (fun j u hu => by rw [((unhide HZ7).box qwz6 h2 (by simp)).1.cell]; exact hu) (fun kk cap wz8 hv3 ho3 hk3 => ?_)
                  have HZ8 := hide ((unhide HZ7).app2 hv3 ho3 (own_lit hk3))
                  clear hv3 ho3 hk3 HZ7
                  have hSS := bx3 ((unhide HZ8).box q h2 (by simp)).1
                  obtain ⟨v2n, hv2n⟩ : ∃ z, Value.slice (some ⟨kk, 0, none⟩) (L2.length + 1) cap = z := ⟨_, rfl⟩
                  simp only [hv2n]
                  rw [hv2n] at HZ8
                  clear hv2n
                  refine hK.out _ _ (fun _ => hSS) ?_
                  clear hK K
                  clear hSS
                  try go_frame
                  have hSS := bx3 ((unhide HZ8).box q h2 (by simp)).1
                  refine tk 10 (v := v1n) rfl (Or.inl ⟨by rfl, ?_⟩) hSS ?_
                  · intro w hSw
                    obtain ⟨s0, s1, s2⟩ := hSw
                    first
                      | rfl
                      | (go_simp; done)
                  try go_frame
                  refine tk 11 (v := v2n) rfl (Or.inl ⟨by rfl, ?_⟩) hSS ?_
                  · intro w hSw
                    obtain ⟨s0, s1, s2⟩ := hSw
                    first
                      | rfl
                      | (go_simp; done)
                  try go_frame
                  refine wpAnyT_done (by kernel_rfl) ?_ _
                  have HT3 := hide (unhide HZ8).pop
                  clear HZ8 hSS hHeld
                  go_wp2_with fail
                  go_roundg ((([] : List Pt)).length + lg'.length)
                  case measure => rw [unhide HGK]; simp only [List.length_cons]; omega
                  case rel => exact ⟨([] : List Pt), lg', L1 ++ [kp], L2 ++ [h2], (by rfl), HT3, hide (by rw [← unhide HKE]; exact (unhide HI).putg (unhide HG2) (unhide HK2) (unhide HND))⟩
              · skip
                try simp only [pv]
                go_simp
                have HZ9 := hide ((unhide HZ1).push h2)
                clear HZ1
                obtain ⟨wz9, hwz9⟩ : ∃ z, wz1.alloc (.cells #[.int .i64 h2.kind, .int .i64 h2.n, .string h2.text] 39) = z := ⟨_, rfl⟩
                obtain ⟨qwz9, hqwz9⟩ : ∃ z, wz1.heap.size = z := ⟨_, rfl⟩
                rw [hwz9] at HZ9 ⊢
                rw [hqwz9] at HZ9 ⊢
                clear hwz9 hqwz9
                have hSS := bx3 ((unhide HZ9).box q h2 (by simp)).1
                refine hK.out _ _ (fun _ => hSS) ?_
                clear hK K
                clear hSS
                try go_frame
                refine wpAnyT_one (i := 4) (o := ztrn7) (by kernel_rfl) rfl (fun K hK => ?_)
                try simp only [pv]
                go_simp
                have HZ10 := hide ((unhide HZ9).push kp)
                clear HZ9
                obtain ⟨wz10, hwz10⟩ : ∃ z, wz9.alloc (.cells #[.int .i64 kp.kind, .int .i64 kp.n, .string kp.text] 39) = z := ⟨_, rfl⟩
                obtain ⟨qwz10, hqwz10⟩ : ∃ z, wz9.heap.size = z := ⟨_, rfl⟩
                rw [hwz10] at HZ10 ⊢
                rw [hqwz10] at HZ10 ⊢
                clear hwz10 hqwz10
                have hSS := bx3 ((unhide HZ10).box q h2 (by simp)).1
                refine hK.out _ _ (fun _ => hSS) ?_
                clear hK K
                clear hSS
                try go_frame
                refine wpAnyT_one (i := 5) (o := ztrn8) (by kernel_rfl) rfl (fun K hK => ?_)
                refine wp_append_part (Operand.tmp 81) (Operand.tmp 85) rfl w.heap.size u4 L1.length (ptc L1) kp qwz10 1 rfl (unhide HZ10).o1 hLn1 (unhide HZ10).bel.size rfl (fun j u hu => by rw [((unhide HZ10).box qwz10 kp (by simp)).1.cell]; exact hu) (fun kk cap wz11 hv3 ho3 hk3 => ?_)
                have HZ11 := hide ((unhide HZ10).app1 hv3 ho3 (own_lit hk3))
                clear hv3 ho3 hk3 HZ10
                have hSS := bx3 ((unhide HZ11).box q h2 (by simp)).1
                obtain ⟨v1n, hv1n⟩ : ∃ z, Value.slice (some ⟨kk, 0, none⟩) (L1.length + 1) cap = z := ⟨_, rfl⟩
                simp only [hv1n]
                rw [hv1n] at HZ11
                clear hv1n
                refine hK.out _ _ (fun _ => hSS) ?_
                clear hK K
                clear hSS
                try go_frame
                refine wpAnyT_one (i := 9) (o := ztrn9) (by kernel_rfl) rfl (fun K hK => ?_)
                refine wp_append_part (Operand.tmp 87) (Operand.tmp 89) rfl w.heap.size u5 L2.length (ptc L2) h2 qwz9 1 rfl (unhide HZ11).o2 hLn2 (unhide HZ11).bel.size rfl (fun j u hu => by rw [((unhide HZ11).box qwz9 h2 (by simp)).1.cell]; exact hu) (fun kk cap wz12 hv3 ho3 hk3 => ?_)
                have HZ12 := hide ((unhide HZ11).app2 hv3 ho3 (own_lit hk3))
                clear hv3 ho3 hk3 HZ11
                have hSS := bx3 ((unhide HZ12).box q h2 (by simp)).1
                obtain ⟨v2n, hv2n⟩ : ∃ z, Value.slice (some ⟨kk, 0, none⟩) (L2.length + 1) cap = z := ⟨_, rfl⟩
                simp only [hv2n]
                rw [hv2n] at HZ12
                clear hv2n
                refine hK.out _ _ (fun _ => hSS) ?_
                clear hK K
                clear hSS
                try go_frame
                have hSS := bx3 ((unhide HZ12).box q h2 (by simp)).1
                refine tk 10 (v := v1n) rfl (Or.inl ⟨by rfl, ?_⟩) hSS ?_
                · intro w hSw
                  obtain ⟨s0, s1, s2⟩ := hSw
                  first
                    | rfl
                    | (go_simp; done)
                try go_frame
                refine tk 11 (v := v2n) rfl (Or.inl ⟨by rfl, ?_⟩) hSS ?_
                · intro w hSw
                  obtain ⟨s0, s1, s2⟩ := hSw
                  first
                    | rfl
                    | (go_simp; done)
                try go_frame
                refine wpAnyT_done (by kernel_rfl) ?_ _
                have HT3 := hide (unhide HZ12).pop
                clear HZ12 hSS hHeld
                go_wp2_with fail
                go_roundg ((([] : List Pt)).length + lg'.length)
                case measure => rw [unhide HGK]; simp only [List.length_cons]; omega
                case rel => exact ⟨([] : List Pt), lg', L1 ++ [kp], L2 ++ [h2], (by rfl), HT3, hide (by rw [← unhide HKE]; exact (unhide HI).putg (unhide HG2) (unhide HK2) (unhide HND))⟩
            · skip
              try simp only [pv]
              go_simp
              have HZ13 := hide ((unhide HT0).push h2)
              clear HT0
              obtain ⟨wz13, hwz13⟩ : ∃ z, wd.alloc (.cells #[.int .i64 h2.kind, .int .i64 h2.n, .string h2.text] 39) = z := ⟨_, rfl⟩
              obtain ⟨qwz13, hqwz13⟩ : ∃ z, wd.heap.size = z := ⟨_, rfl⟩
              rw [hwz13] at HZ13 ⊢
              rw [hqwz13] at HZ13 ⊢
              clear hwz13 hqwz13
              have hSS := bx3 ((unhide HZ13).box q h2 (by simp)).1
              refine hK.out _ _ (fun _ => hSS) ?_
              clear hK K
              clear hSS
              try go_frame
              refine wpAnyT_one (i := 3) (o := ztrn5) (by kernel_rfl) rfl (fun K hK => ?_)
              go_simp
              refine Calls.mono (unhide HKP _) ?_
              rintro e wz14 ⟨rfl, hbz⟩
              have HZ14 := hide ((unhide HZ13).call hbz)
              clear hbz HZ13
              have hSS := bx3 ((unhide HZ14).box q h2 (by simp)).1
              go_wp2_with fail
              refine hK.out _ _ (fun _ => hSS) ?_
              clear hK K
              clear hSS
              try go_frame
              refine wpAnyT_one (i := 4) (o := ztrn7) (by kernel_rfl) rfl (fun K hK => ?_)
              try simp only [pv]
              go_simp
              have HZ15 := hide ((unhide HZ14).push kp)
              clear HZ14
              obtain ⟨wz15, hwz15⟩ : ∃ z, wz14.alloc (.cells #[.int .i64 kp.kind, .int .i64 kp.n, .string kp.text] 39) = z := ⟨_, rfl⟩
              obtain ⟨qwz15, hqwz15⟩ : ∃ z, wz14.heap.size = z := ⟨_, rfl⟩
              rw [hwz15] at HZ15 ⊢
              rw [hqwz15] at HZ15 ⊢
              clear hwz15 hqwz15
              have hSS := bx3 ((unhide HZ15).box q h2 (by simp)).1
              refine hK.out _ _ (fun _ => hSS) ?_
              clear hK K
              clear hSS
              try go_frame
              refine wpAnyT_one (i := 5) (o := ztrn8) (by kernel_rfl) rfl (fun K hK => ?_)
              refine wp_append_part (Operand.tmp 81) (Operand.tmp 85) rfl w.heap.size u4 L1.length (ptc L1) kp qwz15 1 rfl (unhide HZ15).o1 hLn1 (unhide HZ15).bel.size rfl (fun j u hu => by rw [((unhide HZ15).box qwz15 kp (by simp)).1.cell]; exact hu) (fun kk cap wz16 hv3 ho3 hk3 => ?_)
              have HZ16 := hide ((unhide HZ15).app1 hv3 ho3 (own_lit hk3))
              clear hv3 ho3 hk3 HZ15
              have hSS := bx3 ((unhide HZ16).box q h2 (by simp)).1
              obtain ⟨v1n, hv1n⟩ : ∃ z, Value.slice (some ⟨kk, 0, none⟩) (L1.length + 1) cap = z := ⟨_, rfl⟩
              simp only [hv1n]
              rw [hv1n] at HZ16
              clear hv1n
              refine hK.out _ _ (fun _ => hSS) ?_
              clear hK K
              clear hSS
              try go_frame
              refine wpAnyT_one (i := 9) (o := ztrn9) (by kernel_rfl) rfl (fun K hK => ?_)
              refine wp_append_part (Operand.tmp 87) (Operand.tmp 89) rfl w.heap.size u5 L2.length (ptc L2) h2 qwz13 1 rfl (unhide HZ16).o2 hLn2 (unhide HZ16).bel.size rfl (fun j u hu => by rw [((unhide HZ16).box qwz13 h2 (by simp)).1.cell]; exact hu) (fun kk cap wz17 hv3 ho3 hk3 => ?_)
              have HZ17 := hide ((unhide HZ16).app2 hv3 ho3 (own_lit hk3))
              clear hv3 ho3 hk3 HZ16
              have hSS := bx3 ((unhide HZ17).box q h2 (by simp)).1
              obtain ⟨v2n, hv2n⟩ : ∃ z, Value.slice (some ⟨kk, 0, none⟩) (L2.length + 1) cap = z := ⟨_, rfl⟩
              simp only [hv2n]
              rw [hv2n] at HZ17
              clear hv2n
              refine hK.out _ _ (fun _ => hSS) ?_
              clear hK K
              clear hSS
              try go_frame
              have hSS := bx3 ((unhide HZ17).box q h2 (by simp)).1
              refine tk 10 (v := v1n) rfl (Or.inl ⟨by rfl, ?_⟩) hSS ?_
              · intro w hSw
                obtain ⟨s0, s1, s2⟩ := hSw
                first
                  | rfl
                  | (go_simp; done)
              try go_frame
              refine tk 11 (v := v2n) rfl (Or.inl ⟨by rfl, ?_⟩) hSS ?_
              · intro w hSw
                obtain ⟨s0, s1, s2⟩ := hSw
                first
                  | rfl
                  | (go_simp; done)
              try go_frame
              refine wpAnyT_done (by kernel_rfl) ?_ _
              have HT3 := hide (unhide HZ17).pop
              clear HZ17 hSS hHeld
              go_wp2_with fail
              go_roundg ((([] : List Pt)).length + lg'.length)
              case measure => rw [unhide HGK]; simp only [List.length_cons]; omega
              case rel => exact ⟨([] : List Pt), lg', L1 ++ [kp], L2 ++ [h2], (by rfl), HT3, hide (by rw [← unhide HKE]; exact (unhide HI).putg (unhide HG2) (unhide HK2) (unhide HND))⟩
        · subst e1
          have HG1 := hide gd1
          rcases k1 with k1 | k1 | k1
          · have HKf : Hid (Calls Tryd.prog 64 #[.pointer (some ⟨g1, 0, none⟩)] wr fun r w' => r = .returned (.int .i64 1) ∧ wr = w') := hide (by have h := unhide HKf; rw [List.headD_cons, k1] at h; exact h)
            have hnd : ∀ x, NotP (atoms h1 ++ x) := gd1.1.notp (by omega)
            have HK1 : Hid (h1.kind = 1 ∨ h1.kind = 3) := hide (by omega)
            have hk1v := k1
            clear k1
            rcases head_kind (unhide HT_).f2.good with ⟨e2, _⟩ | ⟨h2, lg', e2, gd2, k2⟩
            · exfalso
              subst e2
              have hs := (unhide HI).sz
              have hc := gd1.1.counts.1
              rw [atomsL, atomsL, At.from_app] at hs
              have hn := gd1.1.1
              rw [if_neg (by omega)] at hc
              simp [At.fromN] at hs
              omega
            · subst e2
              have HG2 := hide gd2
              have HND : Hid (NotP (atomsL (h1 :: lf'))) := hide (hnd _)
              clear hnd hk1v gd1
              rcases k2 with k2 | k2 | k2
              · have HKg : Hid (Calls Tryd.prog 64 #[.pointer (some ⟨g2, 0, none⟩)] wr fun r w' => r = .returned (.int .i64 1) ∧ wr = w') := hide (by have h := unhide HKg; rw [List.headD_cons, k2] at h; exact h)
                have HK2 : Hid (h2.kind = 1 ∨ h2.kind = 3) := hide (by omega)
                clear k2 gd2
                go_wp2_with fail
                refine Calls.mono (unhide HKf) ?_
                rintro r wk ⟨rfl, rfl⟩
                go_wp2_with fail
                refine Calls.mono (unhide HKf) ?_
                rintro r wk ⟨rfl, rfl⟩
                go_wp2_with fail
                refine Calls.mono (unhide HKg) ?_
                rintro r wk ⟨rfl, rfl⟩
                go_wp2_with fail
                refine Calls.mono (both_any (unhide HT_).f1 (unhide HT_).f2 (unhide HT_).ne (unhide HT_).h1 (unhide HT_).h2 (unhide HT_).hB (unhide HU) (unhide HT_).bel) ?_
                rintro r w1 ⟨pp, qq, la', lb', rfl, hpp, hqq, hfa, hfb, ho1⟩
                have HT1 := hide ((((unhide HT_).both hfa hfb ho1).push pp).push qq)
                have HIB := hide ((unhide HI).both hpp hqq (unhide HK1) (unhide HK2) (unhide HG1).1.1 (unhide HG2).1.1)
                clear hpp hqq hfa hfb ho1 HT_
                unfold pv
                rw [size_alloc] at HT1
                go_wp2_with fail
                obtain ⟨q, hq⟩ : ∃ z, w1.heap.size = z := ⟨_, rfl⟩
                obtain ⟨q', hq'⟩ : ∃ z, w1.heap.size + 1 = z := ⟨_, rfl⟩
                obtain ⟨wq, hwq⟩ : ∃ z, (w1.alloc (.cells #[.int .i64 pp.kind, .int .i64 pp.n, .string pp.text] 39)).alloc (.cells #[.int .i64 qq.kind, .int .i64 qq.n, .string qq.text] 39) = z := ⟨_, rfl⟩
                rw [hwq] at HT1 ⊢
                rw [hq'] at HT1 ⊢
                rw [hq] at HT1 ⊢
                clear hq hq' hwq
                obtain ⟨r1, hr1⟩ : ∃ z, (if qq.kind = 3 then noPt else pp) = z := ⟨_, rfl⟩
                obtain ⟨r2, hr2⟩ : ∃ z, (if pp.kind = 3 then noPt else qq) = z := ⟨_, rfl⟩
                rw [hr1, hr2] at HIB
                have HB1 : Hid (∀ W, Calls Tryd.prog 68 #[pv pp, pv qq] W fun r w' => r = .returned (pv r1) ∧ Below W.heap.size W w') := hide (fun W => by have := beside_any pp qq W; rw [hr1] at this; exact this)
                have HB2 : Hid (∀ W, Calls Tryd.prog 68 #[pv qq, pv pp] W fun r w' => r = .returned (pv r2) ∧ Below W.heap.size W w') := hide (fun W => by have := beside_any qq pp W; rw [hr2] at this; exact this)
                clear hr1 hr2
                have HT0 := hide ((unhide HT1).call (Below.drew (Below.refl _ _)))
                refine wp_region_T (S := fun W => (W.cell? ⟨q, 0, none⟩ = some (.int .i64 pp.kind) ∧ W.cell? ⟨q, 1, none⟩ = some (.int .i64 pp.n) ∧ W.cell? ⟨q, 2, none⟩ = some (.string pp.text)) ∧ (W.cell? ⟨q', 0, none⟩ = some (.int .i64 qq.kind) ∧ W.cell? ⟨q', 1, none⟩ = some (.int .i64 qq.n) ∧ W.cell? ⟨q', 2, none⟩ = some (.string qq.text))) (fun i => decide (i < 14)) (by kernel_rfl) ⟨⟨((unhide HT0).box _ _ (List.mem_cons_of_mem _ (List.mem_cons_self ..))).1.cell 0, ((unhide HT0).box _ _ (List.mem_cons_of_mem _ (List.mem_cons_self ..))).1.cell 1, ((unhide HT0).box _ _ (List.mem_cons_of_mem _ (List.mem_cons_self ..))).1.cell 2⟩, ⟨((unhide HT0).box _ _ (List.mem_cons_self ..)).1.cell 0, ((unhide HT0).box _ _ (List.mem_cons_self ..)).1.cell 1, ((unhide HT0).box _ _ (List.mem_cons_self ..)).1.cell 2⟩⟩ (fun hHeld => ?_)
                clear HT1
                obtain ⟨wd, hwd⟩ : ∃ z, wq.drew = z := ⟨_, rfl⟩
                rw [hwd] at HT0 hHeld ⊢
                clear hwd
                refine tk 0 (v := u4) rfl (Or.inl ⟨by rfl, ?_⟩) hHeld ?_
                · intro w hSw
                  obtain ⟨⟨s0, s1, s2⟩, s3, s4, s5⟩ := hSw
                  first
                    | rfl
                    | (go_simp; done)
                try go_frame
                refine tk 1 (v := .agg #[.int .i64 pp.kind, .int .i64 pp.n, .string pp.text]) rfl (Or.inl ⟨by rfl, ?_⟩) hHeld ?_
                · intro w hSw
                  obtain ⟨⟨s0, s1, s2⟩, s3, s4, s5⟩ := hSw
                  first
                    | rfl
                    | (go_simp; done)
                try go_frame
                refine tk 2 (v := .agg #[.int .i64 qq.kind, .int .i64 qq.n, .string qq.text]) rfl (Or.inl ⟨by rfl, ?_⟩) hHeld ?_
                · intro w hSw
                  obtain ⟨⟨s0, s1, s2⟩, s3, s4, s5⟩ := hSw
                  first
                    | rfl
                    | (go_simp; done)
                try go_frame
                refine tk 6 (v := u5) rfl (Or.inl ⟨by rfl, ?_⟩) hHeld ?_
                · intro w hSw
                  obtain ⟨⟨s0, s1, s2⟩, s3, s4, s5⟩ := hSw
                  first
                    | rfl
                    | (go_simp; done)
                try go_frame
                refine tk 7 (v := .agg #[.int .i64 qq.kind, .int .i64 qq.n, .string qq.text]) rfl (Or.inl ⟨by rfl, ?_⟩) hHeld ?_
                · intro w hSw
                  obtain ⟨⟨s0, s1, s2⟩, s3, s4, s5⟩ := hSw
                  first
                    | rfl
                    | (go_simp; done)
                try go_frame
                refine tk 8 (v := .agg #[.int .i64 pp.kind, .int .i64 pp.n, .string pp.text]) rfl (Or.inl ⟨by rfl, ?_⟩) hHeld ?_
                · intro w hSw
                  obtain ⟨⟨s0, s1, s2⟩, s3, s4, s5⟩ := hSw
                  first
                    | rfl
                    | (go_simp; done)
                try go_frame
                refine wpAnyT_one (i := 3) (o := ztrn18) (by kernel_rfl) rfl (fun K hK => ?_)
                go_simp
                refine Calls.mono (unhide HB1 _) ?_
                rintro e wz1 ⟨rfl, hbz⟩
                have HT11 := hide ((unhide HT0).call hbz)
                clear hbz HT0
                have hSS : (wz1.cell? ⟨q, 0, none⟩ = some (.int .i64 pp.kind) ∧ wz1.cell? ⟨q, 1, none⟩ = some (.int .i64 pp.n) ∧ wz1.cell? ⟨q, 2, none⟩ = some (.string pp.text)) ∧ (wz1.cell? ⟨q', 0, none⟩ = some (.int .i64 qq.kind) ∧ wz1.cell? ⟨q', 1, none⟩ = some (.int .i64 qq.n) ∧ wz1.cell? ⟨q', 2, none⟩ = some (.string qq.text)) := ⟨⟨((unhide HT11).box _ _ (List.mem_cons_of_mem _ (List.mem_cons_self ..))).1.cell 0, ((unhide HT11).box _ _ (List.mem_cons_of_mem _ (List.mem_cons_self ..))).1.cell 1, ((unhide HT11).box _ _ (List.mem_cons_of_mem _ (List.mem_cons_self ..))).1.cell 2⟩, ⟨((unhide HT11).box _ _ (List.mem_cons_self ..)).1.cell 0, ((unhide HT11).box _ _ (List.mem_cons_self ..)).1.cell 1, ((unhide HT11).box _ _ (List.mem_cons_self ..)).1.cell 2⟩⟩
                go_wp2_with fail
                refine hK.out _ _ (fun _ => hSS) ?_
                clear hK K
                clear hSS
                try go_frame
                refine wpAnyT_one (i := 4) (o := ztrn19) (by kernel_rfl) rfl (fun K hK => ?_)
                try simp only [pv]
                go_simp
                have HT120 := hide ((unhide HT11).push r1)
                clear HT11
                obtain ⟨wz2, hwz2⟩ : ∃ z, wz1.alloc (.cells #[.int .i64 r1.kind, .int .i64 r1.n, .string r1.text] 39) = z := ⟨_, rfl⟩
                obtain ⟨qwz2, hqwz2⟩ : ∃ z, wz1.heap.size = z := ⟨_, rfl⟩
                rw [hwz2] at HT120 ⊢
                rw [hqwz2] at HT120 ⊢
                clear hwz2 hqwz2
                have hSS : (wz2.cell? ⟨q, 0, none⟩ = some (.int .i64 pp.kind) ∧ wz2.cell? ⟨q, 1, none⟩ = some (.int .i64 pp.n) ∧ wz2.cell? ⟨q, 2, none⟩ = some (.string pp.text)) ∧ (wz2.cell? ⟨q', 0, none⟩ = some (.int .i64 qq.kind) ∧ wz2.cell? ⟨q', 1, none⟩ = some (.int .i64 qq.n) ∧ wz2.cell? ⟨q', 2, none⟩ = some (.string qq.text)) := ⟨⟨((unhide HT120).box _ _ (List.mem_cons_of_mem _ (List.mem_cons_of_mem _ (List.mem_cons_self ..)))).1.cell 0, ((unhide HT120).box _ _ (List.mem_cons_of_mem _ (List.mem_cons_of_mem _ (List.mem_cons_self ..)))).1.cell 1, ((unhide HT120).box _ _ (List.mem_cons_of_mem _ (List.mem_cons_of_mem _ (List.mem_cons_self ..)))).1.cell 2⟩, ⟨((unhide HT120).box _ _ (List.mem_cons_of_mem _ (List.mem_cons_self ..))).1.cell 0, ((unhide HT120).box _ _ (List.mem_cons_of_mem _ (List.mem_cons_self ..))).1.cell 1, ((unhide HT120).box _ _ (List.mem_cons_of_mem _ (List.mem_cons_self ..))).1.cell 2⟩⟩
                refine hK.out _ _ (fun _ => hSS) ?_
                clear hK K
                clear hSS
                try go_frame
                refine wpAnyT_one (i := 5) (o := ztrn20) (by kernel_rfl) rfl (fun K hK => ?_)
                refine wp_append_part (Operand.tmp 47) (Operand.tmp 51) rfl w.heap.size u4 L1.length (ptc L1) r1 qwz2 1 rfl (unhide HT120).o1 hLn1 (unhide HT120).bel.size rfl (fun j u hu => by rw [((unhide HT120).box _ _ (List.mem_cons_self ..)).1.cell]; exact hu) (fun kk cap wz3 hv3 ho3 hk3 => ?_)
                have HT13 := hide (((unhide HT120).app1 hv3 ho3 (own_lit hk3)).unpush)
                clear hv3 ho3 hk3 HT120
                have hSS : (wz3.cell? ⟨q, 0, none⟩ = some (.int .i64 pp.kind) ∧ wz3.cell? ⟨q, 1, none⟩ = some (.int .i64 pp.n) ∧ wz3.cell? ⟨q, 2, none⟩ = some (.string pp.text)) ∧ (wz3.cell? ⟨q', 0, none⟩ = some (.int .i64 qq.kind) ∧ wz3.cell? ⟨q', 1, none⟩ = some (.int .i64 qq.n) ∧ wz3.cell? ⟨q', 2, none⟩ = some (.string qq.text)) := ⟨⟨((unhide HT13).box _ _ (List.mem_cons_of_mem _ (List.mem_cons_self ..))).1.cell 0, ((unhide HT13).box _ _ (List.mem_cons_of_mem _ (List.mem_cons_self ..))).1.cell 1, ((unhide HT13).box _ _ (List.mem_cons_of_mem _ (List.mem_cons_self ..))).1.cell 2⟩, ⟨((unhide HT13).box _ _ (List.mem_cons_self ..)).1.cell 0, ((unhide HT13).box _ _ (List.mem_cons_self ..)).1.cell 1, ((unhide HT13).box _ _ (List.mem_cons_self ..)).1.cell 2⟩⟩
                obtain ⟨v1n, hv1n⟩ : ∃ z, Value.slice (some ⟨kk, 0, none⟩) (L1.length + 1) cap = z := ⟨_, rfl⟩
                simp only [hv1n]
                rw [hv1n] at HT13
                clear hv1n
                refine hK.out _ _ (fun _ => hSS) ?_
                clear hK K
                clear hSS
                try go_frame
                refine wpAnyT_one (i := 9) (o := ztrn21) (by kernel_rfl) rfl (fun K hK => ?_)
                go_simp
                refine Calls.mono (unhide HB2 _) ?_
                rintro e wz4 ⟨rfl, hbz⟩
                have HT14 := hide ((unhide HT13).call hbz)
                clear hbz HT13
                have hSS : (wz4.cell? ⟨q, 0, none⟩ = some (.int .i64 pp.kind) ∧ wz4.cell? ⟨q, 1, none⟩ = some (.int .i64 pp.n) ∧ wz4.cell? ⟨q, 2, none⟩ = some (.string pp.text)) ∧ (wz4.cell? ⟨q', 0, none⟩ = some (.int .i64 qq.kind) ∧ wz4.cell? ⟨q', 1, none⟩ = some (.int .i64 qq.n) ∧ wz4.cell? ⟨q', 2, none⟩ = some (.string qq.text)) := ⟨⟨((unhide HT14).box _ _ (List.mem_cons_of_mem _ (List.mem_cons_self ..))).1.cell 0, ((unhide HT14).box _ _ (List.mem_cons_of_mem _ (List.mem_cons_self ..))).1.cell 1, ((unhide HT14).box _ _ (List.mem_cons_of_mem _ (List.mem_cons_self ..))).1.cell 2⟩, ⟨((unhide HT14).box _ _ (List.mem_cons_self ..)).1.cell 0, ((unhide HT14).box _ _ (List.mem_cons_self ..)).1.cell 1, ((unhide HT14).box _ _ (List.mem_cons_self ..)).1.cell 2⟩⟩
                go_wp2_with fail
                refine hK.out _ _ (fun _ => hSS) ?_
                clear hK K
                clear hSS
                try go_frame
                refine wpAnyT_one (i := 10) (o := ztrn22) (by kernel_rfl) rfl (fun K hK => ?_)
                try simp only [pv]
                go_simp
                have HT150 := hide ((unhide HT14).push r2)
                clear HT14
                obtain ⟨wz5, hwz5⟩ : ∃ z, wz4.alloc (.cells #[.int .i64 r2.kind, .int .i64 r2.n, .string r2.text] 39) = z := ⟨_, rfl⟩
                obtain ⟨qwz5, hqwz5⟩ : ∃ z, wz4.heap.size = z := ⟨_, rfl⟩
                rw [hwz5] at HT150 ⊢
                rw [hqwz5] at HT150 ⊢
                clear hwz5 hqwz5
                have hSS : (wz5.cell? ⟨q, 0, none⟩ = some (.int .i64 pp.kind) ∧ wz5.cell? ⟨q, 1, none⟩ = some (.int .i64 pp.n) ∧ wz5.cell? ⟨q, 2, none⟩ = some (.string pp.text)) ∧ (wz5.cell? ⟨q', 0, none⟩ = some (.int .i64 qq.kind) ∧ wz5.cell? ⟨q', 1, none⟩ = some (.int .i64 qq.n) ∧ wz5.cell? ⟨q', 2, none⟩ = some (.string qq.text)) := ⟨⟨((unhide HT150).box _ _ (List.mem_cons_of_mem _ (List.mem_cons_of_mem _ (List.mem_cons_self ..)))).1.cell 0, ((unhide HT150).box _ _ (List.mem_cons_of_mem _ (List.mem_cons_of_mem _ (List.mem_cons_self ..)))).1.cell 1, ((unhide HT150).box _ _ (List.mem_cons_of_mem _ (List.mem_cons_of_mem _ (List.mem_cons_self ..)))).1.cell 2⟩, ⟨((unhide HT150).box _ _ (List.mem_cons_of_mem _ (List.mem_cons_self ..))).1.cell 0, ((unhide HT150).box _ _ (List.mem_cons_of_mem _ (List.mem_cons_self ..))).1.cell 1, ((unhide HT150).box _ _ (List.mem_cons_of_mem _ (List.mem_cons_self ..))).1.cell 2⟩⟩
                refine hK.out _ _ (fun _ => hSS) ?_
                clear hK K
                clear hSS
                try go_frame
                refine wpAnyT_one (i := 11) (o := ztrn23) (by kernel_rfl) rfl (fun K hK => ?_)
                refine wp_append_part (Operand.tmp 53) (Operand.tmp 57) rfl w.heap.size u5 L2.length (ptc L2) r2 qwz5 1 rfl (unhide HT150).o2 hLn2 (unhide HT150).bel.size rfl (fun j u hu => by rw [((unhide HT150).box _ _ (List.mem_cons_self ..)).1.cell]; exact hu) (fun kk cap wz6 hv3 ho3 hk3 => ?_)
                have HT16 := hide (((unhide HT150).app2 hv3 ho3 (own_lit hk3)).unpush)
                clear hv3 ho3 hk3 HT150
                have hSS : (wz6.cell? ⟨q, 0, none⟩ = some (.int .i64 pp.kind) ∧ wz6.cell? ⟨q, 1, none⟩ = some (.int .i64 pp.n) ∧ wz6.cell? ⟨q, 2, none⟩ = some (.string pp.text)) ∧ (wz6.cell? ⟨q', 0, none⟩ = some (.int .i64 qq.kind) ∧ wz6.cell? ⟨q', 1, none⟩ = some (.int .i64 qq.n) ∧ wz6.cell? ⟨q', 2, none⟩ = some (.string qq.text)) := ⟨⟨((unhide HT16).box _ _ (List.mem_cons_of_mem _ (List.mem_cons_self ..))).1.cell 0, ((unhide HT16).box _ _ (List.mem_cons_of_mem _ (List.mem_cons_self ..))).1.cell 1, ((unhide HT16).box _ _ (List.mem_cons_of_mem _ (List.mem_cons_self ..))).1.cell 2⟩, ⟨((unhide HT16).box _ _ (List.mem_cons_self ..)).1.cell 0, ((unhide HT16).box _ _ (List.mem_cons_self ..)).1.cell 1, ((unhide HT16).box _ _ (List.mem_cons_self ..)).1.cell 2⟩⟩
                obtain ⟨v2n, hv2n⟩ : ∃ z, Value.slice (some ⟨kk, 0, none⟩) (L2.length + 1) cap = z := ⟨_, rfl⟩
                simp only [hv2n]
                rw [hv2n] at HT16
                clear hv2n
                refine hK.out _ _ (fun _ => hSS) ?_
                clear hK K
                clear hSS
                try go_frame
                have hSS : (wz6.cell? ⟨q, 0, none⟩ = some (.int .i64 pp.kind) ∧ wz6.cell? ⟨q, 1, none⟩ = some (.int .i64 pp.n) ∧ wz6.cell? ⟨q, 2, none⟩ = some (.string pp.text)) ∧ (wz6.cell? ⟨q', 0, none⟩ = some (.int .i64 qq.kind) ∧ wz6.cell? ⟨q', 1, none⟩ = some (.int .i64 qq.n) ∧ wz6.cell? ⟨q', 2, none⟩ = some (.string qq.text)) := ⟨⟨((unhide HT16).box _ _ (List.mem_cons_of_mem _ (List.mem_cons_self ..))).1.cell 0, ((unhide HT16).box _ _ (List.mem_cons_of_mem _ (List.mem_cons_self ..))).1.cell 1, ((unhide HT16).box _ _ (List.mem_cons_of_mem _ (List.mem_cons_self ..))).1.cell 2⟩, ⟨((unhide HT16).box _ _ (List.mem_cons_self ..)).1.cell 0, ((unhide HT16).box _ _ (List.mem_cons_self ..)).1.cell 1, ((unhide HT16).box _ _ (List.mem_cons_self ..)).1.cell 2⟩⟩
                refine tk 12 (v := v1n) rfl (Or.inl ⟨by rfl, ?_⟩) hSS ?_
                · intro w hSw
                  obtain ⟨⟨s0, s1, s2⟩, s3, s4, s5⟩ := hSw
                  first
                    | rfl
                    | (go_simp; done)
                try go_frame
                refine tk 13 (v := v2n) rfl (Or.inl ⟨by rfl, ?_⟩) hSS ?_
                · intro w hSw
                  obtain ⟨⟨s0, s1, s2⟩, s3, s4, s5⟩ := hSw
                  first
                    | rfl
                    | (go_simp; done)
                try go_frame
                refine wpAnyT_done (by kernel_rfl) ?_ _
                have HT3 := hide (unhide HT16).pop
                clear HT16 hSS hHeld
                go_wp2_with fail
                go_roundg (la'.length + lb'.length)
                case measure => rw [unhide HGK]; exact (unhide HIB).2
                case rel => exact ⟨la', lb', L1 ++ [r1], L2 ++ [r2], (by rfl), HT3, hide (unhide HIB).1⟩
              · have HKg : Hid (Calls Tryd.prog 64 #[.pointer (some ⟨g2, 0, none⟩)] wr fun r w' => r = .returned (.int .i64 2) ∧ wr = w') := hide (by have h := unhide HKg; rw [List.headD_cons, k2] at h; exact h)
                have HK2 := hide k2
                clear k2 gd2
                go_wp2_with fail
                refine Calls.mono (unhide HKf) ?_
                rintro r wk ⟨rfl, rfl⟩
                go_wp2_with fail
                refine Calls.mono (unhide HKf) ?_
                rintro r wk ⟨rfl, rfl⟩
                go_wp2_with fail
                refine Calls.mono (unhide HKg) ?_
                rintro r wk ⟨rfl, rfl⟩
                go_wp2_with fail
                refine Calls.mono (whole_any (unhide HT_).f2 ((unhide HU).call (unhide HT_).bel)) ?_
                rintro r w1 ⟨rfl, hf1, ho1⟩
                have HT1 := hide (((unhide HT_).two hf1 ho1).push h2)
                clear hf1 ho1 HT_
                unfold pv
                go_wp2_with fail
                obtain ⟨q, hq⟩ : ∃ z, w1.heap.size = z := ⟨_, rfl⟩
                obtain ⟨wq, hwq⟩ : ∃ z, w1.alloc (.cells #[.int .i64 h2.kind, .int .i64 h2.n, .string h2.text] 39) = z := ⟨_, rfl⟩
                rw [hwq] at HT1 ⊢
                rw [hq] at HT1 ⊢
                clear hq hwq
                obtain ⟨kp, hkp⟩ : ∃ z : Pt, (⟨1, h2.n, ByteArray.empty⟩ : Pt) = z := ⟨_, rfl⟩
                have HKP : Hid (∀ W, Calls Tryd.prog 66 #[.int .i64 h2.n] W fun r w' => r = .returned (pv kp) ∧ Below W.heap.size W w') := hide (fun W => by have := keep_any h2.n W; rw [hkp] at this; exact this)
                have HKE := hide hkp
                clear hkp
                have HT0 := hide ((unhide HT1).call (Below.drew (Below.refl _ _)))
                refine wp_region_T (S := fun W => (W.cell? ⟨q, 0, none⟩ = some (.int .i64 h2.kind) ∧ W.cell? ⟨q, 1, none⟩ = some (.int .i64 h2.n) ∧ W.cell? ⟨q, 2, none⟩ = some (.string h2.text))) (fun i => decide (i < 12)) (by kernel_rfl) ⟨((unhide HT0).box q h2 (by simp)).1.cell 0, ((unhide HT0).box q h2 (by simp)).1.cell 1, ((unhide HT0).box q h2 (by simp)).1.cell 2⟩ (fun hHeld => ?_)
                clear HT1
                obtain ⟨wd, hwd⟩ : ∃ z, wq.drew = z := ⟨_, rfl⟩
                rw [hwd] at HT0 hHeld ⊢
                clear hwd
                refine tk 0 (v := u4) rfl (Or.inl ⟨by rfl, ?_⟩) hHeld ?_
                · intro w hSw
                  obtain ⟨s0, s1, s2⟩ := hSw
                  first
                    | rfl
                    | (go_simp; done)
                try go_frame
                refine tk 1 (v := .pointer (some ⟨q, 1, none⟩)) rfl (Or.inl ⟨by rfl, ?_⟩) hHeld ?_
                · intro w hSw
                  obtain ⟨s0, s1, s2⟩ := hSw
                  first
                    | rfl
                    | (go_simp; done)
                try go_frame
                refine tk 2 (v := .int .i64 h2.n) rfl (Or.inl ⟨by rfl, ?_⟩) hHeld ?_
                · intro w hSw
                  obtain ⟨s0, s1, s2⟩ := hSw
                  first
                    | rfl
                    | (go_simp; done)
                try go_frame
                refine tk 6 (v := u5) rfl (Or.inl ⟨by rfl, ?_⟩) hHeld ?_
                · intro w hSw
                  obtain ⟨s0, s1, s2⟩ := hSw
                  first
                    | rfl
                    | (go_simp; done)
                try go_frame
                refine tk 7 (v := .agg #[.int .i64 h2.kind, .int .i64 h2.n, .string h2.text]) rfl (Or.inl ⟨by rfl, ?_⟩) hHeld ?_
                · intro w hSw
                  obtain ⟨s0, s1, s2⟩ := hSw
                  first
                    | rfl
                    | (go_simp; done)
                try go_frame
                refine wpAnyT_two (i := 3) (j := 8) (oi := ztrn5) (oj := ztrn6) (by kernel_rfl) rfl rfl (fun K hK => ?_) (fun K hK => ?_)
                · skip
                  go_simp
                  refine Calls.mono (unhide HKP _) ?_
                  rintro e wz1 ⟨rfl, hbz⟩
                  have HZ1 := hide ((unhide HT0).call hbz)
                  clear hbz HT0
                  have hSS := bx3 ((unhide HZ1).box q h2 (by simp)).1
                  go_wp2_with fail
                  refine hK.out _ _ (fun _ => hSS) ?_
                  clear hK K
                  clear hSS
                  try go_frame
                  refine wpAnyT_two (i := 4) (j := 8) (oi := ztrn7) (oj := ztrn6) (by kernel_rfl) rfl rfl (fun K hK => ?_) (fun K hK => ?_)
                  · skip
                    try simp only [pv]
                    go_simp
                    have HZ2 := hide ((unhide HZ1).push kp)
                    clear HZ1
                    obtain ⟨wz2, hwz2⟩ : ∃ z, wz1.alloc (.cells #[.int .i64 kp.kind, .int .i64 kp.n, .string kp.text] 39) = z := ⟨_, rfl⟩
                    obtain ⟨qwz2, hqwz2⟩ : ∃ z, wz1.heap.size = z := ⟨_, rfl⟩
                    rw [hwz2] at HZ2 ⊢
                    rw [hqwz2] at HZ2 ⊢
                    clear hwz2 hqwz2
                    have hSS := bx3 ((unhide HZ2).box q h2 (by simp)).1
                    refine hK.out _ _ (fun _ => hSS) ?_
                    clear hK K
                    clear hSS
                    try go_frame
                    refine wpAnyT_two (i := 5) (j := 8) (oi := ztrn8) (oj := ztrn6) (by kernel_rfl) rfl rfl (fun K hK => ?_) (fun K hK => ?_)
                    · skip
                      refine wp_append_part (Operand.tmp 81) (Operand.tmp 85) rfl w.heap.size u4 L1.length (ptc L1) kp qwz2 1 rfl (unhide HZ2).o1 hLn1 (unhide HZ2).bel.size rfl (fun j u hu => by rw [((unhide HZ2).box qwz2 kp (by simp)).1.cell]; exact hu) (fun kk cap wz3 hv3 ho3 hk3 => ?_)
                      have HZ3 := hide ((unhide HZ2).app1 hv3 ho3 (own_lit hk3))
                      clear hv3 ho3 hk3 HZ2
                      have hSS := bx3 ((unhide HZ3).box q h2 (by simp)).1
                      obtain ⟨v1n, hv1n⟩ : ∃ z, Value.slice (some ⟨kk, 0, none⟩) (L1.length + 1) cap = z := ⟨_, rfl⟩
                      simp only [hv1n]
                      rw [hv1n] at HZ3
                      clear hv1n
                      refine hK.out _ _ (fun _ => hSS) ?_
                      clear hK K
                      clear hSS
                      try go_frame
                      refine wpAnyT_one (i := 8) (o := ztrn6) (by kernel_rfl) rfl (fun K hK => ?_)
                      try simp only [pv]
                      go_simp
                      have HZ4 := hide ((unhide HZ3).push h2)
                      clear HZ3
                      obtain ⟨wz4, hwz4⟩ : ∃ z, wz3.alloc (.cells #[.int .i64 h2.kind, .int .i64 h2.n, .string h2.text] 39) = z := ⟨_, rfl⟩
                      obtain ⟨qwz4, hqwz4⟩ : ∃ z, wz3.heap.size = z := ⟨_, rfl⟩
                      rw [hwz4] at HZ4 ⊢
                      rw [hqwz4] at HZ4 ⊢
                      clear hwz4 hqwz4
                      have hSS := bx3 ((unhide HZ4).box q h2 (by simp)).1
                      refine hK.out _ _ (fun _ => hSS) ?_
                      clear hK K
                      clear hSS
                      try go_frame
                      refine wpAnyT_one (i := 9) (o := ztrn9) (by kernel_rfl) rfl (fun K hK => ?_)
                      refine wp_append_part (Operand.tmp 87) (Operand.tmp 89) rfl w.heap.size u5 L2.length (ptc L2) h2 qwz4 1 rfl (unhide HZ4).o2 hLn2 (unhide HZ4).bel.size rfl (fun j u hu => by rw [((unhide HZ4).box qwz4 h2 (by simp)).1.cell]; exact hu) (fun kk cap wz5 hv3 ho3 hk3 => ?_)
                      have HZ5 := hide ((unhide HZ4).app2 hv3 ho3 (own_lit hk3))
                      clear hv3 ho3 hk3 HZ4
                      have hSS := bx3 ((unhide HZ5).box q h2 (by simp)).1
                      obtain ⟨v2n, hv2n⟩ : ∃ z, Value.slice (some ⟨kk, 0, none⟩) (L2.length + 1) cap = z := ⟨_, rfl⟩
                      simp only [hv2n]
                      rw [hv2n] at HZ5
                      clear hv2n
                      refine hK.out _ _ (fun _ => hSS) ?_
                      clear hK K
                      clear hSS
                      try go_frame
                      have hSS := bx3 ((unhide HZ5).box q h2 (by simp)).1
                      refine tk 10 (v := v1n) rfl (Or.inl ⟨by rfl, ?_⟩) hSS ?_
                      · intro w hSw
                        obtain ⟨s0, s1, s2⟩ := hSw
                        first
                          | rfl
                          | (go_simp; done)
                      try go_frame
                      refine tk 11 (v := v2n) rfl (Or.inl ⟨by rfl, ?_⟩) hSS ?_
                      · intro w hSw
                        obtain ⟨s0, s1, s2⟩ := hSw
                        first
                          | rfl
                          | (go_simp; done)
                      try go_frame
                      refine wpAnyT_done (by kernel_rfl) ?_ _
                      have HT3 := hide (unhide HZ5).pop
                      clear HZ5 hSS hHeld
                      go_wp2_with fail
                      go_roundg ((h1 :: lf').length + lg'.length)
                      case measure => rw [unhide HGK]; simp only [List.length_cons]; omega
                      case rel => exact ⟨h1 :: lf', lg', L1 ++ [kp], L2 ++ [h2], (by rfl), HT3, hide (by rw [← unhide HKE]; exact (unhide HI).putg (unhide HG2) (unhide HK2) (unhide HND))⟩
                    · skip
                      try simp only [pv]
                      go_simp
                      have HZ6 := hide ((unhide HZ2).push h2)
                      clear HZ2
                      obtain ⟨wz6, hwz6⟩ : ∃ z, wz2.alloc (.cells #[.int .i64 h2.kind, .int .i64 h2.n, .string h2.text] 39) = z := ⟨_, rfl⟩
                      obtain ⟨qwz6, hqwz6⟩ : ∃ z, wz2.heap.size = z := ⟨_, rfl⟩
                      rw [hwz6] at HZ6 ⊢
                      rw [hqwz6] at HZ6 ⊢
                      clear hwz6 hqwz6
                      have hSS := bx3 ((unhide HZ6).box q h2 (by simp)).1
                      refine hK.out _ _ (fun _ => hSS) ?_
                      clear hK K
                      clear hSS
                      try go_frame
                      refine wpAnyT_one (i := 5) (o := ztrn8) (by kernel_rfl) rfl (fun K hK => ?_)
                      refine wp_append_part (Operand.tmp 81) (Operand.tmp 85) rfl w.heap.size u4 L1.length (ptc L1) kp qwz2 1 rfl (unhide HZ6).o1 hLn1 (unhide HZ6).bel.size rfl (fun j u hu => by rw [((unhide HZ6).box qwz2 kp (by simp)).1.cell]; exact hu) (fun kk cap wz7 hv3 ho3 hk3 => ?_)
                      have HZ7 := hide ((unhide HZ6).app1 hv3 ho3 (own_lit hk3))
                      clear hv3 ho3 hk3 HZ6
                      have hSS := bx3 ((unhide HZ7).box q h2 (by simp)).1
                      obtain ⟨v1n, hv1n⟩ : ∃ z, Value.slice (some ⟨kk, 0, none⟩) (L1.length + 1) cap = z := ⟨_, rfl⟩
                      simp only [hv1n]
                      rw [hv1n] at HZ7
                      clear hv1n
                      refine hK.out _ _ (fun _ => hSS) ?_
                      clear hK K
                      clear hSS
                      try go_frame
                      refine wpAnyT_one (i := 9) (o := ztrn9) (by kernel_rfl) rfl (fun K hK => ?_)
                      refine wp_append_part (Operand.tmp 87) (Operand.tmp 89) rfl w.heap.size u5 L2.length (ptc L2) h2 qwz6 1 rfl (unhide HZ7).o2 hLn2 (unhide HZ7).bel.size rfl (fun j u hu => by rw [((unhide HZ7).box qwz6 h2 (by simp)).1.cell]; exact hu) (fun kk cap wz8 hv3 ho3 hk3 => ?_)
                      have HZ8 := hide ((unhide HZ7).app2 hv3 ho3 (own_lit hk3))
                      clear hv3 ho3 hk3 HZ7
                      have hSS := bx3 ((unhide HZ8).box q h2 (by simp)).1
                      obtain ⟨v2n, hv2n⟩ : ∃ z, Value.slice (some ⟨kk, 0, none⟩) (L2.length + 1) cap = z := ⟨_, rfl⟩
                      simp only [hv2n]
                      rw [hv2n] at HZ8
                      clear hv2n
                      refine hK.out _ _ (fun _ => hSS) ?_
                      clear hK K
                      clear hSS
                      try go_frame
                      have hSS := bx3 ((unhide HZ8).box q h2 (by simp)).1
                      refine tk 10 (v := v1n) rfl (Or.inl ⟨by rfl, ?_⟩) hSS ?_
                      · intro w hSw
                        obtain ⟨s0, s1, s2⟩ := hSw
                        first
                          | rfl
                          | (go_simp; done)
                      try go_frame
                      refine tk 11 (v := v2n) rfl (Or.inl ⟨by rfl, ?_⟩) hSS ?_
                      · intro w hSw
                        obtain ⟨s0, s1, s2⟩ := hSw
                        first
                          | rfl
                          | (go_simp; done)
                      try go_frame
                      refine wpAnyT_done (by kernel_rfl) ?_ _
                      have HT3 := hide (unhide HZ8).pop
                      clear HZ8 hSS hHeld
                      go_wp2_with fail
                      go_roundg ((h1 :: lf').length + lg'.length)
                      case measure => rw [unhide HGK]; simp only [List.length_cons]; omega
                      case rel => exact ⟨h1 :: lf', lg', L1 ++ [kp], L2 ++ [h2], (by rfl), HT3, hide (by rw [← unhide HKE]; exact (unhide HI).putg (unhide HG2) (unhide HK2) (unhide HND))⟩
                  · skip
                    try simp only [pv]
                    go_simp
                    have HZ9 := hide ((unhide HZ1).push h2)
                    clear HZ1
                    obtain ⟨wz9, hwz9⟩ : ∃ z, wz1.alloc (.cells #[.int .i64 h2.kind, .int .i64 h2.n, .string h2.text] 39) = z := ⟨_, rfl⟩
                    obtain ⟨qwz9, hqwz9⟩ : ∃ z, wz1.heap.size = z := ⟨_, rfl⟩
                    rw [hwz9] at HZ9 ⊢
                    rw [hqwz9] at HZ9 ⊢
                    clear hwz9 hqwz9
                    have hSS := bx3 ((unhide HZ9).box q h2 (by simp)).1
                    refine hK.out _ _ (fun _ => hSS) ?_
                    clear hK K
                    clear hSS
                    try go_frame
                    refine wpAnyT_one (i := 4) (o := ztrn7) (by kernel_rfl) rfl (fun K hK => ?_)
                    try simp only [pv]
                    go_simp
                    have HZ10 := hide ((unhide HZ9).push kp)
                    clear HZ9
                    obtain ⟨wz10, hwz10⟩ : ∃ z, wz9.alloc (.cells #[.int .i64 kp.kind, .int .i64 kp.n, .string kp.text] 39) = z := ⟨_, rfl⟩
                    obtain ⟨qwz10, hqwz10⟩ : ∃ z, wz9.heap.size = z := ⟨_, rfl⟩
                    rw [hwz10] at HZ10 ⊢
                    rw [hqwz10] at HZ10 ⊢
                    clear hwz10 hqwz10
                    have hSS := bx3 ((unhide HZ10).box q h2 (by simp)).1
                    refine hK.out _ _ (fun _ => hSS) ?_
                    clear hK K
                    clear hSS
                    try go_frame
                    refine wpAnyT_one (i := 5) (o := ztrn8) (by kernel_rfl) rfl (fun K hK => ?_)
                    refine wp_append_part (Operand.tmp 81) (Operand.tmp 85) rfl w.heap.size u4 L1.length (ptc L1) kp qwz10 1 rfl (unhide HZ10).o1 hLn1 (unhide HZ10).bel.size rfl (fun j u hu => by rw [((unhide HZ10).box qwz10 kp (by simp)).1.cell]; exact hu) (fun kk cap wz11 hv3 ho3 hk3 => ?_)
                    have HZ11 := hide ((unhide HZ10).app1 hv3 ho3 (own_lit hk3))
                    clear hv3 ho3 hk3 HZ10
                    have hSS := bx3 ((unhide HZ11).box q h2 (by simp)).1
                    obtain ⟨v1n, hv1n⟩ : ∃ z, Value.slice (some ⟨kk, 0, none⟩) (L1.length + 1) cap = z := ⟨_, rfl⟩
                    simp only [hv1n]
                    rw [hv1n] at HZ11
                    clear hv1n
                    refine hK.out _ _ (fun _ => hSS) ?_
                    clear hK K
                    clear hSS
                    try go_frame
                    refine wpAnyT_one (i := 9) (o := ztrn9) (by kernel_rfl) rfl (fun K hK => ?_)
                    refine wp_append_part (Operand.tmp 87) (Operand.tmp 89) rfl w.heap.size u5 L2.length (ptc L2) h2 qwz9 1 rfl (unhide HZ11).o2 hLn2 (unhide HZ11).bel.size rfl (fun j u hu => by rw [((unhide HZ11).box qwz9 h2 (by simp)).1.cell]; exact hu) (fun kk cap wz12 hv3 ho3 hk3 => ?_)
                    have HZ12 := hide ((unhide HZ11).app2 hv3 ho3 (own_lit hk3))
                    clear hv3 ho3 hk3 HZ11
                    have hSS := bx3 ((unhide HZ12).box q h2 (by simp)).1
                    obtain ⟨v2n, hv2n⟩ : ∃ z, Value.slice (some ⟨kk, 0, none⟩) (L2.length + 1) cap = z := ⟨_, rfl⟩
                    simp only [hv2n]
                    rw [hv2n] at HZ12
                    clear hv2n
                    refine hK.out _ _ (fun _ => hSS) ?_
                    clear hK K
                    clear hSS
                    try go_frame
                    have hSS := bx3 ((unhide HZ12).box q h2 (by simp)).1
                    refine tk 10 (v := v1n) rfl (Or.inl ⟨by rfl, ?_⟩) hSS ?_
                    · intro w hSw
                      obtain ⟨s0, s1, s2⟩ := hSw
                      first
                        | rfl
                        | (go_simp; done)
                    try go_frame
                    refine tk 11 (v := v2n) rfl (Or.inl ⟨by rfl, ?_⟩) hSS ?_
                    · intro w hSw
                      obtain ⟨s0, s1, s2⟩ := hSw
                      first
                        | rfl
                        | (go_simp; done)
                    try go_frame
                    refine wpAnyT_done (by kernel_rfl) ?_ _
                    have HT3 := hide (unhide HZ12).pop
                    clear HZ12 hSS hHeld
                    go_wp2_with fail
                    go_roundg ((h1 :: lf').length + lg'.length)
                    case measure => rw [unhide HGK]; simp only [List.length_cons]; omega
                    case rel => exact ⟨h1 :: lf', lg', L1 ++ [kp], L2 ++ [h2], (by rfl), HT3, hide (by rw [← unhide HKE]; exact (unhide HI).putg (unhide HG2) (unhide HK2) (unhide HND))⟩
                · skip
                  try simp only [pv]
                  go_simp
                  have HZ13 := hide ((unhide HT0).push h2)
                  clear HT0
                  obtain ⟨wz13, hwz13⟩ : ∃ z, wd.alloc (.cells #[.int .i64 h2.kind, .int .i64 h2.n, .string h2.text] 39) = z := ⟨_, rfl⟩
                  obtain ⟨qwz13, hqwz13⟩ : ∃ z, wd.heap.size = z := ⟨_, rfl⟩
                  rw [hwz13] at HZ13 ⊢
                  rw [hqwz13] at HZ13 ⊢
                  clear hwz13 hqwz13
                  have hSS := bx3 ((unhide HZ13).box q h2 (by simp)).1
                  refine hK.out _ _ (fun _ => hSS) ?_
                  clear hK K
                  clear hSS
                  try go_frame
                  refine wpAnyT_one (i := 3) (o := ztrn5) (by kernel_rfl) rfl (fun K hK => ?_)
                  go_simp
                  refine Calls.mono (unhide HKP _) ?_
                  rintro e wz14 ⟨rfl, hbz⟩
                  have HZ14 := hide ((unhide HZ13).call hbz)
                  clear hbz HZ13
                  have hSS := bx3 ((unhide HZ14).box q h2 (by simp)).1
                  go_wp2_with fail
                  refine hK.out _ _ (fun _ => hSS) ?_
                  clear hK K
                  clear hSS
                  try go_frame
                  refine wpAnyT_one (i := 4) (o := ztrn7) (by kernel_rfl) rfl (fun K hK => ?_)
                  try simp only [pv]
                  go_simp
                  have HZ15 := hide ((unhide HZ14).push kp)
                  clear HZ14
                  obtain ⟨wz15, hwz15⟩ : ∃ z, wz14.alloc (.cells #[.int .i64 kp.kind, .int .i64 kp.n, .string kp.text] 39) = z := ⟨_, rfl⟩
                  obtain ⟨qwz15, hqwz15⟩ : ∃ z, wz14.heap.size = z := ⟨_, rfl⟩
                  rw [hwz15] at HZ15 ⊢
                  rw [hqwz15] at HZ15 ⊢
                  clear hwz15 hqwz15
                  have hSS := bx3 ((unhide HZ15).box q h2 (by simp)).1
                  refine hK.out _ _ (fun _ => hSS) ?_
                  clear hK K
                  clear hSS
                  try go_frame
                  refine wpAnyT_one (i := 5) (o := ztrn8) (by kernel_rfl) rfl (fun K hK => ?_)
                  refine wp_append_part (Operand.tmp 81) (Operand.tmp 85) rfl w.heap.size u4 L1.length (ptc L1) kp qwz15 1 rfl (unhide HZ15).o1 hLn1 (unhide HZ15).bel.size rfl (fun j u hu => by rw [((unhide HZ15).box qwz15 kp (by simp)).1.cell]; exact hu) (fun kk cap wz16 hv3 ho3 hk3 => ?_)
                  have HZ16 := hide ((unhide HZ15).app1 hv3 ho3 (own_lit hk3))
                  clear hv3 ho3 hk3 HZ15
                  have hSS := bx3 ((unhide HZ16).box q h2 (by simp)).1
                  obtain ⟨v1n, hv1n⟩ : ∃ z, Value.slice (some ⟨kk, 0, none⟩) (L1.length + 1) cap = z := ⟨_, rfl⟩
                  simp only [hv1n]
                  rw [hv1n] at HZ16
                  clear hv1n
                  refine hK.out _ _ (fun _ => hSS) ?_
                  clear hK K
                  clear hSS
                  try go_frame
                  refine wpAnyT_one (i := 9) (o := ztrn9) (by kernel_rfl) rfl (fun K hK => ?_)
                  refine wp_append_part (Operand.tmp 87) (Operand.tmp 89) rfl w.heap.size u5 L2.length (ptc L2) h2 qwz13 1 rfl (unhide HZ16).o2 hLn2 (unhide HZ16).bel.size rfl (fun j u hu => by rw [((unhide HZ16).box qwz13 h2 (by simp)).1.cell]; exact hu) (fun kk cap wz17 hv3 ho3 hk3 => ?_)
                  have HZ17 := hide ((unhide HZ16).app2 hv3 ho3 (own_lit hk3))
                  clear hv3 ho3 hk3 HZ16
                  have hSS := bx3 ((unhide HZ17).box q h2 (by simp)).1
                  obtain ⟨v2n, hv2n⟩ : ∃ z, Value.slice (some ⟨kk, 0, none⟩) (L2.length + 1) cap = z := ⟨_, rfl⟩
                  simp only [hv2n]
                  rw [hv2n] at HZ17
                  clear hv2n
                  refine hK.out _ _ (fun _ => hSS) ?_
                  clear hK K
                  clear hSS
                  try go_frame
                  have hSS := bx3 ((unhide HZ17).box q h2 (by simp)).1
                  refine tk 10 (v := v1n) rfl (Or.inl ⟨by rfl, ?_⟩) hSS ?_
                  · intro w hSw
                    obtain ⟨s0, s1, s2⟩ := hSw
                    first
                      | rfl
                      | (go_simp; done)
                  try go_frame
                  refine tk 11 (v := v2n) rfl (Or.inl ⟨by rfl, ?_⟩) hSS ?_
                  · intro w hSw
                    obtain ⟨s0, s1, s2⟩ := hSw
                    first
                      | rfl
                      | (go_simp; done)
                  try go_frame
                  refine wpAnyT_done (by kernel_rfl) ?_ _
                  have HT3 := hide (unhide HZ17).pop
                  clear HZ17 hSS hHeld
                  go_wp2_with fail
                  go_roundg ((h1 :: lf').length + lg'.length)
                  case measure => rw [unhide HGK]; simp only [List.length_cons]; omega
                  case rel => exact ⟨h1 :: lf', lg', L1 ++ [kp], L2 ++ [h2], (by rfl), HT3, hide (by rw [← unhide HKE]; exact (unhide HI).putg (unhide HG2) (unhide HK2) (unhide HND))⟩
              · have HKg : Hid (Calls Tryd.prog 64 #[.pointer (some ⟨g2, 0, none⟩)] wr fun r w' => r = .returned (.int .i64 3) ∧ wr = w') := hide (by have h := unhide HKg; rw [List.headD_cons, k2] at h; exact h)
                have HK2 : Hid (h2.kind = 1 ∨ h2.kind = 3) := hide (by omega)
                clear k2 gd2
                go_wp2_with fail
                refine Calls.mono (unhide HKf) ?_
                rintro r wk ⟨rfl, rfl⟩
                go_wp2_with fail
                refine Calls.mono (unhide HKf) ?_
                rintro r wk ⟨rfl, rfl⟩
                go_wp2_with fail
                refine Calls.mono (unhide HKg) ?_
                rintro r wk ⟨rfl, rfl⟩
                go_wp2_with fail
                refine Calls.mono (both_any (unhide HT_).f1 (unhide HT_).f2 (unhide HT_).ne (unhide HT_).h1 (unhide HT_).h2 (unhide HT_).hB (unhide HU) (unhide HT_).bel) ?_
                rintro r w1 ⟨pp, qq, la', lb', rfl, hpp, hqq, hfa, hfb, ho1⟩
                have HT1 := hide ((((unhide HT_).both hfa hfb ho1).push pp).push qq)
                have HIB := hide ((unhide HI).both hpp hqq (unhide HK1) (unhide HK2) (unhide HG1).1.1 (unhide HG2).1.1)
                clear hpp hqq hfa hfb ho1 HT_
                unfold pv
                rw [size_alloc] at HT1
                go_wp2_with fail
                obtain ⟨q, hq⟩ : ∃ z, w1.heap.size = z := ⟨_, rfl⟩
                obtain ⟨q', hq'⟩ : ∃ z, w1.heap.size + 1 = z := ⟨_, rfl⟩
                obtain ⟨wq, hwq⟩ : ∃ z, (w1.alloc (.cells #[.int .i64 pp.kind, .int .i64 pp.n, .string pp.text] 39)).alloc (.cells #[.int .i64 qq.kind, .int .i64 qq.n, .string qq.text] 39) = z := ⟨_, rfl⟩
                rw [hwq] at HT1 ⊢
                rw [hq'] at HT1 ⊢
                rw [hq] at HT1 ⊢
                clear hq hq' hwq
                obtain ⟨r1, hr1⟩ : ∃ z, (if qq.kind = 3 then noPt else pp) = z := ⟨_, rfl⟩
                obtain ⟨r2, hr2⟩ : ∃ z, (if pp.kind = 3 then noPt else qq) = z := ⟨_, rfl⟩
                rw [hr1, hr2] at HIB
                have HB1 : Hid (∀ W, Calls Tryd.prog 68 #[pv pp, pv qq] W fun r w' => r = .returned (pv r1) ∧ Below W.heap.size W w') := hide (fun W => by have := beside_any pp qq W; rw [hr1] at this; exact this)
                have HB2 : Hid (∀ W, Calls Tryd.prog 68 #[pv qq, pv pp] W fun r w' => r = .returned (pv r2) ∧ Below W.heap.size W w') := hide (fun W => by have := beside_any qq pp W; rw [hr2] at this; exact this)
                clear hr1 hr2
                have HT0 := hide ((unhide HT1).call (Below.drew (Below.refl _ _)))
                refine wp_region_T (S := fun W => (W.cell? ⟨q, 0, none⟩ = some (.int .i64 pp.kind) ∧ W.cell? ⟨q, 1, none⟩ = some (.int .i64 pp.n) ∧ W.cell? ⟨q, 2, none⟩ = some (.string pp.text)) ∧ (W.cell? ⟨q', 0, none⟩ = some (.int .i64 qq.kind) ∧ W.cell? ⟨q', 1, none⟩ = some (.int .i64 qq.n) ∧ W.cell? ⟨q', 2, none⟩ = some (.string qq.text))) (fun i => decide (i < 14)) (by kernel_rfl) ⟨⟨((unhide HT0).box _ _ (List.mem_cons_of_mem _ (List.mem_cons_self ..))).1.cell 0, ((unhide HT0).box _ _ (List.mem_cons_of_mem _ (List.mem_cons_self ..))).1.cell 1, ((unhide HT0).box _ _ (List.mem_cons_of_mem _ (List.mem_cons_self ..))).1.cell 2⟩, ⟨((unhide HT0).box _ _ (List.mem_cons_self ..)).1.cell 0, ((unhide HT0).box _ _ (List.mem_cons_self ..)).1.cell 1, ((unhide HT0).box _ _ (List.mem_cons_self ..)).1.cell 2⟩⟩ (fun hHeld => ?_)
                clear HT1
                obtain ⟨wd, hwd⟩ : ∃ z, wq.drew = z := ⟨_, rfl⟩
                rw [hwd] at HT0 hHeld ⊢
                clear hwd
                refine tk 0 (v := u4) rfl (Or.inl ⟨by rfl, ?_⟩) hHeld ?_
                · intro w hSw
                  obtain ⟨⟨s0, s1, s2⟩, s3, s4, s5⟩ := hSw
                  first
                    | rfl
                    | (go_simp; done)
                try go_frame
                refine tk 1 (v := .agg #[.int .i64 pp.kind, .int .i64 pp.n, .string pp.text]) rfl (Or.inl ⟨by rfl, ?_⟩) hHeld ?_
                · intro w hSw
                  obtain ⟨⟨s0, s1, s2⟩, s3, s4, s5⟩ := hSw
                  first
                    | rfl
                    | (go_simp; done)
                try go_frame
                refine tk 2 (v := .agg #[.int .i64 qq.kind, .int .i64 qq.n, .string qq.text]) rfl (Or.inl ⟨by rfl, ?_⟩) hHeld ?_
                · intro w hSw
                  obtain ⟨⟨s0, s1, s2⟩, s3, s4, s5⟩ := hSw
                  first
                    | rfl
                    | (go_simp; done)
                try go_frame
                refine tk 6 (v := u5) rfl (Or.inl ⟨by rfl, ?_⟩) hHeld ?_
                · intro w hSw
                  obtain ⟨⟨s0, s1, s2⟩, s3, s4, s5⟩ := hSw
                  first
                    | rfl
                    | (go_simp; done)
                try go_frame
                refine tk 7 (v := .agg #[.int .i64 qq.kind, .int .i64 qq.n, .string qq.text]) rfl (Or.inl ⟨by rfl, ?_⟩) hHeld ?_
                · intro w hSw
                  obtain ⟨⟨s0, s1, s2⟩, s3, s4, s5⟩ := hSw
                  first
                    | rfl
                    | (go_simp; done)
                try go_frame
                refine tk 8 (v := .agg #[.int .i64 pp.kind, .int .i64 pp.n, .string pp.text]) rfl (Or.inl ⟨by rfl, ?_⟩) hHeld ?_
                · intro w hSw
                  obtain ⟨⟨s0, s1, s2⟩, s3, s4, s5⟩ := hSw
                  first
                    | rfl
                    | (go_simp; done)
                try go_frame
                refine wpAnyT_one (i := 3) (o := ztrn18) (by kernel_rfl) rfl (fun K hK => ?_)
                go_simp
                refine Calls.mono (unhide HB1 _) ?_
                rintro e wz1 ⟨rfl, hbz⟩
                have HT11 := hide ((unhide HT0).call hbz)
                clear hbz HT0
                have hSS : (wz1.cell? ⟨q, 0, none⟩ = some (.int .i64 pp.kind) ∧ wz1.cell? ⟨q, 1, none⟩ = some (.int .i64 pp.n) ∧ wz1.cell? ⟨q, 2, none⟩ = some (.string pp.text)) ∧ (wz1.cell? ⟨q', 0, none⟩ = some (.int .i64 qq.kind) ∧ wz1.cell? ⟨q', 1, none⟩ = some (.int .i64 qq.n) ∧ wz1.cell? ⟨q', 2, none⟩ = some (.string qq.text)) := ⟨⟨((unhide HT11).box _ _ (List.mem_cons_of_mem _ (List.mem_cons_self ..))).1.cell 0, ((unhide HT11).box _ _ (List.mem_cons_of_mem _ (List.mem_cons_self ..))).1.cell 1, ((unhide HT11).box _ _ (List.mem_cons_of_mem _ (List.mem_cons_self ..))).1.cell 2⟩, ⟨((unhide HT11).box _ _ (List.mem_cons_self ..)).1.cell 0, ((unhide HT11).box _ _ (List.mem_cons_self ..)).1.cell 1, ((unhide HT11).box _ _ (List.mem_cons_self ..)).1.cell 2⟩⟩
                go_wp2_with fail
                refine hK.out _ _ (fun _ => hSS) ?_
                clear hK K
                clear hSS
                try go_frame
                refine wpAnyT_one (i := 4) (o := ztrn19) (by kernel_rfl) rfl (fun K hK => ?_)
                try simp only [pv]
                go_simp
                have HT120 := hide ((unhide HT11).push r1)
                clear HT11
                obtain ⟨wz2, hwz2⟩ : ∃ z, wz1.alloc (.cells #[.int .i64 r1.kind, .int .i64 r1.n, .string r1.text] 39) = z := ⟨_, rfl⟩
                obtain ⟨qwz2, hqwz2⟩ : ∃ z, wz1.heap.size = z := ⟨_, rfl⟩
                rw [hwz2] at HT120 ⊢
                rw [hqwz2] at HT120 ⊢
                clear hwz2 hqwz2
                have hSS : (wz2.cell? ⟨q, 0, none⟩ = some (.int .i64 pp.kind) ∧ wz2.cell? ⟨q, 1, none⟩ = some (.int .i64 pp.n) ∧ wz2.cell? ⟨q, 2, none⟩ = some (.string pp.text)) ∧ (wz2.cell? ⟨q', 0, none⟩ = some (.int .i64 qq.kind) ∧ wz2.cell? ⟨q', 1, none⟩ = some (.int .i64 qq.n) ∧ wz2.cell? ⟨q', 2, none⟩ = some (.string qq.text)) := ⟨⟨((unhide HT120).box _ _ (List.mem_cons_of_mem _ (List.mem_cons_of_mem _ (List.mem_cons_self ..)))).1.cell 0, ((unhide HT120).box _ _ (List.mem_cons_of_mem _ (List.mem_cons_of_mem _ (List.mem_cons_self ..)))).1.cell 1, ((unhide HT120).box _ _ (List.mem_cons_of_mem _ (List.mem_cons_of_mem _ (List.mem_cons_self ..)))).1.cell 2⟩, ⟨((unhide HT120).box _ _ (List.mem_cons_of_mem _ (List.mem_cons_self ..))).1.cell 0, ((unhide HT120).box _ _ (List.mem_cons_of_mem _ (List.mem_cons_self ..))).1.cell 1, ((unhide HT120).box _ _ (List.mem_cons_of_mem _ (List.mem_cons_self ..))).1.cell 2⟩⟩
                refine hK.out _ _ (fun _ => hSS) ?_
                clear hK K
                clear hSS
                try go_frame
                refine wpAnyT_one (i := 5) (o := ztrn20) (by kernel_rfl) rfl (fun K hK => ?_)
                refine wp_append_part (Operand.tmp 47) (Operand.tmp 51) rfl w.heap.size u4 L1.length (ptc L1) r1 qwz2 1 rfl (unhide HT120).o1 hLn1 (unhide HT120).bel.size rfl (fun j u hu => by rw [((unhide HT120).box _ _ (List.mem_cons_self ..)).1.cell]; exact hu) (fun kk cap wz3 hv3 ho3 hk3 => ?_)
                have HT13 := hide (((unhide HT120).app1 hv3 ho3 (own_lit hk3)).unpush)
                clear hv3 ho3 hk3 HT120
                have hSS : (wz3.cell? ⟨q, 0, none⟩ = some (.int .i64 pp.kind) ∧ wz3.cell? ⟨q, 1, none⟩ = some (.int .i64 pp.n) ∧ wz3.cell? ⟨q, 2, none⟩ = some (.string pp.text)) ∧ (wz3.cell? ⟨q', 0, none⟩ = some (.int .i64 qq.kind) ∧ wz3.cell? ⟨q', 1, none⟩ = some (.int .i64 qq.n) ∧ wz3.cell? ⟨q', 2, none⟩ = some (.string qq.text)) := ⟨⟨((unhide HT13).box _ _ (List.mem_cons_of_mem _ (List.mem_cons_self ..))).1.cell 0, ((unhide HT13).box _ _ (List.mem_cons_of_mem _ (List.mem_cons_self ..))).1.cell 1, ((unhide HT13).box _ _ (List.mem_cons_of_mem _ (List.mem_cons_self ..))).1.cell 2⟩, ⟨((unhide HT13).box _ _ (List.mem_cons_self ..)).1.cell 0, ((unhide HT13).box _ _ (List.mem_cons_self ..)).1.cell 1, ((unhide HT13).box _ _ (List.mem_cons_self ..)).1.cell 2⟩⟩
                obtain ⟨v1n, hv1n⟩ : ∃ z, Value.slice (some ⟨kk, 0, none⟩) (L1.length + 1) cap = z := ⟨_, rfl⟩
                simp only [hv1n]
                rw [hv1n] at HT13
                clear hv1n
                refine hK.out _ _ (fun _ => hSS) ?_
                clear hK K
                clear hSS
                try go_frame
                refine wpAnyT_one (i := 9) (o := ztrn21) (by kernel_rfl) rfl (fun K hK => ?_)
                go_simp
                refine Calls.mono (unhide HB2 _) ?_
                rintro e wz4 ⟨rfl, hbz⟩
                have HT14 := hide ((unhide HT13).call hbz)
                clear hbz HT13
                have hSS : (wz4.cell? ⟨q, 0, none⟩ = some (.int .i64 pp.kind) ∧ wz4.cell? ⟨q, 1, none⟩ = some (.int .i64 pp.n) ∧ wz4.cell? ⟨q, 2, none⟩ = some (.string pp.text)) ∧ (wz4.cell? ⟨q', 0, none⟩ = some (.int .i64 qq.kind) ∧ wz4.cell? ⟨q', 1, none⟩ = some (.int .i64 qq.n) ∧ wz4.cell? ⟨q', 2, none⟩ = some (.string qq.text)) := ⟨⟨((unhide HT14).box _ _ (List.mem_cons_of_mem _ (List.mem_cons_self ..))).1.cell 0, ((unhide HT14).box _ _ (List.mem_cons_of_mem _ (List.mem_cons_self ..))).1.cell 1, ((unhide HT14).box _ _ (List.mem_cons_of_mem _ (List.mem_cons_self ..))).1.cell 2⟩, ⟨((unhide HT14).box _ _ (List.mem_cons_self ..)).1.cell 0, ((unhide HT14).box _ _ (List.mem_cons_self ..)).1.cell 1, ((unhide HT14).box _ _ (List.mem_cons_self ..)).1.cell 2⟩⟩
                go_wp2_with fail
                refine hK.out _ _ (fun _ => hSS) ?_
                clear hK K
                clear hSS
                try go_frame
                refine wpAnyT_one (i := 10) (o := ztrn22) (by kernel_rfl) rfl (fun K hK => ?_)
                try simp only [pv]
                go_simp
                have HT150 := hide ((unhide HT14).push r2)
                clear HT14
                obtain ⟨wz5, hwz5⟩ : ∃ z, wz4.alloc (.cells #[.int .i64 r2.kind, .int .i64 r2.n, .string r2.text] 39) = z := ⟨_, rfl⟩
                obtain ⟨qwz5, hqwz5⟩ : ∃ z, wz4.heap.size = z := ⟨_, rfl⟩
                rw [hwz5] at HT150 ⊢
                rw [hqwz5] at HT150 ⊢
                clear hwz5 hqwz5
                have hSS : (wz5.cell? ⟨q, 0, none⟩ = some (.int .i64 pp.kind) ∧ wz5.cell? ⟨q, 1, none⟩ = some (.int .i64 pp.n) ∧ wz5.cell? ⟨q, 2, none⟩ = some (.string pp.text)) ∧ (wz5.cell? ⟨q', 0, none⟩ = some (.int .i64 qq.kind) ∧ wz5.cell? ⟨q', 1, none⟩ = some (.int .i64 qq.n) ∧ wz5.cell? ⟨q', 2, none⟩ = some (.string qq.text)) := ⟨⟨((unhide HT150).box _ _ (List.mem_cons_of_mem _ (List.mem_cons_of_mem _ (List.mem_cons_self ..)))).1.cell 0, ((unhide HT150).box _ _ (List.mem_cons_of_mem _ (List.mem_cons_of_mem _ (List.mem_cons_self ..)))).1.cell 1, ((unhide HT150).box _ _ (List.mem_cons_of_mem _ (List.mem_cons_of_mem _ (List.mem_cons_self ..)))).1.cell 2⟩, ⟨((unhide HT150).box _ _ (List.mem_cons_of_mem _ (List.mem_cons_self ..))).1.cell 0, ((unhide HT150).box _ _ (List.mem_cons_of_mem _ (List.mem_cons_self ..))).1.cell 1, ((unhide HT150).box _ _ (List.mem_cons_of_mem _ (List.mem_cons_self ..))).1.cell 2⟩⟩
                refine hK.out _ _ (fun _ => hSS) ?_
                clear hK K
                clear hSS
                try go_frame
                refine wpAnyT_one (i := 11) (o := ztrn23) (by kernel_rfl) rfl (fun K hK => ?_)
                refine wp_append_part (Operand.tmp 53) (Operand.tmp 57) rfl w.heap.size u5 L2.length (ptc L2) r2 qwz5 1 rfl (unhide HT150).o2 hLn2 (unhide HT150).bel.size rfl (fun j u hu => by rw [((unhide HT150).box _ _ (List.mem_cons_self ..)).1.cell]; exact hu) (fun kk cap wz6 hv3 ho3 hk3 => ?_)
                have HT16 := hide (((unhide HT150).app2 hv3 ho3 (own_lit hk3)).unpush)
                clear hv3 ho3 hk3 HT150
                have hSS : (wz6.cell? ⟨q, 0, none⟩ = some (.int .i64 pp.kind) ∧ wz6.cell? ⟨q, 1, none⟩ = some (.int .i64 pp.n) ∧ wz6.cell? ⟨q, 2, none⟩ = some (.string pp.text)) ∧ (wz6.cell? ⟨q', 0, none⟩ = some (.int .i64 qq.kind) ∧ wz6.cell? ⟨q', 1, none⟩ = some (.int .i64 qq.n) ∧ wz6.cell? ⟨q', 2, none⟩ = some (.string qq.text)) := ⟨⟨((unhide HT16).box _ _ (List.mem_cons_of_mem _ (List.mem_cons_self ..))).1.cell 0, ((unhide HT16).box _ _ (List.mem_cons_of_mem _ (List.mem_cons_self ..))).1.cell 1, ((unhide HT16).box _ _ (List.mem_cons_of_mem _ (List.mem_cons_self ..))).1.cell 2⟩, ⟨((unhide HT16).box _ _ (List.mem_cons_self ..)).1.cell 0, ((unhide HT16).box _ _ (List.mem_cons_self ..)).1.cell 1, ((unhide HT16).box _ _ (List.mem_cons_self ..)).1.cell 2⟩⟩
                obtain ⟨v2n, hv2n⟩ : ∃ z, Value.slice (some ⟨kk, 0, none⟩) (L2.length + 1) cap = z := ⟨_, rfl⟩
                simp only [hv2n]
                rw [hv2n] at HT16
                clear hv2n
                refine hK.out _ _ (fun _ => hSS) ?_
                clear hK K
                clear hSS
                try go_frame
                have hSS : (wz6.cell? ⟨q, 0, none⟩ = some (.int .i64 pp.kind) ∧ wz6.cell? ⟨q, 1, none⟩ = some (.int .i64 pp.n) ∧ wz6.cell? ⟨q, 2, none⟩ = some (.string pp.text)) ∧ (wz6.cell? ⟨q', 0, none⟩ = some (.int .i64 qq.kind) ∧ wz6.cell? ⟨q', 1, none⟩ = some (.int .i64 qq.n) ∧ wz6.cell? ⟨q', 2, none⟩ = some (.string qq.text)) := ⟨⟨((unhide HT16).box _ _ (List.mem_cons_of_mem _ (List.mem_cons_self ..))).1.cell 0, ((unhide HT16).box _ _ (List.mem_cons_of_mem _ (List.mem_cons_self ..))).1.cell 1, ((unhide HT16).box _ _ (List.mem_cons_of_mem _ (List.mem_cons_self ..))).1.cell 2⟩, ⟨((unhide HT16).box _ _ (List.mem_cons_self ..)).1.cell 0, ((unhide HT16).box _ _ (List.mem_cons_self ..)).1.cell 1, ((unhide HT16).box _ _ (List.mem_cons_self ..)).1.cell 2⟩⟩
                refine tk 12 (v := v1n) rfl (Or.inl ⟨by rfl, ?_⟩) hSS ?_
                · intro w hSw
                  obtain ⟨⟨s0, s1, s2⟩, s3, s4, s5⟩ := hSw
                  first
                    | rfl
                    | (go_simp; done)
                try go_frame
                refine tk 13 (v := v2n) rfl (Or.inl ⟨by rfl, ?_⟩) hSS ?_
                · intro w hSw
                  obtain ⟨⟨s0, s1, s2⟩, s3, s4, s5⟩ := hSw
                  first
                    | rfl
                    | (go_simp; done)
                try go_frame
                refine wpAnyT_done (by kernel_rfl) ?_ _
                have HT3 := hide (unhide HT16).pop
                clear HT16 hSS hHeld
                go_wp2_with fail
                go_roundg (la'.length + lb'.length)
                case measure => rw [unhide HGK]; exact (unhide HIB).2
                case rel => exact ⟨la', lb', L1 ++ [r1], L2 ++ [r2], (by rfl), HT3, hide (unhide HIB).1⟩
          · have HKf : Hid (Calls Tryd.prog 64 #[.pointer (some ⟨g1, 0, none⟩)] wr fun r w' => r = .returned (.int .i64 2) ∧ wr = w') := hide (by have h := unhide HKf; rw [List.headD_cons, k1] at h; exact h)
            have HK1 := hide k1
            clear k1 gd1
            go_wp2_with fail
            refine Calls.mono (unhide HKf) ?_
            rintro r wk ⟨rfl, rfl⟩
            go_wp2_with fail
            refine Calls.mono (unhide HKf) ?_
            rintro r wk ⟨rfl, rfl⟩
            go_wp2_with fail
            refine Calls.mono (whole_any (unhide HT_).f1 ((unhide HU).call (unhide HT_).bel)) ?_
            rintro r w1 ⟨rfl, hf1, ho1⟩
            have HT1 := hide (((unhide HT_).one hf1 ho1).push h1)
            clear hf1 ho1 HT_
            unfold pv
            go_wp2_with fail
            obtain ⟨q, hq⟩ : ∃ z, w1.heap.size = z := ⟨_, rfl⟩
            obtain ⟨wq, hwq⟩ : ∃ z, w1.alloc (.cells #[.int .i64 h1.kind, .int .i64 h1.n, .string h1.text] 39) = z := ⟨_, rfl⟩
            rw [hwq] at HT1 ⊢
            rw [hq] at HT1 ⊢
            clear hq hwq
            obtain ⟨kp, hkp⟩ : ∃ z : Pt, (⟨1, h1.n, ByteArray.empty⟩ : Pt) = z := ⟨_, rfl⟩
            have HKP : Hid (∀ W, Calls Tryd.prog 66 #[.int .i64 h1.n] W fun r w' => r = .returned (pv kp) ∧ Below W.heap.size W w') := hide (fun W => by have := keep_any h1.n W; rw [hkp] at this; exact this)
            have HKE := hide hkp
            clear hkp
            have HT0 := hide ((unhide HT1).call (Below.drew (Below.refl _ _)))
            refine wp_region_T (S := fun W => (W.cell? ⟨q, 0, none⟩ = some (.int .i64 h1.kind) ∧ W.cell? ⟨q, 1, none⟩ = some (.int .i64 h1.n) ∧ W.cell? ⟨q, 2, none⟩ = some (.string h1.text))) (fun i => decide (i < 12)) (by kernel_rfl) ⟨((unhide HT0).box _ _ (List.mem_cons_self ..)).1.cell 0, ((unhide HT0).box _ _ (List.mem_cons_self ..)).1.cell 1, ((unhide HT0).box _ _ (List.mem_cons_self ..)).1.cell 2⟩ (fun hHeld => ?_)
            clear HT1
            obtain ⟨wd, hwd⟩ : ∃ z, wq.drew = z := ⟨_, rfl⟩
            rw [hwd] at HT0 hHeld ⊢
            clear hwd
            refine tk 0 (v := u4) rfl (Or.inl ⟨by rfl, ?_⟩) hHeld ?_
            · intro w hSw
              obtain ⟨s0, s1, s2⟩ := hSw
              first
                | rfl
                | (go_simp; done)
            try go_frame
            refine tk 1 (v := .agg #[.int .i64 h1.kind, .int .i64 h1.n, .string h1.text]) rfl (Or.inl ⟨by rfl, ?_⟩) hHeld ?_
            · intro w hSw
              obtain ⟨s0, s1, s2⟩ := hSw
              first
                | rfl
                | (go_simp; done)
            try go_frame
            refine tk 4 (v := u5) rfl (Or.inl ⟨by rfl, ?_⟩) hHeld ?_
            · intro w hSw
              obtain ⟨s0, s1, s2⟩ := hSw
              first
                | rfl
                | (go_simp; done)
            try go_frame
            refine tk 5 (v := .pointer (some ⟨q, 1, none⟩)) rfl (Or.inl ⟨by rfl, ?_⟩) hHeld ?_
            · intro w hSw
              obtain ⟨s0, s1, s2⟩ := hSw
              first
                | rfl
                | (go_simp; done)
            try go_frame
            refine tk 6 (v := .int .i64 h1.n) rfl (Or.inl ⟨by rfl, ?_⟩) hHeld ?_
            · intro w hSw
              obtain ⟨s0, s1, s2⟩ := hSw
              first
                | rfl
                | (go_simp; done)
            try go_frame
            refine wpAnyT_one (i := 2) (o := { dst := some 67, op := Op.buildSlice 24 1 #[(0, Operand.tmp 66)], type := 24, pos := "pair.go:92", after := #[{ on := 1, ground := Ground.data }], guard := none }) (by kernel_rfl) rfl (fun K hK => ?_)
            try simp only [pv]
            go_simp
            have HT110 := hide ((unhide HT0).push h1)
            clear HT0
            obtain ⟨wz1, hwz1⟩ : ∃ z, wd.alloc (.cells #[.int .i64 h1.kind, .int .i64 h1.n, .string h1.text] 39) = z := ⟨_, rfl⟩
            obtain ⟨qwz1, hqwz1⟩ : ∃ z, wd.heap.size = z := ⟨_, rfl⟩
            rw [hwz1] at HT110 ⊢
            rw [hqwz1] at HT110 ⊢
            clear hwz1 hqwz1
            have hSS := bx3 ((unhide HT110).box _ _ (List.mem_cons_of_mem _ (List.mem_cons_self ..))).1
            refine hK.out _ _ (fun _ => hSS) ?_
            clear hK K
            clear hSS
            try go_frame
            refine wpAnyT_one (i := 3) (o := { dst := some 68, op := Op.call { callee := Callee.builtin Builtin.append, args := #[Operand.tmp 65, Operand.tmp 67], argTypes := #[24, 24] }, type := 24, pos := "pair.go:92", after := #[{ on := 0, ground := Ground.data }, { on := 2, ground := Ground.data }], guard := none }) (by kernel_rfl) rfl (fun K hK => ?_)
            refine wp_append_part (Operand.tmp 65) (Operand.tmp 67) rfl w.heap.size u4 L1.length (ptc L1) h1 qwz1 1 rfl (unhide HT110).o1 hLn1 (unhide HT110).bel.size rfl (fun j u hu => by rw [((unhide HT110).box _ _ (List.mem_cons_self ..)).1.cell]; exact hu) (fun kk cap wz2 hv3 ho3 hk3 => ?_)
            have HT12 := hide (((unhide HT110).app1 hv3 ho3 (own_lit hk3)).unpush)
            clear hv3 ho3 hk3 HT110
            have hSS := bx3 ((unhide HT12).box _ _ (List.mem_cons_self ..)).1
            obtain ⟨v1n, hv1n⟩ : ∃ z, Value.slice (some ⟨kk, 0, none⟩) (L1.length + 1) cap = z := ⟨_, rfl⟩
            simp only [hv1n]
            rw [hv1n] at HT12
            clear hv1n
            refine hK.out _ _ (fun _ => hSS) ?_
            clear hK K
            clear hSS
            try go_frame
            refine wpAnyT_one (i := 7) (o := { dst := some 72, op := Op.call { callee := Callee.value (Operand.func 66), args := #[Operand.tmp 71], argTypes := #[3] }, type := 39, pos := "pair.go:92", after := #[{ on := 6, ground := Ground.data }, { on := 3, ground := Ground.chain }], guard := none }) (by kernel_rfl) rfl (fun K hK => ?_)
            go_simp
            refine Calls.mono (unhide HKP _) ?_
            rintro e wz3 ⟨rfl, hbz⟩
            have HT13 := hide ((unhide HT12).call hbz)
            clear hbz HT12
            have hSS := bx3 ((unhide HT13).box _ _ (List.mem_cons_self ..)).1
            go_wp2_with fail
            refine hK.out _ _ (fun _ => hSS) ?_
            clear hK K
            clear hSS
            try go_frame
            refine wpAnyT_one (i := 8) (o := { dst := some 73, op := Op.buildSlice 24 1 #[(0, Operand.tmp 72)], type := 24, pos := "pair.go:92", after := #[{ on := 7, ground := Ground.data }], guard := none }) (by kernel_rfl) rfl (fun K hK => ?_)
            try simp only [pv]
            go_simp
            have HT140 := hide ((unhide HT13).push kp)
            clear HT13
            obtain ⟨wz4, hwz4⟩ : ∃ z, wz3.alloc (.cells #[.int .i64 kp.kind, .int .i64 kp.n, .string kp.text] 39) = z := ⟨_, rfl⟩
            obtain ⟨qwz4, hqwz4⟩ : ∃ z, wz3.heap.size = z := ⟨_, rfl⟩
            rw [hwz4] at HT140 ⊢
            rw [hqwz4] at HT140 ⊢
            clear hwz4 hqwz4
            have hSS := bx3 ((unhide HT140).box _ _ (List.mem_cons_of_mem _ (List.mem_cons_self ..))).1
            refine hK.out _ _ (fun _ => hSS) ?_
            clear hK K
            clear hSS
            try go_frame
            refine wpAnyT_one (i := 9) (o := { dst := some 74, op := Op.call { callee := Callee.builtin Builtin.append, args := #[Operand.tmp 69, Operand.tmp 73], argTypes := #[24, 24] }, type := 24, pos := "pair.go:92", after := #[{ on := 4, ground := Ground.data }, { on := 8, ground := Ground.data }, { on := 7, ground := Ground.chain }], guard := none }) (by kernel_rfl) rfl (fun K hK => ?_)
            refine wp_append_part (Operand.tmp 69) (Operand.tmp 73) rfl w.heap.size u5 L2.length (ptc L2) kp qwz4 1 rfl (unhide HT140).o2 hLn2 (unhide HT140).bel.size rfl (fun j u hu => by rw [((unhide HT140).box _ _ (List.mem_cons_self ..)).1.cell]; exact hu) (fun kk cap wz5 hv3 ho3 hk3 => ?_)
            have HT15 := hide (((unhide HT140).app2 hv3 ho3 (own_lit hk3)).unpush)
            clear hv3 ho3 hk3 HT140
            have hSS := bx3 ((unhide HT15).box _ _ (List.mem_cons_self ..)).1
            obtain ⟨v2n, hv2n⟩ : ∃ z, Value.slice (some ⟨kk, 0, none⟩) (L2.length + 1) cap = z := ⟨_, rfl⟩
            simp only [hv2n]
            rw [hv2n] at HT15
            clear hv2n
            refine hK.out _ _ (fun _ => hSS) ?_
            clear hK K
            clear hSS
            try go_frame
            have hSS := bx3 ((unhide HT15).box _ _ (List.mem_cons_self ..)).1
            refine tk 10 (v := v1n) rfl (Or.inl ⟨by rfl, ?_⟩) hSS ?_
            · intro w hSw
              obtain ⟨s0, s1, s2⟩ := hSw
              first
                | rfl
                | (go_simp; done)
            try go_frame
            refine tk 11 (v := v2n) rfl (Or.inl ⟨by rfl, ?_⟩) hSS ?_
            · intro w hSw
              obtain ⟨s0, s1, s2⟩ := hSw
              first
                | rfl
                | (go_simp; done)
            try go_frame
            refine wpAnyT_done (by kernel_rfl) ?_ _
            have HT3 := hide (unhide HT15).pop
            clear HT15 hSS hHeld
            go_wp2_with fail
            go_roundg (lf'.length + lg.length)
            case measure => rw [unhide HGK]; simp only [List.length_cons]; omega
            case rel => exact ⟨lf', lg, L1 ++ [h1], L2 ++ [kp], (by rfl), HT3, hide (by rw [← unhide HKE]; exact (unhide HI).putf (unhide HG1) (unhide HK1))⟩
          · have HKf : Hid (Calls Tryd.prog 64 #[.pointer (some ⟨g1, 0, none⟩)] wr fun r w' => r = .returned (.int .i64 3) ∧ wr = w') := hide (by have h := unhide HKf; rw [List.headD_cons, k1] at h; exact h)
            have hnd : ∀ x, NotP (atoms h1 ++ x) := gd1.1.notp (by omega)
            have HK1 : Hid (h1.kind = 1 ∨ h1.kind = 3) := hide (by omega)
            have hk1v := k1
            clear k1
            rcases head_kind (unhide HT_).f2.good with ⟨e2, _⟩ | ⟨h2, lg', e2, gd2, k2⟩
            · exfalso
              subst e2
              have hs := (unhide HI).sz
              have hc := gd1.1.counts.1
              rw [atomsL, atomsL, At.from_app] at hs
              have hn := gd1.1.1
              rw [if_neg (by omega)] at hc
              simp [At.fromN] at hs
              omega
            · subst e2
              have HG2 := hide gd2
              have HND : Hid (NotP (atomsL (h1 :: lf'))) := hide (hnd _)
              clear hnd hk1v gd1
              rcases k2 with k2 | k2 | k2
              · have HKg : Hid (Calls Tryd.prog 64 #[.pointer (some ⟨g2, 0, none⟩)] wr fun r w' => r = .returned (.int .i64 1) ∧ wr = w') := hide (by have h := unhide HKg; rw [List.headD_cons, k2] at h; exact h)
                have HK2 : Hid (h2.kind = 1 ∨ h2.kind = 3) := hide (by omega)
                clear k2 gd2
                go_wp2_with fail
                refine Calls.mono (unhide HKf) ?_
                rintro r wk ⟨rfl, rfl⟩
                go_wp2_with fail
                refine Calls.mono (unhide HKf) ?_
                rintro r wk ⟨rfl, rfl⟩
                go_wp2_with fail
                refine Calls.mono (unhide HKg) ?_
                rintro r wk ⟨rfl, rfl⟩
                go_wp2_with fail
                refine Calls.mono (both_any (unhide HT_).f1 (unhide HT_).f2 (unhide HT_).ne (unhide HT_).h1 (unhide HT_).h2 (unhide HT_).hB (unhide HU) (unhide HT_).bel) ?_
                rintro r w1 ⟨pp, qq, la', lb', rfl, hpp, hqq, hfa, hfb, ho1⟩
                have HT1 := hide ((((unhide HT_).both hfa hfb ho1).push pp).push qq)
                have HIB := hide ((unhide HI).both hpp hqq (unhide HK1) (unhide HK2) (unhide HG1).1.1 (unhide HG2).1.1)
                clear hpp hqq hfa hfb ho1 HT_
                unfold pv
                rw [size_alloc] at HT1
                go_wp2_with fail
                obtain ⟨q, hq⟩ : ∃ z, w1.heap.size = z := ⟨_, rfl⟩
                obtain ⟨q', hq'⟩ : ∃ z, w1.heap.size + 1 = z := ⟨_, rfl⟩
                obtain ⟨wq, hwq⟩ : ∃ z, (w1.alloc (.cells #[.int .i64 pp.kind, .int .i64 pp.n, .string pp.text] 39)).alloc (.cells #[.int .i64 qq.kind, .int .i64 qq.n, .string qq.text] 39) = z := ⟨_, rfl⟩
                rw [hwq] at HT1 ⊢
                rw [hq'] at HT1 ⊢
                rw [hq] at HT1 ⊢
                clear hq hq' hwq
                obtain ⟨r1, hr1⟩ : ∃ z, (if qq.kind = 3 then noPt else pp) = z := ⟨_, rfl⟩
                obtain ⟨r2, hr2⟩ : ∃ z, (if pp.kind = 3 then noPt else qq) = z := ⟨_, rfl⟩
                rw [hr1, hr2] at HIB
                have HB1 : Hid (∀ W, Calls Tryd.prog 68 #[pv pp, pv qq] W fun r w' => r = .returned (pv r1) ∧ Below W.heap.size W w') := hide (fun W => by have := beside_any pp qq W; rw [hr1] at this; exact this)
                have HB2 : Hid (∀ W, Calls Tryd.prog 68 #[pv qq, pv pp] W fun r w' => r = .returned (pv r2) ∧ Below W.heap.size W w') := hide (fun W => by have := beside_any qq pp W; rw [hr2] at this; exact this)
                clear hr1 hr2
                have HT0 := hide ((unhide HT1).call (Below.drew (Below.refl _ _)))
                refine wp_region_T (S := fun W => (W.cell? ⟨q, 0, none⟩ = some (.int .i64 pp.kind) ∧ W.cell? ⟨q, 1, none⟩ = some (.int .i64 pp.n) ∧ W.cell? ⟨q, 2, none⟩ = some (.string pp.text)) ∧ (W.cell? ⟨q', 0, none⟩ = some (.int .i64 qq.kind) ∧ W.cell? ⟨q', 1, none⟩ = some (.int .i64 qq.n) ∧ W.cell? ⟨q', 2, none⟩ = some (.string qq.text))) (fun i => decide (i < 14)) (by kernel_rfl) ⟨⟨((unhide HT0).box _ _ (List.mem_cons_of_mem _ (List.mem_cons_self ..))).1.cell 0, ((unhide HT0).box _ _ (List.mem_cons_of_mem _ (List.mem_cons_self ..))).1.cell 1, ((unhide HT0).box _ _ (List.mem_cons_of_mem _ (List.mem_cons_self ..))).1.cell 2⟩, ⟨((unhide HT0).box _ _ (List.mem_cons_self ..)).1.cell 0, ((unhide HT0).box _ _ (List.mem_cons_self ..)).1.cell 1, ((unhide HT0).box _ _ (List.mem_cons_self ..)).1.cell 2⟩⟩ (fun hHeld => ?_)
                clear HT1
                obtain ⟨wd, hwd⟩ : ∃ z, wq.drew = z := ⟨_, rfl⟩
                rw [hwd] at HT0 hHeld ⊢
                clear hwd
                refine tk 0 (v := u4) rfl (Or.inl ⟨by rfl, ?_⟩) hHeld ?_
                · intro w hSw
                  obtain ⟨⟨s0, s1, s2⟩, s3, s4, s5⟩ := hSw
                  first
                    | rfl
                    | (go_simp; done)
                try go_frame
                refine tk 1 (v := .agg #[.int .i64 pp.kind, .int .i64 pp.n, .string pp.text]) rfl (Or.inl ⟨by rfl, ?_⟩) hHeld ?_
                · intro w hSw
                  obtain ⟨⟨s0, s1, s2⟩, s3, s4, s5⟩ := hSw
                  first
                    | rfl
                    | (go_simp; done)
                try go_frame
                refine tk 2 (v := .agg #[.int .i64 qq.kind, .int .i64 qq.n, .string qq.text]) rfl (Or.inl ⟨by rfl, ?_⟩) hHeld ?_
                · intro w hSw
                  obtain ⟨⟨s0, s1, s2⟩, s3, s4, s5⟩ := hSw
                  first
                    | rfl
                    | (go_simp; done)
                try go_frame
                refine tk 6 (v := u5) rfl (Or.inl ⟨by rfl, ?_⟩) hHeld ?_
                · intro w hSw
                  obtain ⟨⟨s0, s1, s2⟩, s3, s4, s5⟩ := hSw
                  first
                    | rfl
                    | (go_simp; done)
                try go_frame
                refine tk 7 (v := .agg #[.int .i64 qq.kind, .int .i64 qq.n, .string qq.text]) rfl (Or.inl ⟨by rfl, ?_⟩) hHeld ?_
                · intro w hSw
                  obtain ⟨⟨s0, s1, s2⟩, s3, s4, s5⟩ := hSw
                  first
                    | rfl
                    | (go_simp; done)
                try go_frame
                refine tk 8 (v := .agg #[.int .i64 pp.kind, .int .i64 pp.n, .string pp.text]) rfl (Or.inl ⟨by rfl, ?_⟩) hHeld ?_
                · intro w hSw
                  obtain ⟨⟨s0, s1, s2⟩, s3, s4, s5⟩ := hSw
                  first
                    | rfl
                    | (go_simp; done)
                try go_frame
                refine wpAnyT_one (i := 3) (o := ztrn18) (by kernel_rfl) rfl (fun K hK => ?_)
                go_simp
                refine Calls.mono (unhide HB1 _) ?_
                rintro e wz1 ⟨rfl, hbz⟩
                have HT11 := hide ((unhide HT0).call hbz)
                clear hbz HT0
                have hSS : (wz1.cell? ⟨q, 0, none⟩ = some (.int .i64 pp.kind) ∧ wz1.cell? ⟨q, 1, none⟩ = some (.int .i64 pp.n) ∧ wz1.cell? ⟨q, 2, none⟩ = some (.string pp.text)) ∧ (wz1.cell? ⟨q', 0, none⟩ = some (.int .i64 qq.kind) ∧ wz1.cell? ⟨q', 1, none⟩ = some (.int .i64 qq.n) ∧ wz1.cell? ⟨q', 2, none⟩ = some (.string qq.text)) := ⟨⟨((unhide HT11).box _ _ (List.mem_cons_of_mem _ (List.mem_cons_self ..))).1.cell 0, ((unhide HT11).box _ _ (List.mem_cons_of_mem _ (List.mem_cons_self ..))).1.cell 1, ((unhide HT11).box _ _ (List.mem_cons_of_mem _ (List.mem_cons_self ..))).1.cell 2⟩, ⟨((unhide HT11).box _ _ (List.mem_cons_self ..)).1.cell 0, ((unhide HT11).box _ _ (List.mem_cons_self ..)).1.cell 1, ((unhide HT11).box _ _ (List.mem_cons_self ..)).1.cell 2⟩⟩
                go_wp2_with fail
                refine hK.out _ _ (fun _ => hSS) ?_
                clear hK K
                clear hSS
                try go_frame
                refine wpAnyT_one (i := 4) (o := ztrn19) (by kernel_rfl) rfl (fun K hK => ?_)
                try simp only [pv]
                go_simp
                have HT120 := hide ((unhide HT11).push r1)
                clear HT11
                obtain ⟨wz2, hwz2⟩ : ∃ z, wz1.alloc (.cells #[.int .i64 r1.kind, .int .i64 r1.n, .string r1.text] 39) = z := ⟨_, rfl⟩
                obtain ⟨qwz2, hqwz2⟩ : ∃ z, wz1.heap.size = z := ⟨_, rfl⟩
                rw [hwz2] at HT120 ⊢
                rw [hqwz2] at HT120 ⊢
                clear hwz2 hqwz2
                have hSS : (wz2.cell? ⟨q, 0, none⟩ = some (.int .i64 pp.kind) ∧ wz2.cell? ⟨q, 1, none⟩ = some (.int .i64 pp.n) ∧ wz2.cell? ⟨q, 2, none⟩ = some (.string pp.text)) ∧ (wz2.cell? ⟨q', 0, none⟩ = some (.int .i64 qq.kind) ∧ wz2.cell? ⟨q', 1, none⟩ = some (.int .i64 qq.n) ∧ wz2.cell? ⟨q', 2, none⟩ = some (.string qq.text)) := ⟨⟨((unhide HT120).box _ _ (List.mem_cons_of_mem _ (List.mem_cons_of_mem _ (List.mem_cons_self ..)))).1.cell 0, ((unhide HT120).box _ _ (List.mem_cons_of_mem _ (List.mem_cons_of_mem _ (List.mem_cons_self ..)))).1.cell 1, ((unhide HT120).box _ _ (List.mem_cons_of_mem _ (List.mem_cons_of_mem _ (List.mem_cons_self ..)))).1.cell 2⟩, ⟨((unhide HT120).box _ _ (List.mem_cons_of_mem _ (List.mem_cons_self ..))).1.cell 0, ((unhide HT120).box _ _ (List.mem_cons_of_mem _ (List.mem_cons_self ..))).1.cell 1, ((unhide HT120).box _ _ (List.mem_cons_of_mem _ (List.mem_cons_self ..))).1.cell 2⟩⟩
                refine hK.out _ _ (fun _ => hSS) ?_
                clear hK K
                clear hSS
                try go_frame
                refine wpAnyT_one (i := 5) (o := ztrn20) (by kernel_rfl) rfl (fun K hK => ?_)
                refine wp_append_part (Operand.tmp 47) (Operand.tmp 51) rfl w.heap.size u4 L1.length (ptc L1) r1 qwz2 1 rfl (unhide HT120).o1 hLn1 (unhide HT120).bel.size rfl (fun j u hu => by rw [((unhide HT120).box _ _ (List.mem_cons_self ..)).1.cell]; exact hu) (fun kk cap wz3 hv3 ho3 hk3 => ?_)
                have HT13 := hide (((unhide HT120).app1 hv3 ho3 (own_lit hk3)).unpush)
                clear hv3 ho3 hk3 HT120
                have hSS : (wz3.cell? ⟨q, 0, none⟩ = some (.int .i64 pp.kind) ∧ wz3.cell? ⟨q, 1, none⟩ = some (.int .i64 pp.n) ∧ wz3.cell? ⟨q, 2, none⟩ = some (.string pp.text)) ∧ (wz3.cell? ⟨q', 0, none⟩ = some (.int .i64 qq.kind) ∧ wz3.cell? ⟨q', 1, none⟩ = some (.int .i64 qq.n) ∧ wz3.cell? ⟨q', 2, none⟩ = some (.string qq.text)) := ⟨⟨((unhide HT13).box _ _ (List.mem_cons_of_mem _ (List.mem_cons_self ..))).1.cell 0, ((unhide HT13).box _ _ (List.mem_cons_of_mem _ (List.mem_cons_self ..))).1.cell 1, ((unhide HT13).box _ _ (List.mem_cons_of_mem _ (List.mem_cons_self ..))).1.cell 2⟩, ⟨((unhide HT13).box _ _ (List.mem_cons_self ..)).1.cell 0, ((unhide HT13).box _ _ (List.mem_cons_self ..)).1.cell 1, ((unhide HT13).box _ _ (List.mem_cons_self ..)).1.cell 2⟩⟩
                obtain ⟨v1n, hv1n⟩ : ∃ z, Value.slice (some ⟨kk, 0, none⟩) (L1.length + 1) cap = z := ⟨_, rfl⟩
                simp only [hv1n]
                rw [hv1n] at HT13
                clear hv1n
                refine hK.out _ _ (fun _ => hSS) ?_
                clear hK K
                clear hSS
                try go_frame
                refine wpAnyT_one (i := 9) (o := ztrn21) (by kernel_rfl) rfl (fun K hK => ?_)
                go_simp
                refine Calls.mono (unhide HB2 _) ?_
                rintro e wz4 ⟨rfl, hbz⟩
                have HT14 := hide ((unhide HT13).call hbz)
                clear hbz HT13
                have hSS : (wz4.cell? ⟨q, 0, none⟩ = some (.int .i64 pp.kind) ∧ wz4.cell? ⟨q, 1, none⟩ = some (.int .i64 pp.n) ∧ wz4.cell? ⟨q, 2, none⟩ = some (.string pp.text)) ∧ (wz4.cell? ⟨q', 0, none⟩ = some (.int .i64 qq.kind) ∧ wz4.cell? ⟨q', 1, none⟩ = some (.int .i64 qq.n) ∧ wz4.cell? ⟨q', 2, none⟩ = some (.string qq.text)) := ⟨⟨((unhide HT14).box _ _ (List.mem_cons_of_mem _ (List.mem_cons_self ..))).1.cell 0, ((unhide HT14).box _ _ (List.mem_cons_of_mem _ (List.mem_cons_self ..))).1.cell 1, ((unhide HT14).box _ _ (List.mem_cons_of_mem _ (List.mem_cons_self ..))).1.cell 2⟩, ⟨((unhide HT14).box _ _ (List.mem_cons_self ..)).1.cell 0, ((unhide HT14).box _ _ (List.mem_cons_self ..)).1.cell 1, ((unhide HT14).box _ _ (List.mem_cons_self ..)).1.cell 2⟩⟩
                go_wp2_with fail
                refine hK.out _ _ (fun _ => hSS) ?_
                clear hK K
                clear hSS
                try go_frame
                refine wpAnyT_one (i := 10) (o := ztrn22) (by kernel_rfl) rfl (fun K hK => ?_)
                try simp only [pv]
                go_simp
                have HT150 := hide ((unhide HT14).push r2)
                clear HT14
                obtain ⟨wz5, hwz5⟩ : ∃ z, wz4.alloc (.cells #[.int .i64 r2.kind, .int .i64 r2.n, .string r2.text] 39) = z := ⟨_, rfl⟩
                obtain ⟨qwz5, hqwz5⟩ : ∃ z, wz4.heap.size = z := ⟨_, rfl⟩
                rw [hwz5] at HT150 ⊢
                rw [hqwz5] at HT150 ⊢
                clear hwz5 hqwz5
                have hSS : (wz5.cell? ⟨q, 0, none⟩ = some (.int .i64 pp.kind) ∧ wz5.cell? ⟨q, 1, none⟩ = some (.int .i64 pp.n) ∧ wz5.cell? ⟨q, 2, none⟩ = some (.string pp.text)) ∧ (wz5.cell? ⟨q', 0, none⟩ = some (.int .i64 qq.kind) ∧ wz5.cell? ⟨q', 1, none⟩ = some (.int .i64 qq.n) ∧ wz5.cell? ⟨q', 2, none⟩ = some (.string qq.text)) := ⟨⟨((unhide HT150).box _ _ (List.mem_cons_of_mem _ (List.mem_cons_of_mem _ (List.mem_cons_self ..)))).1.cell 0, ((unhide HT150).box _ _ (List.mem_cons_of_mem _ (List.mem_cons_of_mem _ (List.mem_cons_self ..)))).1.cell 1, ((unhide HT150).box _ _ (List.mem_cons_of_mem _ (List.mem_cons_of_mem _ (List.mem_cons_self ..)))).1.cell 2⟩, ⟨((unhide HT150).box _ _ (List.mem_cons_of_mem _ (List.mem_cons_self ..))).1.cell 0, ((unhide HT150).box _ _ (List.mem_cons_of_mem _ (List.mem_cons_self ..))).1.cell 1, ((unhide HT150).box _ _ (List.mem_cons_of_mem _ (List.mem_cons_self ..))).1.cell 2⟩⟩
                refine hK.out _ _ (fun _ => hSS) ?_
                clear hK K
                clear hSS
                try go_frame
                refine wpAnyT_one (i := 11) (o := ztrn23) (by kernel_rfl) rfl (fun K hK => ?_)
                refine wp_append_part (Operand.tmp 53) (Operand.tmp 57) rfl w.heap.size u5 L2.length (ptc L2) r2 qwz5 1 rfl (unhide HT150).o2 hLn2 (unhide HT150).bel.size rfl (fun j u hu => by rw [((unhide HT150).box _ _ (List.mem_cons_self ..)).1.cell]; exact hu) (fun kk cap wz6 hv3 ho3 hk3 => ?_)
                have HT16 := hide (((unhide HT150).app2 hv3 ho3 (own_lit hk3)).unpush)
                clear hv3 ho3 hk3 HT150
                have hSS : (wz6.cell? ⟨q, 0, none⟩ = some (.int .i64 pp.kind) ∧ wz6.cell? ⟨q, 1, none⟩ = some (.int .i64 pp.n) ∧ wz6.cell? ⟨q, 2, none⟩ = some (.string pp.text)) ∧ (wz6.cell? ⟨q', 0, none⟩ = some (.int .i64 qq.kind) ∧ wz6.cell? ⟨q', 1, none⟩ = some (.int .i64 qq.n) ∧ wz6.cell? ⟨q', 2, none⟩ = some (.string qq.text)) := ⟨⟨((unhide HT16).box _ _ (List.mem_cons_of_mem _ (List.mem_cons_self ..))).1.cell 0, ((unhide HT16).box _ _ (List.mem_cons_of_mem _ (List.mem_cons_self ..))).1.cell 1, ((unhide HT16).box _ _ (List.mem_cons_of_mem _ (List.mem_cons_self ..))).1.cell 2⟩, ⟨((unhide HT16).box _ _ (List.mem_cons_self ..)).1.cell 0, ((unhide HT16).box _ _ (List.mem_cons_self ..)).1.cell 1, ((unhide HT16).box _ _ (List.mem_cons_self ..)).1.cell 2⟩⟩
                obtain ⟨v2n, hv2n⟩ : ∃ z, Value.slice (some ⟨kk, 0, none⟩) (L2.length + 1) cap = z := ⟨_, rfl⟩
                simp only [hv2n]
                rw [hv2n] at HT16
                clear hv2n
                refine hK.out _ _ (fun _ => hSS) ?_
                clear hK K
                clear hSS
                try go_frame
                have hSS : (wz6.cell? ⟨q, 0, none⟩ = some (.int .i64 pp.kind) ∧ wz6.cell? ⟨q, 1, none⟩ = some (.int .i64 pp.n) ∧ wz6.cell? ⟨q, 2, none⟩ = some (.string pp.text)) ∧ (wz6.cell? ⟨q', 0, none⟩ = some (.int .i64 qq.kind) ∧ wz6.cell? ⟨q', 1, none⟩ = some (.int .i64 qq.n) ∧ wz6.cell? ⟨q', 2, none⟩ = some (.string qq.text)) := ⟨⟨((unhide HT16).box _ _ (List.mem_cons_of_mem _ (List.mem_cons_self ..))).1.cell 0, ((unhide HT16).box _ _ (List.mem_cons_of_mem _ (List.mem_cons_self ..))).1.cell 1, ((unhide HT16).box _ _ (List.mem_cons_of_mem _ (List.mem_cons_self ..))).1.cell 2⟩, ⟨((unhide HT16).box _ _ (List.mem_cons_self ..)).1.cell 0, ((unhide HT16).box _ _ (List.mem_cons_self ..)).1.cell 1, ((unhide HT16).box _ _ (List.mem_cons_self ..)).1.cell 2⟩⟩
                refine tk 12 (v := v1n) rfl (Or.inl ⟨by rfl, ?_⟩) hSS ?_
                · intro w hSw
                  obtain ⟨⟨s0, s1, s2⟩, s3, s4, s5⟩ := hSw
                  first
                    | rfl
                    | (go_simp; done)
                try go_frame
                refine tk 13 (v := v2n) rfl (Or.inl ⟨by rfl, ?_⟩) hSS ?_
                · intro w hSw
                  obtain ⟨⟨s0, s1, s2⟩, s3, s4, s5⟩ := hSw
                  first
                    | rfl
                    | (go_simp; done)
                try go_frame
                refine wpAnyT_done (by kernel_rfl) ?_ _
                have HT3 := hide (unhide HT16).pop
                clear HT16 hSS hHeld
                go_wp2_with fail
                go_roundg (la'.length + lb'.length)
                case measure => rw [unhide HGK]; exact (unhide HIB).2
                case rel => exact ⟨la', lb', L1 ++ [r1], L2 ++ [r2], (by rfl), HT3, hide (unhide HIB).1⟩
              · have HKg : Hid (Calls Tryd.prog 64 #[.pointer (some ⟨g2, 0, none⟩)] wr fun r w' => r = .returned (.int .i64 2) ∧ wr = w') := hide (by have h := unhide HKg; rw [List.headD_cons, k2] at h; exact h)
                have HK2 := hide k2
                clear k2 gd2
                go_wp2_with fail
                refine Calls.mono (unhide HKf) ?_
                rintro r wk ⟨rfl, rfl⟩
                go_wp2_with fail
                refine Calls.mono (unhide HKf) ?_
                rintro r wk ⟨rfl, rfl⟩
                go_wp2_with fail
                refine Calls.mono (unhide HKg) ?_
                rintro r wk ⟨rfl, rfl⟩
                go_wp2_with fail
                refine Calls.mono (whole_any (unhide HT_).f2 ((unhide HU).call (unhide HT_).bel)) ?_
                rintro r w1 ⟨rfl, hf1, ho1⟩
                have HT1 := hide (((unhide HT_).two hf1 ho1).push h2)
                clear hf1 ho1 HT_
                unfold pv
                go_wp2_with fail
                obtain ⟨q, hq⟩ : ∃ z, w1.heap.size = z := ⟨_, rfl⟩
                obtain ⟨wq, hwq⟩ : ∃ z, w1.alloc (.cells #[.int .i64 h2.kind, .int .i64 h2.n, .string h2.text] 39) = z := ⟨_, rfl⟩
                rw [hwq] at HT1 ⊢
                rw [hq] at HT1 ⊢
                clear hq hwq
                obtain ⟨kp, hkp⟩ : ∃ z : Pt, (⟨1, h2.n, ByteArray.empty⟩ : Pt) = z := ⟨_, rfl⟩
                have HKP : Hid (∀ W, Calls Tryd.prog 66 #[.int .i64 h2.n] W fun r w' => r = .returned (pv kp) ∧ Below W.heap.size W w') := hide (fun W => by have := keep_any h2.n W; rw [hkp] at this; exact this)
                have HKE := hide hkp
                clear hkp
                have HT0 := hide ((unhide HT1).call (Below.drew (Below.refl _ _)))
                refine wp_region_T (S := fun W => (W.cell? ⟨q, 0, none⟩ = some (.int .i64 h2.kind) ∧ W.cell? ⟨q, 1, none⟩ = some (.int .i64 h2.n) ∧ W.cell? ⟨q, 2, none⟩ = some (.string h2.text))) (fun i => decide (i < 12)) (by kernel_rfl) ⟨((unhide HT0).box q h2 (by simp)).1.cell 0, ((unhide HT0).box q h2 (by simp)).1.cell 1, ((unhide HT0).box q h2 (by simp)).1.cell 2⟩ (fun hHeld => ?_)
                clear HT1
                obtain ⟨wd, hwd⟩ : ∃ z, wq.drew = z := ⟨_, rfl⟩
                rw [hwd] at HT0 hHeld ⊢
                clear hwd
                refine tk 0 (v := u4) rfl (Or.inl ⟨by rfl, ?_⟩) hHeld ?_
                · intro w hSw
                  obtain ⟨s0, s1, s2⟩ := hSw
                  first
                    | rfl
                    | (go_simp; done)
                try go_frame
                refine tk 1 (v := .pointer (some ⟨q, 1, none⟩)) rfl (Or.inl ⟨by rfl, ?_⟩) hHeld ?_
                · intro w hSw
                  obtain ⟨s0, s1, s2⟩ := hSw
                  first
                    | rfl
                    | (go_simp; done)
                try go_frame
                refine tk 2 (v := .int .i64 h2.n) rfl (Or.inl ⟨by rfl, ?_⟩) hHeld ?_
                · intro w hSw
                  obtain ⟨s0, s1, s2⟩ := hSw
                  first
                    | rfl
                    | (go_simp; done)
                try go_frame
                refine tk 6 (v := u5) rfl (Or.inl ⟨by rfl, ?_⟩) hHeld ?_
                · intro w hSw
                  obtain ⟨s0, s1, s2⟩ := hSw
                  first
                    | rfl
                    | (go_simp; done)
                try go_frame
                refine tk 7 (v := .agg #[.int .i64 h2.kind, .int .i64 h2.n, .string h2.text]) rfl (Or.inl ⟨by rfl, ?_⟩) hHeld ?_
                · intro w hSw
                  obtain ⟨s0, s1, s2⟩ := hSw
                  first
                    | rfl
                    | (go_simp; done)
                try go_frame
                refine wpAnyT_two (i := 3) (j := 8) (oi := ztrn5) (oj := ztrn6) (by kernel_rfl) rfl rfl (fun K hK => ?_) (fun K hK => ?_)
                · skip
                  go_simp
                  refine Calls.mono (unhide HKP _) ?_
                  rintro e wz1 ⟨rfl, hbz⟩
                  have HZ1 := hide ((unhide HT0).call hbz)
                  clear hbz HT0
                  have hSS := bx3 ((unhide HZ1).box q h2 (by simp)).1
                  go_wp2_with fail
                  refine hK.out _ _ (fun _ => hSS) ?_
                  clear hK K
                  clear hSS
                  try go_frame
                  refine wpAnyT_two (i := 4) (j := 8) (oi := ztrn7) (oj := ztrn6) (by kernel_rfl) rfl rfl (fun K hK => ?_) (fun K hK => ?_)
                  · skip
                    try simp only [pv]
                    go_simp
                    have HZ2 := hide ((unhide HZ1).push kp)
                    clear HZ1
                    obtain ⟨wz2, hwz2⟩ : ∃ z, wz1.alloc (.cells #[.int .i64 kp.kind, .int .i64 kp.n, .string kp.text] 39) = z := ⟨_, rfl⟩
                    obtain ⟨qwz2, hqwz2⟩ : ∃ z, wz1.heap.size = z := ⟨_, rfl⟩
                    rw [hwz2] at HZ2 ⊢
                    rw [hqwz2] at HZ2 ⊢
                    clear hwz2 hqwz2
                    have hSS := bx3 ((unhide HZ2).box q h2 (by simp)).1
                    refine hK.out _ _ (fun _ => hSS) ?_
                    clear hK K
                    clear hSS
                    try go_frame
                    refine wpAnyT_two (i := 5) (j := 8) (oi := ztrn8) (oj := ztrn6) (by kernel_rfl) rfl rfl (fun K hK => ?_) (fun K hK => ?_)
                    · skip
                      refine wp_append_part (Operand.tmp 81) (Operand.tmp 85) rfl w.heap.size u4 L1.length (ptc L1) kp qwz2 1 rfl (unhide HZ2).o1 hLn1 (unhide HZ2).bel.size rfl (fun j u hu => by rw [((unhide HZ2).box qwz2 kp (by simp)).1.cell]; exact hu) (fun kk cap wz3 hv3 ho3 hk3 => ?_)
                      have HZ3 := hide ((unhide HZ2).app1 hv3 ho3 (own_lit hk3))
                      clear hv3 ho3 hk3 HZ2
                      have hSS := bx3 ((unhide HZ3).box q h2 (by simp)).1
                      obtain ⟨v1n, hv1n⟩ : ∃ z, Value.slice (some ⟨kk, 0, none⟩) (L1.length + 1) cap = z := ⟨_, rfl⟩
                      simp only [hv1n]
                      rw [hv1n] at HZ3
                      clear hv1n
                      refine hK.out _ _ (fun _ => hSS) ?_
                      clear hK K
                      clear hSS
                      try go_frame
                      refine wpAnyT_one (i := 8) (o := ztrn6) (by kernel_rfl) rfl (fun K hK => ?_)
                      try simp only [pv]
                      go_simp
                      have HZ4 := hide ((unhide HZ3).push h2)
                      clear HZ3
                      obtain ⟨wz4, hwz4⟩ : ∃ z, wz3.alloc (.cells #[.int .i64 h2.kind, .int .i64 h2.n, .string h2.text] 39) = z := ⟨_, rfl⟩
                      obtain ⟨qwz4, hqwz4⟩ : ∃ z, wz3.heap.size = z := ⟨_, rfl⟩
                      rw [hwz4] at HZ4 ⊢
                      rw [hqwz4] at HZ4 ⊢
                      clear hwz4 hqwz4
                      have hSS := bx3 ((unhide HZ4).box q h2 (by simp)).1
                      refine hK.out _ _ (fun _ => hSS) ?_
                      clear hK K
                      clear hSS
                      try go_frame
                      refine wpAnyT_one (i := 9) (o := ztrn9) (by kernel_rfl) rfl (fun K hK => ?_)
                      refine wp_append_part (Operand.tmp 87) (Operand.tmp 89) rfl w.heap.size u5 L2.length (ptc L2) h2 qwz4 1 rfl (unhide HZ4).o2 hLn2 (unhide HZ4).bel.size rfl (fun j u hu => by rw [((unhide HZ4).box qwz4 h2 (by simp)).1.cell]; exact hu) (fun kk cap wz5 hv3 ho3 hk3 => ?_)
                      have HZ5 := hide ((unhide HZ4).app2 hv3 ho3 (own_lit hk3))
                      clear hv3 ho3 hk3 HZ4
                      have hSS := bx3 ((unhide HZ5).box q h2 (by simp)).1
                      obtain ⟨v2n, hv2n⟩ : ∃ z, Value.slice (some ⟨kk, 0, none⟩) (L2.length + 1) cap = z := ⟨_, rfl⟩
                      simp only [hv2n]
                      rw [hv2n] at HZ5
                      clear hv2n
                      refine hK.out _ _ (fun _ => hSS) ?_
                      clear hK K
                      clear hSS
                      try go_frame
                      have hSS := bx3 ((unhide HZ5).box q h2 (by simp)).1
                      refine tk 10 (v := v1n) rfl (Or.inl ⟨by rfl, ?_⟩) hSS ?_
                      · intro w hSw
                        obtain ⟨s0, s1, s2⟩ := hSw
                        first
                          | rfl
                          | (go_simp; done)
                      try go_frame
                      refine tk 11 (v := v2n) rfl (Or.inl ⟨by rfl, ?_⟩) hSS ?_
                      · intro w hSw
                        obtain ⟨s0, s1, s2⟩ := hSw
                        first
                          | rfl
                          | (go_simp; done)
                      try go_frame
                      refine wpAnyT_done (by kernel_rfl) ?_ _
                      have HT3 := hide (unhide HZ5).pop
                      clear HZ5 hSS hHeld
                      go_wp2_with fail
                      go_roundg ((h1 :: lf').length + lg'.length)
                      case measure => rw [unhide HGK]; simp only [List.length_cons]; omega
                      case rel => exact ⟨h1 :: lf', lg', L1 ++ [kp], L2 ++ [h2], (by rfl), HT3, hide (by rw [← unhide HKE]; exact (unhide HI).putg (unhide HG2) (unhide HK2) (unhide HND))⟩
                    · skip
                      try simp only [pv]
                      go_simp
                      have HZ6 := hide ((unhide HZ2).push h2)
                      clear HZ2
                      obtain ⟨wz6, hwz6⟩ : ∃ z, wz2.alloc (.cells #[.int .i64 h2.kind, .int .i64 h2.n, .string h2.text] 39) = z := ⟨_, rfl⟩
                      obtain ⟨qwz6, hqwz6⟩ : ∃ z, wz2.heap.size = z := ⟨_, rfl⟩
                      rw [hwz6] at HZ6 ⊢
                      rw [hqwz6] at HZ6 ⊢
                      clear hwz6 hqwz6
                      have hSS := bx3 ((unhide HZ6).box q h2 (by simp)).1
                      refine hK.out _ _ (fun _ => hSS) ?_
                      clear hK K
                      clear hSS
                      try go_frame
                      refine wpAnyT_one (i := 5) (o := ztrn8) (by kernel_rfl) rfl (fun K hK => ?_)
                      refine wp_append_part (Operand.tmp 81) (Operand.tmp 85) rfl w.heap.size u4 L1.length (ptc L1) kp qwz2 1 rfl (unhide HZ6).o1 hLn1 (unhide HZ6).bel.size rfl (fun j u hu => by rw [((unhide HZ6).box qwz2 kp (by simp)).1.cell]; exact hu) (fun kk cap wz7 hv3 ho3 hk3 => ?_)
                      have HZ7 := hide ((unhide HZ6).app1 hv3 ho3 (own_lit hk3))
                      clear hv3 ho3 hk3 HZ6
                      have hSS := bx3 ((unhide HZ7).box q h2 (by simp)).1
                      obtain ⟨v1n, hv1n⟩ : ∃ z, Value.slice (some ⟨kk, 0, none⟩) (L1.length + 1) cap = z := ⟨_, rfl⟩
                      simp only [hv1n]
                      rw [hv1n] at HZ7
                      clear hv1n
                      refine hK.out _ _ (fun _ => hSS) ?_
                      clear hK K
                      clear hSS
                      try go_frame
                      refine wpAnyT_one (i := 9) (o := ztrn9) (by kernel_rfl) rfl (fun K hK => ?_)
                      refine wp_append_part (Operand.tmp 87) (Operand.tmp 89) rfl w.heap.size u5 L2.length (ptc L2) h2 qwz6 1 rfl (unhide HZ7).o2 hLn2 (unhide HZ7).bel.size rfl (fun j u hu => by rw [((unhide HZ7).box qwz6 h2 (by simp)).1.cell]; exact hu) (fun kk cap wz8 hv3 ho3 hk3 => ?_)
                      have HZ8 := hide ((unhide HZ7).app2 hv3 ho3 (own_lit hk3))
                      clear hv3 ho3 hk3 HZ7
                      have hSS := bx3 ((unhide HZ8).box q h2 (by simp)).1
                      obtain ⟨v2n, hv2n⟩ : ∃ z, Value.slice (some ⟨kk, 0, none⟩) (L2.length + 1) cap = z := ⟨_, rfl⟩
                      simp only [hv2n]
                      rw [hv2n] at HZ8
                      clear hv2n
                      refine hK.out _ _ (fun _ => hSS) ?_
                      clear hK K
                      clear hSS
                      try go_frame
                      have hSS := bx3 ((unhide HZ8).box q h2 (by simp)).1
                      refine tk 10 (v := v1n) rfl (Or.inl ⟨by rfl, ?_⟩) hSS ?_
                      · intro w hSw
                        obtain ⟨s0, s1, s2⟩ := hSw
                        first
                          | rfl
                          | (go_simp; done)
                      try go_frame
                      refine tk 11 (v := v2n) rfl (Or.inl ⟨by rfl, ?_⟩) hSS ?_
                      · intro w hSw
                        obtain ⟨s0, s1, s2⟩ := hSw
                        first
                          | rfl
                          | (go_simp; done)
                      try go_frame
                      refine wpAnyT_done (by kernel_rfl) ?_ _
                      have HT3 := hide (unhide HZ8).pop
                      clear HZ8 hSS hHeld
                      go_wp2_with fail
                      go_roundg ((h1 :: lf').length + lg'.length)
                      case measure => rw [unhide HGK]; simp only [List.length_cons]; omega
                      case rel => exact ⟨h1 :: lf', lg', L1 ++ [kp], L2 ++ [h2], (by rfl), HT3, hide (by rw [← unhide HKE]; exact (unhide HI).putg (unhide HG2) (unhide HK2) (unhide HND))⟩
                  · skip
                    try simp only [pv]
                    go_simp
                    have HZ9 := hide ((unhide HZ1).push h2)
                    clear HZ1
                    obtain ⟨wz9, hwz9⟩ : ∃ z, wz1.alloc (.cells #[.int .i64 h2.kind, .int .i64 h2.n, .string h2.text] 39) = z := ⟨_, rfl⟩
                    obtain ⟨qwz9, hqwz9⟩ : ∃ z, wz1.heap.size = z := ⟨_, rfl⟩
                    rw [hwz9] at HZ9 ⊢
                    rw [hqwz9] at HZ9 ⊢
                    clear hwz9 hqwz9
                    have hSS := bx3 ((unhide HZ9).box q h2 (by simp)).1
                    refine hK.out _ _ (fun _ => hSS) ?_
                    clear hK K
                    clear hSS
                    try go_frame
                    refine wpAnyT_one (i := 4) (o := ztrn7) (by kernel_rfl) rfl (fun K hK => ?_)
                    try simp only [pv]
                    go_simp
                    have HZ10 := hide ((unhide HZ9).push kp)
                    clear HZ9
                    obtain ⟨wz10, hwz10⟩ : ∃ z, wz9.alloc (.cells #[.int .i64 kp.kind, .int .i64 kp.n, .string kp.text] 39) = z := ⟨_, rfl⟩
                    obtain ⟨qwz10, hqwz10⟩ : ∃ z, wz9.heap.size = z := ⟨_, rfl⟩
                    rw [hwz10] at HZ10 ⊢
                    rw [hqwz10] at HZ10 ⊢
                    clear hwz10 hqwz10
                    have hSS := bx3 ((unhide HZ10).box q h2 (by simp)).1
                    refine hK.out _ _ (fun _ => hSS) ?_
                    clear hK K
                    clear hSS
                    try go_frame
                    refine wpAnyT_one (i := 5) (o := ztrn8) (by kernel_rfl) rfl (fun K hK => ?_)
                    refine wp_append_part (Operand.tmp 81) (Operand.tmp 85) rfl w.heap.size u4 L1.length (ptc L1) kp qwz10 1 rfl (unhide HZ10).o1 hLn1 (unhide HZ10).bel.size rfl (fun j u hu => by rw [((unhide HZ10).box qwz10 kp (by simp)).1.cell]; exact hu) (fun kk cap wz11 hv3 ho3 hk3 => ?_)
                    have HZ11 := hide ((unhide HZ10).app1 hv3 ho3 (own_lit hk3))
                    clear hv3 ho3 hk3 HZ10
                    have hSS := bx3 ((unhide HZ11).box q h2 (by simp)).1
                    obtain ⟨v1n, hv1n⟩ : ∃ z, Value.slice (some ⟨kk, 0, none⟩) (L1.length + 1) cap = z := ⟨_, rfl⟩
                    simp only [hv1n]
                    rw [hv1n] at HZ11
                    clear hv1n
                    refine hK.out _ _ (fun _ => hSS) ?_
                    clear hK K
                    clear hSS
                    try go_frame
                    refine wpAnyT_one (i := 9) (o := ztrn9) (by kernel_rfl) rfl (fun K hK => ?_)
                    refine wp_append_part (Operand.tmp 87) (Operand.tmp 89) rfl w.heap.size u5 L2.length (ptc L2) h2 qwz9 1 rfl (unhide HZ11).o2 hLn2 (unhide HZ11).bel.size rfl (fun j u hu => by rw [((unhide HZ11).box qwz9 h2 (by simp)).1.cell]; exact hu) (fun kk cap wz12 hv3 ho3 hk3 => ?_)
                    have HZ12 := hide ((unhide HZ11).app2 hv3 ho3 (own_lit hk3))
                    clear hv3 ho3 hk3 HZ11
                    have hSS := bx3 ((unhide HZ12).box q h2 (by simp)).1
                    obtain ⟨v2n, hv2n⟩ : ∃ z, Value.slice (some ⟨kk, 0, none⟩) (L2.length + 1) cap = z := ⟨_, rfl⟩
                    simp only [hv2n]
                    rw [hv2n] at HZ12
                    clear hv2n
                    refine hK.out _ _ (fun _ => hSS) ?_
                    clear hK K
                    clear hSS
                    try go_frame
                    have hSS := bx3 ((unhide HZ12).box q h2 (by simp)).1
                    refine tk 10 (v := v1n) rfl (Or.inl ⟨by rfl, ?_⟩) hSS ?_
                    · intro w hSw
                      obtain ⟨s0, s1, s2⟩ := hSw
                      first
                        | rfl
                        | (go_simp; done)
                    try go_frame
                    refine tk 11 (v := v2n) rfl (Or.inl ⟨by rfl, ?_⟩) hSS ?_
                    · intro w hSw
                      obtain ⟨s0, s1, s2⟩ := hSw
                      first
                        | rfl
                        | (go_simp; done)
                    try go_frame
                    refine wpAnyT_done (by kernel_rfl) ?_ _
                    have HT3 := hide (unhide HZ12).pop
                    clear HZ12 hSS hHeld
                    go_wp2_with fail
                    go_roundg ((h1 :: lf').length + lg'.length)
                    case measure => rw [unhide HGK]; simp only [List.length_cons]; omega
                    case rel => exact ⟨h1 :: lf', lg', L1 ++ [kp], L2 ++ [h2], (by rfl), HT3, hide (by rw [← unhide HKE]; exact (unhide HI).putg (unhide HG2) (unhide HK2) (unhide HND))⟩
                · skip
                  try simp only [pv]
                  go_simp
                  have HZ13 := hide ((unhide HT0).push h2)
                  clear HT0
                  obtain ⟨wz13, hwz13⟩ : ∃ z, wd.alloc (.cells #[.int .i64 h2.kind, .int .i64 h2.n, .string h2.text] 39) = z := ⟨_, rfl⟩
                  obtain ⟨qwz13, hqwz13⟩ : ∃ z, wd.heap.size = z := ⟨_, rfl⟩
                  rw [hwz13] at HZ13 ⊢
                  rw [hqwz13] at HZ13 ⊢
                  clear hwz13 hqwz13
                  have hSS := bx3 ((unhide HZ13).box q h2 (by simp)).1
                  refine hK.out _ _ (fun _ => hSS) ?_
                  clear hK K
                  clear hSS
                  try go_frame
                  refine wpAnyT_one (i := 3) (o := ztrn5) (by kernel_rfl) rfl (fun K hK => ?_)
                  go_simp
                  refine Calls.mono (unhide HKP _) ?_
                  rintro e wz14 ⟨rfl, hbz⟩
                  have HZ14 := hide ((unhide HZ13).call hbz)
                  clear hbz HZ13
                  have hSS := bx3 ((unhide HZ14).box q h2 (by simp)).1
                  go_wp2_with fail
                  refine hK.out _ _ (fun _ => hSS) ?_
                  clear hK K
                  clear hSS
                  try go_frame
                  refine wpAnyT_one (i := 4) (o := ztrn7) (by kernel_rfl) rfl (fun K hK => ?_)
                  try simp only [pv]
                  go_simp
                  have HZ15 := hide ((unhide HZ14).push kp)
                  clear HZ14
                  obtain ⟨wz15, hwz15⟩ : ∃ z, wz14.alloc (.cells #[.int .i64 kp.kind, .int .i64 kp.n, .string kp.text] 39) = z := ⟨_, rfl⟩
                  obtain ⟨qwz15, hqwz15⟩ : ∃ z, wz14.heap.size = z := ⟨_, rfl⟩
                  rw [hwz15] at HZ15 ⊢
                  rw [hqwz15] at HZ15 ⊢
                  clear hwz15 hqwz15
                  have hSS := bx3 ((unhide HZ15).box q h2 (by simp)).1
                  refine hK.out _ _ (fun _ => hSS) ?_
                  clear hK K
                  clear hSS
                  try go_frame
                  refine wpAnyT_one (i := 5) (o := ztrn8) (by kernel_rfl) rfl (fun K hK => ?_)
                  refine wp_append_part (Operand.tmp 81) (Operand.tmp 85) rfl w.heap.size u4 L1.length (ptc L1) kp qwz15 1 rfl (unhide HZ15).o1 hLn1 (unhide HZ15).bel.size rfl (fun j u hu => by rw [((unhide HZ15).box qwz15 kp (by simp)).1.cell]; exact hu) (fun kk cap wz16 hv3 ho3 hk3 => ?_)
                  have HZ16 := hide ((unhide HZ15).app1 hv3 ho3 (own_lit hk3))
                  clear hv3 ho3 hk3 HZ15
                  have hSS := bx3 ((unhide HZ16).box q h2 (by simp)).1
                  obtain ⟨v1n, hv1n⟩ : ∃ z, Value.slice (some ⟨kk, 0, none⟩) (L1.length + 1) cap = z := ⟨_, rfl⟩
                  simp only [hv1n]
                  rw [hv1n] at HZ16
                  clear hv1n
                  refine hK.out _ _ (fun _ => hSS) ?_
                  clear hK K
                  clear hSS
                  try go_frame
                  refine wpAnyT_one (i := 9) (o := ztrn9) (by kernel_rfl) rfl (fun K hK => ?_)
                  refine wp_append_part (Operand.tmp 87) (Operand.tmp 89) rfl w.heap.size u5 L2.length (ptc L2) h2 qwz13 1 rfl (unhide HZ16).o2 hLn2 (unhide HZ16).bel.size rfl (fun j u hu => by rw [((unhide HZ16).box qwz13 h2 (by simp)).1.cell]; exact hu) (fun kk cap wz17 hv3 ho3 hk3 => ?_)
                  have HZ17 := hide ((unhide HZ16).app2 hv3 ho3 (own_lit hk3))
                  clear hv3 ho3 hk3 HZ16
                  have hSS := bx3 ((unhide HZ17).box q h2 (by simp)).1
                  obtain ⟨v2n, hv2n⟩ : ∃ z, Value.slice (some ⟨kk, 0, none⟩) (L2.length + 1) cap = z := ⟨_, rfl⟩
                  simp only [hv2n]
                  rw [hv2n] at HZ17
                  clear hv2n
                  refine hK.out _ _ (fun _ => hSS) ?_
                  clear hK K
                  clear hSS
                  try go_frame
                  have hSS := bx3 ((unhide HZ17).box q h2 (by simp)).1
                  refine tk 10 (v := v1n) rfl (Or.inl ⟨by rfl, ?_⟩) hSS ?_
                  · intro w hSw
                    obtain ⟨s0, s1, s2⟩ := hSw
                    first
                      | rfl
                      | (go_simp; done)
                  try go_frame
                  refine tk 11 (v := v2n) rfl (Or.inl ⟨by rfl, ?_⟩) hSS ?_
                  · intro w hSw
                    obtain ⟨s0, s1, s2⟩ := hSw
                    first
                      | rfl
                      | (go_simp; done)
                  try go_frame
                  refine wpAnyT_done (by kernel_rfl) ?_ _
                  have HT3 := hide (unhide HZ17).pop
                  clear HZ17 hSS hHeld
                  go_wp2_with fail
                  go_roundg ((h1 :: lf').length + lg'.length)
                  case measure => rw [unhide HGK]; simp only [List.length_cons]; omega
                  case rel => exact ⟨h1 :: lf', lg', L1 ++ [kp], L2 ++ [h2], (by rfl), HT3, hide (by rw [← unhide HKE]; exact (unhide HI).putg (unhide HG2) (unhide HK2) (unhide HND))⟩
              · have HKg : Hid (Calls Tryd.prog 64 #[.pointer (some ⟨g2, 0, none⟩)] wr fun r w' => r = .returned (.int .i64 3) ∧ wr = w') := hide (by have h := unhide HKg; rw [List.headD_cons, k2] at h; exact h)
                have HK2 : Hid (h2.kind = 1 ∨ h2.kind = 3) := hide (by omega)
                clear k2 gd2
                go_wp2_with fail
                refine Calls.mono (unhide HKf) ?_
                rintro r wk ⟨rfl, rfl⟩
                go_wp2_with fail
                refine Calls.mono (unhide HKf) ?_
                rintro r wk ⟨rfl, rfl⟩
                go_wp2_with fail
                refine Calls.mono (unhide HKg) ?_
                rintro r wk ⟨rfl, rfl⟩
                go_wp2_with fail
                refine Calls.mono (both_any (unhide HT_).f1 (unhide HT_).f2 (unhide HT_).ne (unhide HT_).h1 (unhide HT_).h2 (unhide HT_).hB (unhide HU) (unhide HT_).bel) ?_
                rintro r w1 ⟨pp, qq, la', lb', rfl, hpp, hqq, hfa, hfb, ho1⟩
                have HT1 := hide ((((unhide HT_).both hfa hfb ho1).push pp).push qq)
                have HIB := hide ((unhide HI).both hpp hqq (unhide HK1) (unhide HK2) (unhide HG1).1.1 (unhide HG2).1.1)
                clear hpp hqq hfa hfb ho1 HT_
                unfold pv
                rw [size_alloc] at HT1
                go_wp2_with fail
                obtain ⟨q, hq⟩ : ∃ z, w1.heap.size = z := ⟨_, rfl⟩
                obtain ⟨q', hq'⟩ : ∃ z, w1.heap.size + 1 = z := ⟨_, rfl⟩
                obtain ⟨wq, hwq⟩ : ∃ z, (w1.alloc (.cells #[.int .i64 pp.kind, .int .i64 pp.n, .string pp.text] 39)).alloc (.cells #[.int .i64 qq.kind, .int .i64 qq.n, .string qq.text] 39) = z := ⟨_, rfl⟩
                rw [hwq] at HT1 ⊢
                rw [hq'] at HT1 ⊢
                rw [hq] at HT1 ⊢
                clear hq hq' hwq
                obtain ⟨r1, hr1⟩ : ∃ z, (if qq.kind = 3 then noPt else pp) = z := ⟨_, rfl⟩
                obtain ⟨r2, hr2⟩ : ∃ z, (if pp.kind = 3 then noPt else qq) = z := ⟨_, rfl⟩
                rw [hr1, hr2] at HIB
                have HB1 : Hid (∀ W, Calls Tryd.prog 68 #[pv pp, pv qq] W fun r w' => r = .returned (pv r1) ∧ Below W.heap.size W w') := hide (fun W => by have := beside_any pp qq W; rw [hr1] at this; exact this)
                have HB2 : Hid (∀ W, Calls Tryd.prog 68 #[pv qq, pv pp] W fun r w' => r = .returned (pv r2) ∧ Below W.heap.size W w') := hide (fun W => by have := beside_any qq pp W; rw [hr2] at this; exact this)
                clear hr1 hr2
                have HT0 := hide ((unhide HT1).call (Below.drew (Below.refl _ _)))
                refine wp_region_T (S := fun W => (W.cell? ⟨q, 0, none⟩ = some (.int .i64 pp.kind) ∧ W.cell? ⟨q, 1, none⟩ = some (.int .i64 pp.n) ∧ W.cell? ⟨q, 2, none⟩ = some (.string pp.text)) ∧ (W.cell? ⟨q', 0, none⟩ = some (.int .i64 qq.kind) ∧ W.cell? ⟨q', 1, none⟩ = some (.int .i64 qq.n) ∧ W.cell? ⟨q', 2, none⟩ = some (.string qq.text))) (fun i => decide (i < 14)) (by kernel_rfl) ⟨⟨((unhide HT0).box _ _ (List.mem_cons_of_mem _ (List.mem_cons_self ..))).1.cell 0, ((unhide HT0).box _ _ (List.mem_cons_of_mem _ (List.mem_cons_self ..))).1.cell 1, ((unhide HT0).box _ _ (List.mem_cons_of_mem _ (List.mem_cons_self ..))).1.cell 2⟩, ⟨((unhide HT0).box _ _ (List.mem_cons_self ..)).1.cell 0, ((unhide HT0).box _ _ (List.mem_cons_self ..)).1.cell 1, ((unhide HT0).box _ _ (List.mem_cons_self ..)).1.cell 2⟩⟩ (fun hHeld => ?_)
                clear HT1
                obtain ⟨wd, hwd⟩ : ∃ z, wq.drew = z := ⟨_, rfl⟩
                rw [hwd] at HT0 hHeld ⊢
                clear hwd
                refine tk 0 (v := u4) rfl (Or.inl ⟨by rfl, ?_⟩) hHeld ?_
                · intro w hSw
                  obtain ⟨⟨s0, s1, s2⟩, s3, s4, s5⟩ := hSw
                  first
                    | rfl
                    | (go_simp; done)
                try go_frame
                refine tk 1 (v := .agg #[.int .i64 pp.kind, .int .i64 pp.n, .string pp.text]) rfl (Or.inl ⟨by rfl, ?_⟩) hHeld ?_
                · intro w hSw
                  obtain ⟨⟨s0, s1, s2⟩, s3, s4, s5⟩ := hSw
                  first
                    | rfl
                    | (go_simp; done)
                try go_frame
                refine tk 2 (v := .agg #[.int .i64 qq.kind, .int .i64 qq.n, .string qq.text]) rfl (Or.inl ⟨by rfl, ?_⟩) hHeld ?_
                · intro w hSw
                  obtain ⟨⟨s0, s1, s2⟩, s3, s4, s5⟩ := hSw
                  first
                    | rfl
                    | (go_simp; done)
                try go_frame
                refine tk 6 (v := u5) rfl (Or.inl ⟨by rfl, ?_⟩) hHeld ?_
                · intro w hSw
                  obtain ⟨⟨s0, s1, s2⟩, s3, s4, s5⟩ := hSw
                  first
                    | rfl
                    | (go_simp; done)
                try go_frame
                refine tk 7 (v := .agg #[.int .i64 qq.kind, .int .i64 qq.n, .string qq.text]) rfl (Or.inl ⟨by rfl, ?_⟩) hHeld ?_
                · intro w hSw
                  obtain ⟨⟨s0, s1, s2⟩, s3, s4, s5⟩ := hSw
                  first
                    | rfl
                    | (go_simp; done)
                try go_frame
                refine tk 8 (v := .agg #[.int .i64 pp.kind, .int .i64 pp.n, .string pp.text]) rfl (Or.inl ⟨by rfl, ?_⟩) hHeld ?_
                · intro w hSw
                  obtain ⟨⟨s0, s1, s2⟩, s3, s4, s5⟩ := hSw
                  first
                    | rfl
                    | (go_simp; done)
                try go_frame
                refine wpAnyT_one (i := 3) (o := ztrn18) (by kernel_rfl) rfl (fun K hK => ?_)
                go_simp
                refine Calls.mono (unhide HB1 _) ?_
                rintro e wz1 ⟨rfl, hbz⟩
                have HT11 := hide ((unhide HT0).call hbz)
                clear hbz HT0
                have hSS : (wz1.cell? ⟨q, 0, none⟩ = some (.int .i64 pp.kind) ∧ wz1.cell? ⟨q, 1, none⟩ = some (.int .i64 pp.n) ∧ wz1.cell? ⟨q, 2, none⟩ = some (.string pp.text)) ∧ (wz1.cell? ⟨q', 0, none⟩ = some (.int .i64 qq.kind) ∧ wz1.cell? ⟨q', 1, none⟩ = some (.int .i64 qq.n) ∧ wz1.cell? ⟨q', 2, none⟩ = some (.string qq.text)) := ⟨⟨((unhide HT11).box _ _ (List.mem_cons_of_mem _ (List.mem_cons_self ..))).1.cell 0, ((unhide HT11).box _ _ (List.mem_cons_of_mem _ (List.mem_cons_self ..))).1.cell 1, ((unhide HT11).box _ _ (List.mem_cons_of_mem _ (List.mem_cons_self ..))).1.cell 2⟩, ⟨((unhide HT11).box _ _ (List.mem_cons_self ..)).1.cell 0, ((unhide HT11).box _ _ (List.mem_cons_self ..)).1.cell 1, ((unhide HT11).box _ _ (List.mem_cons_self ..)).1.cell 2⟩⟩
                go_wp2_with fail
                refine hK.out _ _ (fun _ => hSS) ?_
                clear hK K
                clear hSS
                try go_frame
                refine wpAnyT_one (i := 4) (o := ztrn19) (by kernel_rfl) rfl (fun K hK => ?_)
                try simp only [pv]
                go_simp
                have HT120 := hide ((unhide HT11).push r1)
                clear HT11
                obtain ⟨wz2, hwz2⟩ : ∃ z, wz1.alloc (.cells #[.int .i64 r1.kind, .int .i64 r1.n, .string r1.text] 39) = z := ⟨_, rfl⟩
                obtain ⟨qwz2, hqwz2⟩ : ∃ z, wz1.heap.size = z := ⟨_, rfl⟩
                rw [hwz2] at HT120 ⊢
                rw [hqwz2] at HT120 ⊢
                clear hwz2 hqwz2
                have hSS : (wz2.cell? ⟨q, 0, none⟩ = some (.int .i64 pp.kind) ∧ wz2.cell? ⟨q, 1, none⟩ = some (.int .i64 pp.n) ∧ wz2.cell? ⟨q, 2, none⟩ = some (.string pp.text)) ∧ (wz2.cell? ⟨q', 0, none⟩ = some (.int .i64 qq.kind) ∧ wz2.cell? ⟨q', 1, none⟩ = some (.int .i64 qq.n) ∧ wz2.cell? ⟨q', 2, none⟩ = some (.string qq.text)) := ⟨⟨((unhide HT120).box _ _ (List.mem_cons_of_mem _ (List.mem_cons_of_mem _ (List.mem_cons_self ..)))).1.cell 0, ((unhide HT120).box _ _ (List.mem_cons_of_mem _ (List.mem_cons_of_mem _ (List.mem_cons_self ..)))).1.cell 1, ((unhide HT120).box _ _ (List.mem_cons_of_mem _ (List.mem_cons_of_mem _ (List.mem_cons_self ..)))).1.cell 2⟩, ⟨((unhide HT120).box _ _ (List.mem_cons_of_mem _ (List.mem_cons_self ..))).1.cell 0, ((unhide HT120).box _ _ (List.mem_cons_of_mem _ (List.mem_cons_self ..))).1.cell 1, ((unhide HT120).box _ _ (List.mem_cons_of_mem _ (List.mem_cons_self ..))).1.cell 2⟩⟩
                refine hK.out _ _ (fun _ => hSS) ?_
                clear hK K
                clear hSS
                try go_frame
                refine wpAnyT_one (i := 5) (o := ztrn20) (by kernel_rfl) rfl (fun K hK => ?_)
                refine wp_append_part (Operand.tmp 47) (Operand.tmp 51) rfl w.heap.size u4 L1.length (ptc L1) r1 qwz2 1 rfl (unhide HT120).o1 hLn1 (unhide HT120).bel.size rfl (fun j u hu => by rw [((unhide HT120).box _ _ (List.mem_cons_self ..)).1.cell]; exact hu) (fun kk cap wz3 hv3 ho3 hk3 => ?_)
                have HT13 := hide (((unhide HT120).app1 hv3 ho3 (own_lit hk3)).unpush)
                clear hv3 ho3 hk3 HT120
                have hSS : (wz3.cell? ⟨q, 0, none⟩ = some (.int .i64 pp.kind) ∧ wz3.cell? ⟨q, 1, none⟩ = some (.int .i64 pp.n) ∧ wz3.cell? ⟨q, 2, none⟩ = some (.string pp.text)) ∧ (wz3.cell? ⟨q', 0, none⟩ = some (.int .i64 qq.kind) ∧ wz3.cell? ⟨q', 1, none⟩ = some (.int .i64 qq.n) ∧ wz3.cell? ⟨q', 2, none⟩ = some (.string qq.text)) := ⟨⟨((unhide HT13).box _ _ (List.mem_cons_of_mem _ (List.mem_cons_self ..))).1.cell 0, ((unhide HT13).box _ _ (List.mem_cons_of_mem _ (List.mem_cons_self ..))).1.cell 1, ((unhide HT13).box _ _ (List.mem_cons_of_mem _ (List.mem_cons_self ..))).1.cell 2⟩, ⟨((unhide HT13).box _ _ (List.mem_cons_self ..)).1.cell 0, ((unhide HT13).box _ _ (List.mem_cons_self ..)).1.cell 1, ((unhide HT13).box _ _ (List.mem_cons_self ..)).1.cell 2⟩⟩
                obtain ⟨v1n, hv1n⟩ : ∃ z, Value.slice (some ⟨kk, 0, none⟩) (L1.length + 1) cap = z := ⟨_, rfl⟩
                simp only [hv1n]
                rw [hv1n] at HT13
                clear hv1n
                refine hK.out _ _ (fun _ => hSS) ?_
                clear hK K
                clear hSS
                try go_frame
                refine wpAnyT_one (i := 9) (o := ztrn21) (by kernel_rfl) rfl (fun K hK => ?_)
                go_simp
                refine Calls.mono (unhide HB2 _) ?_
                rintro e wz4 ⟨rfl, hbz⟩
                have HT14 := hide ((unhide HT13).call hbz)
                clear hbz HT13
                have hSS : (wz4.cell? ⟨q, 0, none⟩ = some (.int .i64 pp.kind) ∧ wz4.cell? ⟨q, 1, none⟩ = some (.int .i64 pp.n) ∧ wz4.cell? ⟨q, 2, none⟩ = some (.string pp.text)) ∧ (wz4.cell? ⟨q', 0, none⟩ = some (.int .i64 qq.kind) ∧ wz4.cell? ⟨q', 1, none⟩ = some (.int .i64 qq.n) ∧ wz4.cell? ⟨q', 2, none⟩ = some (.string qq.text)) := ⟨⟨((unhide HT14).box _ _ (List.mem_cons_of_mem _ (List.mem_cons_self ..))).1.cell 0, ((unhide HT14).box _ _ (List.mem_cons_of_mem _ (List.mem_cons_self ..))).1.cell 1, ((unhide HT14).box _ _ (List.mem_cons_of_mem _ (List.mem_cons_self ..))).1.cell 2⟩, ⟨((unhide HT14).box _ _ (List.mem_cons_self ..)).1.cell 0, ((unhide HT14).box _ _ (List.mem_cons_self ..)).1.cell 1, ((unhide HT14).box _ _ (List.mem_cons_self ..)).1.cell 2⟩⟩
                go_wp2_with fail
                refine hK.out _ _ (fun _ => hSS) ?_
                clear hK K
                clear hSS
                try go_frame
                refine wpAnyT_one (i := 10) (o := ztrn22) (by kernel_rfl) rfl (fun K hK => ?_)
                try simp only [pv]
                go_simp
                have HT150 := hide ((unhide HT14).push r2)
                clear HT14
                obtain ⟨wz5, hwz5⟩ : ∃ z, wz4.alloc (.cells #[.int .i64 r2.kind, .int .i64 r2.n, .string r2.text] 39) = z := ⟨_, rfl⟩
                obtain ⟨qwz5, hqwz5⟩ : ∃ z, wz4.heap.size = z := ⟨_, rfl⟩
                rw [hwz5] at HT150 ⊢
                rw [hqwz5] at HT150 ⊢
                clear hwz5 hqwz5
                have hSS : (wz5.cell? ⟨q, 0, none⟩ = some (.int .i64 pp.kind) ∧ wz5.cell? ⟨q, 1, none⟩ = some (.int .i64 pp.n) ∧ wz5.cell? ⟨q, 2, none⟩ = some (.string pp.text)) ∧ (wz5.cell? ⟨q', 0, none⟩ = some (.int .i64 qq.kind) ∧ wz5.cell? ⟨q', 1, none⟩ = some (.int .i64 qq.n) ∧ wz5.cell? ⟨q', 2, none⟩ = some (.string qq.text)) := ⟨⟨((unhide HT150).box _ _ (List.mem_cons_of_mem _ (List.mem_cons_of_mem _ (List.mem_cons_self ..)))).1.cell 0, ((unhide HT150).box _ _ (List.mem_cons_of_mem _ (List.mem_cons_of_mem _ (List.mem_cons_self ..)))).1.cell 1, ((unhide HT150).box _ _ (List.mem_cons_of_mem _ (List.mem_cons_of_mem _ (List.mem_cons_self ..)))).1.cell 2⟩, ⟨((unhide HT150).box _ _ (List.mem_cons_of_mem _ (List.mem_cons_self ..))).1.cell 0, ((unhide HT150).box _ _ (List.mem_cons_of_mem _ (List.mem_cons_self ..))).1.cell 1, ((unhide HT150).box _ _ (List.mem_cons_of_mem _ (List.mem_cons_self ..))).1.cell 2⟩⟩
                refine hK.out _ _ (fun _ => hSS) ?_
                clear hK K
                clear hSS
                try go_frame
                refine wpAnyT_one (i := 11) (o := ztrn23) (by kernel_rfl) rfl (fun K hK => ?_)
                refine wp_append_part (Operand.tmp 53) (Operand.tmp 57) rfl w.heap.size u5 L2.length (ptc L2) r2 qwz5 1 rfl (unhide HT150).o2 hLn2 (unhide HT150).bel.size rfl (fun j u hu => by rw [((unhide HT150).box _ _ (List.mem_cons_self ..)).1.cell]; exact hu) (fun kk cap wz6 hv3 ho3 hk3 => ?_)
                have HT16 := hide (((unhide HT150).app2 hv3 ho3 (own_lit hk3)).unpush)
                clear hv3 ho3 hk3 HT150
                have hSS : (wz6.cell? ⟨q, 0, none⟩ = some (.int .i64 pp.kind) ∧ wz6.cell? ⟨q, 1, none⟩ = some (.int .i64 pp.n) ∧ wz6.cell? ⟨q, 2, none⟩ = some (.string pp.text)) ∧ (wz6.cell? ⟨q', 0, none⟩ = some (.int .i64 qq.kind) ∧ wz6.cell? ⟨q', 1, none⟩ = some (.int .i64 qq.n) ∧ wz6.cell? ⟨q', 2, none⟩ = some (.string qq.text)) := ⟨⟨((unhide HT16).box _ _ (List.mem_cons_of_mem _ (List.mem_cons_self ..))).1.cell 0, ((unhide HT16).box _ _ (List.mem_cons_of_mem _ (List.mem_cons_self ..))).1.cell 1, ((unhide HT16).box _ _ (List.mem_cons_of_mem _ (List.mem_cons_self ..))).1.cell 2⟩, ⟨((unhide HT16).box _ _ (List.mem_cons_self ..)).1.cell 0, ((unhide HT16).box _ _ (List.mem_cons_self ..)).1.cell 1, ((unhide HT16).box _ _ (List.mem_cons_self ..)).1.cell 2⟩⟩
                obtain ⟨v2n, hv2n⟩ : ∃ z, Value.slice (some ⟨kk, 0, none⟩) (L2.length + 1) cap = z := ⟨_, rfl⟩
                simp only [hv2n]
                rw [hv2n] at HT16
                clear hv2n
                refine hK.out _ _ (fun _ => hSS) ?_
                clear hK K
                clear hSS
                try go_frame
                have hSS : (wz6.cell? ⟨q, 0, none⟩ = some (.int .i64 pp.kind) ∧ wz6.cell? ⟨q, 1, none⟩ = some (.int .i64 pp.n) ∧ wz6.cell? ⟨q, 2, none⟩ = some (.string pp.text)) ∧ (wz6.cell? ⟨q', 0, none⟩ = some (.int .i64 qq.kind) ∧ wz6.cell? ⟨q', 1, none⟩ = some (.int .i64 qq.n) ∧ wz6.cell? ⟨q', 2, none⟩ = some (.string qq.text)) := ⟨⟨((unhide HT16).box _ _ (List.mem_cons_of_mem _ (List.mem_cons_self ..))).1.cell 0, ((unhide HT16).box _ _ (List.mem_cons_of_mem _ (List.mem_cons_self ..))).1.cell 1, ((unhide HT16).box _ _ (List.mem_cons_of_mem _ (List.mem_cons_self ..))).1.cell 2⟩, ⟨((unhide HT16).box _ _ (List.mem_cons_self ..)).1.cell 0, ((unhide HT16).box _ _ (List.mem_cons_self ..)).1.cell 1, ((unhide HT16).box _ _ (List.mem_cons_self ..)).1.cell 2⟩⟩
                refine tk 12 (v := v1n) rfl (Or.inl ⟨by rfl, ?_⟩) hSS ?_
                · intro w hSw
                  obtain ⟨⟨s0, s1, s2⟩, s3, s4, s5⟩ := hSw
                  first
                    | rfl
                    | (go_simp; done)
                try go_frame
                refine tk 13 (v := v2n) rfl (Or.inl ⟨by rfl, ?_⟩) hSS ?_
                · intro w hSw
                  obtain ⟨⟨s0, s1, s2⟩, s3, s4, s5⟩ := hSw
                  first
                    | rfl
                    | (go_simp; done)
                try go_frame
                refine wpAnyT_done (by kernel_rfl) ?_ _
                have HT3 := hide (unhide HT16).pop
                clear HT16 hSS hHeld
                go_wp2_with fail
                go_roundg (la'.length + lb'.length)
                case measure => rw [unhide HGK]; exact (unhide HIB).2
                case rel => exact ⟨la', lb', L1 ++ [r1], L2 ++ [r2], (by rfl), HT3, hide (unhide HIB).1⟩
    · rw [hc] at HCK HCB
      obtain ⟨na, hna⟩ : ∃ z, la.length = z := ⟨_, rfl⟩
      obtain ⟨nb, hnb⟩ : ∃ z, lb.length = z := ⟨_, rfl⟩
      rw [hna] at HSA ⊢
      rw [hnb] at HCK ⊢
      clear hT hpa hpb hba hbb hsa hsb hsz e hna hnb hca hcb hl hEa hc hta hma hmb
      go_enter Tryd.func43, Tryd.ntmps43
      go_wp2_with fail
      refine Calls.mono (unhide HSA) ?_
      rintro r w1 ⟨rfl, hb1⟩
      have HB1 := hide hb1
      clear hb1 HSA
      go_wp2_with fail
      refine Calls.mono (unhide HCK _ (unhide HB1)) ?_
      rintro r w2 ⟨rfl, hb2⟩
      have HB2 := hide ((unhide HB1).trans (hb2.mono (unhide HB1).size))
      clear hb2 HB1 HCK
      go_wp2_with fail
      go_ret3
      exact ⟨.inl ⟨by rw [unhide HCB]; rfl, rfl⟩, unhide HB2⟩
end Go.Proofs.YtonabfpgdgnpnaaDoor
