/- Compose. -/
import Derived.Test.YtdnbhomjfgpcfaaDoorCm0
import Derived.Deep.LoopGhost
namespace Go.Proofs.YtdnbhomjfgpcfaaDoor
set_option linter.unusedVariables false
set_option linter.unusedSimpArgs false
open Go.ChangeShapes Go.WideShapes Go.ChangeAt Go.RowKit Go.Joins Go.Deep

theorem kind_any {w : World} {g B : Nat} {l : List Pt} (f : Fa w g B l) : Calls Tryd.prog 91 #[.pointer (some ⟨g, 0, none⟩)] w fun r w' => r = .returned (.int .i64 (l.headD noPt).kind) ∧ w = w' := by
  obtain ⟨a, c, fd, _⟩ := f.feed
  exact kind_ok fd
theorem Fa.row {w : World} {g B : Nat} {l : List Pt} (f : Fa w g B l) : ∃ cs, RowAt w g 146 cs := by
  obtain ⟨a, c, fd, _⟩ := f.feed
  exact ⟨_, fd.row⟩
theorem OwnP.ne {w : World} {B0 g B : Nat} {v : Value} {l L : List Pt} (h : OwnP w B0 v L) (f : Fa w g B l) : v.ownBlock ≠ some g := by
  obtain ⟨cs, hr⟩ := f.row
  exact tag_ne h hr (by decide)
/-- two feeds, and own parts -/
structure CW (w wr : World) (g1 g2 B : Nat) (v : Value) (lf lg L : List Pt) : Prop where
  f1 : Fa wr g1 B lf
  f2 : Fa wr g2 B lg
  own : OwnP wr w.heap.size v L
  bel : Below w.heap.size w wr
  ne : g1 ≠ g2
  h1 : w.heap.size ≤ g1
  h2 : w.heap.size ≤ g2
  hB : B ≤ w.heap.size
theorem CW.call {w wr w' : World} {g1 g2 B : Nat} {v : Value} {lf lg L : List Pt} (h : CW w wr g1 g2 B v lf lg L) (hb : Below wr.heap.size wr w') : CW w w' g1 g2 B v lf lg L :=
  ⟨h.f1.call hb, h.f2.call hb, h.own.call hb, h.bel.trans (hb.mono h.bel.size), h.ne, h.h1, h.h2, h.hB⟩
theorem CW.one {w wr w' : World} {g1 g2 B : Nat} {v : Value} {lf lg L lf' : List Pt} (h : CW w wr g1 g2 B v lf lg L) (f : Fa w' g1 B lf') (ho : Only (· = g1) wr w') : CW w w' g1 g2 B v lf' lg L :=
  ⟨f, h.f2.keep ho (fun e => h.ne e.symm) (fun k hk => by have := h.h1; have := h.hB; omega), own_only h.own ho (fun k hk e => h.own.ne h.f1 (e ▸ hk)), h.bel.trans (ho.below h.bel.size (fun k hk => by have := h.h1; omega)), h.ne, h.h1, h.h2, h.hB⟩
theorem CW.two {w wr w' : World} {g1 g2 B : Nat} {v : Value} {lf lg L lg' : List Pt} (h : CW w wr g1 g2 B v lf lg L) (f : Fa w' g2 B lg') (ho : Only (· = g2) wr w') : CW w w' g1 g2 B v lf lg' L :=
  ⟨h.f1.keep ho (fun e => h.ne e) (fun k hk => by have := h.h2; have := h.hB; omega), f, own_only h.own ho (fun k hk e => h.own.ne h.f2 (e ▸ hk)), h.bel.trans (ho.below h.bel.size (fun k hk => by have := h.h2; omega)), h.ne, h.h1, h.h2, h.hB⟩
theorem CW.both {w wr w' : World} {g1 g2 B : Nat} {v : Value} {lf lg L lf' lg' : List Pt} (h : CW w wr g1 g2 B v lf lg L) (f : Fa w' g1 B lf') (f' : Fa w' g2 B lg') (ho : Only (fun k => k = g1 ∨ k = g2) wr w') : CW w w' g1 g2 B v lf' lg' L :=
  ⟨f, f', own_only h.own ho (fun k hk e => by rcases e with e | e; exact h.own.ne h.f1 (e ▸ hk); exact h.own.ne h.f2 (e ▸ hk)), h.bel.trans (ho.below h.bel.size (fun k hk => by have := h.h1; have := h.h2; omega)), h.ne, h.h1, h.h2, h.hB⟩
theorem CW.app {w wr w' : World} {g1 g2 B : Nat} {v v' : Value} {lf lg L : List Pt} {p : Pt} (h : CW w wr g1 g2 B v lf lg L) (hv : w'.ownsRow w.heap.size 91 3 v' (L.length + 1) (ptc L ++ pcs p)) (ho : Only (fun k => v.ownBlock = some k) wr w') : CW w w' g1 g2 B v' lf lg (L ++ [p]) :=
  ⟨h.f1.keep ho (fun e => h.own.ne h.f1 e) (fun k hk => Nat.le_trans h.hB (h.own.lt k hk).1), h.f2.keep ho (fun e => h.own.ne h.f2 e) (fun k hk => Nat.le_trans h.hB (h.own.lt k hk).1), by unfold OwnP; rw [List.length_append, List.length_singleton, ptc_snoc]; exact hv, h.bel.trans (ho.below h.bel.size (fun k hk => (h.own.lt k hk).1)), h.ne, h.h1, h.h2, h.hB⟩
/-- the sizes meet -/
def comB (la lb : List Pt) : Bool := match sizeL la with
  | none => false
  | some (_, t, _) => decide (checkE lb t = 0)
theorem check_two (l : List Pt) (n : Int) : checkE l n = 0 ∨ checkE l n = 30 := by
  unfold checkE
  split
  · exact .inr rfl
  · split
    · exact .inl rfl
    · exact .inr rfl
theorem check_ed {l : List Pt} {n : Int} (h : checkE l n = 0) : ∃ t, IsEd l n.toNat t ∧ (n.toNat : Int) = n := by
  unfold checkE at h
  split at h
  · cases h
  · rename_i f t k e
    split at h
    · rename_i hf
      subst hf
      obtain ⟨h1, h2, h3⟩ := size_ed e
      exact ⟨_, h1, h2⟩
    · cases h
theorem ed_fit {l : List Pt} {f t : Nat} (h : IsEd l f t) : ∀ p ∈ l, Fit1 p := by
  obtain ⟨_, h2, _⟩ := size_fold l _ _ _ _ _ _ (ed_size h)
  intro p hp
  have := good_of_fits (h2 p hp)
  exact ⟨this.1, this.2⟩
theorem ed_len {l : List Pt} {f t : Nat} (h : IsEd l f t) : (atomsL l).length ≤ 2199023255552 := by
  have := len_counts (atomsL l)
  obtain ⟨_, h2, h3, h4, h5⟩ := h
  omega
/-- what Compose answers -/
def ComR (w w' : World) (la lb : List Pt) (r : Ending) : Prop := (comB la lb = false ∧ r = .returned (.tuple #[.slice none 0 0, .int .i64 30]) ∨ comB la lb = true ∧ ∃ v c, r = .returned (.tuple #[v, .int .i64 0]) ∧ OwnP w' w.heap.size v c ∧ NfG 0 c ∧ atomsL c = At.can (At.comp (atomsL la) (atomsL lb)) ∧ c.length ≤ 2 * (la.length + lb.length) + 3) ∧ Below w.heap.size w w'
theorem allS_len (st : St) : (allS st).length ≤ st.done.length + 3 := by
  have h1 := endK_len st
  unfold allS endC
  simp only
  split <;> split <;> first | omega | (simp; omega)
theorem normL_len (l : List Pt) : (normL l).length ≤ 2 * l.length + 3 := by
  have h := (normSt_ok l l.length).len
  rw [List.take_of_length_le (Nat.le_refl _)] at h
  have := allS_len (normSt l)
  unfold normL
  omega
theorem head_kind {l : List Pt} (h : ∀ p ∈ l, Fit1 p) : l = [] ∧ (l.headD noPt).kind = 0 ∨ ∃ p l', l = p :: l' ∧ Fit1 p ∧ (p.kind = 1 ∨ p.kind = 2 ∨ p.kind = 3) := by
  cases l with
  | nil => exact .inl ⟨rfl, rfl⟩
  | cons p l =>
    refine .inr ⟨p, l, rfl, h p (List.mem_cons_self ..), ?_⟩
    rcases (h p (List.mem_cons_self ..)).1.cases with ⟨k, _⟩ | ⟨k, _⟩ | ⟨k, _⟩ <;> omega
set_option maxRecDepth 100000 in
set_option maxHeartbeats 4000000 in
theorem compose_any (a b : Option Addr) (la lb : List Pt) (ca cb : Nat) (w : World) (hT : UT w) (hpa : PtsAt w a la) (hpb : PtsAt w b lb) (hba : AtB w a) (hbb : AtB w b) (hca : la.length ≤ ca) (hcb : lb.length ≤ cb) (hma : ca ≤ maxLen) (hmb : cb ≤ maxLen) (hsa : ∀ p ∈ la, p.text.size ≤ 281474976710656) (hsb : ∀ p ∈ lb, p.text.size ≤ 281474976710656) (hl : la.length + lb.length ≤ 1099511627776) :
    Calls Tryd.prog 63 #[.slice a la.length ca, .slice b lb.length cb] w fun r w' => ComR w w' la lb r := by
  have HSA := hide (size_any a la ca w hT hpa (Nat.le_trans hca hma) hsa)
  have HT := hide hT
  unfold ComR
  cases hsz : sizeL la with
  | none =>
    have HV : Hid (comB la lb = false) := hide (by unfold comB; rw [hsz])
    have e : szVal la = .tuple #[.int .i64 0, .int .i64 0, .int .i64 30] := by unfold szVal; rw [hsz]
    rw [e] at HSA
    obtain ⟨na, hna⟩ : ∃ z, la.length = z := ⟨_, rfl⟩
    obtain ⟨nb, hnb⟩ : ∃ z, lb.length = z := ⟨_, rfl⟩
    rw [hna] at HSA ⊢
    rw [hnb]
    clear hT hpa hpb hba hbb hsa hsb hsz e hna hnb hca hcb hl
    go_enter Tryd.func63, Tryd.ntmps63
    go_wp2_with fail
    refine Calls.mono (unhide HSA) ?_
    rintro r w1 ⟨rfl, hb1⟩
    have HB1 := hide hb1
    clear hb1 HSA
    go_wp2_with fail
    go_ret2
    exact ⟨.inl ⟨unhide HV, rfl⟩, unhide HB1⟩
  | some x =>
    obtain ⟨fa, ta, ka⟩ := x
    have e : szVal la = .tuple #[.int .i64 fa, .int .i64 ta, .int .i64 0] := by unfold szVal; rw [hsz]
    rw [e] at HSA
    have HCB : Hid (comB la lb = decide (checkE lb ta = 0)) := hide (by unfold comB; rw [hsz])
    have HCK : Hid (∀ W, Below w.heap.size w W → Calls Tryd.prog 89 #[.slice b lb.length cb, .int .i64 ta] W fun r w' => r = .returned (.int .i64 (checkE lb ta)) ∧ Below W.heap.size W w') := hide (fun W hW => check_any b lb cb ta W (hT.call hW) (hpb.call hW) (Nat.le_trans hcb hmb) hsb)
    obtain ⟨hEa, _, hta⟩ := size_ed hsz
    have HEA := hide hEa
    rcases check_two lb ta with hc | hc
    · rw [hc] at HCK HCB
      obtain ⟨tb, hEb, hfb⟩ := check_ed hc
      have HEB := hide hEb
      have HCI : Hid (CI (atomsL la) (atomsL lb) la lb [] (la.length + lb.length)) := hide (CI.start la lb (by have h1 := hEa.2.2.1; have h2 := hEb.2.1; omega))
      have HPA := hide hpa
      have HPB := hide hpb
      have HLA : Hid (∀ W : World, Below w.heap.size w W → Calls Tryd.prog 90 #[.slice a la.length ca] W fun r w' => r = .returned (.pointer (some ⟨W.heap.size, 0, none⟩)) ∧ Fa w' W.heap.size w.heap.size la ∧ Below W.heap.size W w') := hide (fun W hW => feedOf_any (hpa.call hW) hba hW.size hca hma (ed_fit hEa))
      have HLB : Hid (∀ W : World, Below w.heap.size w W → Calls Tryd.prog 90 #[.slice b lb.length cb] W fun r w' => r = .returned (.pointer (some ⟨W.heap.size, 0, none⟩)) ∧ Fa w' W.heap.size w.heap.size lb ∧ Below W.heap.size W w') := hide (fun W hW => feedOf_any (hpb.call hW) hbb hW.size hcb hmb (ed_fit hEb))
      have HLL := hide hl
      obtain ⟨na, hna⟩ : ∃ z, la.length = z := ⟨_, rfl⟩
      obtain ⟨nb, hnb⟩ : ∃ z, lb.length = z := ⟨_, rfl⟩
      rw [hna] at HSA HLA HCI HLL ⊢
      rw [hnb] at HCK HLB HCI HLL ⊢
      have HNA := hide hna
      have HNB := hide hnb
      clear hT hpa hpb hba hbb hsa hsb hsz e hna hnb hca hcb hl hEa hEb hc hta hfb hma hmb
      go_enter Tryd.func63, Tryd.ntmps63
      go_wp2_with fail
      refine Calls.mono (unhide HSA) ?_
      rintro r w1 ⟨rfl, hb1⟩
      have HB1 := hide hb1
      clear hb1 HSA
      go_wp2_with fail
      refine Calls.mono (unhide HCK _ (unhide HB1)) ?_
      rintro r w2 ⟨rfl, hb2⟩
      have HB2 := hide ((unhide HB1).trans (hb2.mono (unhide HB1).size))
      clear hb2 HB1 HCK
      go_wp2_with fail
      refine Calls.mono (unhide HLA _ (unhide HB2)) ?_
      rintro r w3 ⟨rfl, hf3, hb3⟩
      have HF3 := hide hf3
      have HB3 := hide ((unhide HB2).trans (hb3.mono (unhide HB2).size))
      have HG1 := hide (unhide HB2).size
      clear hf3 hb3 HB2 HLA
      obtain ⟨g1, hg1⟩ : ∃ z, w2.heap.size = z := ⟨_, rfl⟩
      rw [hg1] at HF3 HG1 ⊢
      clear hg1
      go_wp2_with fail
      refine Calls.mono (unhide HLB _ (unhide HB3)) ?_
      rintro r w4 ⟨rfl, hf4, hb4⟩
      have HC : Hid (CW w w4 g1 w3.heap.size w.heap.size (.slice none 0 0) la lb []) := hide ⟨(unhide HF3).call hb4, hf4, OwnP.nil _ _, (unhide HB3).trans (hb4.mono (unhide HB3).size), (by have := (unhide HF3).lt; omega), unhide HG1, (unhide HB3).size, Nat.le_refl _⟩
      clear hf4 hb4 HB3 HLB HF3 HG1
      obtain ⟨g2, hg2⟩ : ∃ z, w3.heap.size = z := ⟨_, rfl⟩
      rw [hg2] at HC ⊢
      clear hg2
      go_wp2_with fail
      go_loopg [9] (na + nb) (fun gk v wr => ∃ lf lg L : List Pt, gk = lf.length + lg.length ∧ Hid (CW w wr g1 g2 w.heap.size v lf lg L) ∧ Hid (CI (atomsL la) (atomsL lb) lf lg L (na + nb)))
      case atStart => exact ⟨la, lb, [], by rw [unhide HNA, unhide HNB], HC, HCI⟩
      case round =>
        clear HC HCI
        obtain ⟨lf, lg, L, hgk, HC, HI⟩ := hrel
        have hLn : L.length < 4398046511104 := by have := (unhide HI).len; have := unhide HLL; omega
        have HKf := hide (kind_any (unhide HC).f1)
        have HKg := hide (kind_any (unhide HC).f2)
        have HGK := hide hgk
        clear hgk
        rcases head_kind (unhide HC).f1.good with ⟨e1, _⟩ | ⟨h1, lf', e1, gd1, k1⟩
        · subst e1
          have HKf : Hid (Calls Tryd.prog 91 #[.pointer (some ⟨g1, 0, none⟩)] wr fun r w' => r = .returned (.int .i64 0) ∧ wr = w') := HKf
          rcases head_kind (unhide HC).f2.good with ⟨e2, _⟩ | ⟨h2, lg', e2, gd2, k2⟩
          · subst e2
            have HKg : Hid (Calls Tryd.prog 91 #[.pointer (some ⟨g2, 0, none⟩)] wr fun r w' => r = .returned (.int .i64 0) ∧ wr = w') := HKg
            have HEQ := hide (unhide HI).ends
            go_wp2_with fail
            refine Calls.mono (unhide HKf) ?_
            rintro r wk ⟨rfl, rfl⟩
            go_wp2_with fail
            refine Calls.mono (unhide HKg) ?_
            rintro r wk ⟨rfl, rfl⟩
            go_wp2_with fail
            obtain ⟨ao, co, hvo, hpo, hbo, hlo, hmo⟩ := (unhide HC).own.open
            have HNO := hide (norm_any ao L co wr ((unhide HT).call (unhide HC).bel) hpo (by have := (unhide HI).len; have := unhide HLL; omega) (by have h1 := (unhide HI).txt; rw [unhide HEQ] at h1; have h2 := comp_len (atomsL la) (atomsL lb); have h3 := ed_len (unhide HEA); have h4 := ed_len (unhide HEB); omega))
            have HNG := hide (norm_good L (by show ((fitA L).length : Int) ≤ _; rw [unhide HEQ]; have h2 := comp_len (atomsL la) (atomsL lb); have h3 := ed_len (unhide HEA); have h4 := ed_len (unhide HEB); omega))
            have HBW := hide (unhide HC).bel
            rw [hvo]
            clear hvo hpo hbo hlo hmo
            obtain ⟨ln, hln⟩ : ∃ z, L.length = z := ⟨_, rfl⟩
            rw [hln] at HNO ⊢
            have HLN := hide hln
            clear hln hLn
            refine Calls.mono (unhide HNO) ?_
            rintro r w5 ⟨v5, rfl, hv5, hb5⟩
            have HV5 := hide (own_base hv5 (unhide HBW).size)
            have HB5 := hide ((unhide HBW).trans (hb5.mono (unhide HBW).size))
            clear hv5 hb5 HNO HBW
            go_wp2_with fail
            go_ret2
            refine ⟨.inr ⟨by rw [unhide HCB]; rfl, v5, normL L, rfl, unhide HV5, (unhide HNG).1, ?_, ?_⟩, unhide HB5⟩
            · rw [(unhide HNG).2, ← unhide HEQ]; rfl
            · have h1 := normL_len L; have h2 := (unhide HI).len; have h3 := unhide HNA; have h4 := unhide HNB; simp at h2; omega
          · subst e2
            have k2 : h2.kind = 2 := by
              have hs := (unhide HI).sz
              have hc := gd2.1.counts.1
              rw [atomsL, atomsL, At.from_app] at hs
              have h1 := gd2.1.1
              rcases k2 with k2 | k2 | k2
              · rw [if_neg (by omega)] at hc; simp [At.toN] at hs; omega
              · exact k2
              · rw [if_neg (by omega)] at hc; simp [At.toN] at hs; omega
            have HG2 := hide gd2
            have HND : Hid (NotD (atomsL ([] : List Pt))) := hide (fun y e => by cases e)
            have HKg : Hid (Calls Tryd.prog 91 #[.pointer (some ⟨g2, 0, none⟩)] wr fun r w' => r = .returned (.int .i64 2) ∧ wr = w') := hide (by have h := unhide HKg; rw [List.headD_cons, k2] at h; exact h)
            have HK2 := hide k2
            clear k2 gd2
            go_wp2_with fail
            refine Calls.mono (unhide HKf) ?_
            rintro r wk ⟨rfl, rfl⟩
            go_wp2_with fail
            refine Calls.mono (unhide HKg) ?_
            rintro r wk ⟨rfl, rfl⟩
            go_wp2_with fail
            refine Calls.mono (unhide HKf) ?_
            rintro r wk ⟨rfl, rfl⟩
            go_wp2_with fail
            refine Calls.mono (unhide HKg) ?_
            rintro r wk ⟨rfl, rfl⟩
            go_wp2_with fail
            refine Calls.mono (whole_any (unhide HC).f2 ((unhide HT).call (unhide HC).bel)) ?_
            rintro r w1 ⟨rfl, hf1, ho1⟩
            have HC1 := hide ((unhide HC).two hf1 ho1)
            clear hf1 ho1 HC
            unfold pv
            go_wp2_with (refine wpList_append_part rfl _ _ rfl w.heap.size u9 L.length (ptc L) h2 w1.heap.size 1 rfl ((unhide HC1).call ((Below.refl _ _).alloc (Nat.le_refl _) _)).own (by omega) (Nat.le_trans (unhide HC1).bel.size (by simp)) rfl (fun j u hu => ((RowAt.new w1 91 (pcs h2)).cell j).trans hu) (fun gg cap w3 hv3 ho3 hk3 => ?_); have HC3 := hide (((unhide HC1).call (w' := w1.alloc (.cells #[.int .i64 h2.kind, .int .i64 h2.n, .string h2.text] 91)) ((Below.refl _ _).alloc (Nat.le_refl _) _)).app hv3 ho3); clear hv3 ho3 hk3 HC1)
            go_roundg ((([] : List Pt)).length + lg'.length)
            case measure => rw [unhide HGK]; simp only [List.length_cons]; omega
            case rel => exact ⟨([] : List Pt), lg', L ++ [h2], (by rfl), HC3, hide ((unhide HI).put (unhide HG2) (unhide HK2) (unhide HND))⟩
        · subst e1
          have HG1 := hide gd1
          rcases k1 with k1 | k1 | k1
          · have HKf : Hid (Calls Tryd.prog 91 #[.pointer (some ⟨g1, 0, none⟩)] wr fun r w' => r = .returned (.int .i64 1) ∧ wr = w') := hide (by have h := unhide HKf; rw [List.headD_cons, k1] at h; exact h)
            have hnd : ∀ x, NotD (atoms h1 ++ x) := gd1.1.notd (by omega)
            have HK1 : Hid (h1.kind = 1 ∨ h1.kind = 2) := hide (by omega)
            have hk1v := k1
            clear k1
            rcases head_kind (unhide HC).f2.good with ⟨e2, _⟩ | ⟨h2, lg', e2, gd2, k2⟩
            · exfalso
              subst e2
              have hs := (unhide HI).sz
              have hc := gd1.1.counts.2.1
              rw [atomsL, atomsL, At.to_app] at hs
              have hn := gd1.1.1
              rw [if_neg (by omega)] at hc
              simp [At.fromN] at hs
              omega
            · subst e2
              have HG2 := hide gd2
              have HND : Hid (NotD (atomsL (h1 :: lf'))) := hide (hnd _)
              clear hnd hk1v gd1
              rcases k2 with k2 | k2 | k2
              · have HKg : Hid (Calls Tryd.prog 91 #[.pointer (some ⟨g2, 0, none⟩)] wr fun r w' => r = .returned (.int .i64 1) ∧ wr = w') := hide (by have h := unhide HKg; rw [List.headD_cons, k2] at h; exact h)
                have HK2 : Hid (h2.kind = 1 ∨ h2.kind = 3) := hide (by omega)
                clear k2 gd2
                go_wp2_with fail
                refine Calls.mono (unhide HKf) ?_
                rintro r wk ⟨rfl, rfl⟩
                go_wp2_with fail
                refine Calls.mono (unhide HKf) ?_
                rintro r wk ⟨rfl, rfl⟩
                go_wp2_with fail
                refine Calls.mono (unhide HKg) ?_
                rintro r wk ⟨rfl, rfl⟩
                go_wp2_with fail
                refine Calls.mono (both_any (unhide HC).f1 (unhide HC).f2 (unhide HC).ne (unhide HC).h1 (unhide HC).h2 (unhide HC).hB (unhide HT) (unhide HC).bel) ?_
                rintro r w0 ⟨pp, qq, la', lb', rfl, hpp, hqq, hfa, hfb, ho1⟩
                have HC0 := hide ((unhide HC).both hfa hfb ho1)
                have HIB := hide ((unhide HI).both hpp hqq (unhide HK1) (unhide HK2) (unhide HG1).1.1 (unhide HG2).1.1)
                clear hpp hqq hfa hfb ho1 HC
                unfold pv
                go_wp2_with fail
                refine Calls.mono (inRow_any pp qq _) ?_
                rintro r w1 ⟨rfl, hb1⟩
                have HC1 := hide ((unhide HC0).call hb1)
                clear hb1 HC0
                obtain ⟨rr, hrr⟩ : ∃ z, rowP pp qq = z := ⟨_, rfl⟩
                rw [hrr] at HIB ⊢
                clear hrr
                unfold pv
                go_wp2_with (refine wpList_append_part rfl _ _ rfl w.heap.size u9 L.length (ptc L) rr w1.heap.size 1 rfl ((unhide HC1).call ((Below.refl _ _).alloc (Nat.le_refl _) _)).own (by omega) (Nat.le_trans (unhide HC1).bel.size (by simp)) rfl (fun j u hu => ((RowAt.new w1 91 (pcs rr)).cell j).trans hu) (fun gg cap w3 hv3 ho3 hk3 => ?_); have HC3 := hide (((unhide HC1).call (w' := w1.alloc (.cells #[.int .i64 rr.kind, .int .i64 rr.n, .string rr.text] 91)) ((Below.refl _ _).alloc (Nat.le_refl _) _)).app hv3 ho3); clear hv3 ho3 hk3 HC1)
                go_roundg (la'.length + lb'.length)
                case measure => rw [unhide HGK]; exact (unhide HIB).2
                case rel => exact ⟨la', lb', L ++ [rr], (by rfl), HC3, hide (unhide HIB).1⟩
              · have HKg : Hid (Calls Tryd.prog 91 #[.pointer (some ⟨g2, 0, none⟩)] wr fun r w' => r = .returned (.int .i64 2) ∧ wr = w') := hide (by have h := unhide HKg; rw [List.headD_cons, k2] at h; exact h)
                have HK2 := hide k2
                clear k2 gd2
                go_wp2_with fail
                refine Calls.mono (unhide HKf) ?_
                rintro r wk ⟨rfl, rfl⟩
                go_wp2_with fail
                refine Calls.mono (unhide HKf) ?_
                rintro r wk ⟨rfl, rfl⟩
                go_wp2_with fail
                refine Calls.mono (unhide HKg) ?_
                rintro r wk ⟨rfl, rfl⟩
                go_wp2_with fail
                refine Calls.mono (whole_any (unhide HC).f2 ((unhide HT).call (unhide HC).bel)) ?_
                rintro r w1 ⟨rfl, hf1, ho1⟩
                have HC1 := hide ((unhide HC).two hf1 ho1)
                clear hf1 ho1 HC
                unfold pv
                go_wp2_with (refine wpList_append_part rfl _ _ rfl w.heap.size u9 L.length (ptc L) h2 w1.heap.size 1 rfl ((unhide HC1).call ((Below.refl _ _).alloc (Nat.le_refl _) _)).own (by omega) (Nat.le_trans (unhide HC1).bel.size (by simp)) rfl (fun j u hu => ((RowAt.new w1 91 (pcs h2)).cell j).trans hu) (fun gg cap w3 hv3 ho3 hk3 => ?_); have HC3 := hide (((unhide HC1).call (w' := w1.alloc (.cells #[.int .i64 h2.kind, .int .i64 h2.n, .string h2.text] 91)) ((Below.refl _ _).alloc (Nat.le_refl _) _)).app hv3 ho3); clear hv3 ho3 hk3 HC1)
                go_roundg ((h1 :: lf').length + lg'.length)
                case measure => rw [unhide HGK]; simp only [List.length_cons]; omega
                case rel => exact ⟨h1 :: lf', lg', L ++ [h2], (by rfl), HC3, hide ((unhide HI).put (unhide HG2) (unhide HK2) (unhide HND))⟩
              · have HKg : Hid (Calls Tryd.prog 91 #[.pointer (some ⟨g2, 0, none⟩)] wr fun r w' => r = .returned (.int .i64 3) ∧ wr = w') := hide (by have h := unhide HKg; rw [List.headD_cons, k2] at h; exact h)
                have HK2 : Hid (h2.kind = 1 ∨ h2.kind = 3) := hide (by omega)
                clear k2 gd2
                go_wp2_with fail
                refine Calls.mono (unhide HKf) ?_
                rintro r wk ⟨rfl, rfl⟩
                go_wp2_with fail
                refine Calls.mono (unhide HKf) ?_
                rintro r wk ⟨rfl, rfl⟩
                go_wp2_with fail
                refine Calls.mono (unhide HKg) ?_
                rintro r wk ⟨rfl, rfl⟩
                go_wp2_with fail
                refine Calls.mono (both_any (unhide HC).f1 (unhide HC).f2 (unhide HC).ne (unhide HC).h1 (unhide HC).h2 (unhide HC).hB (unhide HT) (unhide HC).bel) ?_
                rintro r w0 ⟨pp, qq, la', lb', rfl, hpp, hqq, hfa, hfb, ho1⟩
                have HC0 := hide ((unhide HC).both hfa hfb ho1)
                have HIB := hide ((unhide HI).both hpp hqq (unhide HK1) (unhide HK2) (unhide HG1).1.1 (unhide HG2).1.1)
                clear hpp hqq hfa hfb ho1 HC
                unfold pv
                go_wp2_with fail
                refine Calls.mono (inRow_any pp qq _) ?_
                rintro r w1 ⟨rfl, hb1⟩
                have HC1 := hide ((unhide HC0).call hb1)
                clear hb1 HC0
                obtain ⟨rr, hrr⟩ : ∃ z, rowP pp qq = z := ⟨_, rfl⟩
                rw [hrr] at HIB ⊢
                clear hrr
                unfold pv
                go_wp2_with (refine wpList_append_part rfl _ _ rfl w.heap.size u9 L.length (ptc L) rr w1.heap.size 1 rfl ((unhide HC1).call ((Below.refl _ _).alloc (Nat.le_refl _) _)).own (by omega) (Nat.le_trans (unhide HC1).bel.size (by simp)) rfl (fun j u hu => ((RowAt.new w1 91 (pcs rr)).cell j).trans hu) (fun gg cap w3 hv3 ho3 hk3 => ?_); have HC3 := hide (((unhide HC1).call (w' := w1.alloc (.cells #[.int .i64 rr.kind, .int .i64 rr.n, .string rr.text] 91)) ((Below.refl _ _).alloc (Nat.le_refl _) _)).app hv3 ho3); clear hv3 ho3 hk3 HC1)
                go_roundg (la'.length + lb'.length)
                case measure => rw [unhide HGK]; exact (unhide HIB).2
                case rel => exact ⟨la', lb', L ++ [rr], (by rfl), HC3, hide (unhide HIB).1⟩
          · have HKf : Hid (Calls Tryd.prog 91 #[.pointer (some ⟨g1, 0, none⟩)] wr fun r w' => r = .returned (.int .i64 2) ∧ wr = w') := hide (by have h := unhide HKf; rw [List.headD_cons, k1] at h; exact h)
            have hnd : ∀ x, NotD (atoms h1 ++ x) := gd1.1.notd (by omega)
            have HK1 : Hid (h1.kind = 1 ∨ h1.kind = 2) := hide (by omega)
            have hk1v := k1
            clear k1
            rcases head_kind (unhide HC).f2.good with ⟨e2, _⟩ | ⟨h2, lg', e2, gd2, k2⟩
            · exfalso
              subst e2
              have hs := (unhide HI).sz
              have hc := gd1.1.counts.2.1
              rw [atomsL, atomsL, At.to_app] at hs
              have hn := gd1.1.1
              rw [if_neg (by omega)] at hc
              simp [At.fromN] at hs
              omega
            · subst e2
              have HG2 := hide gd2
              have HND : Hid (NotD (atomsL (h1 :: lf'))) := hide (hnd _)
              clear hnd hk1v gd1
              rcases k2 with k2 | k2 | k2
              · have HKg : Hid (Calls Tryd.prog 91 #[.pointer (some ⟨g2, 0, none⟩)] wr fun r w' => r = .returned (.int .i64 1) ∧ wr = w') := hide (by have h := unhide HKg; rw [List.headD_cons, k2] at h; exact h)
                have HK2 : Hid (h2.kind = 1 ∨ h2.kind = 3) := hide (by omega)
                clear k2 gd2
                go_wp2_with fail
                refine Calls.mono (unhide HKf) ?_
                rintro r wk ⟨rfl, rfl⟩
                go_wp2_with fail
                refine Calls.mono (unhide HKf) ?_
                rintro r wk ⟨rfl, rfl⟩
                go_wp2_with fail
                refine Calls.mono (unhide HKg) ?_
                rintro r wk ⟨rfl, rfl⟩
                go_wp2_with fail
                refine Calls.mono (both_any (unhide HC).f1 (unhide HC).f2 (unhide HC).ne (unhide HC).h1 (unhide HC).h2 (unhide HC).hB (unhide HT) (unhide HC).bel) ?_
                rintro r w0 ⟨pp, qq, la', lb', rfl, hpp, hqq, hfa, hfb, ho1⟩
                have HC0 := hide ((unhide HC).both hfa hfb ho1)
                have HIB := hide ((unhide HI).both hpp hqq (unhide HK1) (unhide HK2) (unhide HG1).1.1 (unhide HG2).1.1)
                clear hpp hqq hfa hfb ho1 HC
                unfold pv
                go_wp2_with fail
                refine Calls.mono (inRow_any pp qq _) ?_
                rintro r w1 ⟨rfl, hb1⟩
                have HC1 := hide ((unhide HC0).call hb1)
                clear hb1 HC0
                obtain ⟨rr, hrr⟩ : ∃ z, rowP pp qq = z := ⟨_, rfl⟩
                rw [hrr] at HIB ⊢
                clear hrr
                unfold pv
                go_wp2_with (refine wpList_append_part rfl _ _ rfl w.heap.size u9 L.length (ptc L) rr w1.heap.size 1 rfl ((unhide HC1).call ((Below.refl _ _).alloc (Nat.le_refl _) _)).own (by omega) (Nat.le_trans (unhide HC1).bel.size (by simp)) rfl (fun j u hu => ((RowAt.new w1 91 (pcs rr)).cell j).trans hu) (fun gg cap w3 hv3 ho3 hk3 => ?_); have HC3 := hide (((unhide HC1).call (w' := w1.alloc (.cells #[.int .i64 rr.kind, .int .i64 rr.n, .string rr.text] 91)) ((Below.refl _ _).alloc (Nat.le_refl _) _)).app hv3 ho3); clear hv3 ho3 hk3 HC1)
                go_roundg (la'.length + lb'.length)
                case measure => rw [unhide HGK]; exact (unhide HIB).2
                case rel => exact ⟨la', lb', L ++ [rr], (by rfl), HC3, hide (unhide HIB).1⟩
              · have HKg : Hid (Calls Tryd.prog 91 #[.pointer (some ⟨g2, 0, none⟩)] wr fun r w' => r = .returned (.int .i64 2) ∧ wr = w') := hide (by have h := unhide HKg; rw [List.headD_cons, k2] at h; exact h)
                have HK2 := hide k2
                clear k2 gd2
                go_wp2_with fail
                refine Calls.mono (unhide HKf) ?_
                rintro r wk ⟨rfl, rfl⟩
                go_wp2_with fail
                refine Calls.mono (unhide HKf) ?_
                rintro r wk ⟨rfl, rfl⟩
                go_wp2_with fail
                refine Calls.mono (unhide HKg) ?_
                rintro r wk ⟨rfl, rfl⟩
                go_wp2_with fail
                refine Calls.mono (whole_any (unhide HC).f2 ((unhide HT).call (unhide HC).bel)) ?_
                rintro r w1 ⟨rfl, hf1, ho1⟩
                have HC1 := hide ((unhide HC).two hf1 ho1)
                clear hf1 ho1 HC
                unfold pv
                go_wp2_with (refine wpList_append_part rfl _ _ rfl w.heap.size u9 L.length (ptc L) h2 w1.heap.size 1 rfl ((unhide HC1).call ((Below.refl _ _).alloc (Nat.le_refl _) _)).own (by omega) (Nat.le_trans (unhide HC1).bel.size (by simp)) rfl (fun j u hu => ((RowAt.new w1 91 (pcs h2)).cell j).trans hu) (fun gg cap w3 hv3 ho3 hk3 => ?_); have HC3 := hide (((unhide HC1).call (w' := w1.alloc (.cells #[.int .i64 h2.kind, .int .i64 h2.n, .string h2.text] 91)) ((Below.refl _ _).alloc (Nat.le_refl _) _)).app hv3 ho3); clear hv3 ho3 hk3 HC1)
                go_roundg ((h1 :: lf').length + lg'.length)
                case measure => rw [unhide HGK]; simp only [List.length_cons]; omega
                case rel => exact ⟨h1 :: lf', lg', L ++ [h2], (by rfl), HC3, hide ((unhide HI).put (unhide HG2) (unhide HK2) (unhide HND))⟩
              · have HKg : Hid (Calls Tryd.prog 91 #[.pointer (some ⟨g2, 0, none⟩)] wr fun r w' => r = .returned (.int .i64 3) ∧ wr = w') := hide (by have h := unhide HKg; rw [List.headD_cons, k2] at h; exact h)
                have HK2 : Hid (h2.kind = 1 ∨ h2.kind = 3) := hide (by omega)
                clear k2 gd2
                go_wp2_with fail
                refine Calls.mono (unhide HKf) ?_
                rintro r wk ⟨rfl, rfl⟩
                go_wp2_with fail
                refine Calls.mono (unhide HKf) ?_
                rintro r wk ⟨rfl, rfl⟩
                go_wp2_with fail
                refine Calls.mono (unhide HKg) ?_
                rintro r wk ⟨rfl, rfl⟩
                go_wp2_with fail
                refine Calls.mono (both_any (unhide HC).f1 (unhide HC).f2 (unhide HC).ne (unhide HC).h1 (unhide HC).h2 (unhide HC).hB (unhide HT) (unhide HC).bel) ?_
                rintro r w0 ⟨pp, qq, la', lb', rfl, hpp, hqq, hfa, hfb, ho1⟩
                have HC0 := hide ((unhide HC).both hfa hfb ho1)
                have HIB := hide ((unhide HI).both hpp hqq (unhide HK1) (unhide HK2) (unhide HG1).1.1 (unhide HG2).1.1)
                clear hpp hqq hfa hfb ho1 HC
                unfold pv
                go_wp2_with fail
                refine Calls.mono (inRow_any pp qq _) ?_
                rintro r w1 ⟨rfl, hb1⟩
                have HC1 := hide ((unhide HC0).call hb1)
                clear hb1 HC0
                obtain ⟨rr, hrr⟩ : ∃ z, rowP pp qq = z := ⟨_, rfl⟩
                rw [hrr] at HIB ⊢
                clear hrr
                unfold pv
                go_wp2_with (refine wpList_append_part rfl _ _ rfl w.heap.size u9 L.length (ptc L) rr w1.heap.size 1 rfl ((unhide HC1).call ((Below.refl _ _).alloc (Nat.le_refl _) _)).own (by omega) (Nat.le_trans (unhide HC1).bel.size (by simp)) rfl (fun j u hu => ((RowAt.new w1 91 (pcs rr)).cell j).trans hu) (fun gg cap w3 hv3 ho3 hk3 => ?_); have HC3 := hide (((unhide HC1).call (w' := w1.alloc (.cells #[.int .i64 rr.kind, .int .i64 rr.n, .string rr.text] 91)) ((Below.refl _ _).alloc (Nat.le_refl _) _)).app hv3 ho3); clear hv3 ho3 hk3 HC1)
                go_roundg (la'.length + lb'.length)
                case measure => rw [unhide HGK]; exact (unhide HIB).2
                case rel => exact ⟨la', lb', L ++ [rr], (by rfl), HC3, hide (unhide HIB).1⟩
          · have HKf : Hid (Calls Tryd.prog 91 #[.pointer (some ⟨g1, 0, none⟩)] wr fun r w' => r = .returned (.int .i64 3) ∧ wr = w') := hide (by have h := unhide HKf; rw [List.headD_cons, k1] at h; exact h)
            have HK1 := hide k1
            clear k1 gd1
            go_wp2_with fail
            refine Calls.mono (unhide HKf) ?_
            rintro r wk ⟨rfl, rfl⟩
            go_wp2_with fail
            refine Calls.mono (unhide HKf) ?_
            rintro r wk ⟨rfl, rfl⟩
            go_wp2_with fail
            refine Calls.mono (whole_any (unhide HC).f1 ((unhide HT).call (unhide HC).bel)) ?_
            rintro r w1 ⟨rfl, hf1, ho1⟩
            have HC1 := hide ((unhide HC).one hf1 ho1)
            clear hf1 ho1 HC
            unfold pv
            go_wp2_with (refine wpList_append_part rfl _ _ rfl w.heap.size u9 L.length (ptc L) h1 w1.heap.size 1 rfl ((unhide HC1).call ((Below.refl _ _).alloc (Nat.le_refl _) _)).own (by omega) (Nat.le_trans (unhide HC1).bel.size (by simp)) rfl (fun j u hu => ((RowAt.new w1 91 (pcs h1)).cell j).trans hu) (fun gg cap w3 hv3 ho3 hk3 => ?_); have HC3 := hide (((unhide HC1).call (w' := w1.alloc (.cells #[.int .i64 h1.kind, .int .i64 h1.n, .string h1.text] 91)) ((Below.refl _ _).alloc (Nat.le_refl _) _)).app hv3 ho3); clear hv3 ho3 hk3 HC1)
            go_roundg (lf'.length + lg.length)
            case measure => rw [unhide HGK]; simp only [List.length_cons]; omega
            case rel => exact ⟨lf', lg, L ++ [h1], (by rfl), HC3, hide ((unhide HI).drop (unhide HG1) (unhide HK1))⟩
    · rw [hc] at HCK HCB
      obtain ⟨na, hna⟩ : ∃ z, la.length = z := ⟨_, rfl⟩
      obtain ⟨nb, hnb⟩ : ∃ z, lb.length = z := ⟨_, rfl⟩
      rw [hna] at HSA ⊢
      rw [hnb] at HCK ⊢
      clear hT hpa hpb hba hbb hsa hsb hsz e hna hnb hca hcb hl hEa hc hta hma hmb
      go_enter Tryd.func63, Tryd.ntmps63
      go_wp2_with fail
      refine Calls.mono (unhide HSA) ?_
      rintro r w1 ⟨rfl, hb1⟩
      have HB1 := hide hb1
      clear hb1 HSA
      go_wp2_with fail
      refine Calls.mono (unhide HCK _ (unhide HB1)) ?_
      rintro r w2 ⟨rfl, hb2⟩
      have HB2 := hide ((unhide HB1).trans (hb2.mono (unhide HB1).size))
      clear hb2 HB1 HCK
      go_wp2_with fail
      go_ret2
      exact ⟨.inl ⟨by rw [unhide HCB]; rfl, rfl⟩, unhide HB2⟩
end Go.Proofs.YtdnbhomjfgpcfaaDoor
