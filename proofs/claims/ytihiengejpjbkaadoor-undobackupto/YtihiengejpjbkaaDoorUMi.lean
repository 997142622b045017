/- A history: edits of one's own, of others. -/
import Derived.Test.YtihiengejpjbkaaDoorUHi
namespace Go.Proofs.YtihiengejpjbkaaDoor
set_option linter.unusedVariables false
set_option linter.unusedSimpArgs false
open Go.ChangeShapes Go.WideShapes Go.ChangeAt Go.RowKit Go.Joins Go.Deep

theorem row_keep {w w' : World} {B s n g : Nat} {e : TypeId} {v : Value} {xs cs : List Value} (h : w.ownsRow B e s v n xs) (hr : RowAt w g 65 cs) (he : e ≠ 65) (ho : Only (· = g) w w') : w'.ownsRow B e s v n xs := own_only h ho (fun k hk hp => by subst hp; exact tag_ne h hr he hk)
theorem PeOk.keep {w w' : World} {p : Pe} {q : Nat → Prop} (h : PeOk w p) (ho : Only q w w') (hq : ∀ k, p.v.ownBlock = some k → ¬ q k) : PeOk w' p := ⟨own_only h.own ho hq, h.nf⟩
theorem PeOk.row {w w' : World} {p : Pe} {g : Nat} {cs : List Value} (h : PeOk w p) (hr : RowAt w g 65 cs) (ho : Only (· = g) w w') : PeOk w' p := h.keep ho (fun k hk hp => by subst hp; exact tag_ne h.own hr (by decide) hk)
theorem PeOk.pile {w w' : World} {p : Pe} {B n : Nat} {v : Value} {xs : List Value} (h : PeOk w p) (hr : w.ownsRow B 32 1 v n xs) (ho : Only (fun k => v.ownBlock = some k) w w') : PeOk w' p := h.keep ho (fun k hk hp => own_ne h.own hr (by decide) k hk hp)
/-- where a history's own cells alone were written -/
theorem Hi.of_row {w1 w2 : World} {B g : Nat} {vb va : Value} {H : Hs} {cs : List Value} (h1 : RowAt w1 g 65 cs) (h2 : RowAt w2 g 65 [.bool true, .int .i64 H.n, vb, va]) (ho : Only (· = g) w1 w2)
    (ob : w1.ownsRow B 32 1 vb H.back.length (H.back.map Pe.v)) (oa : w1.ownsRow B 32 1 va H.again.length (H.again.map Pe.v)) (sep : ∀ k, vb.ownBlock = some k → va.ownBlock ≠ some k)
    (eb : ∀ p ∈ H.back, PeOk w1 p) (ea : ∀ p ∈ H.again, PeOk w1 p) (gB : B ≤ g) : Hi w2 B g vb va H :=
  ⟨h2, row_keep ob h1 (by decide) ho, row_keep oa h1 (by decide) ho, sep, fun p hp => (eb p hp).row h1 ho, fun p hp => (ea p hp).row h1 ho, gB⟩
theorem chk_cases (n : Int) (l : List Pt) : chkV n l = .tuple #[.int .i64 0, .int .i64 30] ∨ ∃ t, chkV n l = .tuple #[.int .i64 t, .int .i64 0] := by
  unfold chkV
  split
  · exact .inl rfl
  · split
    · exact .inr ⟨_, rfl⟩
    · exact .inl rfl
theorem chk_ed {l : List Pt} {f t : Nat} {n : Int} (h : IsEd l f t) (hn : n = (f : Int)) (ht : t ≤ 1048576) : chkV n l = .tuple #[.int .i64 (t : Int), .int .i64 0] := by
  unfold chkV
  rw [ed_size h]
  show (if (f : Int) = n ∧ (t : Int) ≤ 1048576 then _ else _) = _
  rw [if_pos ⟨hn.symm, by omega⟩]
theorem own_nil' (w : World) (B : Nat) : w.ownsRow B 32 1 (.slice none 0 0) 0 [] := ⟨rfl, .inl ⟨rfl, rfl⟩⟩
theorem PeOk.slice {w : World} {p : Pe} (h : PeOk w p) : ∃ x m k, p.v = .slice x m k := by
  obtain ⟨a, c, e, _⟩ := h.own.open
  exact ⟨a, _, c, e⟩
set_option maxRecDepth 100000 in
set_option maxHeartbeats 4000000 in
theorem mine_no (B g m : Nat) (vb va : Value) (H : Hs) (a : Option Addr) (l : List Pt) (c : Nat) (s : ByteArray) (w : World) (h : Hi w B g vb va H) (hT : UT w) (he : Edit w a l c) (hm : l.length = m) (hs : s.size ≤ 281474976710656) (hno : isOfB l s = false) (hl : m ≤ 1099511627776) :
    Calls Tryd.prog 15 #[.pointer (some ⟨g, 0, none⟩), .slice a m c, .string s] w fun r w' => r = .returned (.int .i64 30) ∧ Below w.heap.size w w' := by
  have K := hide (check_ok g H.n a l c m w hT he hm (h.row.cell 0) (h.row.cell 1))
  have KI : Hid (∀ W, Below w.heap.size w W → Calls Tryd.prog 31 #[.slice a m c, .string s] W fun r w' => IvtR W w' l s r ∧ Below W.heap.size W w') := hide (fun W hW => invert_at (w := W) s (hT.call hW) (he.call hW) hm hl hs (Below.refl _ _))
  have HN := hide hno
  rcases chk_cases H.n l with hc | ⟨t, hc⟩
  · rw [hc] at K
    clear h hT he hm hc hno
    go_enter Tryd.func15, Tryd.ntmps15
    go_wp2_with fail
    refine Calls.mono (unhide K) ?_
    rintro r w1 ⟨rfl, hb⟩
    have HB := hide hb
    clear hb
    go_wp2_with fail
    go_ret
    exact ⟨rfl, unhide HB⟩
  · rw [hc] at K
    clear h hT he hm hc hno
    go_enter Tryd.func15, Tryd.ntmps15
    go_wp2_with fail
    refine Calls.mono (unhide K) ?_
    rintro r w1 ⟨rfl, hb⟩
    have HB := hide hb
    clear hb
    go_wp2_with fail
    refine Calls.mono (unhide KI w1 (unhide HB)) ?_
    rintro r w2 ⟨hi, hb⟩
    rcases hi with ⟨_, rfl⟩ | ⟨hi, _⟩
    · have HB2 := hide ((unhide HB).trans (hb.mono (unhide HB).size))
      clear hb
      go_wp2_with fail
      go_ret
      exact ⟨rfl, unhide HB2⟩
    · rw [unhide HN] at hi; cases hi
def MineR (B g : Nat) (vb va : Value) (H : Hs) (l : List Pt) (cs : List (List UInt8)) (t : Nat) (w : World) (r : Ending) (w' : World) : Prop := ∃ p vb', r = .returned (.int .i64 0) ∧ atomsL p.l = At.can (At.inv (atomsL l) cs) ∧ PeOk w' p ∧ Hi w' B g vb' (.slice none 0 0) ⟨t, pushP H.back p, []⟩ ∧ Only (fpH g vb va) w w'
theorem MineR.shape {B g : Nat} {vb va : Value} {H : Hs} {l : List Pt} {cs : List (List UInt8)} {t : Nat} {w w' : World} {r : Ending} (h : MineR B g vb va H l cs t w r w') : ∃ p vb', r = .returned (.int .i64 0) ∧ atomsL p.l = At.can (At.inv (atomsL l) cs) ∧ PeOk w' p ∧ Hi w' B g vb' (.slice none 0 0) ⟨t, pushP H.back p, []⟩ ∧ Only (fpH g vb va) w w' := h
set_option maxRecDepth 100000 in
set_option maxHeartbeats 4000000 in
theorem mine_ok (B g m t : Nat) (vb va : Value) (H : Hs) (a : Option Addr) (l : List Pt) (c : Nat) (s : ByteArray) (cs : List (List UInt8)) (w : World) (h : Hi w B g vb va H) (hT : UT w) (he : Edit w a l c) (hm : l.length = m) (hx : Tx s cs) (hed : IsEd l cs.length t) (hn : H.n = (cs.length : Int)) (ht : t ≤ 1048576) (hbk : H.back.length ≤ 50) (hl : m ≤ 1099511627776) :
    Calls Tryd.prog 15 #[.pointer (some ⟨g, 0, none⟩), .slice a m c, .string s] w fun r w' => MineR B g vb va H l cs t w r w' := by
  have K := hide (check_ok g H.n a l c m w hT he hm (h.row.cell 0) (h.row.cell 1))
  rw [chk_ed hed hn ht] at K
  have KI : Hid (∀ W, Below w.heap.size w W → Calls Tryd.prog 31 #[.slice a m c, .string s] W fun r w' => IvtR W w' l s r ∧ Below W.heap.size W w') := hide (fun W hW => invert_at (w := W) s (hT.call hW) (he.call hW) hm hl (hx.small rfl hed.2.2.2.1) (Below.refl _ _))
  have HX := hide hx
  have HO := hide (ed_isOf hx hed)
  have HH := hide h
  have HBK := hide hbk
  clear h hT he hm hx hed hn ht hbk hl
  go_enter Tryd.func15, Tryd.ntmps15
  go_wp2_with fail
  refine Calls.mono (unhide K) ?_
  rintro r w1 ⟨rfl, hb⟩
  have HB := hide hb
  clear hb K
  go_wp2_with fail
  refine Calls.mono (unhide KI w1 (unhide HB)) ?_
  rintro r w2 ⟨hi, hb⟩
  rcases hi with ⟨hi, _⟩ | ⟨_, v, ci, c0, x0, rfl, ov, nfv, atv, lnv⟩
  · rw [unhide HO] at hi; cases hi
  obtain rfl : c0 = cs := x0.inj (unhide HX)
  have hpk : PeOk w2 ⟨v, ci⟩ := ⟨own_base ov (Nat.zero_le _), nfv⟩
  have HP := hide hpk
  have HAT := hide atv
  have hb2 := (unhide HB).trans (hb.mono (unhide HB).size)
  have HB2 := hide hb2
  have h2 := (unhide HH).call hb2
  have H2 := hide h2
  have q2 := h2.row.cell 2
  simp only [List.getElem?_cons_zero, List.getElem?_cons_succ] at q2
  obtain ⟨px, pm, pk, hpv⟩ := hpk.slice
  have hpv' : v = .slice px pm pk := hpv
  subst hpv'
  obtain ⟨ab, cb, hvb⟩ := pl_one h2.ob
  obtain ⟨nb, hnb⟩ : ∃ z, H.back.length = z := ⟨_, rfl⟩
  have KP := hide (push_any B nb vb H.back ⟨.slice px pm pk, ci⟩ w2 (by rw [← hnb]; exact h2.ob) hnb (by have := unhide HBK; omega) (Nat.le_trans h2.gB (Nat.le_of_lt h2.row.lt)) (fun q hq => own_v (h2.eb q hq).own) ⟨px, pm, pk, rfl⟩)
  clear hb hb2 h2 hpk ov nfv atv lnv x0 KI hvb hnb
  go_wp2_with fail
  refine Calls.mono (unhide KP) ?_
  intro r w3 h3
  obtain ⟨vb', rfl, o3, n3, k3⟩ := h3.shape
  have hr2 := (unhide H2).row
  have hr3 : RowAt w3 g 65 _ := hr2.only n3 (fun e => tag_ne (unhide H2).ob hr2 (by decide) e)
  have c1 := hr3.cell 1
  have c2 := hr3.cell 2
  have c3 := hr3.cell 3
  have f1 := hr3.frozen 1
  have f2 := hr3.frozen 2
  have f3 := hr3.frozen 3
  simp only [List.getElem?_cons_zero, List.getElem?_cons_succ] at c1 c2 c3
  obtain ⟨ab', cb', rfl⟩ := pl_one o3
  have o4 : Only (· = g) w3 (((w3.setCell ⟨g, 2, none⟩ (.slice ab' (pushP H.back ⟨.slice px pm pk, ci⟩).length cb')).setCell ⟨g, 3, none⟩ (.slice none 0 0)).setCell ⟨g, 1, none⟩ (.int .i64 (t : Int))) := Only.set (p := (· = g)) (Only.set (p := (· = g)) (Only.set (p := (· = g)) (Only.refl _ _) g 2 _ rfl) g 3 _ rfl) g 1 _ rfl
  have r4 := ((hr3.set 2 (.slice ab' (pushP H.back ⟨.slice px pm pk, ci⟩).length cb')).set 3 (.slice none 0 0)).set 1 (.int .i64 (t : Int))
  have p3 : PeOk w3 ⟨.slice px pm pk, ci⟩ := (unhide HP).pile (unhide H2).ob n3
  have HE : Hid (MineR B g vb va H l c0 t w (.returned (.int .i64 0)) (((w3.setCell ⟨g, 2, none⟩ (.slice ab' (pushP H.back ⟨.slice px pm pk, ci⟩).length cb')).setCell ⟨g, 3, none⟩ (.slice none 0 0)).setCell ⟨g, 1, none⟩ (.int .i64 (t : Int)))) := hide (by
    refine ⟨⟨.slice px pm pk, ci⟩, _, rfl, unhide HAT, p3.row hr3 o4, Hi.of_row (H := ⟨(t : Int), pushP H.back ⟨.slice px pm pk, ci⟩, []⟩) hr3 r4 o4 o3 (own_nil' _ _) (fun k _ hk => by cases hk) (fun q hq => ?_) (fun q hq => by cases hq) (unhide H2).gB, ?_⟩
    · rcases pushP_mem hq with hq | rfl
      · exact ((unhide H2).eb q hq).pile (unhide H2).ob n3
      · exact p3
    · refine ((Only.of_below (unhide HB2)).trans (n3.mono (fun k hk => .inr (.inl hk)))).trans (o4.mono (fun k hk => .inl hk)))
  obtain ⟨np, hnp⟩ : ∃ z, (pushP H.back ⟨.slice px pm pk, ci⟩).length = z := ⟨_, rfl⟩
  rw [hnp] at HE ⊢
  clear h3 o3 n3 k3 hr2 hr3 o4 r4 p3 hnp KP
  go_wp2_with fail
  go_ret
  exact unhide HE
def TheirR (B g : Nat) (vb va : Value) (H : Hs) (e : List At) (t : Nat) (w : World) (r : Ending) (w' : World) : Prop := ∃ vb' va' P Q, r = .returned (.int .i64 0) ∧ ats P = beh (ats H.back) e ∧ ats Q = beh (ats H.again) e ∧ Hi w' B g vb' va' ⟨t, P, Q⟩ ∧ Only (fpH g vb va) w w'
theorem TheirR.shape {B g : Nat} {vb va : Value} {H : Hs} {e : List At} {t : Nat} {w w' : World} {r : Ending} (h : TheirR B g vb va H e t w r w') : ∃ vb' va' P Q, r = .returned (.int .i64 0) ∧ ats P = beh (ats H.back) e ∧ ats Q = beh (ats H.again) e ∧ Hi w' B g vb' va' ⟨t, P, Q⟩ ∧ Only (fpH g vb va) w w' := h
theorem BehR.shape {B : Nat} {P : List Pe} {e0 : List At} {w w' : World} {r : Ending} (h : BehR B P e0 w r w') : ∃ v' P', r = .returned (.tuple #[v', .int .i64 0]) ∧ w'.ownsRow w.heap.size 32 1 v' P.length (P'.map Pe.v) ∧ ats P' = beh (ats P) e0 ∧ (∀ p ∈ P', PeOk w' p) ∧ Below w.heap.size w w' := h
theorem pile_len {w : World} {B n : Nat} {v : Value} {P : List Pe} (h : w.ownsRow B 32 1 v n (P.map Pe.v)) : P.length = n := by have := h.1; rw [List.length_map, Nat.mul_one] at this; exact this
set_option maxRecDepth 100000 in
set_option maxHeartbeats 4000000 in
theorem theirs_ok (B g m f t M q0 : Nat) (vb va : Value) (H : Hs) (a : Option Addr) (l : List Pt) (c : Nat) (w : World) (h : Hi w B g vb va H) (hT : UT w) (he : Edit w a l c) (hm : l.length = m) (hed : IsEd l f t) (hn : H.n = (f : Int)) (ht : t ≤ 1048576) (hbk : H.back.length ≤ 50) (hag : H.again.length ≤ 50) (hM : M + q0 ≤ 274877906944) (hSb : Sz M (ats H.back)) (hSa : Sz M (ats H.again)) (hCb : Chain f (ats H.back)) (hCa : Chain f (ats H.again)) (hq : At.putsN (atomsL l) ≤ q0) (hf : f ≤ M) (htM : t ≤ M + q0) :
    Calls Tryd.prog 17 #[.pointer (some ⟨g, 0, none⟩), .slice a m c] w fun r w' => TheirR B g vb va H (atomsL l) t w r w' := by
  have K := hide (check_ok g H.n a l c m w hT he hm (h.row.cell 0) (h.row.cell 1))
  rw [chk_ed hed hn ht] at K
  have KB : Hid (∀ W, Below w.heap.size w W → ∀ (ap : Option Addr) (n cp : Nat) (P : List Pe), P.length = n → n ≤ 50 → W.ownsRow 0 32 1 (.slice ap n cp) n (P.map Pe.v) → (∀ p ∈ P, PeOk W p) → Sz M (ats P) → Chain f (ats P) → Calls Tryd.prog 40 #[.slice ap n cp, .slice a m c] W fun r w' => BehR 0 P (atomsL l) W r w') := hide (fun W hW ap n cp P hPn hn9 hr hP hS hC => by
    rw [← hm]
    exact behind_any ap a n cp c M q0 P l W (hT.call hW) (by omega) hPn hr hP (he.call hW) hed.1 hM hS (by rw [hed.2.1]; exact hC) hq (by rw [hed.2.1]; exact hf) (by rw [hed.2.2.1]; exact htM))
  have HH := hide h
  have HS := hide (And.intro hSb (And.intro hSa (And.intro hCb hCa)))
  have HL := hide (And.intro hbk hag)
  clear h hT he hm hed hn ht hbk hag hM hSb hSa hCb hCa hq hf htM
  go_enter Tryd.func17, Tryd.ntmps17
  go_wp2_with fail
  refine Calls.mono (unhide K) ?_
  rintro r w1 ⟨rfl, hb⟩
  have HB := hide hb
  have h1 := (unhide HH).call hb
  have H1 := hide h1
  have q2 := h1.row.cell 2
  simp only [List.getElem?_cons_zero, List.getElem?_cons_succ] at q2
  obtain ⟨ab, cb, hvb⟩ := pl_one h1.ob
  obtain ⟨nb, hnb⟩ : ∃ z, H.back.length = z := ⟨_, rfl⟩
  have K1 := hide (unhide KB w1 hb ab nb cb H.back hnb (by have := (unhide HL).1; omega) (by rw [← hnb, ← hvb]; exact own_base h1.ob (Nat.zero_le _)) h1.eb (unhide HS).1 (unhide HS).2.2.1)
  rw [hvb, hnb] at q2
  clear hb K h1
  go_wp2_with fail
  refine Calls.mono (unhide K1) ?_
  intro r w2 h2
  obtain ⟨v2, P2, rfl, o2, a2, e2, b2⟩ := h2.shape
  rw [hnb] at o2
  have O2 := hide o2
  have HA2 := hide a2
  have HE2 := hide e2
  have hB2 := (unhide HB).trans (b2.mono (unhide HB).size)
  have HB2 := hide hB2
  have HB12 := hide b2
  have h2' := (unhide H1).call b2
  have H2 := hide h2'
  have q3 := h2'.row.cell 3
  simp only [List.getElem?_cons_zero, List.getElem?_cons_succ] at q3
  obtain ⟨aa, ca, hva⟩ := pl_one h2'.oa
  obtain ⟨na, hna⟩ : ∃ z, H.again.length = z := ⟨_, rfl⟩
  have K2 := hide (unhide KB w2 hB2 aa na ca H.again hna (by have := (unhide HL).2; omega) (by rw [← hna, ← hva]; exact own_base h2'.oa (Nat.zero_le _)) h2'.ea (unhide HS).2.1 (unhide HS).2.2.2)
  rw [hva, hna] at q3
  obtain ⟨x2, d2, rfl⟩ := pl_one o2
  have HVB := hide hvb
  have HVA := hide hva
  clear h2 o2 a2 e2 b2 hB2 h2' K1 hvb hva q2
  go_wp2_with fail
  refine Calls.mono (unhide K2) ?_
  intro r w3 h3
  obtain ⟨v3, P3, rfl, o3, a3, e3, b3⟩ := h3.shape
  rw [hna] at o3
  obtain ⟨x3, d3, rfl⟩ := pl_one o3
  have hr3 := ((unhide H2).call b3).row
  have c1 := hr3.cell 1
  have c2 := hr3.cell 2
  have c3 := hr3.cell 3
  have f1 := hr3.frozen 1
  have f2 := hr3.frozen 2
  have f3 := hr3.frozen 3
  simp only [List.getElem?_cons_zero, List.getElem?_cons_succ] at c1 c2 c3
  have o4 : Only (· = g) w3 (((w3.setCell ⟨g, 2, none⟩ (.slice x2 nb d2)).setCell ⟨g, 3, none⟩ (.slice x3 na d3)).setCell ⟨g, 1, none⟩ (.int .i64 (t : Int))) := Only.set (p := (· = g)) (Only.set (p := (· = g)) (Only.set (p := (· = g)) (Only.refl _ _) g 2 _ rfl) g 3 _ rfl) g 1 _ rfl
  have r4 := ((hr3.set 2 (.slice x2 nb d2)).set 3 (.slice x3 na d3)).set 1 (.int .i64 (t : Int))
  have HE : Hid (TheirR B g vb va H (atomsL l) t w (.returned (.int .i64 0)) (((w3.setCell ⟨g, 2, none⟩ (.slice x2 nb d2)).setCell ⟨g, 3, none⟩ (.slice x3 na d3)).setCell ⟨g, 1, none⟩ (.int .i64 (t : Int)))) := hide (by
    have hg1 : B ≤ w1.heap.size := Nat.le_trans (unhide H1).gB (Nat.le_of_lt (unhide H1).row.lt)
    have hg2 : B ≤ w2.heap.size := Nat.le_trans (unhide H2).gB (Nat.le_of_lt (unhide H2).row.lt)
    have l2 := pile_len (unhide O2)
    have l3 := pile_len o3
    refine ⟨_, _, P2, P3, rfl, unhide HA2, a3, Hi.of_row (H := ⟨(t : Int), P2, P3⟩) hr3 r4 o4 (own_call (by rw [l2]; exact own_base (unhide O2) hg1) b3) (by rw [l3]; exact own_base o3 hg2) (fun k hk hk' => ?_) (fun q hq => (unhide HE2 q hq).call b3) e3 (unhide H2).gB, ?_⟩
    · have h9 := ((unhide O2).lt k hk).2
      have h8 := (o3.lt k hk').1
      omega
    · exact (Only.of_below ((unhide HB2).trans (b3.mono (unhide HB2).size))).trans (o4.mono (fun k hk => .inl hk)))
  clear h3 o3 a3 e3 b3 hr3 o4 r4 K2 q3
  go_wp2_with fail
  go_ret
  exact unhide HE
end Go.Proofs.YtihiengejpjbkaaDoor
