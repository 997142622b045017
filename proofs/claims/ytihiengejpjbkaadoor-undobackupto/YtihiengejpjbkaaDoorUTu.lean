/- A history: undone, and done again. -/
import Derived.Test.YtihiengejpjbkaaDoorUMi
namespace Go.Proofs.YtihiengejpjbkaaDoor
set_option linter.unusedVariables false
set_option linter.unusedSimpArgs false
open Go.ChangeShapes Go.WideShapes Go.ChangeAt Go.RowKit Go.Joins Go.Deep

set_option maxRecDepth 100000 in
set_option maxHeartbeats 4000000 in
theorem top_any (B k : Nat) (v u : Value) (xs : List Value) (w : World) (h : w.ownsRow B 32 1 v (k + 1) xs) (hx : xs[k]? = some u) (hk : k ≤ 1000) :
    Calls Tryd.prog 72 #[v] w fun r w' => r = .returned u ∧ w = w' := by
  obtain ⟨g, cap, cs, rfl, _, hr, h1, _, h2, h3⟩ := pl_row h (by omega)
  have hc : w.cell? ⟨g, k, none⟩ = some u := by rw [hr.cell, ← hx, ← h3, List.getElem?_take_of_lt (by omega)]
  obtain ⟨n, hn⟩ : ∃ n, k + 1 = n := ⟨_, rfl⟩
  rw [hn]
  have e1 : (n : Int) - 1 = (k : Int) := by omega
  have e2 : (k : Int) < (n : Int) := by omega
  have e3 : (0 : Int) ≤ (k : Int) := by omega
  clear h hx h1 h2 h3 hr
  go_enter Tryd.func72, Tryd.ntmps72
  go_wp2_with fail
  go_ret
  exact ⟨rfl, rfl⟩
set_option maxRecDepth 100000 in
set_option maxHeartbeats 4000000 in
theorem pop_any (B k : Nat) (v : Value) (xs : List Value) (w : World) (h : w.ownsRow B 32 1 v (k + 1) xs) (hk : k + 1 ≤ 1000) :
    Calls Tryd.prog 73 #[v] w fun r w' => DelR w B k v (xs.take k) r w' := by
  have K := hide (del_last w B k v xs h hk)
  obtain ⟨a, c, rfl⟩ := pl_one h
  obtain ⟨n, hn⟩ : ∃ n, k + 1 = n := ⟨_, rfl⟩
  rw [hn] at K ⊢
  have e1 : (n : Int) - 1 = (k : Int) := by omega
  have e4 : (k : Int) + 1 = (n : Int) := by omega
  rw [e4] at K
  have i0 : (0 : Int) ≤ (k : Int) := by omega
  have i1 : (k : Int) ≤ 1000 := by omega
  clear h hk e4
  go_enter Tryd.func73, Tryd.ntmps73
  go_wp2_with fail
  refine Calls.mono (unhide K) ?_
  intro r w1 h1
  obtain ⟨v1, rfl, h2⟩ := h1
  have HE : Hid (DelR w B k (.slice a n c) (xs.take k) (.returned v1) w1) := hide ⟨v1, rfl, h2⟩
  clear h2 K
  go_wp2_with fail
  go_ret
  exact unhide HE
def TurnUR (B g : Nat) (vb va : Value) (H : Hs) (P : List Pe) (p : Pe) (cs : List (List UInt8)) (t : Nat) (w : World) (r : Ending) (w' : World) : Prop := ∃ q vb' va', r = .returned (.tuple #[p.v, .int .i64 0]) ∧ atomsL q.l = At.can (At.inv (atomsL p.l) cs) ∧ PeOk w' q ∧ PeOk w' p ∧ Hi w' B g vb' va' ⟨t, P, pushP H.again q⟩ ∧ Only (fpH g vb va) w w'
theorem TurnUR.shape {B g : Nat} {vb va : Value} {H : Hs} {P : List Pe} {p : Pe} {cs : List (List UInt8)} {t : Nat} {w w' : World} {r : Ending} (h : TurnUR B g vb va H P p cs t w r w') : ∃ q vb' va', r = .returned (.tuple #[p.v, .int .i64 0]) ∧ atomsL q.l = At.can (At.inv (atomsL p.l) cs) ∧ PeOk w' q ∧ PeOk w' p ∧ Hi w' B g vb' va' ⟨t, P, pushP H.again q⟩ ∧ Only (fpH g vb va) w w' := h
set_option maxRecDepth 100000 in
set_option maxHeartbeats 4000000 in
theorem turnU_none (B g : Nat) (vb va : Value) (H : Hs) (s : ByteArray) (w : World) (h : Hi w B g vb va H) (h0 : H.back = []) :
    Calls Tryd.prog 43 #[.pointer (some ⟨g, 0, none⟩), .pointer (some ⟨g, 2, none⟩), .pointer (some ⟨g, 3, none⟩), .string s] w fun r w' => r = .returned (.tuple #[.slice none 0 0, .int .i64 160]) ∧ w = w' := by
  have ho := h.ob
  rw [h0] at ho
  obtain ⟨a, c, hv⟩ := pl_one ho
  have q2 := h.row.cell 2
  simp only [List.getElem?_cons_zero, List.getElem?_cons_succ] at q2
  rw [hv] at q2
  clear h ho hv
  go_enter Tryd.func43, Tryd.ntmps43
  go_wp2_with fail
  go_ret2
  exact ⟨rfl, rfl⟩
set_option maxRecDepth 100000 in
set_option maxHeartbeats 4000000 in
theorem turnU_ok (B g t : Nat) (vb va : Value) (H : Hs) (P : List Pe) (p : Pe) (s : ByteArray) (cs : List (List UInt8)) (w : World) (h : Hi w B g vb va H) (hTU : ∀ W, Below B w W → UT W) (hF : H.back = P ++ [p]) (hPl : P.length ≤ 100) (hTl : H.again.length ≤ 50) (hx : Tx s cs) (hed : IsEd p.l cs.length t) (hn : H.n = (cs.length : Int)) (hcs : cs.length ≤ 274877906944) (ht : t ≤ 274877906944) :
    Calls Tryd.prog 43 #[.pointer (some ⟨g, 0, none⟩), .pointer (some ⟨g, 2, none⟩), .pointer (some ⟨g, 3, none⟩), .string s] w fun r w' => TurnUR B g vb va H P p cs t w r w' := by
  have hT := hTU w (Below.refl _ _)
  have HTU := hide hTU
  have hmem : p ∈ H.back := by rw [hF]; exact List.mem_append.2 (.inr (by simp))
  have hlen := nf_len hed.1
  rw [hed.2.1, hed.2.2.1] at hlen
  have hpk := h.eb p hmem
  obtain ⟨ea, ec, hev, hE⟩ := hpk.own.edit (ed_txt hed) (by omega)
  obtain ⟨m, hm⟩ : ∃ z, p.l.length = z := ⟨_, rfl⟩
  rw [hm] at hev
  have hss : s.size ≤ 281474976710656 := hx.small rfl hed.2.2.2.1
  have KV : Hid (∀ W, Below w.heap.size w W → Calls Tryd.prog 29 #[.string s] W fun e w' => e = .returned (.bool true) ∧ Below W.heap.size W w') := hide (fun W hW => by
    have h9 := valid_any s W (hT.call hW) (by omega)
    rw [hx.valid] at h9
    exact h9)
  have KC : Hid (∀ W, Below w.heap.size w W → Calls Tryd.prog 13 #[.string s] W fun e w' => e = .returned (.int .i64 (cs.length : Int)) ∧ Below W.heap.size W w') := hide (fun W hW => count_at (w := W) hx hss (Below.refl _ _))
  have KI : Hid (∀ W, Below w.heap.size w W → Calls Tryd.prog 31 #[.slice ea m ec, .string s] W fun r w' => IvtR W w' p.l s r ∧ Below W.heap.size W w') := hide (fun W hW => invert_at (w := W) s (hT.call hW) (hE.call hW) hm (by omega) hss (Below.refl _ _))
  have KS : Hid (∀ W, UT W → Edit W ea p.l ec → Calls Tryd.prog 53 #[.slice ea m ec] W fun r w' => r = .returned (.tuple #[.int .i64 (cs.length : Int), .int .i64 (t : Int), .int .i64 0]) ∧ Below W.heap.size W w') := hide (fun W hU hE => by
    have h9 := size_at (w := W) hU hE hm (Below.refl _ _)
    have e : szVal p.l = .tuple #[.int .i64 (cs.length : Int), .int .i64 (t : Int), .int .i64 0] := by unfold szVal; rw [ed_size hed]
    rw [e] at h9
    exact h9)
  have HOK := hide (ed_isOf hx hed)
  have HX := hide hx
  have HH := hide h
  have HPK := hide hpk
  have HEV := hide hev
  have HM := hide hm
  have HED := hide hed
  have HF := hide hF
  obtain ⟨af, cf, hvf⟩ := pl_one h.ob
  obtain ⟨at_, ct, hvt⟩ := pl_one h.oa
  obtain ⟨nt, hnt⟩ : ∃ z, H.again.length = z := ⟨_, rfl⟩
  have hfl : H.back.length = P.length + 1 := by rw [hF]; simp
  obtain ⟨k, hk⟩ : ∃ z, P.length = z := ⟨_, rfl⟩
  obtain ⟨n, hkn⟩ : ∃ z, k + 1 = z := ⟨_, rfl⟩
  have HKN := hide hkn
  rw [hk] at hfl hPl
  rw [hfl, hkn] at hvf
  rw [hnt] at hvt hTl
  have q2 := h.row.cell 2
  have q1 := h.row.cell 1
  simp only [List.getElem?_cons_zero, List.getElem?_cons_succ] at q2 q1
  rw [hvf] at q2
  rw [hn] at q1
  have HVF := hide hvf
  have HVT := hide hvt
  have HK := hide (And.intro hk (And.intro hnt (And.intro hfl hn)))
  have n0 : ((n : Int) == 0) = false := by simp; omega
  have n1 : ¬ n = 0 := by omega
  clear h hT hTU hF hx hed hn hmem hlen hpk hev hE hm hss hvf hvt hnt hfl hk hkn
  go_enter Tryd.func43, Tryd.ntmps43
  go_wp2_with fail
  obtain ⟨nc, hnc⟩ : ∃ z, cs.length = z := ⟨_, rfl⟩
  rw [hnc] at q1 KC KS
  have HNC := hide hnc
  clear hnc
  refine wp_region_T (S := fun W => W.cell? ⟨g, 1, none⟩ = some (.int .i64 (nc : Int))) (fun i => decide (i < 12)) (by kernel_rfl) q1 (fun hHeld => ?_)
  have HBd := hide (Below.drew (Below.refl w.heap.size w))
  obtain ⟨wd, hwd⟩ : ∃ z, w.drew = z := ⟨_, rfl⟩
  rw [hwd] at hHeld HBd ⊢
  clear hwd q1
  refine wpAnyT_take (i := 0) (oi := { dst := some 18, op := Op.move (Operand.tmp 3), type := 9, pos := "undo.go:108", after := #[], guard := none }) (v := .string s) rfl (by kernel_rfl) (by kernel_rfl) (by kernel_rfl) (by kernel_rfl) (fun _ _ _ h => h) (Or.inl ⟨by rfl, ?_⟩) hHeld ?_
  · intro w hSw
    have h0 := hSw
    first
      | rfl
      | (go_simp; done)
  try simp only [Act.put, List.setIfInBounds_toArray, List.set_cons_zero, List.set_cons_succ]
  refine wpAnyT_one (i := 1) (o := { dst := some 19, op := Op.call { callee := Callee.value (Operand.func 29), args := #[Operand.tmp 18], argTypes := #[9] }, type := 4, pos := "undo.go:108", after := #[{ on := 0, ground := Ground.data }], guard := none }) (by kernel_rfl) rfl (fun K hK => ?_)
  go_simp
  refine Calls.mono (unhide KV wd (unhide HBd)) ?_
  rintro r9 wv ⟨rfl, bv⟩
  have HBv := hide ((unhide HBd).trans (bv.mono (unhide HBd).size))
  have hS1 := cell_keep bv (lt_of_cell hHeld) hHeld
  clear bv hHeld KV
  go_wp2_with fail
  refine hK.out _ _ (fun _ => hS1) ?_
  clear hK K
  try simp only [Act.put, List.setIfInBounds_toArray, List.set_cons_zero, List.set_cons_succ]
  refine wpAnyT_take (i := 2) (oi := { dst := some 20, op := Op.unOp UnOp.not 4 (Operand.tmp 19), type := 4, pos := "undo.go:108", after := #[{ on := 1, ground := Ground.data }], guard := none }) (v := .bool false) rfl (by kernel_rfl) (by kernel_rfl) (by kernel_rfl) (by kernel_rfl) (fun _ _ _ h => h) (Or.inl ⟨by rfl, ?_⟩) hS1 ?_
  · intro w hSw
    have h0 := hSw
    first
      | rfl
      | (go_simp; done)
  try simp only [Act.put, List.setIfInBounds_toArray, List.set_cons_zero, List.set_cons_succ]
  refine wpAnyT_take (i := 3) (oi := { dst := some 21, op := Op.move (Operand.tmp 20), type := 4, pos := "undo.go:108", after := #[{ on := 2, ground := Ground.data }, { on := 1, ground := Ground.chain }], guard := none }) (v := .bool false) rfl (by kernel_rfl) (by kernel_rfl) (by kernel_rfl) (by kernel_rfl) (fun _ _ _ h => h) (Or.inl ⟨by rfl, ?_⟩) hS1 ?_
  · intro w hSw
    have h0 := hSw
    first
      | rfl
      | (go_simp; done)
  try simp only [Act.put, List.setIfInBounds_toArray, List.set_cons_zero, List.set_cons_succ]
  refine wpAnyT_take (i := 4) (oi := { dst := some 22, op := Op.move (Operand.tmp 3), type := 9, pos := "undo.go:108", after := #[{ on := 3, ground := Ground.guard }], guard := some (3, false) }) (v := .string s) rfl (by kernel_rfl) (by kernel_rfl) (by kernel_rfl) (by kernel_rfl) (fun _ _ _ h => h) (Or.inl ⟨by rfl, ?_⟩) hS1 ?_
  · intro w hSw
    have h0 := hSw
    first
      | rfl
      | (go_simp; done)
  try simp only [Act.put, List.setIfInBounds_toArray, List.set_cons_zero, List.set_cons_succ]
  refine wpAnyT_take (i := 6) (oi := { dst := some 24, op := Op.move (Operand.tmp 0), type := 25, pos := "undo.go:108", after := #[{ on := 3, ground := Ground.guard }], guard := some (3, false) }) (v := .pointer (some ⟨g, 0, none⟩)) rfl (by kernel_rfl) (by kernel_rfl) (by kernel_rfl) (by kernel_rfl) (fun _ _ _ h => h) (Or.inl ⟨by rfl, ?_⟩) hS1 ?_
  · intro w hSw
    have h0 := hSw
    first
      | rfl
      | (go_simp; done)
  try simp only [Act.put, List.setIfInBounds_toArray, List.set_cons_zero, List.set_cons_succ]
  refine wpAnyT_take (i := 7) (oi := { dst := some 25, op := Op.nilCheck (Operand.tmp 24), type := 0, pos := "undo.go:108", after := #[{ on := 6, ground := Ground.data }, { on := 3, ground := Ground.guard }], guard := some (3, false) }) (v := .pointer (some ⟨g, 0, none⟩)) rfl (by kernel_rfl) (by kernel_rfl) (by kernel_rfl) (by kernel_rfl) (fun _ _ _ h => h) (Or.inl ⟨by rfl, ?_⟩) hS1 ?_
  · intro w hSw
    have h0 := hSw
    first
      | rfl
      | (go_simp; done)
  try simp only [Act.put, List.setIfInBounds_toArray, List.set_cons_zero, List.set_cons_succ]
  refine wpAnyT_take (i := 8) (oi := { dst := some 26, op := Op.fieldAddr 65 (Operand.tmp 25) 1, type := 0, pos := "undo.go:108", after := #[{ on := 7, ground := Ground.data }, { on := 3, ground := Ground.guard }], guard := some (3, false) }) (v := .pointer (some ⟨g, 1, none⟩)) rfl (by kernel_rfl) (by kernel_rfl) (by kernel_rfl) (by kernel_rfl) (fun _ _ _ h => h) (Or.inl ⟨by rfl, ?_⟩) hS1 ?_
  · intro w hSw
    have h0 := hSw
    first
      | rfl
      | (go_simp; done)
  try simp only [Act.put, List.setIfInBounds_toArray, List.set_cons_zero, List.set_cons_succ]
  refine wpAnyT_take (i := 9) (oi := { dst := some 27, op := Op.load 3 (Operand.tmp 26), type := 3, pos := "undo.go:108", after := #[{ on := 8, ground := Ground.data }, { on := 3, ground := Ground.guard }], guard := some (3, false) }) (v := .int .i64 (nc : Int)) rfl (by kernel_rfl) (by kernel_rfl) (by kernel_rfl) (by kernel_rfl) (fun _ _ _ h => h) (Or.inl ⟨by rfl, ?_⟩) hS1 ?_
  · intro w hSw
    have h0 := hSw
    first
      | rfl
      | (go_simp; done)
  try simp only [Act.put, List.setIfInBounds_toArray, List.set_cons_zero, List.set_cons_succ]
  refine wpAnyT_one (i := 5) (o := { dst := some 23, op := Op.call { callee := Callee.value (Operand.func 13), args := #[Operand.tmp 22], argTypes := #[9] }, type := 3, pos := "undo.go:108", after := #[{ on := 4, ground := Ground.data }, { on := 3, ground := Ground.chain }, { on := 3, ground := Ground.guard }], guard := some (3, false) }) (by kernel_rfl) rfl (fun K hK => ?_)
  go_simp
  refine Calls.mono (unhide KC wv (unhide HBv)) ?_
  rintro r9 wc ⟨rfl, bc⟩
  have HBc := hide ((unhide HBv).trans (bc.mono (unhide HBv).size))
  have hS2 := cell_keep bc (lt_of_cell hS1) hS1
  clear bc hS1 KC HBv
  go_wp2_with fail
  refine hK.out _ _ (fun _ => hS2) ?_
  clear hK K
  try simp only [Act.put, List.setIfInBounds_toArray, List.set_cons_zero, List.set_cons_succ]
  refine wpAnyT_take (i := 10) (oi := { dst := some 28, op := Op.binOp BinOp.neq 3 (Operand.tmp 23) (Operand.tmp 27) 3, type := 4, pos := "undo.go:108", after := #[{ on := 5, ground := Ground.data }, { on := 9, ground := Ground.data }, { on := 3, ground := Ground.guard }], guard := some (3, false) }) (v := .bool false) rfl (by kernel_rfl) (by kernel_rfl) (by kernel_rfl) (by kernel_rfl) (fun _ _ _ h => h) (Or.inl ⟨by rfl, ?_⟩) hS2 ?_
  · intro w hSw
    have h0 := hSw
    first
      | rfl
      | (go_simp; done)
  try simp only [Act.put, List.setIfInBounds_toArray, List.set_cons_zero, List.set_cons_succ]
  refine wpAnyT_take (i := 11) (oi := { dst := some 29, op := Op.pick (Operand.tmp 21) (Operand.const (Value.bool true)) (Operand.tmp 28), type := 4, pos := "undo.go:108", after := #[{ on := 3, ground := Ground.data }, { on := 10, ground := Ground.data }], guard := none }) (v := .bool false) rfl (by kernel_rfl) (by kernel_rfl) (by kernel_rfl) (by kernel_rfl) (fun _ _ _ h => h) (Or.inl ⟨by rfl, ?_⟩) hS2 ?_
  · intro w hSw
    have h0 := hSw
    first
      | rfl
      | (go_simp; done)
  try simp only [Act.put, List.setIfInBounds_toArray, List.set_cons_zero, List.set_cons_succ]
  refine wpAnyT_done (by kernel_rfl) ?_ _
  have H1 := hide ((unhide HH).call (unhide HBc))
  have q2c : wc.cell? ⟨g, 2, none⟩ = some (.slice af n cf) := cell_keep (unhide HBc) (lt_of_cell q2) q2
  have KT := hide (top_any B k (.slice af n cf) p.v (H.back.map Pe.v) wc (by rw [← unhide HVF]; have h9 := (unhide H1).ob; rw [(unhide HK).2.2.1] at h9; exact h9) (by rw [unhide HF, List.map_append, List.getElem?_append_right (by rw [List.length_map, (unhide HK).1]; exact Nat.le_refl _), List.length_map, (unhide HK).1]; simp) (by omega))
  rw [unhide HEV] at KT
  clear hS2 q2
  go_wp2_with fail
  refine Calls.mono (unhide KT) ?_
  rintro r w9 ⟨rfl, rfl⟩
  clear KT
  go_wp2_with fail
  refine Calls.mono (unhide KI wc (unhide HBc)) ?_
  rintro r w2 ⟨hi, hb⟩
  rcases hi with ⟨hi, _⟩ | ⟨_, v, ci, c0, x0, rfl, ov, nfv, atv, lnv⟩
  · rw [unhide HOK] at hi; cases hi
  obtain rfl : c0 = cs := x0.inj (unhide HX)
  have hpq : PeOk w2 ⟨v, ci⟩ := ⟨own_base ov (Nat.zero_le _), nfv⟩
  obtain ⟨px, pm, pk, hpv⟩ := hpq.slice
  have hpv' : v = .slice px pm pk := hpv
  subst hpv'
  have HQ := hide hpq
  have HAT := hide atv
  have HB2 := hide ((unhide HBc).trans (hb.mono (unhide HBc).size))
  have H2 := hide ((unhide H1).call hb)
  clear hb hpq ov nfv atv lnv x0 hpv KI q2c H1
  go_wp2_with fail
  have h2d := (unhide H2).call (Below.drew (Below.refl w2.heap.size w2))
  have HBd2 := hide ((unhide HB2).trans ((Below.drew (Below.refl w2.heap.size w2)).mono (unhide HB2).size))
  have HQd := hide ((unhide HQ).call (Below.drew (Below.refl w2.heap.size w2)))
  obtain ⟨w3, hw3⟩ : ∃ z, w2.drew = z := ⟨_, rfl⟩
  rw [hw3] at h2d HBd2 HQd
  have H3 := hide h2d
  have q3 := h2d.row.cell 2
  have q4 := h2d.row.cell 3
  simp only [List.getElem?_cons_zero, List.getElem?_cons_succ] at q3 q4
  rw [unhide HVF] at q3
  rw [unhide HVT] at q4
  refine wp_region_T (S := fun W => W.cell? ⟨g, 2, none⟩ = some (.slice af n cf) ∧ W.cell? ⟨g, 3, none⟩ = some (.slice at_ nt ct)) (fun i => decide (i < 11) && !(decide (i = 1)) && !(decide (i = 6))) (by kernel_rfl) (by rw [hw3]; exact ⟨q3, q4⟩) (fun hHeld => ?_)
  rw [hw3] at hHeld ⊢
  clear hw3 h2d q3 q4 HQ H2
  refine wpAnyT_pure (i := 1) (oi := { dst := some 44, op := Op.move (Operand.tmp 2), type := 80, pos := "undo.go:116", after := #[{ on := 12, ground := Ground.gcOnly Departure.lateStores }], guard := none }) (v := .pointer (some ⟨g, 3, none⟩)) rfl (by kernel_rfl) (by kernel_rfl) (by kernel_rfl) rfl (fun _ _ _ h => h) (Or.inl ⟨by rfl, ?_⟩) ?_
  · intro w hSw
    first
      | rfl
      | (go_simp; done)
  try simp only [Act.put, List.setIfInBounds_toArray, List.set_cons_zero, List.set_cons_succ]
  refine wpAnyT_pure (i := 6) (oi := { dst := some 49, op := Op.move (Operand.tmp 2), type := 80, pos := "undo.go:116", after := #[], guard := none }) (v := .pointer (some ⟨g, 3, none⟩)) rfl (by kernel_rfl) (by kernel_rfl) (by kernel_rfl) rfl (fun _ _ _ h => h) (Or.inl ⟨by rfl, ?_⟩) ?_
  · intro w hSw
    first
      | rfl
      | (go_simp; done)
  try simp only [Act.put, List.setIfInBounds_toArray, List.set_cons_zero, List.set_cons_succ]
  refine wpAnyT_take (i := 0) (oi := { dst := some 43, op := Op.move (Operand.tmp 1), type := 80, pos := "undo.go:116", after := #[], guard := none }) (v := .pointer (some ⟨g, 2, none⟩)) rfl (by kernel_rfl) (by kernel_rfl) (by kernel_rfl) (by kernel_rfl) (fun _ _ _ h => h) (Or.inl ⟨by rfl, ?_⟩) hHeld ?_
  · intro w hSw
    obtain ⟨h0, h1⟩ := hSw
    first
      | rfl
      | (go_simp; done)
  try simp only [Act.put, List.setIfInBounds_toArray, List.set_cons_zero, List.set_cons_succ]
  refine wpAnyT_take (i := 2) (oi := { dst := some 45, op := Op.move (Operand.tmp 1), type := 80, pos := "undo.go:116", after := #[], guard := none }) (v := .pointer (some ⟨g, 2, none⟩)) rfl (by kernel_rfl) (by kernel_rfl) (by kernel_rfl) (by kernel_rfl) (fun _ _ _ h => h) (Or.inl ⟨by rfl, ?_⟩) hHeld ?_
  · intro w hSw
    obtain ⟨h0, h1⟩ := hSw
    first
      | rfl
      | (go_simp; done)
  try simp only [Act.put, List.setIfInBounds_toArray, List.set_cons_zero, List.set_cons_succ]
  refine wpAnyT_take (i := 3) (oi := { dst := some 46, op := Op.nilCheck (Operand.tmp 45), type := 0, pos := "undo.go:116", after := #[{ on := 2, ground := Ground.data }], guard := none }) (v := .pointer (some ⟨g, 2, none⟩)) rfl (by kernel_rfl) (by kernel_rfl) (by kernel_rfl) (by kernel_rfl) (fun _ _ _ h => h) (Or.inl ⟨by rfl, ?_⟩) hHeld ?_
  · intro w hSw
    obtain ⟨h0, h1⟩ := hSw
    first
      | rfl
      | (go_simp; done)
  try simp only [Act.put, List.setIfInBounds_toArray, List.set_cons_zero, List.set_cons_succ]
  refine wpAnyT_take (i := 4) (oi := { dst := some 47, op := Op.load 63 (Operand.tmp 46), type := 63, pos := "undo.go:116", after := #[{ on := 3, ground := Ground.data }], guard := none }) (v := .slice af n cf) rfl (by kernel_rfl) (by kernel_rfl) (by kernel_rfl) (by kernel_rfl) (fun _ _ _ h => h) (Or.inl ⟨by rfl, ?_⟩) hHeld ?_
  · intro w hSw
    obtain ⟨h0, h1⟩ := hSw
    first
      | rfl
      | (go_simp; done)
  try simp only [Act.put, List.setIfInBounds_toArray, List.set_cons_zero, List.set_cons_succ]
  refine wpAnyT_take (i := 7) (oi := { dst := some 50, op := Op.nilCheck (Operand.tmp 49), type := 0, pos := "undo.go:116", after := #[{ on := 6, ground := Ground.data }], guard := none }) (v := .pointer (some ⟨g, 3, none⟩)) rfl (by kernel_rfl) (by kernel_rfl) (by kernel_rfl) (by kernel_rfl) (fun _ _ _ h => h) (Or.inl ⟨by rfl, ?_⟩) hHeld ?_
  · intro w hSw
    obtain ⟨h0, h1⟩ := hSw
    first
      | rfl
      | (go_simp; done)
  try simp only [Act.put, List.setIfInBounds_toArray, List.set_cons_zero, List.set_cons_succ]
  refine wpAnyT_take (i := 8) (oi := { dst := some 51, op := Op.load 63 (Operand.tmp 50), type := 63, pos := "undo.go:116", after := #[{ on := 7, ground := Ground.data }], guard := none }) (v := .slice at_ nt ct) rfl (by kernel_rfl) (by kernel_rfl) (by kernel_rfl) (by kernel_rfl) (fun _ _ _ h => h) (Or.inl ⟨by rfl, ?_⟩) hHeld ?_
  · intro w hSw
    obtain ⟨h0, h1⟩ := hSw
    first
      | rfl
      | (go_simp; done)
  try simp only [Act.put, List.setIfInBounds_toArray, List.set_cons_zero, List.set_cons_succ]
  refine wpAnyT_take (i := 9) (oi := { dst := some 52, op := Op.move (Operand.tmp 11), type := 32, pos := "undo.go:116", after := #[], guard := none }) (v := .slice px pm pk) rfl (by kernel_rfl) (by kernel_rfl) (by kernel_rfl) (by kernel_rfl) (fun _ _ _ h => h) (Or.inl ⟨by rfl, ?_⟩) hHeld ?_
  · intro w hSw
    obtain ⟨h0, h1⟩ := hSw
    first
      | rfl
      | (go_simp; done)
  try simp only [Act.put, List.setIfInBounds_toArray, List.set_cons_zero, List.set_cons_succ]
  refine wpAnyT_one (i := 5) (o := { dst := some 48, op := Op.call { callee := Callee.value (Operand.func 73), args := #[Operand.tmp 47], argTypes := #[80] }, type := 63, pos := "undo.go:116", after := #[{ on := 4, ground := Ground.data }], guard := none }) (by kernel_rfl) rfl (fun K hK => ?_)
  go_simp
  have KPo := hide (pop_any B k (.slice af n cf) (H.back.map Pe.v) w3 (by rw [← unhide HVF]; have h9 := (unhide H3).ob; rw [(unhide HK).2.2.1] at h9; exact h9) (by omega))
  refine Calls.mono (unhide KPo) ?_
  intro r9 w4 h4
  obtain ⟨v4, rfl, o4, n4, k4⟩ := h4.shape
  have O4 := hide o4
  have N4 : Hid (Only (fun k => vb.ownBlock = some k) w3 w4) := hide (by rw [unhide HVF]; exact n4)
  have K4 : Hid (∀ k, v4.ownBlock = some k → vb.ownBlock = some k) := hide (by rw [unhide HVF]; exact k4)
  have hr4 : RowAt w4 g 65 _ := (unhide H3).row.only (unhide N4) (fun e => tag_ne (unhide H3).ob (unhide H3).row (by decide) e)
  have hS4 := And.intro (hr4.cell 2) (hr4.cell 3)
  simp only [List.getElem?_cons_zero, List.getElem?_cons_succ] at hS4
  rw [unhide HVF, unhide HVT] at hS4
  obtain ⟨a4, c4, hv4⟩ := pl_one o4
  subst hv4
  have OT4 : Hid (w4.ownsRow B 32 1 va H.again.length (H.again.map Pe.v)) := hide (own_only (unhide H3).oa (unhide N4) (fun k hk hp => (unhide H3).sep k hp hk))
  have HR4 := hide hr4
  clear h4 o4 n4 k4 hr4 hHeld KPo
  go_wp2_with fail
  refine hK.out _ _ (fun _ => hS4) ?_
  clear hK K
  try simp only [Act.put, List.setIfInBounds_toArray, List.set_cons_zero, List.set_cons_succ]
  refine wpAnyT_one (i := 10) (o := { dst := some 53, op := Op.call { callee := Callee.value (Operand.func 36), args := #[Operand.tmp 51, Operand.tmp 52], argTypes := #[80, 32] }, type := 63, pos := "undo.go:116", after := #[{ on := 8, ground := Ground.data }, { on := 9, ground := Ground.data }, { on := 5, ground := Ground.chain }], guard := none }) (by kernel_rfl) rfl (fun K hK => ?_)
  go_simp
  have KPu := hide (push_any B nt (.slice at_ nt ct) H.again ⟨.slice px pm pk, ci⟩ w4 (by rw [← unhide HVT, ← (unhide HK).2.1]; exact unhide OT4) (unhide HK).2.1 (by omega) (Nat.le_trans (unhide H3).gB (Nat.le_of_lt (unhide HR4).lt)) (fun q hq => own_v ((unhide H3).ea q hq).own) ⟨px, pm, pk, rfl⟩)
  simp only [] at KPu
  refine Calls.mono (unhide KPu) ?_
  intro r9 w5 h5
  obtain ⟨v5, rfl, o5, n5, k5⟩ := h5.shape
  have O5 := hide o5
  have N5 : Hid (Only (fun k => va.ownBlock = some k) w4 w5) := hide (by rw [unhide HVT]; exact n5)
  have K5 : Hid (∀ k, v5.ownBlock = some k → va.ownBlock = some k ∨ w4.heap.size ≤ k) := hide (by rw [unhide HVT]; exact k5)
  have hr5 : RowAt w5 g 65 _ := (unhide HR4).only (unhide N5) (fun e => tag_ne (unhide OT4) (unhide HR4) (by decide) e)
  have hS5 := And.intro (hr5.cell 2) (hr5.cell 3)
  simp only [List.getElem?_cons_zero, List.getElem?_cons_succ] at hS5
  rw [unhide HVF, unhide HVT] at hS5
  obtain ⟨a5, c5, hv5⟩ := pl_one o5
  subst hv5
  have HR5 := hide hr5
  obtain ⟨np, hnp⟩ : ∃ z, (pushP H.again ⟨.slice px pm pk, ci⟩).length = z := ⟨_, rfl⟩
  rw [hnp] at O5 K5 ⊢
  have HNP := hide hnp
  clear h5 o5 n5 k5 hr5 hS4 KPu hnp
  go_wp2_with fail
  refine hK.out _ _ (fun _ => hS5) ?_
  clear hK K
  try simp only [Act.put, List.setIfInBounds_toArray, List.set_cons_zero, List.set_cons_succ]
  refine wpAnyT_pure (i := 11) (oi := { dst := some 54, op := Op.nilCheck (Operand.tmp 43), type := 0, pos := "undo.go:116", after := #[{ on := 0, ground := Ground.data }, { on := 0, ground := Ground.phase }, { on := 1, ground := Ground.textOnly Departure.lateStores }, { on := 2, ground := Ground.phase }, { on := 3, ground := Ground.phase }, { on := 4, ground := Ground.phase }, { on := 5, ground := Ground.phase }, { on := 6, ground := Ground.textOnly Departure.lateStores }, { on := 7, ground := Ground.textOnly Departure.lateStoresUnsure }, { on := 8, ground := Ground.phase }, { on := 9, ground := Ground.textOnly Departure.lateStores }, { on := 10, ground := Ground.phase }], guard := none }) (v := .pointer (some ⟨g, 2, none⟩)) rfl (by kernel_rfl) (by kernel_rfl) (by kernel_rfl) rfl (fun _ _ _ h => h) (Or.inl ⟨by rfl, ?_⟩) ?_
  · intro w hSw
    first
      | rfl
      | (go_simp; done)
  try simp only [Act.put, List.setIfInBounds_toArray, List.set_cons_zero, List.set_cons_succ]
  have fi := (unhide HR5).frozen 2
  have fj := (unhide HR5).frozen 3
  have ci5 := hS5.1
  refine wpAnyT_one (i := 12) (o := { dst := none, op := Op.store 63 (Operand.tmp 54) (Operand.tmp 48), type := 0, pos := "undo.go:116", after := #[{ on := 11, ground := Ground.data }, { on := 5, ground := Ground.data }, { on := 10, ground := Ground.chain }, { on := 0, ground := Ground.phase }, { on := 1, ground := Ground.textOnly Departure.lateStores }, { on := 2, ground := Ground.phase }, { on := 3, ground := Ground.phase }, { on := 4, ground := Ground.phase }, { on := 5, ground := Ground.phase }, { on := 6, ground := Ground.textOnly Departure.lateStores }, { on := 7, ground := Ground.textOnly Departure.lateStoresUnsure }, { on := 8, ground := Ground.phase }, { on := 9, ground := Ground.textOnly Departure.lateStores }, { on := 10, ground := Ground.phase }], guard := none }) (by kernel_rfl) rfl (fun K hK => ?_)
  go_simp
  refine hK.out _ _ (fun h => by cases h) ?_
  clear hK K
  try simp only [Act.put, List.setIfInBounds_toArray, List.set_cons_zero, List.set_cons_succ]
  refine wpAnyT_pure (i := 13) (oi := { dst := some 55, op := Op.nilCheck (Operand.tmp 44), type := 0, pos := "undo.go:116", after := #[{ on := 1, ground := Ground.data }, { on := 0, ground := Ground.phase }, { on := 1, ground := Ground.phase }, { on := 2, ground := Ground.phase }, { on := 3, ground := Ground.phase }, { on := 4, ground := Ground.phase }, { on := 5, ground := Ground.phase }, { on := 6, ground := Ground.phase }, { on := 7, ground := Ground.phase }, { on := 8, ground := Ground.phase }, { on := 9, ground := Ground.phase }, { on := 10, ground := Ground.phase }, { on := 11, ground := Ground.phase }, { on := 12, ground := Ground.phase }], guard := none }) (v := .pointer (some ⟨g, 3, none⟩)) rfl (by kernel_rfl) (by kernel_rfl) (by kernel_rfl) rfl (fun _ _ _ h => h) (Or.inl ⟨by rfl, ?_⟩) ?_
  · intro w hSw
    first
      | rfl
      | (go_simp; done)
  try simp only [Act.put, List.setIfInBounds_toArray, List.set_cons_zero, List.set_cons_succ]
  have cj6 : (w5.setCell ⟨g, 2, none⟩ (.slice a4 k c4)).cell? ⟨g, 3, none⟩ = some (.slice at_ nt ct) := by have h9 := ((unhide HR5).set 2 (.slice a4 k c4)).cell 3; simp only [List.set_cons_succ, List.set_cons_zero, List.getElem?_cons_zero, List.getElem?_cons_succ] at h9; rw [unhide HVT] at h9; exact h9
  have fj6 := ((unhide HR5).set 2 (.slice a4 k c4)).frozen 3
  refine wpAnyT_one (i := 14) (o := { dst := none, op := Op.store 63 (Operand.tmp 55) (Operand.tmp 53), type := 0, pos := "undo.go:116", after := #[{ on := 13, ground := Ground.data }, { on := 10, ground := Ground.data }, { on := 12, ground := Ground.chain }, { on := 0, ground := Ground.phase }, { on := 1, ground := Ground.phase }, { on := 2, ground := Ground.phase }, { on := 3, ground := Ground.phase }, { on := 4, ground := Ground.phase }, { on := 5, ground := Ground.phase }, { on := 6, ground := Ground.phase }, { on := 7, ground := Ground.phase }, { on := 8, ground := Ground.phase }, { on := 9, ground := Ground.phase }, { on := 10, ground := Ground.phase }, { on := 11, ground := Ground.phase }, { on := 12, ground := Ground.phase }], guard := none }) (by kernel_rfl) rfl (fun K hK => ?_)
  go_simp
  refine hK.out _ _ (fun h => by cases h) ?_
  clear hK K
  try simp only [Act.put, List.setIfInBounds_toArray, List.set_cons_zero, List.set_cons_succ]
  refine wpAnyT_done (by kernel_rfl) ?_ _
  have o6 : Only (· = g) w5 ((w5.setCell ⟨g, 2, none⟩ (.slice a4 k c4)).setCell ⟨g, 3, none⟩ (.slice a5 np c5)) := Only.set (p := (· = g)) (Only.set (p := (· = g)) (Only.refl _ _) g 2 _ rfl) g 3 _ rfl
  have hr6 := ((unhide HR5).set 2 (.slice a4 k c4)).set 3 (.slice a5 np c5)
  simp only [List.set_cons_succ, List.set_cons_zero] at hr6
  have oW : Only (fpH g vb va) w ((w5.setCell ⟨g, 2, none⟩ (.slice a4 k c4)).setCell ⟨g, 3, none⟩ (.slice a5 np c5)) := (((Only.of_below (unhide HBd2)).trans ((unhide N4).mono (fun k hk => .inr (.inl hk)))).trans ((unhide N5).mono (fun k hk => .inr (.inr hk)))).trans (o6.mono (fun k hk => .inl hk))
  have hp3 : PeOk w3 p := (unhide HPK).call (unhide HBd2)
  have hp5 : ∀ q, PeOk w3 q → PeOk w5 q := fun q hq => (hq.pile (unhide H3).ob (unhide N4)).pile (unhide OT4) (unhide N5)
  have H6 : Hid (Hi ((w5.setCell ⟨g, 2, none⟩ (.slice a4 k c4)).setCell ⟨g, 3, none⟩ (.slice a5 np c5)) B g (.slice a4 k c4) (.slice a5 np c5) ⟨H.n, P, pushP H.again ⟨.slice px pm pk, ci⟩⟩) := hide (by
    have of5 : w5.ownsRow B 32 1 (.slice a4 k c4) P.length (P.map Pe.v) := by
      have h9 := own_only (unhide O4) (unhide N5) (fun k hk hp => (unhide H3).sep k (unhide K4 k hk) hp)
      rw [unhide HF, List.map_append, List.take_left' (by rw [List.length_map, (unhide HK).1])] at h9
      rw [(unhide HK).1]
      exact h9
    have hsep : ∀ kz, (Value.slice a4 k c4).ownBlock = some kz → (Value.slice a5 np c5).ownBlock ≠ some kz := fun kz h1 h2 => by
      rcases unhide K5 kz h2 with h9 | h9
      · exact (unhide H3).sep kz (unhide K4 kz h1) h9
      · have := ((unhide O4).lt kz h1).2; omega
    have ef5 : ∀ q ∈ P, PeOk w5 q := fun q hq => hp5 q ((unhide H3).eb q (by rw [unhide HF]; exact List.mem_append.2 (.inl hq)))
    have et5 : ∀ q ∈ pushP H.again ⟨.slice px pm pk, ci⟩, PeOk w5 q := fun q hq => by
      rcases pushP_mem hq with hq | rfl
      · exact hp5 q ((unhide H3).ea q hq)
      · exact hp5 _ (unhide HQd)
    exact Hi.of_row (unhide HR5) hr6 o6 of5 (by rw [unhide HNP]; exact unhide O5) hsep ef5 et5 (unhide H3).gB)
  have HP6 := hide (And.intro ((hp5 p hp3).row (unhide HR5) o6) ((hp5 _ (unhide HQd)).row (unhide HR5) o6))
  have HOW := hide oW
  obtain ⟨w6, hw6⟩ : ∃ z, ((w5.setCell ⟨g, 2, none⟩ (.slice a4 k c4)).setCell ⟨g, 3, none⟩ (.slice a5 np c5)) = z := ⟨_, rfl⟩
  rw [hw6] at H6 HP6 HOW ⊢
  clear hw6 o6 hr6 oW hp3 hp5 hS5 fi fj ci5 cj6 fj6 HR5 O5 K5 N5 O4 K4 N4 OT4 HR4 H3 HQd
  have hbB : Below B w w6 := (unhide HH).low (unhide HOW)
  obtain ⟨ea6, ec6, hev6, hE6⟩ := (unhide HP6).1.own.edit (ed_txt (unhide HED)) (by rw [unhide HM]; have := nf_len (unhide HED).1; have h8 := unhide HED; rw [h8.2.1, h8.2.2.1, unhide HM] at this; omega)
  rw [unhide HEV, unhide HM] at hev6
  injection hev6 with e1 e2 e3
  subst e1 e3
  have hU6 : UT w6 := unhide HTU w6 hbB
  go_wp2_with fail
  refine Calls.mono (unhide KS w6 hU6 hE6) ?_
  rintro r w7 ⟨rfl, hb7⟩
  have h7 := (unhide H6).call hb7
  have cc := h7.row.cell 1
  have ff := h7.row.frozen 1
  simp only [List.getElem?_cons_zero, List.getElem?_cons_succ] at cc
  have o8 : Only (· = g) w7 (w7.setCell ⟨g, 1, none⟩ (.int .i64 (t : Int))) := Only.set (p := (· = g)) (Only.refl _ _) g 1 _ rfl
  have HE : Hid (TurnUR B g vb va H P p c0 t w (.returned (.tuple #[p.v, .int .i64 0])) (w7.setCell ⟨g, 1, none⟩ (.int .i64 (t : Int)))) := hide ⟨⟨.slice px pm pk, ci⟩, _, _, rfl, unhide HAT, ((unhide HP6).2.call hb7).row h7.row o8, ((unhide HP6).1.call hb7).row h7.row o8, Hi.of_row (H := ⟨(t : Int), P, pushP H.again ⟨.slice px pm pk, ci⟩⟩) h7.row (h7.row.set 1 _) o8 h7.ob h7.oa h7.sep h7.eb h7.ea h7.gB, ((unhide HOW).trans (Only.of_below hb7)).trans (o8.mono (fun k hk => .inl hk))⟩
  rw [unhide HEV] at HE
  clear h7 o8 hb7 H6 hbB hE6 hU6 KS
  go_wp2_with fail
  go_ret2
  exact unhide HE
def TurnDR (B g : Nat) (vb va : Value) (H : Hs) (P : List Pe) (p : Pe) (cs : List (List UInt8)) (t : Nat) (w : World) (r : Ending) (w' : World) : Prop := ∃ q vb' va', r = .returned (.tuple #[p.v, .int .i64 0]) ∧ atomsL q.l = At.can (At.inv (atomsL p.l) cs) ∧ PeOk w' q ∧ PeOk w' p ∧ Hi w' B g vb' va' ⟨t, pushP H.back q, P⟩ ∧ Only (fpH g vb va) w w'
theorem TurnDR.shape {B g : Nat} {vb va : Value} {H : Hs} {P : List Pe} {p : Pe} {cs : List (List UInt8)} {t : Nat} {w w' : World} {r : Ending} (h : TurnDR B g vb va H P p cs t w r w') : ∃ q vb' va', r = .returned (.tuple #[p.v, .int .i64 0]) ∧ atomsL q.l = At.can (At.inv (atomsL p.l) cs) ∧ PeOk w' q ∧ PeOk w' p ∧ Hi w' B g vb' va' ⟨t, pushP H.back q, P⟩ ∧ Only (fpH g vb va) w w' := h
set_option maxRecDepth 100000 in
set_option maxHeartbeats 4000000 in
theorem turnD_none (B g : Nat) (vb va : Value) (H : Hs) (s : ByteArray) (w : World) (h : Hi w B g vb va H) (h0 : H.again = []) :
    Calls Tryd.prog 43 #[.pointer (some ⟨g, 0, none⟩), .pointer (some ⟨g, 3, none⟩), .pointer (some ⟨g, 2, none⟩), .string s] w fun r w' => r = .returned (.tuple #[.slice none 0 0, .int .i64 160]) ∧ w = w' := by
  have ho := h.oa
  rw [h0] at ho
  obtain ⟨a, c, hv⟩ := pl_one ho
  have q2 := h.row.cell 3
  simp only [List.getElem?_cons_zero, List.getElem?_cons_succ] at q2
  rw [hv] at q2
  clear h ho hv
  go_enter Tryd.func43, Tryd.ntmps43
  go_wp2_with fail
  go_ret2
  exact ⟨rfl, rfl⟩
set_option maxRecDepth 100000 in
set_option maxHeartbeats 4000000 in
theorem turnD_ok (B g t : Nat) (vb va : Value) (H : Hs) (P : List Pe) (p : Pe) (s : ByteArray) (cs : List (List UInt8)) (w : World) (h : Hi w B g vb va H) (hTU : ∀ W, Below B w W → UT W) (hF : H.again = P ++ [p]) (hPl : P.length ≤ 100) (hTl : H.back.length ≤ 50) (hx : Tx s cs) (hed : IsEd p.l cs.length t) (hn : H.n = (cs.length : Int)) (hcs : cs.length ≤ 274877906944) (ht : t ≤ 274877906944) :
    Calls Tryd.prog 43 #[.pointer (some ⟨g, 0, none⟩), .pointer (some ⟨g, 3, none⟩), .pointer (some ⟨g, 2, none⟩), .string s] w fun r w' => TurnDR B g vb va H P p cs t w r w' := by
  have hT := hTU w (Below.refl _ _)
  have HTU := hide hTU
  have hmem : p ∈ H.again := by rw [hF]; exact List.mem_append.2 (.inr (by simp))
  have hlen := nf_len hed.1
  rw [hed.2.1, hed.2.2.1] at hlen
  have hpk := h.ea p hmem
  obtain ⟨ea, ec, hev, hE⟩ := hpk.own.edit (ed_txt hed) (by omega)
  obtain ⟨m, hm⟩ : ∃ z, p.l.length = z := ⟨_, rfl⟩
  rw [hm] at hev
  have hss : s.size ≤ 281474976710656 := hx.small rfl hed.2.2.2.1
  have KV : Hid (∀ W, Below w.heap.size w W → Calls Tryd.prog 29 #[.string s] W fun e w' => e = .returned (.bool true) ∧ Below W.heap.size W w') := hide (fun W hW => by
    have h9 := valid_any s W (hT.call hW) (by omega)
    rw [hx.valid] at h9
    exact h9)
  have KC : Hid (∀ W, Below w.heap.size w W → Calls Tryd.prog 13 #[.string s] W fun e w' => e = .returned (.int .i64 (cs.length : Int)) ∧ Below W.heap.size W w') := hide (fun W hW => count_at (w := W) hx hss (Below.refl _ _))
  have KI : Hid (∀ W, Below w.heap.size w W → Calls Tryd.prog 31 #[.slice ea m ec, .string s] W fun r w' => IvtR W w' p.l s r ∧ Below W.heap.size W w') := hide (fun W hW => invert_at (w := W) s (hT.call hW) (hE.call hW) hm (by omega) hss (Below.refl _ _))
  have KS : Hid (∀ W, UT W → Edit W ea p.l ec → Calls Tryd.prog 53 #[.slice ea m ec] W fun r w' => r = .returned (.tuple #[.int .i64 (cs.length : Int), .int .i64 (t : Int), .int .i64 0]) ∧ Below W.heap.size W w') := hide (fun W hU hE => by
    have h9 := size_at (w := W) hU hE hm (Below.refl _ _)
    have e : szVal p.l = .tuple #[.int .i64 (cs.length : Int), .int .i64 (t : Int), .int .i64 0] := by unfold szVal; rw [ed_size hed]
    rw [e] at h9
    exact h9)
  have HOK := hide (ed_isOf hx hed)
  have HX := hide hx
  have HH := hide h
  have HPK := hide hpk
  have HEV := hide hev
  have HM := hide hm
  have HED := hide hed
  have HF := hide hF
  obtain ⟨af, cf, hvf⟩ := pl_one h.oa
  obtain ⟨at_, ct, hvt⟩ := pl_one h.ob
  obtain ⟨nt, hnt⟩ : ∃ z, H.back.length = z := ⟨_, rfl⟩
  have hfl : H.again.length = P.length + 1 := by rw [hF]; simp
  obtain ⟨k, hk⟩ : ∃ z, P.length = z := ⟨_, rfl⟩
  obtain ⟨n, hkn⟩ : ∃ z, k + 1 = z := ⟨_, rfl⟩
  have HKN := hide hkn
  rw [hk] at hfl hPl
  rw [hfl, hkn] at hvf
  rw [hnt] at hvt hTl
  have q2 := h.row.cell 3
  have q1 := h.row.cell 1
  simp only [List.getElem?_cons_zero, List.getElem?_cons_succ] at q2 q1
  rw [hvf] at q2
  rw [hn] at q1
  have HVF := hide hvf
  have HVT := hide hvt
  have HK := hide (And.intro hk (And.intro hnt (And.intro hfl hn)))
  have n0 : ((n : Int) == 0) = false := by simp; omega
  have n1 : ¬ n = 0 := by omega
  clear h hT hTU hF hx hed hn hmem hlen hpk hev hE hm hss hvf hvt hnt hfl hk hkn
  go_enter Tryd.func43, Tryd.ntmps43
  go_wp2_with fail
  obtain ⟨nc, hnc⟩ : ∃ z, cs.length = z := ⟨_, rfl⟩
  rw [hnc] at q1 KC KS
  have HNC := hide hnc
  clear hnc
  refine wp_region_T (S := fun W => W.cell? ⟨g, 1, none⟩ = some (.int .i64 (nc : Int))) (fun i => decide (i < 12)) (by kernel_rfl) q1 (fun hHeld => ?_)
  have HBd := hide (Below.drew (Below.refl w.heap.size w))
  obtain ⟨wd, hwd⟩ : ∃ z, w.drew = z := ⟨_, rfl⟩
  rw [hwd] at hHeld HBd ⊢
  clear hwd q1
  refine wpAnyT_take (i := 0) (oi := { dst := some 18, op := Op.move (Operand.tmp 3), type := 9, pos := "undo.go:108", after := #[], guard := none }) (v := .string s) rfl (by kernel_rfl) (by kernel_rfl) (by kernel_rfl) (by kernel_rfl) (fun _ _ _ h => h) (Or.inl ⟨by rfl, ?_⟩) hHeld ?_
  · intro w hSw
    have h0 := hSw
    first
      | rfl
      | (go_simp; done)
  try simp only [Act.put, List.setIfInBounds_toArray, List.set_cons_zero, List.set_cons_succ]
  refine wpAnyT_one (i := 1) (o := { dst := some 19, op := Op.call { callee := Callee.value (Operand.func 29), args := #[Operand.tmp 18], argTypes := #[9] }, type := 4, pos := "undo.go:108", after := #[{ on := 0, ground := Ground.data }], guard := none }) (by kernel_rfl) rfl (fun K hK => ?_)
  go_simp
  refine Calls.mono (unhide KV wd (unhide HBd)) ?_
  rintro r9 wv ⟨rfl, bv⟩
  have HBv := hide ((unhide HBd).trans (bv.mono (unhide HBd).size))
  have hS1 := cell_keep bv (lt_of_cell hHeld) hHeld
  clear bv hHeld KV
  go_wp2_with fail
  refine hK.out _ _ (fun _ => hS1) ?_
  clear hK K
  try simp only [Act.put, List.setIfInBounds_toArray, List.set_cons_zero, List.set_cons_succ]
  refine wpAnyT_take (i := 2) (oi := { dst := some 20, op := Op.unOp UnOp.not 4 (Operand.tmp 19), type := 4, pos := "undo.go:108", after := #[{ on := 1, ground := Ground.data }], guard := none }) (v := .bool false) rfl (by kernel_rfl) (by kernel_rfl) (by kernel_rfl) (by kernel_rfl) (fun _ _ _ h => h) (Or.inl ⟨by rfl, ?_⟩) hS1 ?_
  · intro w hSw
    have h0 := hSw
    first
      | rfl
      | (go_simp; done)
  try simp only [Act.put, List.setIfInBounds_toArray, List.set_cons_zero, List.set_cons_succ]
  refine wpAnyT_take (i := 3) (oi := { dst := some 21, op := Op.move (Operand.tmp 20), type := 4, pos := "undo.go:108", after := #[{ on := 2, ground := Ground.data }, { on := 1, ground := Ground.chain }], guard := none }) (v := .bool false) rfl (by kernel_rfl) (by kernel_rfl) (by kernel_rfl) (by kernel_rfl) (fun _ _ _ h => h) (Or.inl ⟨by rfl, ?_⟩) hS1 ?_
  · intro w hSw
    have h0 := hSw
    first
      | rfl
      | (go_simp; done)
  try simp only [Act.put, List.setIfInBounds_toArray, List.set_cons_zero, List.set_cons_succ]
  refine wpAnyT_take (i := 4) (oi := { dst := some 22, op := Op.move (Operand.tmp 3), type := 9, pos := "undo.go:108", after := #[{ on := 3, ground := Ground.guard }], guard := some (3, false) }) (v := .string s) rfl (by kernel_rfl) (by kernel_rfl) (by kernel_rfl) (by kernel_rfl) (fun _ _ _ h => h) (Or.inl ⟨by rfl, ?_⟩) hS1 ?_
  · intro w hSw
    have h0 := hSw
    first
      | rfl
      | (go_simp; done)
  try simp only [Act.put, List.setIfInBounds_toArray, List.set_cons_zero, List.set_cons_succ]
  refine wpAnyT_take (i := 6) (oi := { dst := some 24, op := Op.move (Operand.tmp 0), type := 25, pos := "undo.go:108", after := #[{ on := 3, ground := Ground.guard }], guard := some (3, false) }) (v := .pointer (some ⟨g, 0, none⟩)) rfl (by kernel_rfl) (by kernel_rfl) (by kernel_rfl) (by kernel_rfl) (fun _ _ _ h => h) (Or.inl ⟨by rfl, ?_⟩) hS1 ?_
  · intro w hSw
    have h0 := hSw
    first
      | rfl
      | (go_simp; done)
  try simp only [Act.put, List.setIfInBounds_toArray, List.set_cons_zero, List.set_cons_succ]
  refine wpAnyT_take (i := 7) (oi := { dst := some 25, op := Op.nilCheck (Operand.tmp 24), type := 0, pos := "undo.go:108", after := #[{ on := 6, ground := Ground.data }, { on := 3, ground := Ground.guard }], guard := some (3, false) }) (v := .pointer (some ⟨g, 0, none⟩)) rfl (by kernel_rfl) (by kernel_rfl) (by kernel_rfl) (by kernel_rfl) (fun _ _ _ h => h) (Or.inl ⟨by rfl, ?_⟩) hS1 ?_
  · intro w hSw
    have h0 := hSw
    first
      | rfl
      | (go_simp; done)
  try simp only [Act.put, List.setIfInBounds_toArray, List.set_cons_zero, List.set_cons_succ]
  refine wpAnyT_take (i := 8) (oi := { dst := some 26, op := Op.fieldAddr 65 (Operand.tmp 25) 1, type := 0, pos := "undo.go:108", after := #[{ on := 7, ground := Ground.data }, { on := 3, ground := Ground.guard }], guard := some (3, false) }) (v := .pointer (some ⟨g, 1, none⟩)) rfl (by kernel_rfl) (by kernel_rfl) (by kernel_rfl) (by kernel_rfl) (fun _ _ _ h => h) (Or.inl ⟨by rfl, ?_⟩) hS1 ?_
  · intro w hSw
    have h0 := hSw
    first
      | rfl
      | (go_simp; done)
  try simp only [Act.put, List.setIfInBounds_toArray, List.set_cons_zero, List.set_cons_succ]
  refine wpAnyT_take (i := 9) (oi := { dst := some 27, op := Op.load 3 (Operand.tmp 26), type := 3, pos := "undo.go:108", after := #[{ on := 8, ground := Ground.data }, { on := 3, ground := Ground.guard }], guard := some (3, false) }) (v := .int .i64 (nc : Int)) rfl (by kernel_rfl) (by kernel_rfl) (by kernel_rfl) (by kernel_rfl) (fun _ _ _ h => h) (Or.inl ⟨by rfl, ?_⟩) hS1 ?_
  · intro w hSw
    have h0 := hSw
    first
      | rfl
      | (go_simp; done)
  try simp only [Act.put, List.setIfInBounds_toArray, List.set_cons_zero, List.set_cons_succ]
  refine wpAnyT_one (i := 5) (o := { dst := some 23, op := Op.call { callee := Callee.value (Operand.func 13), args := #[Operand.tmp 22], argTypes := #[9] }, type := 3, pos := "undo.go:108", after := #[{ on := 4, ground := Ground.data }, { on := 3, ground := Ground.chain }, { on := 3, ground := Ground.guard }], guard := some (3, false) }) (by kernel_rfl) rfl (fun K hK => ?_)
  go_simp
  refine Calls.mono (unhide KC wv (unhide HBv)) ?_
  rintro r9 wc ⟨rfl, bc⟩
  have HBc := hide ((unhide HBv).trans (bc.mono (unhide HBv).size))
  have hS2 := cell_keep bc (lt_of_cell hS1) hS1
  clear bc hS1 KC HBv
  go_wp2_with fail
  refine hK.out _ _ (fun _ => hS2) ?_
  clear hK K
  try simp only [Act.put, List.setIfInBounds_toArray, List.set_cons_zero, List.set_cons_succ]
  refine wpAnyT_take (i := 10) (oi := { dst := some 28, op := Op.binOp BinOp.neq 3 (Operand.tmp 23) (Operand.tmp 27) 3, type := 4, pos := "undo.go:108", after := #[{ on := 5, ground := Ground.data }, { on := 9, ground := Ground.data }, { on := 3, ground := Ground.guard }], guard := some (3, false) }) (v := .bool false) rfl (by kernel_rfl) (by kernel_rfl) (by kernel_rfl) (by kernel_rfl) (fun _ _ _ h => h) (Or.inl ⟨by rfl, ?_⟩) hS2 ?_
  · intro w hSw
    have h0 := hSw
    first
      | rfl
      | (go_simp; done)
  try simp only [Act.put, List.setIfInBounds_toArray, List.set_cons_zero, List.set_cons_succ]
  refine wpAnyT_take (i := 11) (oi := { dst := some 29, op := Op.pick (Operand.tmp 21) (Operand.const (Value.bool true)) (Operand.tmp 28), type := 4, pos := "undo.go:108", after := #[{ on := 3, ground := Ground.data }, { on := 10, ground := Ground.data }], guard := none }) (v := .bool false) rfl (by kernel_rfl) (by kernel_rfl) (by kernel_rfl) (by kernel_rfl) (fun _ _ _ h => h) (Or.inl ⟨by rfl, ?_⟩) hS2 ?_
  · intro w hSw
    have h0 := hSw
    first
      | rfl
      | (go_simp; done)
  try simp only [Act.put, List.setIfInBounds_toArray, List.set_cons_zero, List.set_cons_succ]
  refine wpAnyT_done (by kernel_rfl) ?_ _
  have H1 := hide ((unhide HH).call (unhide HBc))
  have q2c : wc.cell? ⟨g, 3, none⟩ = some (.slice af n cf) := cell_keep (unhide HBc) (lt_of_cell q2) q2
  have KT := hide (top_any B k (.slice af n cf) p.v (H.again.map Pe.v) wc (by rw [← unhide HVF]; have h9 := (unhide H1).oa; rw [(unhide HK).2.2.1] at h9; exact h9) (by rw [unhide HF, List.map_append, List.getElem?_append_right (by rw [List.length_map, (unhide HK).1]; exact Nat.le_refl _), List.length_map, (unhide HK).1]; simp) (by omega))
  rw [unhide HEV] at KT
  clear hS2 q2
  go_wp2_with fail
  refine Calls.mono (unhide KT) ?_
  rintro r w9 ⟨rfl, rfl⟩
  clear KT
  go_wp2_with fail
  refine Calls.mono (unhide KI wc (unhide HBc)) ?_
  rintro r w2 ⟨hi, hb⟩
  rcases hi with ⟨hi, _⟩ | ⟨_, v, ci, c0, x0, rfl, ov, nfv, atv, lnv⟩
  · rw [unhide HOK] at hi; cases hi
  obtain rfl : c0 = cs := x0.inj (unhide HX)
  have hpq : PeOk w2 ⟨v, ci⟩ := ⟨own_base ov (Nat.zero_le _), nfv⟩
  obtain ⟨px, pm, pk, hpv⟩ := hpq.slice
  have hpv' : v = .slice px pm pk := hpv
  subst hpv'
  have HQ := hide hpq
  have HAT := hide atv
  have HB2 := hide ((unhide HBc).trans (hb.mono (unhide HBc).size))
  have H2 := hide ((unhide H1).call hb)
  clear hb hpq ov nfv atv lnv x0 hpv KI q2c H1
  go_wp2_with fail
  have h2d := (unhide H2).call (Below.drew (Below.refl w2.heap.size w2))
  have HBd2 := hide ((unhide HB2).trans ((Below.drew (Below.refl w2.heap.size w2)).mono (unhide HB2).size))
  have HQd := hide ((unhide HQ).call (Below.drew (Below.refl w2.heap.size w2)))
  obtain ⟨w3, hw3⟩ : ∃ z, w2.drew = z := ⟨_, rfl⟩
  rw [hw3] at h2d HBd2 HQd
  have H3 := hide h2d
  have q3 := h2d.row.cell 3
  have q4 := h2d.row.cell 2
  simp only [List.getElem?_cons_zero, List.getElem?_cons_succ] at q3 q4
  rw [unhide HVF] at q3
  rw [unhide HVT] at q4
  refine wp_region_T (S := fun W => W.cell? ⟨g, 3, none⟩ = some (.slice af n cf) ∧ W.cell? ⟨g, 2, none⟩ = some (.slice at_ nt ct)) (fun i => decide (i < 11) && !(decide (i = 1)) && !(decide (i = 6))) (by kernel_rfl) (by rw [hw3]; exact ⟨q3, q4⟩) (fun hHeld => ?_)
  rw [hw3] at hHeld ⊢
  clear hw3 h2d q3 q4 HQ H2
  refine wpAnyT_pure (i := 1) (oi := { dst := some 44, op := Op.move (Operand.tmp 2), type := 80, pos := "undo.go:116", after := #[{ on := 12, ground := Ground.gcOnly Departure.lateStores }], guard := none }) (v := .pointer (some ⟨g, 2, none⟩)) rfl (by kernel_rfl) (by kernel_rfl) (by kernel_rfl) rfl (fun _ _ _ h => h) (Or.inl ⟨by rfl, ?_⟩) ?_
  · intro w hSw
    first
      | rfl
      | (go_simp; done)
  try simp only [Act.put, List.setIfInBounds_toArray, List.set_cons_zero, List.set_cons_succ]
  refine wpAnyT_pure (i := 6) (oi := { dst := some 49, op := Op.move (Operand.tmp 2), type := 80, pos := "undo.go:116", after := #[], guard := none }) (v := .pointer (some ⟨g, 2, none⟩)) rfl (by kernel_rfl) (by kernel_rfl) (by kernel_rfl) rfl (fun _ _ _ h => h) (Or.inl ⟨by rfl, ?_⟩) ?_
  · intro w hSw
    first
      | rfl
      | (go_simp; done)
  try simp only [Act.put, List.setIfInBounds_toArray, List.set_cons_zero, List.set_cons_succ]
  refine wpAnyT_take (i := 0) (oi := { dst := some 43, op := Op.move (Operand.tmp 1), type := 80, pos := "undo.go:116", after := #[], guard := none }) (v := .pointer (some ⟨g, 3, none⟩)) rfl (by kernel_rfl) (by kernel_rfl) (by kernel_rfl) (by kernel_rfl) (fun _ _ _ h => h) (Or.inl ⟨by rfl, ?_⟩) hHeld ?_
  · intro w hSw
    obtain ⟨h0, h1⟩ := hSw
    first
      | rfl
      | (go_simp; done)
  try simp only [Act.put, List.setIfInBounds_toArray, List.set_cons_zero, List.set_cons_succ]
  refine wpAnyT_take (i := 2) (oi := { dst := some 45, op := Op.move (Operand.tmp 1), type := 80, pos := "undo.go:116", after := #[], guard := none }) (v := .pointer (some ⟨g, 3, none⟩)) rfl (by kernel_rfl) (by kernel_rfl) (by kernel_rfl) (by kernel_rfl) (fun _ _ _ h => h) (Or.inl ⟨by rfl, ?_⟩) hHeld ?_
  · intro w hSw
    obtain ⟨h0, h1⟩ := hSw
    first
      | rfl
      | (go_simp; done)
  try simp only [Act.put, List.setIfInBounds_toArray, List.set_cons_zero, List.set_cons_succ]
  refine wpAnyT_take (i := 3) (oi := { dst := some 46, op := Op.nilCheck (Operand.tmp 45), type := 0, pos := "undo.go:116", after := #[{ on := 2, ground := Ground.data }], guard := none }) (v := .pointer (some ⟨g, 3, none⟩)) rfl (by kernel_rfl) (by kernel_rfl) (by kernel_rfl) (by kernel_rfl) (fun _ _ _ h => h) (Or.inl ⟨by rfl, ?_⟩) hHeld ?_
  · intro w hSw
    obtain ⟨h0, h1⟩ := hSw
    first
      | rfl
      | (go_simp; done)
  try simp only [Act.put, List.setIfInBounds_toArray, List.set_cons_zero, List.set_cons_succ]
  refine wpAnyT_take (i := 4) (oi := { dst := some 47, op := Op.load 63 (Operand.tmp 46), type := 63, pos := "undo.go:116", after := #[{ on := 3, ground := Ground.data }], guard := none }) (v := .slice af n cf) rfl (by kernel_rfl) (by kernel_rfl) (by kernel_rfl) (by kernel_rfl) (fun _ _ _ h => h) (Or.inl ⟨by rfl, ?_⟩) hHeld ?_
  · intro w hSw
    obtain ⟨h0, h1⟩ := hSw
    first
      | rfl
      | (go_simp; done)
  try simp only [Act.put, List.setIfInBounds_toArray, List.set_cons_zero, List.set_cons_succ]
  refine wpAnyT_take (i := 7) (oi := { dst := some 50, op := Op.nilCheck (Operand.tmp 49), type := 0, pos := "undo.go:116", after := #[{ on := 6, ground := Ground.data }], guard := none }) (v := .pointer (some ⟨g, 2, none⟩)) rfl (by kernel_rfl) (by kernel_rfl) (by kernel_rfl) (by kernel_rfl) (fun _ _ _ h => h) (Or.inl ⟨by rfl, ?_⟩) hHeld ?_
  · intro w hSw
    obtain ⟨h0, h1⟩ := hSw
    first
      | rfl
      | (go_simp; done)
  try simp only [Act.put, List.setIfInBounds_toArray, List.set_cons_zero, List.set_cons_succ]
  refine wpAnyT_take (i := 8) (oi := { dst := some 51, op := Op.load 63 (Operand.tmp 50), type := 63, pos := "undo.go:116", after := #[{ on := 7, ground := Ground.data }], guard := none }) (v := .slice at_ nt ct) rfl (by kernel_rfl) (by kernel_rfl) (by kernel_rfl) (by kernel_rfl) (fun _ _ _ h => h) (Or.inl ⟨by rfl, ?_⟩) hHeld ?_
  · intro w hSw
    obtain ⟨h0, h1⟩ := hSw
    first
      | rfl
      | (go_simp; done)
  try simp only [Act.put, List.setIfInBounds_toArray, List.set_cons_zero, List.set_cons_succ]
  refine wpAnyT_take (i := 9) (oi := { dst := some 52, op := Op.move (Operand.tmp 11), type := 32, pos := "undo.go:116", after := #[], guard := none }) (v := .slice px pm pk) rfl (by kernel_rfl) (by kernel_rfl) (by kernel_rfl) (by kernel_rfl) (fun _ _ _ h => h) (Or.inl ⟨by rfl, ?_⟩) hHeld ?_
  · intro w hSw
    obtain ⟨h0, h1⟩ := hSw
    first
      | rfl
      | (go_simp; done)
  try simp only [Act.put, List.setIfInBounds_toArray, List.set_cons_zero, List.set_cons_succ]
  refine wpAnyT_one (i := 5) (o := { dst := some 48, op := Op.call { callee := Callee.value (Operand.func 73), args := #[Operand.tmp 47], argTypes := #[80] }, type := 63, pos := "undo.go:116", after := #[{ on := 4, ground := Ground.data }], guard := none }) (by kernel_rfl) rfl (fun K hK => ?_)
  go_simp
  have KPo := hide (pop_any B k (.slice af n cf) (H.again.map Pe.v) w3 (by rw [← unhide HVF]; have h9 := (unhide H3).oa; rw [(unhide HK).2.2.1] at h9; exact h9) (by omega))
  refine Calls.mono (unhide KPo) ?_
  intro r9 w4 h4
  obtain ⟨v4, rfl, o4, n4, k4⟩ := h4.shape
  have O4 := hide o4
  have N4 : Hid (Only (fun k => va.ownBlock = some k) w3 w4) := hide (by rw [unhide HVF]; exact n4)
  have K4 : Hid (∀ k, v4.ownBlock = some k → va.ownBlock = some k) := hide (by rw [unhide HVF]; exact k4)
  have hr4 : RowAt w4 g 65 _ := (unhide H3).row.only (unhide N4) (fun e => tag_ne (unhide H3).oa (unhide H3).row (by decide) e)
  have hS4 := And.intro (hr4.cell 3) (hr4.cell 2)
  simp only [List.getElem?_cons_zero, List.getElem?_cons_succ] at hS4
  rw [unhide HVF, unhide HVT] at hS4
  obtain ⟨a4, c4, hv4⟩ := pl_one o4
  subst hv4
  have OT4 : Hid (w4.ownsRow B 32 1 vb H.back.length (H.back.map Pe.v)) := hide (own_only (unhide H3).ob (unhide N4) (fun k hk hp => (unhide H3).sep k hk hp))
  have HR4 := hide hr4
  clear h4 o4 n4 k4 hr4 hHeld KPo
  go_wp2_with fail
  refine hK.out _ _ (fun _ => hS4) ?_
  clear hK K
  try simp only [Act.put, List.setIfInBounds_toArray, List.set_cons_zero, List.set_cons_succ]
  refine wpAnyT_one (i := 10) (o := { dst := some 53, op := Op.call { callee := Callee.value (Operand.func 36), args := #[Operand.tmp 51, Operand.tmp 52], argTypes := #[80, 32] }, type := 63, pos := "undo.go:116", after := #[{ on := 8, ground := Ground.data }, { on := 9, ground := Ground.data }, { on := 5, ground := Ground.chain }], guard := none }) (by kernel_rfl) rfl (fun K hK => ?_)
  go_simp
  have KPu := hide (push_any B nt (.slice at_ nt ct) H.back ⟨.slice px pm pk, ci⟩ w4 (by rw [← unhide HVT, ← (unhide HK).2.1]; exact unhide OT4) (unhide HK).2.1 (by omega) (Nat.le_trans (unhide H3).gB (Nat.le_of_lt (unhide HR4).lt)) (fun q hq => own_v ((unhide H3).eb q hq).own) ⟨px, pm, pk, rfl⟩)
  simp only [] at KPu
  refine Calls.mono (unhide KPu) ?_
  intro r9 w5 h5
  obtain ⟨v5, rfl, o5, n5, k5⟩ := h5.shape
  have O5 := hide o5
  have N5 : Hid (Only (fun k => vb.ownBlock = some k) w4 w5) := hide (by rw [unhide HVT]; exact n5)
  have K5 : Hid (∀ k, v5.ownBlock = some k → vb.ownBlock = some k ∨ w4.heap.size ≤ k) := hide (by rw [unhide HVT]; exact k5)
  have hr5 : RowAt w5 g 65 _ := (unhide HR4).only (unhide N5) (fun e => tag_ne (unhide OT4) (unhide HR4) (by decide) e)
  have hS5 := And.intro (hr5.cell 3) (hr5.cell 2)
  simp only [List.getElem?_cons_zero, List.getElem?_cons_succ] at hS5
  rw [unhide HVF, unhide HVT] at hS5
  obtain ⟨a5, c5, hv5⟩ := pl_one o5
  subst hv5
  have HR5 := hide hr5
  obtain ⟨np, hnp⟩ : ∃ z, (pushP H.back ⟨.slice px pm pk, ci⟩).length = z := ⟨_, rfl⟩
  rw [hnp] at O5 K5 ⊢
  have HNP := hide hnp
  clear h5 o5 n5 k5 hr5 hS4 KPu hnp
  go_wp2_with fail
  refine hK.out _ _ (fun _ => hS5) ?_
  clear hK K
  try simp only [Act.put, List.setIfInBounds_toArray, List.set_cons_zero, List.set_cons_succ]
  refine wpAnyT_pure (i := 11) (oi := { dst := some 54, op := Op.nilCheck (Operand.tmp 43), type := 0, pos := "undo.go:116", after := #[{ on := 0, ground := Ground.data }, { on := 0, ground := Ground.phase }, { on := 1, ground := Ground.textOnly Departure.lateStores }, { on := 2, ground := Ground.phase }, { on := 3, ground := Ground.phase }, { on := 4, ground := Ground.phase }, { on := 5, ground := Ground.phase }, { on := 6, ground := Ground.textOnly Departure.lateStores }, { on := 7, ground := Ground.textOnly Departure.lateStoresUnsure }, { on := 8, ground := Ground.phase }, { on := 9, ground := Ground.textOnly Departure.lateStores }, { on := 10, ground := Ground.phase }], guard := none }) (v := .pointer (some ⟨g, 3, none⟩)) rfl (by kernel_rfl) (by kernel_rfl) (by kernel_rfl) rfl (fun _ _ _ h => h) (Or.inl ⟨by rfl, ?_⟩) ?_
  · intro w hSw
    first
      | rfl
      | (go_simp; done)
  try simp only [Act.put, List.setIfInBounds_toArray, List.set_cons_zero, List.set_cons_succ]
  have fi := (unhide HR5).frozen 3
  have fj := (unhide HR5).frozen 2
  have ci5 := hS5.1
  refine wpAnyT_one (i := 12) (o := { dst := none, op := Op.store 63 (Operand.tmp 54) (Operand.tmp 48), type := 0, pos := "undo.go:116", after := #[{ on := 11, ground := Ground.data }, { on := 5, ground := Ground.data }, { on := 10, ground := Ground.chain }, { on := 0, ground := Ground.phase }, { on := 1, ground := Ground.textOnly Departure.lateStores }, { on := 2, ground := Ground.phase }, { on := 3, ground := Ground.phase }, { on := 4, ground := Ground.phase }, { on := 5, ground := Ground.phase }, { on := 6, ground := Ground.textOnly Departure.lateStores }, { on := 7, ground := Ground.textOnly Departure.lateStoresUnsure }, { on := 8, ground := Ground.phase }, { on := 9, ground := Ground.textOnly Departure.lateStores }, { on := 10, ground := Ground.phase }], guard := none }) (by kernel_rfl) rfl (fun K hK => ?_)
  go_simp
  refine hK.out _ _ (fun h => by cases h) ?_
  clear hK K
  try simp only [Act.put, List.setIfInBounds_toArray, List.set_cons_zero, List.set_cons_succ]
  refine wpAnyT_pure (i := 13) (oi := { dst := some 55, op := Op.nilCheck (Operand.tmp 44), type := 0, pos := "undo.go:116", after := #[{ on := 1, ground := Ground.data }, { on := 0, ground := Ground.phase }, { on := 1, ground := Ground.phase }, { on := 2, ground := Ground.phase }, { on := 3, ground := Ground.phase }, { on := 4, ground := Ground.phase }, { on := 5, ground := Ground.phase }, { on := 6, ground := Ground.phase }, { on := 7, ground := Ground.phase }, { on := 8, ground := Ground.phase }, { on := 9, ground := Ground.phase }, { on := 10, ground := Ground.phase }, { on := 11, ground := Ground.phase }, { on := 12, ground := Ground.phase }], guard := none }) (v := .pointer (some ⟨g, 2, none⟩)) rfl (by kernel_rfl) (by kernel_rfl) (by kernel_rfl) rfl (fun _ _ _ h => h) (Or.inl ⟨by rfl, ?_⟩) ?_
  · intro w hSw
    first
      | rfl
      | (go_simp; done)
  try simp only [Act.put, List.setIfInBounds_toArray, List.set_cons_zero, List.set_cons_succ]
  have cj6 : (w5.setCell ⟨g, 3, none⟩ (.slice a4 k c4)).cell? ⟨g, 2, none⟩ = some (.slice at_ nt ct) := by have h9 := ((unhide HR5).set 3 (.slice a4 k c4)).cell 2; simp only [List.set_cons_succ, List.set_cons_zero, List.getElem?_cons_zero, List.getElem?_cons_succ] at h9; rw [unhide HVT] at h9; exact h9
  have fj6 := ((unhide HR5).set 3 (.slice a4 k c4)).frozen 2
  refine wpAnyT_one (i := 14) (o := { dst := none, op := Op.store 63 (Operand.tmp 55) (Operand.tmp 53), type := 0, pos := "undo.go:116", after := #[{ on := 13, ground := Ground.data }, { on := 10, ground := Ground.data }, { on := 12, ground := Ground.chain }, { on := 0, ground := Ground.phase }, { on := 1, ground := Ground.phase }, { on := 2, ground := Ground.phase }, { on := 3, ground := Ground.phase }, { on := 4, ground := Ground.phase }, { on := 5, ground := Ground.phase }, { on := 6, ground := Ground.phase }, { on := 7, ground := Ground.phase }, { on := 8, ground := Ground.phase }, { on := 9, ground := Ground.phase }, { on := 10, ground := Ground.phase }, { on := 11, ground := Ground.phase }, { on := 12, ground := Ground.phase }], guard := none }) (by kernel_rfl) rfl (fun K hK => ?_)
  go_simp
  refine hK.out _ _ (fun h => by cases h) ?_
  clear hK K
  try simp only [Act.put, List.setIfInBounds_toArray, List.set_cons_zero, List.set_cons_succ]
  refine wpAnyT_done (by kernel_rfl) ?_ _
  have o6 : Only (· = g) w5 ((w5.setCell ⟨g, 3, none⟩ (.slice a4 k c4)).setCell ⟨g, 2, none⟩ (.slice a5 np c5)) := Only.set (p := (· = g)) (Only.set (p := (· = g)) (Only.refl _ _) g 3 _ rfl) g 2 _ rfl
  have hr6 := ((unhide HR5).set 3 (.slice a4 k c4)).set 2 (.slice a5 np c5)
  simp only [List.set_cons_succ, List.set_cons_zero] at hr6
  have oW : Only (fpH g vb va) w ((w5.setCell ⟨g, 3, none⟩ (.slice a4 k c4)).setCell ⟨g, 2, none⟩ (.slice a5 np c5)) := (((Only.of_below (unhide HBd2)).trans ((unhide N4).mono (fun k hk => .inr (.inr hk)))).trans ((unhide N5).mono (fun k hk => .inr (.inl hk)))).trans (o6.mono (fun k hk => .inl hk))
  have hp3 : PeOk w3 p := (unhide HPK).call (unhide HBd2)
  have hp5 : ∀ q, PeOk w3 q → PeOk w5 q := fun q hq => (hq.pile (unhide H3).oa (unhide N4)).pile (unhide OT4) (unhide N5)
  have H6 : Hid (Hi ((w5.setCell ⟨g, 3, none⟩ (.slice a4 k c4)).setCell ⟨g, 2, none⟩ (.slice a5 np c5)) B g (.slice a5 np c5) (.slice a4 k c4) ⟨H.n, pushP H.back ⟨.slice px pm pk, ci⟩, P⟩) := hide (by
    have of5 : w5.ownsRow B 32 1 (.slice a4 k c4) P.length (P.map Pe.v) := by
      have h9 := own_only (unhide O4) (unhide N5) (fun k hk hp => (unhide H3).sep k hp (unhide K4 k hk))
      rw [unhide HF, List.map_append, List.take_left' (by rw [List.length_map, (unhide HK).1])] at h9
      rw [(unhide HK).1]
      exact h9
    have hsep : ∀ kz, (Value.slice a4 k c4).ownBlock = some kz → (Value.slice a5 np c5).ownBlock ≠ some kz := fun kz h1 h2 => by
      rcases unhide K5 kz h2 with h9 | h9
      · exact (unhide H3).sep kz h9 (unhide K4 kz h1)
      · have := ((unhide O4).lt kz h1).2; omega
    have ef5 : ∀ q ∈ P, PeOk w5 q := fun q hq => hp5 q ((unhide H3).ea q (by rw [unhide HF]; exact List.mem_append.2 (.inl hq)))
    have et5 : ∀ q ∈ pushP H.back ⟨.slice px pm pk, ci⟩, PeOk w5 q := fun q hq => by
      rcases pushP_mem hq with hq | rfl
      · exact hp5 q ((unhide H3).eb q hq)
      · exact hp5 _ (unhide HQd)
    exact Hi.of_row (unhide HR5) hr6 o6 (by rw [unhide HNP]; exact unhide O5) of5 (fun k h1 h2 => hsep k h2 h1) et5 ef5 (unhide H3).gB)
  have HP6 := hide (And.intro ((hp5 p hp3).row (unhide HR5) o6) ((hp5 _ (unhide HQd)).row (unhide HR5) o6))
  have HOW := hide oW
  obtain ⟨w6, hw6⟩ : ∃ z, ((w5.setCell ⟨g, 3, none⟩ (.slice a4 k c4)).setCell ⟨g, 2, none⟩ (.slice a5 np c5)) = z := ⟨_, rfl⟩
  rw [hw6] at H6 HP6 HOW ⊢
  clear hw6 o6 hr6 oW hp3 hp5 hS5 fi fj ci5 cj6 fj6 HR5 O5 K5 N5 O4 K4 N4 OT4 HR4 H3 HQd
  have hbB : Below B w w6 := (unhide HH).low (unhide HOW)
  obtain ⟨ea6, ec6, hev6, hE6⟩ := (unhide HP6).1.own.edit (ed_txt (unhide HED)) (by rw [unhide HM]; have := nf_len (unhide HED).1; have h8 := unhide HED; rw [h8.2.1, h8.2.2.1, unhide HM] at this; omega)
  rw [unhide HEV, unhide HM] at hev6
  injection hev6 with e1 e2 e3
  subst e1 e3
  have hU6 : UT w6 := unhide HTU w6 hbB
  go_wp2_with fail
  refine Calls.mono (unhide KS w6 hU6 hE6) ?_
  rintro r w7 ⟨rfl, hb7⟩
  have h7 := (unhide H6).call hb7
  have cc := h7.row.cell 1
  have ff := h7.row.frozen 1
  simp only [List.getElem?_cons_zero, List.getElem?_cons_succ] at cc
  have o8 : Only (· = g) w7 (w7.setCell ⟨g, 1, none⟩ (.int .i64 (t : Int))) := Only.set (p := (· = g)) (Only.refl _ _) g 1 _ rfl
  have HE : Hid (TurnDR B g vb va H P p c0 t w (.returned (.tuple #[p.v, .int .i64 0])) (w7.setCell ⟨g, 1, none⟩ (.int .i64 (t : Int)))) := hide ⟨⟨.slice px pm pk, ci⟩, _, _, rfl, unhide HAT, ((unhide HP6).2.call hb7).row h7.row o8, ((unhide HP6).1.call hb7).row h7.row o8, Hi.of_row (H := ⟨(t : Int), pushP H.back ⟨.slice px pm pk, ci⟩, P⟩) h7.row (h7.row.set 1 _) o8 h7.ob h7.oa h7.sep h7.eb h7.ea h7.gB, ((unhide HOW).trans (Only.of_below hb7)).trans (o8.mono (fun k hk => .inl hk))⟩
  rw [unhide HEV] at HE
  clear h7 o8 hb7 H6 hbB hE6 hU6 KS
  go_wp2_with fail
  go_ret2
  exact unhide HE
end Go.Proofs.YtihiengejpjbkaaDoor
