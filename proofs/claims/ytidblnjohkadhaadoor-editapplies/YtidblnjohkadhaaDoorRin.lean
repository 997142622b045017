/- The edit that undoes an edit: the walk of the document's own Invert. -/
import Derived.Test.YtidblnjohkadhaaDoorRap
import Derived.Test.YtidblnjohkadhaaDoorClo
namespace Go.Proofs.YtidblnjohkadhaaDoor
set_option linter.unusedVariables false
set_option linter.unusedSimpArgs false
open Go.ChangeShapes Go.WideShapes Go.ChangeAt Go.RowKit Go.Joins Go.Deep

theorem wp_append_boo {o : Oper} {a : Act} {K : Act → World → Prop} {Q : Exit → Act → World → Prop} {W : World} (s x : Operand)
    (ho : o.op = .call { callee := .builtin .append, args := #[s, x], argTypes := #[86, 86] }) (B : Nat) (v : Value) (l : List Bool) (e : Bool) (q c : Nat)
    (hs : a.eval s = v) (hv : W.ownsRow B 4 1 v l.length (bS l)) (hn : l.length < 4398046511104) (hB : B ≤ W.heap.size) (hx : a.eval x = .slice (some ⟨q, 0, none⟩) 1 c) (hq : W.cell? ⟨q, 0, none⟩ = some (.bool e))
    (h : ∀ g cap w', w'.ownsRow B 4 1 (.slice (some ⟨g, 0, none⟩) (l.length + 1) cap) (l ++ [e]).length (bS (l ++ [e])) → Only (fun k => v.ownBlock = some k) W w' → (v.ownBlock = some g ∨ g = W.heap.size) → K (a.put o.dst (.slice (some ⟨g, 0, none⟩) (l.length + 1) cap)) w') : o.wp Tryd.prog a W K Q := by
  obtain ⟨i0, hi, hz, hsz, hb⟩ := infoBoo
  refine wp_append_lies _ s x 86 ho B 4 i0 _ 1 1 Tryd.underlying86 hi hz hsz hb rfl (by decide) v l.length (bS l) hs hv ⟨q, 0, none⟩ 1 c [.bool e] hx rfl (fun j u hu => ?_) (fun u hu => ?_) (by decide) (by unfold maxLen; omega) (by omega) hB W.heap.size rfl ?_
  · match j with
    | 0 => simp at hu; rw [← hu]; exact hq
    | j + 1 => simp at hu
  · simp only [List.mem_cons, List.not_mem_nil, or_false] at hu
    rcases hu with rfl
    rfl
  · intro g cap w' h1 h2 h3 _
    refine h g cap w' ?_ (grown_only h2) h3
    have e1 : bS (l ++ [e]) = bS l ++ [.bool e] := by simp [bS]
    rw [e1, List.length_append]
    exact h1
theorem wpList_append_boo {ops : Array Oper} {rest : List Oper} {o : Oper} {a : Act} {Q : Exit → Act → World → Prop} {W : World} (hgd : o.guard = none) (s x : Operand)
    (ho : o.op = .call { callee := .builtin .append, args := #[s, x], argTypes := #[86, 86] }) (B : Nat) (v : Value) (l : List Bool) (e : Bool) (q c : Nat)
    (hs : a.eval s = v) (hv : W.ownsRow B 4 1 v l.length (bS l)) (hn : l.length < 4398046511104) (hB : B ≤ W.heap.size) (hx : a.eval x = .slice (some ⟨q, 0, none⟩) 1 c) (hq : W.cell? ⟨q, 0, none⟩ = some (.bool e))
    (h : ∀ g cap w', w'.ownsRow B 4 1 (.slice (some ⟨g, 0, none⟩) (l.length + 1) cap) (l ++ [e]).length (bS (l ++ [e])) → Only (fun k => v.ownBlock = some k) W w' → (v.ownBlock = some g ∨ g = W.heap.size) → wpList Tryd.prog ops Q rest (a.put o.dst (.slice (some ⟨g, 0, none⟩) (l.length + 1) cap)) w') : wpList Tryd.prog ops Q (o :: rest) a W :=
  wpList_plain hgd fun _ hK => wp_append_boo s x ho B v l e q c hs hv hn hB hx hq (fun g cap w' h1 h2 h3 => hK _ _ (h g cap w' h1 h2 h3))
theorem wpList_append_txt {ops : Array Oper} {rest : List Oper} {o : Oper} {a : Act} {Q : Exit → Act → World → Prop} {W : World} (hgd : o.guard = none) (s x : Operand)
    (ho : o.op = .call { callee := .builtin .append, args := #[s, x], argTypes := #[85, 85] }) (B : Nat) (v : Value) (l : List (List (List UInt8))) (e : List (List UInt8)) (q c : Nat)
    (hs : a.eval s = v) (hv : W.ownsRow B 9 1 v l.length (sS l)) (hn : l.length < 4398046511104) (hB : B ≤ W.heap.size) (hx : a.eval x = .slice (some ⟨q, 0, none⟩) 1 c) (hq : W.cell? ⟨q, 0, none⟩ = some (.string (txB e)))
    (h : ∀ g cap w', w'.ownsRow B 9 1 (.slice (some ⟨g, 0, none⟩) (l.length + 1) cap) (l ++ [e]).length (sS (l ++ [e])) → Only (fun k => v.ownBlock = some k) W w' → (v.ownBlock = some g ∨ g = W.heap.size) → wpList Tryd.prog ops Q rest (a.put o.dst (.slice (some ⟨g, 0, none⟩) (l.length + 1) cap)) w') : wpList Tryd.prog ops Q (o :: rest) a W := by
  have hv' : OwnS W B v (l.map txB) := by unfold OwnS; rw [List.length_map]; exact hv
  refine wpList_append_str hgd s x ho B v (l.map txB) (txB e) q c hs hv' (by rw [List.length_map]; exact hn) hB hx hq (fun g cap w' h1 h2 h3 => ?_)
  rw [List.length_map] at h1 ⊢
  refine h g cap w' ?_ h2 h3
  unfold OwnS at h1
  rw [List.length_append, List.length_map] at h1
  have e1 : sS (l ++ [e]) = (l.map txB ++ [txB e]).map Value.string := by simp [sS]
  rw [e1, List.length_append]
  exact h1
/-- a wide edit that grows, in a place of its own, ahead of all that is older -/
structure GX (wB wr : World) (gx : Nat) (vP vD : Value) (P : List (List (List UInt8))) (D : List Bool) : Prop where
  wd : Wd wr wB.heap.size vP vD P D
  bx : RowAt wr gx 88 [vP, vD]
  gb : wB.heap.size ≤ gx
  bel : Below wB.heap.size wB wr
theorem GX.call {wB wr wr' : World} {gx : Nat} {vP vD : Value} {P : List (List (List UInt8))} {D : List Bool} (h : GX wB wr gx vP vD P D) (hb : Below wr.heap.size wr wr') : GX wB wr' gx vP vD P D :=
  ⟨h.wd.call hb, h.bx.below hb h.bx.lt, h.gb, h.bel.trans (hb.mono h.bel.size)⟩
theorem own_ge {w : World} {B e n : Nat} {v : Value} {xs : List Value} (h : w.ownsRow B e 1 v n xs) {k : Nat} (hk : v.ownBlock = some k) : B ≤ k := by
  rcases h.2 with ⟨rfl, _⟩ | ⟨g, c, cur, rfl, e2, _⟩
  · cases hk
  · have : g = k := by simpa [Value.ownBlock] using hk
    omega
theorem GX.app_d {wB W w1 : World} {gx : Nat} {vP vD v1 : Value} {P : List (List (List UInt8))} {D : List Bool} {b : Bool} (h : GX wB W gx vP vD P D) (hd : w1.ownsRow wB.heap.size 4 1 v1 (D ++ [b]).length (bS (D ++ [b]))) (ho : Only (fun k => vD.ownBlock = some k) W w1) : GX wB (w1.setCell ⟨gx, 1, none⟩ v1) gx vP v1 P (D ++ [b]) ∧ RowAt w1 gx 88 [vP, vD] := by
  have b1 := h.bx.only ho (h.wd.row_ne h.bx (by decide) (by decide)).2
  have p1 := own_only h.wd.p ho (fun k hk hk2 => own_two h.wd.p h.wd.d (by decide) hk hk2)
  refine ⟨⟨⟨own_set_other p1 (tag_ne p1 b1 (by decide)), own_set_other hd (tag_ne hd b1 (by decide))⟩, b1.set 1 v1, h.gb, ?_⟩, b1⟩
  exact (h.bel.trans (ho.below h.bel.size (fun k hk => own_ge h.wd.d hk))).setCell (by show wB.heap.size ≤ gx; exact h.gb) _
theorem GX.app_p {wB W w1 : World} {gx : Nat} {vP vD v1 : Value} {P : List (List (List UInt8))} {D : List Bool} {q : List (List UInt8)} (h : GX wB W gx vP vD P D) (hd : w1.ownsRow wB.heap.size 9 1 v1 (P ++ [q]).length (sS (P ++ [q]))) (ho : Only (fun k => vP.ownBlock = some k) W w1) : GX wB (w1.setCell ⟨gx, 0, none⟩ v1) gx v1 vD (P ++ [q]) D ∧ RowAt w1 gx 88 [vP, vD] := by
  have b1 := h.bx.only ho (h.wd.row_ne h.bx (by decide) (by decide)).1
  have p1 := own_only h.wd.d ho (fun k hk hk2 => own_two h.wd.d h.wd.p (by decide) hk hk2)
  refine ⟨⟨⟨own_set_other hd (tag_ne hd b1 (by decide)), own_set_other p1 (tag_ne p1 b1 (by decide))⟩, b1.set 0 v1, h.gb, ?_⟩, b1⟩
  exact (h.bel.trans (ho.below h.bel.size (fun k hk => own_ge h.wd.p hk))).setCell (by show wB.heap.size ≤ gx; exact h.gb) _
theorem GX.more {wB wr : World} {gx g c : Nat} {vD : Value} {P : List (List (List UInt8))} {D : List Bool} (h : GX wB wr gx (.slice (some ⟨g, 0, none⟩) P.length c) vD P D) (i : Nat) (q : List (List UInt8)) (hi : i < P.length) : GX wB (wr.setCell ⟨g, i, none⟩ (.string (txB q))) gx (.slice (some ⟨g, 0, none⟩) P.length c) vD (P.set i q) D := by
  have hne := (h.wd.row_ne h.bx (by decide) (by decide)).1
  refine ⟨h.wd.set_p i q hi, ?_, h.gb, h.bel.setCell (by show wB.heap.size ≤ g; exact own_ge h.wd.p rfl) _⟩
  exact h.bx.only ((Only.refl (fun k => k = g) wr).set g i _ rfl) (fun e => hne (by rw [e]; rfl))
/-- its lists -/
structure GL (P : List (List (List UInt8))) (D : List Bool) (x : List At) : Prop where
  pl : P.length = D.length + 1
  cps : ∀ q ∈ P, Cps q
  eq : wAts P D = x
theorem GL.start : GL [[]] [] [] := ⟨rfl, (fun q hq => by rw [List.mem_singleton] at hq; rw [hq]; exact Cps.nil), rfl⟩
theorem GL.next {P : List (List (List UInt8))} {D : List Bool} {x : List At} (h : GL P D x) (b : Bool) : GL (P ++ [[]]) (D ++ [b]) (x ++ [stp b]) := by
  refine ⟨by rw [List.length_append, List.length_append, h.pl]; rfl, fun q hq => ?_, by rw [wAts_next h.pl, h.eq]⟩
  rcases List.mem_append.1 hq with hq | hq
  · exact h.cps q hq
  · rw [List.mem_singleton] at hq; rw [hq]; exact Cps.nil
theorem GL.more {P : List (List (List UInt8))} {D : List Bool} {x : List At} (h : GL P D x) {q r : List (List UInt8)} (hq : P[D.length]? = some q) (hr : Cps r) : GL (P.set D.length (q ++ r)) D (x ++ r.map .p) := by
  rcases List.eq_nil_or_concat P with rfl | ⟨P', q', rfl⟩
  · simp at hq
  · rw [List.concat_eq_append] at *
    have hl : P'.length = D.length := by have := h.pl; simpa using this
    have e : q' = q := by rw [← hl] at hq; simpa using hq
    subst e
    have e2 : (P' ++ [q']).set D.length (q' ++ r) = P' ++ [q' ++ r] := by rw [← hl]; simp
    rw [e2]
    refine ⟨by simp [hl], fun z hz => ?_, by rw [wAts_more hl, h.eq]⟩
    rcases List.mem_append.1 hz with hz | hz
    · exact h.cps z (List.mem_append_left _ hz)
    · rw [List.mem_singleton] at hz; rw [hz]; exact (h.cps q' (by simp)).append hr
theorem GL.last {P : List (List (List UInt8))} {D : List Bool} {x : List At} (h : GL P D x) : ∃ q, P[D.length]? = some q ∧ Cps q ∧ q.length ≤ x.length ∧ D.length ≤ x.length := by
  obtain ⟨q, hq⟩ : ∃ z, P[D.length]? = some z := ⟨_, List.getElem?_eq_getElem (by rw [h.pl]; omega)⟩
  refine ⟨q, hq, h.cps q (List.mem_of_getElem? hq), ?_, ?_⟩
  · rw [← h.eq]; exact wPre_long P D _ q hq h.pl
  · rw [← h.eq]
    have h1 := wAts_from P D h.pl
    have h2 : At.fromN (wAts P D) ≤ (wAts P D).length := by
      have : ∀ y : List At, At.fromN y ≤ y.length := fun y => by
        induction y with
        | nil => simp [At.fromN]
        | cons s y ih => cases s <;> simp only [At.fromN, List.length_cons] <;> omega
      exact this _
    omega
theorem WdL.cut {P : List (List (List UInt8))} {D : List Bool} {n : Nat} {x : List At} (h : WdL P D n x) {i : Nat} (hi : i ≤ n) {q : List (List UInt8)} (hq : P[i]? = some q) : ∃ R, wAts (P.drop i) (D.drop i) = q.map .p ++ R ∧ (i < n → ∃ b, D[i]? = some b ∧ R = stp b :: wAts (P.drop (i + 1)) (D.drop (i + 1))) ∧ (i = n → R = []) := by
  by_cases e : i < n
  · obtain ⟨b, hb⟩ := h.dr e
    exact ⟨_, wAts_drop hq hb, fun _ => ⟨b, hb, rfl⟩, fun k => by omega⟩
  · obtain rfl : i = D.length := by rw [h.dl]; omega
    exact ⟨[], by rw [wAts_last (by rw [h.pl, h.dl]) hq, List.append_nil], fun k => by rw [h.dl] at k; omega, fun _ => rfl⟩
theorem invW_len : ∀ (x : List At) (s : List (List UInt8)), (At.inv x s).length ≤ x.length
  | [], s => by simp [At.inv]
  | .p c :: x, s => by simp only [At.inv, List.length_cons]; have := invW_len x s; omega
  | .k :: x, [] => by simp only [At.inv, List.length_cons]; have := invW_len x []; omega
  | .k :: x, c :: s => by simp only [At.inv, List.length_cons]; have := invW_len x s; omega
  | .d :: x, [] => by simp only [At.inv, List.length_cons]; have := invW_len x []; omega
  | .d :: x, c :: s => by simp only [At.inv, List.length_cons]; have := invW_len x s; omega
theorem apA_le {x y T : List At} (h : x ++ y = T) {M : Nat} (hM : T.length ≤ M) : x.length ≤ M := by
  have := congrArg List.length h
  rw [List.length_append] at this
  omega
theorem iv_drops {x y T : List At} {k : Nat} (h : x ++ (List.replicate (k + 1) .d ++ y) = T) : (x ++ [stp true]) ++ (List.replicate k .d ++ y) = T := by
  rw [← h, List.replicate_succ]
  simp [stp]
set_option maxRecDepth 100000 in
set_option maxHeartbeats 4000000 in
theorem rinvert_no {a : Option Addr} {l : List Pt} {c : Nat} {s : ByteArray} {w : World} (he : Edit w a l c) (hs : s.size ≤ 140737488355328) (hn : isOfB l s = false) :
    Calls Tryd.prog 42 #[.slice a l.length c, .string s] w fun r w' => r = .returned (.tuple #[.slice none 0 0, .int .i64 30]) ∧ Below w.heap.size w w' := by
  have hcv := Lib.run_convert_string_bytes (P := Tryd.prog) w 9 65 5 s Tryd.underlying9 Tryd.underlying65 Tryd.underlying5
  have HBY := hide (bw_bys w s)
  have HB1 := hide (bw_below w s)
  have HCA := hide (And.intro (grownCap_ge w s.size 0 5) (grownCap_le_maxLen w s.size 0 5 (by unfold maxLen; omega)))
  have HS := hide hs
  obtain ⟨cap, hcap⟩ : ∃ z, grownCap w s.size 0 5 = z := ⟨_, rfl⟩
  obtain ⟨W1, hW1⟩ : ∃ z, Lib.bytesWorld w 5 s = z := ⟨_, rfl⟩
  obtain ⟨g, hg⟩ : ∃ z, w.heap.size = z := ⟨_, rfl⟩
  have HB1 : Hid (Below w.heap.size w W1) := by rw [← hW1]; exact HB1
  rw [hcap] at hcv HCA
  rw [hW1] at hcv HBY
  rw [hg] at hcv HBY
  clear hcap hW1 hg hs
  have HRU : Hid (Calls Tryd.prog 65 #[.slice (some ⟨g, 0, none⟩) s.size cap] W1 fun r w' => r = .returned (.int .i64 (runeV s.data.toList)) ∧ W1 = w') := hide (by have := runes_any g cap s.data.toList W1 (unhide HBY) (by rw [← Lib.size_eq]; exact (unhide HCA).1) (unhide HCA).2 (by rw [← Lib.size_eq]; have := unhide HS; omega) (some ⟨g, 0, none⟩) (fun _ => rfl); rw [← Lib.size_eq] at this; exact this)
  have HCK : Hid (∀ W k, Below w.heap.size w W → Calls Tryd.prog 26 #[.slice a l.length c, .int .i64 k] W fun r w' => r = .returned (.int .i64 (checkE l k)) ∧ Below W.heap.size W w') := hide (fun W k hW => rcheck_at (w := W) (he.call hW) rfl (Below.refl _ _))
  obtain ⟨nl, hnl⟩ : ∃ z, l.length = z := ⟨_, rfl⟩
  rw [hnl] at HCK ⊢
  clear hnl he HBY HCA
  unfold isOfB at hn
  cases hv : Lib.validD s.data.toList with
  | false =>
    have e : runeV s.data.toList = -1 := by unfold runeV; rw [if_neg (by rw [hv]; simp)]
    rw [e] at HRU
    clear e hv hn HCK
    go_enter Tryd.func42, Tryd.ntmps42
    go_wp2_with fail
    refine Calls.mono (unhide HRU) ?_
    rintro r w2 ⟨rfl, rfl⟩
    go_wp2_with fail
    go_ret2
    exact ⟨rfl, unhide HB1⟩
  | true =>
    obtain ⟨cs, hcs⟩ := tx_of_valid hv
    have e : runeV s.data.toList = (cs.length : Int) := by
      unfold runeV
      rw [if_pos hv]
      have : (⟨s.data.toList.toArray⟩ : ByteArray) = s := by simp
      rw [this, hcs.count]
    rw [e] at HRU
    rw [hv, hcs.count, Bool.true_and] at hn
    have hck : checkE l (cs.length : Int) = 30 := by
      rcases check_two l (cs.length : Int) with h | h
      · rw [h] at hn; simp at hn
      · exact h
    have HC3 := hide (unhide HCK W1 (cs.length : Int) (unhide HB1))
    rw [hck] at HC3
    obtain ⟨n, hn2⟩ : ∃ z, cs.length = z := ⟨_, rfl⟩
    rw [hn2] at HC3 HRU
    have n0 : ¬ (n : Int) < 0 := by omega
    clear e hv hn hcs hck hn2 HCK
    go_enter Tryd.func42, Tryd.ntmps42
    go_wp2_with fail
    refine Calls.mono (unhide HRU) ?_
    rintro r w2 ⟨rfl, rfl⟩
    go_wp2_with fail
    refine Calls.mono (unhide HC3) ?_
    rintro r w3 ⟨rfl, hb3⟩
    have HB3 := hide ((unhide HB1).trans (hb3.mono (unhide HB1).size))
    clear hb3
    go_wp2_with fail
    go_ret2
    exact ⟨rfl, unhide HB3⟩
set_option maxRecDepth 100000 in
set_option maxHeartbeats 4000000 in
theorem rinvert_ok {a : Option Addr} {l : List Pt} {c n t : Nat} {s : ByteArray} {cs : List (List UInt8)} {w : World} (he : Edit w a l c) (hs : s.size ≤ 140737488355328) (hcs : Tx s cs) (hcn : cs.length = n) (hd : IsEd l n t) (hc : l.length ≤ 4194304) (hnn : n ≤ 65536) :
    Calls Tryd.prog 42 #[.slice a l.length c, .string s] w fun r w' => ∃ v L, r = .returned (.tuple #[v, .int .i64 0]) ∧ OwnP w' w.heap.size v L ∧ NfG 0 L ∧ atomsL L = At.can (At.inv (atomsL l) cs) ∧ Below w.heap.size w w' := by
  have HTT : Hid ((At.inv (atomsL l) cs).length ≤ 1099511693312) := hide (by
    have h1 := invW_len (atomsL l) cs
    have h2 := at_len (atomsL l)
    rw [hd.2.1, hd.2.2.1] at h2
    have h3 := hd.2.2.2.2
    omega)
  have HTO : Hid (At.toN (At.inv (atomsL l) cs) = n) := hide (by rw [(At.inv_sizes (atomsL l) cs (by rw [hcn, hd.2.1])).2, hd.2.1])
  have hcv := Lib.run_convert_string_bytes (P := Tryd.prog) w 9 65 5 s Tryd.underlying9 Tryd.underlying65 Tryd.underlying5
  have HBY := hide (bw_bys w s)
  have HB1 := hide (bw_below w s)
  have HCA := hide (And.intro (grownCap_ge w s.size 0 5) (grownCap_le_maxLen w s.size 0 5 (by unfold maxLen; omega)))
  have HS := hide hs
  obtain ⟨cap, hcap⟩ : ∃ z, grownCap w s.size 0 5 = z := ⟨_, rfl⟩
  obtain ⟨W1, hW1⟩ : ∃ z, Lib.bytesWorld w 5 s = z := ⟨_, rfl⟩
  obtain ⟨g, hg⟩ : ∃ z, w.heap.size = z := ⟨_, rfl⟩
  have HB1 : Hid (Below w.heap.size w W1) := by rw [← hW1]; exact HB1
  rw [hcap] at hcv HCA
  rw [hW1] at hcv HBY
  rw [hg] at hcv HBY
  clear hcap hW1 hg hs
  have HRU : Hid (Calls Tryd.prog 65 #[.slice (some ⟨g, 0, none⟩) s.size cap] W1 fun r w' => r = .returned (.int .i64 (runeV s.data.toList)) ∧ W1 = w') := hide (by have := runes_any g cap s.data.toList W1 (unhide HBY) (by rw [← Lib.size_eq]; exact (unhide HCA).1) (unhide HCA).2 (by rw [← Lib.size_eq]; have := unhide HS; omega) (some ⟨g, 0, none⟩) (fun _ => rfl); rw [← Lib.size_eq] at this; exact this)
  have hck : checkE l (n : Int) = 0 := by have h := ed_check hd; exact h
  have HCK : Hid (∀ W, Below w.heap.size w W → Calls Tryd.prog 26 #[.slice a l.length c, .int .i64 (n : Int)] W fun r w' => r = .returned (.int .i64 0) ∧ Below W.heap.size W w') := hide (fun W hW => by have h := rcheck_at (w := W) (k := (n : Int)) (he.call hW) rfl (Below.refl _ _); rw [hck] at h; exact h)
  have HPA := hide (fun W (hW : Below w.heap.size w W) => spread_ap (he.call hW) hd hc)
  have hrv : runeV s.data.toList = (n : Int) := by
    unfold runeV
    rw [if_pos hcs.valid]
    have : (⟨s.data.toList.toArray⟩ : ByteArray) = s := by simp
    rw [this, hcs.count, hcn]
  rw [hrv] at HRU
  have HCH : Hid (∀ W : World, Calls Tryd.prog 71 #[.string s] W fun r w' => ∃ v, r = .returned v ∧ w'.ownsRow W.heap.size 9 1 v n (sS (cs.map fun c => [c])) ∧ Below W.heap.size W w') := hide (fun W => by have h := chars_row (w := W) hcs (by rw [hcn]; exact hd.2.2.2.1); rw [hcn] at h; exact h)
  have nI : (n : Int) ≤ 1099511627776 := by have := hd.2.2.2.1; omega
  have n0 : ¬ (n : Int) < 0 := by omega
  have HCS := hide hcs.cps
  have HCN := hide hcn
  have HTL : Hid (t ≤ 1099511627776) := hide hd.2.2.2.2
  have HTN : Hid (At.toN (atomsL l) = t) := hide hd.2.2.1
  have HFN : Hid (At.fromN (atomsL l) = n) := hide hd.2.1
  obtain ⟨nl, hnl⟩ : ∃ z, l.length = z := ⟨_, rfl⟩
  rw [hnl] at HCK HPA ⊢
  clear hnl he hd hc hck hrv hcs hcn HBY HCA
  obtain ⟨T, hT⟩ : ∃ z, At.inv (atomsL l) cs = z := ⟨_, rfl⟩
  have HT := hide hT
  rw [hT] at HTT HTO ⊢
  have HNN := hide hnn
  have nB : (n : Int) ≤ 65536 := by omega
  clear hT hnn
  go_enter Tryd.func42, Tryd.ntmps42
  go_wp2_with fail
  refine Calls.mono (unhide HRU) ?_
  rintro r w2 ⟨rfl, rfl⟩
  clear hcv HRU
  go_wp2_with fail
  refine Calls.mono (unhide HCK _ (unhide HB1)) ?_
  rintro r w3 ⟨rfl, hb3⟩
  have HB3 := hide ((unhide HB1).trans (hb3.mono (unhide HB1).size))
  clear hb3 HB1 HCK
  go_wp2_with fail
  refine Calls.mono (unhide HPA _ (unhide HB3)) ?_
  rintro r w4 ⟨gP, gD, m, P, D, hm, rfl, hwd, hwl, hb4⟩
  have HB4 := hide ((unhide HB3).trans (hb4.mono (unhide HB3).size))
  have HM := hide hm
  have HWL := hide hwl
  have HX4 := hide (WdX.box (w := w) (hwd.base (unhide HB3).size))
  have HB5 := hide ((unhide HB4).alloc (unhide HB4).size (.cells #[.slice (some ⟨gP, 0, none⟩) m m, .slice (some ⟨gD, 0, none⟩) n n] 88))
  clear hb4 hm hwl hwd HPA HB3
  go_wp2_with fail
  obtain ⟨w5, h5⟩ : ∃ z, w4.alloc (.cells #[.slice (some ⟨gP, 0, none⟩) m m, .slice (some ⟨gD, 0, none⟩) n n] 88) = z := ⟨_, rfl⟩
  obtain ⟨gW, hgW⟩ : ∃ z, w4.heap.size = z := ⟨_, rfl⟩
  rw [hgW] at HX4
  simp only [h5, hgW] at HX4 HB5 ⊢
  clear h5 hgW HB4
  refine Calls.mono (unhide HCH _) ?_
  rintro r w6 ⟨v, rfl, hv, hb6⟩
  obtain ⟨av, cv, rfl, -, -⟩ := own_sl hv
  have HB6 := hide ((unhide HB5).trans (hb6.mono (unhide HB5).size))
  have HX6 := hide ((unhide HX4).call hb6)
  have HV := hide (own_base hv (Nat.le_trans (unhide HB5).size (Nat.le_refl _)))
  clear hv hb6 HX4 HB5
  have HLT : Hid (RowAt (w6.alloc (.cells #[.string { data := #[] }] 9)) w6.heap.size 9 (sS [[]])) := hide (RowAt.new w6 9 (sS [[]]))
  have hbL : Below w6.heap.size w6 (w6.alloc (.cells #[.string { data := #[] }] 9)) := (Below.refl _ _).alloc (Nat.le_refl _) _
  have HGX : Hid (GX w6 ((w6.alloc (.cells #[.string { data := #[] }] 9)).alloc (.cells #[.slice (some ⟨w6.heap.size, 0, none⟩) 1 1, .slice none 0 0] 88)) (w6.heap.size + 1) (.slice (some ⟨w6.heap.size, 0, none⟩) 1 1) (.slice none 0 0) [[]] []) := hide (by
    have h2 : Below (w6.alloc (.cells #[.string { data := #[] }] 9)).heap.size (w6.alloc (.cells #[.string { data := #[] }] 9)) ((w6.alloc (.cells #[.string { data := #[] }] 9)).alloc (.cells #[.slice (some ⟨w6.heap.size, 0, none⟩) 1 1, .slice none 0 0] 88)) := (Below.refl _ _).alloc (Nat.le_refl _) _
    have h3 := own_row (unhide HLT) (Nat.le_refl w6.heap.size) (by rw [sS_len]; unfold maxLen; simp)
    refine ⟨⟨own_call h3 h2, own_call (World.ownsRow_nil _ _ _ _) h2⟩, ?_, by omega, hbL.trans (h2.mono hbL.size)⟩
    have h4 := RowAt.new (w6.alloc (.cells #[.string { data := #[] }] 9)) 88 [.slice (some ⟨w6.heap.size, 0, none⟩) 1 1, .slice none 0 0]
    rw [size_alloc] at h4
    exact h4)
  clear hbL HLT
  go_wp2_with fail
  obtain ⟨w7, h7⟩ : ∃ z, (w6.alloc (.cells #[.string { data := #[] }] 9)).alloc (.cells #[.slice (some ⟨w6.heap.size, 0, none⟩) 1 1, .slice none 0 0] 88) = z := ⟨_, rfl⟩
  obtain ⟨gx, hgx⟩ : ∃ z, w6.heap.size + 1 = z := ⟨_, rfl⟩
  rw [h7, hgx] at HGX
  simp only [h7, hgx]
  clear h7 hgx
  have HXA : Hid (∀ W, Below w6.heap.size w6 W → WdX w W gP gD gW n m P D) := hide (fun W hW => (unhide HX6).call hW)
  have HVA : Hid (∀ W, Below w6.heap.size w6 W → W.ownsRow w.heap.size 9 1 (.slice av n cv) n (sS (cs.map fun c => [c]))) := hide (fun W hW => own_call (unhide HV) hW)
  clear HX6 HV
  go_loopw [31] (fun t31 wr => ∃ i : Nat, i ≤ n + 1 ∧ t31 = .int .i64 (i : Int) ∧ Hid (∃ vP vD XP XD x, GX w6 wr gx vP vD XP XD ∧ GL XP XD x ∧ x ++ At.inv (wAts (P.drop i) (D.drop i)) (cs.drop i) = T)) (fun t31 _ => ((n : Int) + 1 - intOf t31).toNat)
  case atStart => exact ⟨0, by omega, by simp, hide ⟨_, _, _, _, [], unhide HGX, GL.start, by rw [List.drop_zero, List.drop_zero, List.drop_zero, List.nil_append, (unhide HWL).eq]; exact unhide HT⟩⟩
  case round =>
    obtain ⟨i, hi, rfl, HZ⟩ := hrel
    obtain ⟨vP, vD, XP, XD, x, hgx, hgl, heq⟩ := unhide HZ
    by_cases hlt : i ≤ n
    · obtain ⟨q, hq, hcq, hlq⟩ := (unhide HWL).at_ hlt
      obtain ⟨R, hR1, hR2, hR3⟩ := (unhide HWL).cut hlt hq
      rw [hR1, invW_map] at heq
      have HG0 := hide hgx
      have HL0 := hide hgl
      have HE0 := hide heq
      have HR2 := hide hR2
      have HR3 := hide hR3
      have HXW := hide (unhide HXA _ hgx.bel)
      have c0 : wr.cell? ⟨gW, 0, none⟩ = some (.slice (some ⟨gP, 0, none⟩) m m) := (unhide HXW).bx.cell 0
      have c2 : wr.cell? ⟨gP, i, none⟩ = some (.string (txB q)) := ((unhide HXW).wd.cp hq).1
      have HCH2 := hide (chars_row (w := wr) (tx_txB hcq) (by have := unhide HTN; have := unhide HTL; omega))
      obtain ⟨qn, hqn⟩ : ∃ z, q.length = z := ⟨_, rfl⟩
      have qnI : (qn : Int) ≤ 1099511627776 := by have := unhide HTN; have := unhide HTL; omega
      rw [hqn] at HCH2 HE0
      have iM : (i : Int) < (m : Int) := by have := unhide HM; omega
      have i0 : (0 : Int) ≤ (i : Int) := by omega
      have i1 : (i : Int) < (n : Int) + 1 := by omega
      clear hgx hgl heq hR1 hR2 hR3 hq hcq hlq hqn HZ
      go_wp2_with fail
      refine Calls.mono (unhide HCH2) ?_
      rintro r w8 ⟨v8, rfl, hv8, hb8⟩
      obtain ⟨a8, c8, rfl, -, -⟩ := own_sl hv8
      have HG8 := hide ((unhide HG0).call hb8)
      clear hv8 hb8 HG0 HXW c0 c2 HCH2
      go_wp2_with fail
      go_loopw [41] (fun t41 wr => ∃ j : Nat, j ≤ qn ∧ t41 = .int .i64 (j : Int) ∧ Hid (∃ vP vD XP XD x, GX w6 wr gx vP vD XP XD ∧ GL XP XD x ∧ x ++ (List.replicate (qn - j) .d ++ At.inv R (cs.drop i)) = T)) (fun t41 _ => ((qn : Int) - intOf t41).toNat)
      case atStart => exact ⟨0, by omega, by simp, hide ⟨_, _, _, _, _, unhide HG8, unhide HL0, by rw [Nat.sub_zero]; exact unhide HE0⟩⟩
      case round =>
        obtain ⟨j, hj, rfl, HZ⟩ := hrel
        obtain ⟨vP, vD, XP, XD, x, hgx, hgl, heq⟩ := unhide HZ
        have HG := hide hgx
        have HL := hide hgl
        have HE := hide heq
        have HXL : Hid (x.length ≤ 1099511693312) := hide (apA_le heq (unhide HTT))
        obtain ⟨lq, hlq, hcl, hll, hdl⟩ := hgl.last
        have HDL : Hid (XD.length ≤ 1099511693312) := hide (by have := unhide HXL; omega)
        have HPL : Hid (XP.length ≤ 1099511693313) := hide (by have := hgl.pl; have := unhide HXL; omega)
        clear hgx hgl heq HZ
        by_cases hjl : j < qn
        · clear hlq hcl hll hdl
          have hjI : (j : Int) < (qn : Int) := by omega
          have hbA : Below wr.heap.size wr (wr.alloc (.cells #[.bool true] 4)) := (Below.refl _ _).alloc (Nat.le_refl _) _
          have HGA1 := hide ((unhide HG).call hbA)
          have HRA1 := hide (RowAt.new wr 4 [.bool true])
          have z0 : wr.cell? ⟨gx, 1, none⟩ = some vD := (unhide HG).bx.cell 1
          clear hbA
          go_wp2_with (at_builtin; refine unhide ?_)
          unfold Hid
          refine wpList_append_boo rfl _ _ rfl w6.heap.size vD XD true wr.heap.size 1 rfl (unhide HGA1).wd.d (by have := unhide HDL; omega) (unhide HGA1).bel.size rfl ((unhide HRA1).cell 0) (fun g1 c1 wk1 hv ho hk => ?_)
          obtain ⟨hg1, hb1⟩ := (unhide HGA1).app_d hv ho
          have HG1 := hide hg1
          have y0 : wk1.cell? ⟨gx, 1, none⟩ = some vD := hb1.cell 1
          have y1 := hb1.frozen 1
          have y2 : wk1.cell? ⟨gx, 0, none⟩ = some vP := hb1.cell 0
          clear hg1 hv ho hk HGA1 HRA1 z0 hb1
          obtain ⟨XE, hXE⟩ : ∃ z, XD.length + 1 = z := ⟨_, rfl⟩
          rw [hXE] at HG1 ⊢
          clear hXE
          have hbA : Below (wk1.setCell ⟨gx, 1, none⟩ (.slice (some ⟨g1, 0, none⟩) XE c1)).heap.size (wk1.setCell ⟨gx, 1, none⟩ (.slice (some ⟨g1, 0, none⟩) XE c1)) ((wk1.setCell ⟨gx, 1, none⟩ (.slice (some ⟨g1, 0, none⟩) XE c1)).alloc (.cells #[.string { data := #[] }] 9)) := (Below.refl _ _).alloc (Nat.le_refl _) _
          have HGA2 := hide ((unhide HG1).call hbA)
          have HRA2 : Hid (RowAt ((wk1.setCell ⟨gx, 1, none⟩ (.slice (some ⟨g1, 0, none⟩) XE c1)).alloc (.cells #[.string { data := #[] }] 9)) wk1.heap.size 9 [.string { data := #[] }]) := hide (by have h := RowAt.new (wk1.setCell ⟨gx, 1, none⟩ (.slice (some ⟨g1, 0, none⟩) XE c1)) 9 [.string { data := #[] }]; simpa using h)
          have z0 : (wk1.setCell ⟨gx, 1, none⟩ (.slice (some ⟨g1, 0, none⟩) XE c1)).cell? ⟨gx, 0, none⟩ = some vP := (unhide HG1).bx.cell 0
          clear hbA
          go_wp2_with (at_builtin; refine unhide ?_)
          unfold Hid
          refine wpList_append_txt rfl _ _ rfl w6.heap.size vP XP [] wk1.heap.size 1 rfl (unhide HGA2).wd.p (by have := unhide HPL; omega) (unhide HGA2).bel.size rfl ((unhide HRA2).cell 0) (fun g2 c2 wk2 hv ho hk => ?_)
          obtain ⟨hg1, hb1⟩ := (unhide HGA2).app_p hv ho
          have HG2 := hide hg1
          have y0 : wk2.cell? ⟨gx, 0, none⟩ = some vP := hb1.cell 0
          have y1 := hb1.frozen 0
          clear hg1 hv ho hk HGA2 HRA2 z0 hb1
          obtain ⟨XF, hXF⟩ : ∃ z, XP.length + 1 = z := ⟨_, rfl⟩
          rw [hXF] at HG2 ⊢
          clear hXF
          go_wp2_with fail
          refine ⟨⟨j + 1, by omega, by simp, hide ⟨_, _, _, _, _, unhide HG2, (unhide HL).next true, ?_⟩⟩, by simp [intOf]; omega⟩
          have h := unhide HE
          rw [show qn - j = (qn - (j + 1)) + 1 by omega] at h
          exact iv_drops h
        · obtain rfl : qn = j := by omega
          have HE : Hid (x ++ At.inv R (cs.drop i) = T) := hide (by have h := unhide HE; rw [Nat.sub_self] at h; exact h)
          by_cases hin : i < n
          · obtain ⟨b_, hb_, hRb⟩ := unhide HR2 hin
            obtain ⟨c_, hc_⟩ : ∃ z, cs[i]? = some z := ⟨_, List.getElem?_eq_getElem (by rw [unhide HCN]; exact hin)⟩
            have HXB := hide (unhide HXA _ (unhide HG).bel)
            have x0 : wr.cell? ⟨gW, 1, none⟩ = some (.slice (some ⟨gD, 0, none⟩) n n) := (unhide HXB).bx.cell 1
            have x1 : wr.cell? ⟨gD, i, none⟩ = some (.bool b_) := ((unhide HXB).wd.cd hb_).1
            have hinI : (i : Int) < (n : Int) := by omega
            have HE : Hid (x ++ (if b_ then At.p c_ else At.k) :: At.inv (wAts (P.drop (i + 1)) (D.drop (i + 1))) (cs.drop (i + 1)) = T) := hide (by
              have h := unhide HE
              have h1 := List.getElem?_eq_some_iff.1 hc_
              rw [hRb, List.drop_eq_getElem_cons h1.1, h1.2, invW_step] at h
              exact h)
            cases b_ with
            | true =>
              obtain ⟨gv, cw, hvv, v0, -, hB, hlv, -, -⟩ := own_rd (unhide HVA _ (unhide HG).bel) (sS_at (show (cs.map fun c => [c])[i]? = some [c_] by rw [List.getElem?_map, hc_]; rfl))
              obtain ⟨rfl, -⟩ : av = some ⟨gv, 0, none⟩ ∧ True := by
                injection hvv with h1
                exact ⟨h1, trivial⟩
              have HCC : Hid (Cps [c_]) := hide (fun e he => by rw [List.mem_singleton] at he; rw [he]; exact unhide HCS c_ (List.mem_of_getElem? hc_))
              obtain ⟨gl, cl_, rfl, -, -, -, -, -, hcl2⟩ := (unhide HG).wd.rd_p hlq
              have HLQ := hide hlq
              have HNX := hide ((unhide HG).more XD.length (lq ++ [c_]) (List.getElem?_eq_some_iff.1 hlq).1)
              have HNL := hide ((unhide HL).more hlq (unhide HCC))
              have hap : txB lq ++ txB [c_] = txB (lq ++ [c_]) := txB_app _ _
              have hsz : (txB lq).size + (txB [c_]).size ≤ 9223372036854775807 := by have h1 := txB_le hcl; have h2 := txB_le (unhide HCC); have h3 := unhide HXL; simp at h2; omega
              have HAP := hide hap
              obtain ⟨xm, hxm⟩ : ∃ z, XP.length = z := ⟨_, rfl⟩
              obtain ⟨xd, hxd⟩ : ∃ z, XD.length = z := ⟨_, rfl⟩
              have HXM : Hid (xm = xd + 1) := hide (by have := (unhide HL).pl; omega)
              have hwm : IntKind.i64.wrap ((xm : Int) - 1) = (xd : Int) := by have := unhide HXM; have := unhide HDL; rw [IntKind.wrap_i64] <;> omega
              have xdI : (xd : Int) < (xm : Int) := by have := unhide HXM; omega
              have xd0 : (0 : Int) ≤ (xd : Int) := by omega
              have HS : Hid (∀ W, Below wr.heap.size wr W → W.cell? ⟨gx, 0, none⟩ = some (.slice (some ⟨gl, 0, none⟩) xm cl_) ∧ W.cell? ⟨gl, xd, none⟩ = some (.string (txB lq)) ∧ W.cell? ⟨gv, i, none⟩ = some (.string (txB [c_]))) := hide (fun W hW => by
                have h1 := (unhide HG).call hW
                rw [hxm] at h1
                refine ⟨h1.bx.cell 0, ?_, ?_⟩
                · have h2 := (h1.wd.cp (unhide HLQ)).1
                  rw [hxd] at h2
                  exact h2
                · obtain ⟨g', c', e', v', _⟩ := own_rd (unhide HVA W ((unhide HG).bel.trans (hW.mono (unhide HG).bel.size))) (sS_at (show (cs.map fun c => [c])[i]? = some [c_] by rw [List.getElem?_map, hc_]; rfl))
                  cases e'
                  exact v')
              have HFZ : Hid (wr.drew.frozen? ⟨gl, xd, none⟩ = false) := hide (by have h2 := ((unhide HG).wd.cp (unhide HLQ)).2; rw [hxd] at h2; exact h2)
              have HCL : Hid (wr.drew.cell? ⟨gl, xd, none⟩ = some (.string (txB lq))) := hide (by have h2 := ((unhide HG).wd.cp (unhide HLQ)).1; rw [hxd] at h2; exact h2)
              rw [hxm] at HNX
              rw [hxd] at HNX HNL
              have HNX := hide ((unhide HNX).call (Below.refl _ _).drew)
              clear hvv hB hlv hb_ hRb hc_ hlq hcl hll hdl hap hcl2
              rw [hxm] at HG
              clear hxm hxd
              have x2 : wr.cell? ⟨gx, 0, none⟩ = some (.slice (some ⟨gl, 0, none⟩) xm cl_) := (unhide HG).bx.cell 0
              go_wp2_with fail
              refine wp_region_T (S := fun W => W.cell? ⟨gx, 0, none⟩ = some (.slice (some ⟨gl, 0, none⟩) xm cl_) ∧ W.cell? ⟨gl, xd, none⟩ = some (.string (txB lq)) ∧ W.cell? ⟨gv, i, none⟩ = some (.string (txB [c_]))) (fun i => decide (i < 20)) (by kernel_rfl) (unhide HS _ (Below.refl _ _).drew) (fun hHeld => ?_)
              refine wpAnyT_take (i := 0) (oi := { dst := some 64, op := Op.fieldAddr 88 (Operand.tmp 9) 0, type := 0, pos := "ref.go:227", after := #[], guard := none }) (v := .pointer (some ⟨gx, 0, none⟩)) rfl (by kernel_rfl) (by kernel_rfl) (by kernel_rfl) (by kernel_rfl) (fun _ _ _ h => h) (Or.inl ⟨by rfl, ?_⟩) hHeld ?_
              · intro w hSw
                obtain ⟨s0, s1, s2⟩ := hSw
                first
                  | rfl
                  | (go_simp; done)
              try simp only [Act.put, List.setIfInBounds_toArray, List.set_cons_zero, List.set_cons_succ]
              refine wpAnyT_take (i := 1) (oi := { dst := some 65, op := Op.load 85 (Operand.tmp 64), type := 85, pos := "ref.go:227", after := #[{ on := 0, ground := Ground.data }], guard := none }) (v := .slice (some ⟨gl, 0, none⟩) xm cl_) rfl (by kernel_rfl) (by kernel_rfl) (by kernel_rfl) (by kernel_rfl) (fun _ _ _ h => h) (Or.inl ⟨by rfl, ?_⟩) hHeld ?_
              · intro w hSw
                obtain ⟨s0, s1, s2⟩ := hSw
                first
                  | rfl
                  | (go_simp; done)
              try simp only [Act.put, List.setIfInBounds_toArray, List.set_cons_zero, List.set_cons_succ]
              refine wpAnyT_take (i := 2) (oi := { dst := some 66, op := Op.fieldAddr 88 (Operand.tmp 9) 0, type := 0, pos := "ref.go:227", after := #[], guard := none }) (v := .pointer (some ⟨gx, 0, none⟩)) rfl (by kernel_rfl) (by kernel_rfl) (by kernel_rfl) (by kernel_rfl) (fun _ _ _ h => h) (Or.inl ⟨by rfl, ?_⟩) hHeld ?_
              · intro w hSw
                obtain ⟨s0, s1, s2⟩ := hSw
                first
                  | rfl
                  | (go_simp; done)
              try simp only [Act.put, List.setIfInBounds_toArray, List.set_cons_zero, List.set_cons_succ]
              refine wpAnyT_take (i := 3) (oi := { dst := some 67, op := Op.load 85 (Operand.tmp 66), type := 85, pos := "ref.go:227", after := #[{ on := 2, ground := Ground.data }], guard := none }) (v := .slice (some ⟨gl, 0, none⟩) xm cl_) rfl (by kernel_rfl) (by kernel_rfl) (by kernel_rfl) (by kernel_rfl) (fun _ _ _ h => h) (Or.inl ⟨by rfl, ?_⟩) hHeld ?_
              · intro w hSw
                obtain ⟨s0, s1, s2⟩ := hSw
                first
                  | rfl
                  | (go_simp; done)
              try simp only [Act.put, List.setIfInBounds_toArray, List.set_cons_zero, List.set_cons_succ]
              refine wpAnyT_take (i := 4) (oi := { dst := some 68, op := Op.call { callee := Callee.builtin Builtin.len, args := #[Operand.tmp 67], argTypes := #[85] }, type := 3, pos := "ref.go:227", after := #[{ on := 3, ground := Ground.data }], guard := none }) (v := .int .i64 (xm : Int)) rfl (by kernel_rfl) (by kernel_rfl) (by kernel_rfl) (by kernel_rfl) (fun _ _ _ h => h) (Or.inl ⟨by rfl, ?_⟩) hHeld ?_
              · intro w hSw
                obtain ⟨s0, s1, s2⟩ := hSw
                first
                  | rfl
                  | (go_simp; done)
              try simp only [Act.put, List.setIfInBounds_toArray, List.set_cons_zero, List.set_cons_succ]
              refine wpAnyT_take (i := 5) (oi := { dst := some 69, op := Op.binOp BinOp.sub 3 (Operand.tmp 68) (Operand.const (Value.int IntKind.i64 1)) 3, type := 3, pos := "ref.go:227", after := #[{ on := 4, ground := Ground.data }], guard := none }) (v := .int .i64 (xd : Int)) rfl (by kernel_rfl) (by kernel_rfl) (by kernel_rfl) (by kernel_rfl) (fun _ _ _ h => h) (Or.inl ⟨by rfl, ?_⟩) hHeld ?_
              · intro w hSw
                obtain ⟨s0, s1, s2⟩ := hSw
                go_simp
                try simp only [hwm]
                try trivial
                try rfl
              try simp only [Act.put, List.setIfInBounds_toArray, List.set_cons_zero, List.set_cons_succ]
              refine wpAnyT_take (i := 6) (oi := { dst := some 70, op := Op.fieldAddr 88 (Operand.tmp 9) 0, type := 0, pos := "ref.go:227", after := #[], guard := none }) (v := .pointer (some ⟨gx, 0, none⟩)) rfl (by kernel_rfl) (by kernel_rfl) (by kernel_rfl) (by kernel_rfl) (fun _ _ _ h => h) (Or.inl ⟨by rfl, ?_⟩) hHeld ?_
              · intro w hSw
                obtain ⟨s0, s1, s2⟩ := hSw
                first
                  | rfl
                  | (go_simp; done)
              try simp only [Act.put, List.setIfInBounds_toArray, List.set_cons_zero, List.set_cons_succ]
              refine wpAnyT_take (i := 7) (oi := { dst := some 71, op := Op.load 85 (Operand.tmp 70), type := 85, pos := "ref.go:227", after := #[{ on := 6, ground := Ground.data }], guard := none }) (v := .slice (some ⟨gl, 0, none⟩) xm cl_) rfl (by kernel_rfl) (by kernel_rfl) (by kernel_rfl) (by kernel_rfl) (fun _ _ _ h => h) (Or.inl ⟨by rfl, ?_⟩) hHeld ?_
              · intro w hSw
                obtain ⟨s0, s1, s2⟩ := hSw
                first
                  | rfl
                  | (go_simp; done)
              try simp only [Act.put, List.setIfInBounds_toArray, List.set_cons_zero, List.set_cons_succ]
              refine wpAnyT_take (i := 8) (oi := { dst := some 72, op := Op.fieldAddr 88 (Operand.tmp 9) 0, type := 0, pos := "ref.go:227", after := #[], guard := none }) (v := .pointer (some ⟨gx, 0, none⟩)) rfl (by kernel_rfl) (by kernel_rfl) (by kernel_rfl) (by kernel_rfl) (fun _ _ _ h => h) (Or.inl ⟨by rfl, ?_⟩) hHeld ?_
              · intro w hSw
                obtain ⟨s0, s1, s2⟩ := hSw
                first
                  | rfl
                  | (go_simp; done)
              try simp only [Act.put, List.setIfInBounds_toArray, List.set_cons_zero, List.set_cons_succ]
              refine wpAnyT_take (i := 9) (oi := { dst := some 73, op := Op.load 85 (Operand.tmp 72), type := 85, pos := "ref.go:227", after := #[{ on := 8, ground := Ground.data }], guard := none }) (v := .slice (some ⟨gl, 0, none⟩) xm cl_) rfl (by kernel_rfl) (by kernel_rfl) (by kernel_rfl) (by kernel_rfl) (fun _ _ _ h => h) (Or.inl ⟨by rfl, ?_⟩) hHeld ?_
              · intro w hSw
                obtain ⟨s0, s1, s2⟩ := hSw
                first
                  | rfl
                  | (go_simp; done)
              try simp only [Act.put, List.setIfInBounds_toArray, List.set_cons_zero, List.set_cons_succ]
              refine wpAnyT_take (i := 10) (oi := { dst := some 74, op := Op.call { callee := Callee.builtin Builtin.len, args := #[Operand.tmp 73], argTypes := #[85] }, type := 3, pos := "ref.go:227", after := #[{ on := 9, ground := Ground.data }], guard := none }) (v := .int .i64 (xm : Int)) rfl (by kernel_rfl) (by kernel_rfl) (by kernel_rfl) (by kernel_rfl) (fun _ _ _ h => h) (Or.inl ⟨by rfl, ?_⟩) hHeld ?_
              · intro w hSw
                obtain ⟨s0, s1, s2⟩ := hSw
                first
                  | rfl
                  | (go_simp; done)
              try simp only [Act.put, List.setIfInBounds_toArray, List.set_cons_zero, List.set_cons_succ]
              refine wpAnyT_take (i := 11) (oi := { dst := some 75, op := Op.binOp BinOp.sub 3 (Operand.tmp 74) (Operand.const (Value.int IntKind.i64 1)) 3, type := 3, pos := "ref.go:227", after := #[{ on := 10, ground := Ground.data }], guard := none }) (v := .int .i64 (xd : Int)) rfl (by kernel_rfl) (by kernel_rfl) (by kernel_rfl) (by kernel_rfl) (fun _ _ _ h => h) (Or.inl ⟨by rfl, ?_⟩) hHeld ?_
              · intro w hSw
                obtain ⟨s0, s1, s2⟩ := hSw
                go_simp
                try simp only [hwm]
                try trivial
                try rfl
              try simp only [Act.put, List.setIfInBounds_toArray, List.set_cons_zero, List.set_cons_succ]
              refine wpAnyT_take (i := 12) (oi := { dst := some 76, op := Op.indexAddr 85 (Operand.tmp 71) (Operand.tmp 75), type := 0, pos := "ref.go:227", after := #[{ on := 7, ground := Ground.data }, { on := 11, ground := Ground.data }], guard := none }) (v := .pointer (some ⟨gl, xd, none⟩)) rfl (by kernel_rfl) (by kernel_rfl) (by kernel_rfl) (by kernel_rfl) (fun _ _ _ h => h) (Or.inl ⟨by rfl, ?_⟩) hHeld ?_
              · intro w hSw
                obtain ⟨s0, s1, s2⟩ := hSw
                first
                  | rfl
                  | (go_simp; done)
              try simp only [Act.put, List.setIfInBounds_toArray, List.set_cons_zero, List.set_cons_succ]
              refine wpAnyT_take (i := 13) (oi := { dst := some 77, op := Op.load 9 (Operand.tmp 76), type := 9, pos := "ref.go:227", after := #[{ on := 12, ground := Ground.data }], guard := none }) (v := .string (txB lq)) rfl (by kernel_rfl) (by kernel_rfl) (by kernel_rfl) (by kernel_rfl) (fun _ _ _ h => h) (Or.inl ⟨by rfl, ?_⟩) hHeld ?_
              · intro w hSw
                obtain ⟨s0, s1, s2⟩ := hSw
                first
                  | rfl
                  | (go_simp; done)
              try simp only [Act.put, List.setIfInBounds_toArray, List.set_cons_zero, List.set_cons_succ]
              refine wpAnyT_take (i := 14) (oi := { dst := some 78, op := Op.move (Operand.tmp 8), type := 85, pos := "ref.go:227", after := #[], guard := none }) (v := .slice (some ⟨gv, 0, none⟩) n cv) rfl (by kernel_rfl) (by kernel_rfl) (by kernel_rfl) (by kernel_rfl) (fun _ _ _ h => h) (Or.inl ⟨by rfl, ?_⟩) hHeld ?_
              · intro w hSw
                obtain ⟨s0, s1, s2⟩ := hSw
                first
                  | rfl
                  | (go_simp; done)
              try simp only [Act.put, List.setIfInBounds_toArray, List.set_cons_zero, List.set_cons_succ]
              refine wpAnyT_take (i := 15) (oi := { dst := some 79, op := Op.move (Operand.tmp 10), type := 3, pos := "ref.go:227", after := #[], guard := none }) (v := .int .i64 (i : Int)) rfl (by kernel_rfl) (by kernel_rfl) (by kernel_rfl) (by kernel_rfl) (fun _ _ _ h => h) (Or.inl ⟨by rfl, ?_⟩) hHeld ?_
              · intro w hSw
                obtain ⟨s0, s1, s2⟩ := hSw
                first
                  | rfl
                  | (go_simp; done)
              try simp only [Act.put, List.setIfInBounds_toArray, List.set_cons_zero, List.set_cons_succ]
              refine wpAnyT_take (i := 16) (oi := { dst := some 80, op := Op.indexAddr 85 (Operand.tmp 78) (Operand.tmp 79), type := 0, pos := "ref.go:227", after := #[{ on := 14, ground := Ground.data }, { on := 15, ground := Ground.data }], guard := none }) (v := .pointer (some ⟨gv, i, none⟩)) rfl (by kernel_rfl) (by kernel_rfl) (by kernel_rfl) (by kernel_rfl) (fun _ _ _ h => h) (Or.inl ⟨by rfl, ?_⟩) hHeld ?_
              · intro w hSw
                obtain ⟨s0, s1, s2⟩ := hSw
                first
                  | rfl
                  | (go_simp; done)
              try simp only [Act.put, List.setIfInBounds_toArray, List.set_cons_zero, List.set_cons_succ]
              refine wpAnyT_take (i := 17) (oi := { dst := some 81, op := Op.load 9 (Operand.tmp 80), type := 9, pos := "ref.go:227", after := #[{ on := 16, ground := Ground.data }], guard := none }) (v := .string (txB [c_])) rfl (by kernel_rfl) (by kernel_rfl) (by kernel_rfl) (by kernel_rfl) (fun _ _ _ h => h) (Or.inl ⟨by rfl, ?_⟩) hHeld ?_
              · intro w hSw
                obtain ⟨s0, s1, s2⟩ := hSw
                first
                  | rfl
                  | (go_simp; done)
              try simp only [Act.put, List.setIfInBounds_toArray, List.set_cons_zero, List.set_cons_succ]
              refine wpAnyT_take (i := 18) (oi := { dst := some 82, op := Op.binOp BinOp.add 9 (Operand.tmp 77) (Operand.tmp 81) 9, type := 9, pos := "ref.go:227", after := #[{ on := 13, ground := Ground.data }, { on := 17, ground := Ground.data }], guard := none }) (v := .string (txB (lq ++ [c_]))) rfl (by kernel_rfl) (by kernel_rfl) (by kernel_rfl) (by kernel_rfl) (fun _ _ _ h => h) (Or.inl ⟨by rfl, ?_⟩) hHeld ?_
              · intro w hSw
                obtain ⟨s0, s1, s2⟩ := hSw
                rw [← unhide HAP]
                first
                  | rfl
                  | (go_simp; done)
              try simp only [Act.put, List.setIfInBounds_toArray, List.set_cons_zero, List.set_cons_succ]
              refine wpAnyT_take (i := 19) (oi := { dst := some 83, op := Op.indexAddr 85 (Operand.tmp 65) (Operand.tmp 69), type := 0, pos := "ref.go:227", after := #[{ on := 1, ground := Ground.data }, { on := 5, ground := Ground.data }, { on := 0, ground := Ground.phase }, { on := 1, ground := Ground.phase }, { on := 2, ground := Ground.phase }, { on := 3, ground := Ground.phase }, { on := 4, ground := Ground.phase }, { on := 5, ground := Ground.phase }, { on := 6, ground := Ground.phase }, { on := 7, ground := Ground.phase }, { on := 8, ground := Ground.phase }, { on := 9, ground := Ground.phase }, { on := 10, ground := Ground.phase }, { on := 11, ground := Ground.phase }, { on := 12, ground := Ground.phase }, { on := 13, ground := Ground.phase }, { on := 14, ground := Ground.phase }, { on := 15, ground := Ground.phase }, { on := 16, ground := Ground.phase }, { on := 17, ground := Ground.phase }, { on := 18, ground := Ground.phase }], guard := none }) (v := .pointer (some ⟨gl, xd, none⟩)) rfl (by kernel_rfl) (by kernel_rfl) (by kernel_rfl) (by kernel_rfl) (fun _ _ _ h => h) (Or.inl ⟨by rfl, ?_⟩) hHeld ?_
              · intro w hSw
                obtain ⟨s0, s1, s2⟩ := hSw
                first
                  | rfl
                  | (go_simp; done)
              try simp only [Act.put, List.setIfInBounds_toArray, List.set_cons_zero, List.set_cons_succ]
              refine wpAnyT_one (i := 20) (o := { dst := none, op := Op.store 9 (Operand.tmp 83) (Operand.tmp 82), type := 0, pos := "ref.go:227", after := #[{ on := 19, ground := Ground.data }, { on := 18, ground := Ground.data }, { on := 0, ground := Ground.phase }, { on := 1, ground := Ground.phase }, { on := 2, ground := Ground.phase }, { on := 3, ground := Ground.phase }, { on := 4, ground := Ground.phase }, { on := 5, ground := Ground.phase }, { on := 6, ground := Ground.phase }, { on := 7, ground := Ground.phase }, { on := 8, ground := Ground.phase }, { on := 9, ground := Ground.phase }, { on := 10, ground := Ground.phase }, { on := 11, ground := Ground.phase }, { on := 12, ground := Ground.phase }, { on := 13, ground := Ground.phase }, { on := 14, ground := Ground.phase }, { on := 15, ground := Ground.phase }, { on := 16, ground := Ground.phase }, { on := 17, ground := Ground.phase }, { on := 18, ground := Ground.phase }], guard := none }) (by kernel_rfl) rfl (fun K hK => ?_)
              have fz := unhide HFZ
              have cl := unhide HCL
              go_simp
              refine hK.out _ _ (fun h => by cases h) ?_
              clear hK K
              try simp only [Act.put, List.setIfInBounds_toArray, List.set_cons_zero, List.set_cons_succ]
              refine wpAnyT_done (by kernel_rfl) ?_ _
              clear HS HFZ HCL x0 x1 x2 v0
              go_wp2_with fail
              exact ⟨⟨i + 1, by omega, by simp, hide ⟨_, _, _, _, _, unhide HNX, unhide HNL, by have h := unhide HE; rw [← h]; simp⟩⟩, by simp [intOf]; omega⟩
            | false =>
              clear hb_ hRb hc_ hlq hcl hll hdl
              have hbA : Below wr.heap.size wr (wr.alloc (.cells #[.bool false] 4)) := (Below.refl _ _).alloc (Nat.le_refl _) _
              have HGA1 := hide ((unhide HG).call hbA)
              have HRA1 := hide (RowAt.new wr 4 [.bool false])
              have z0 : wr.cell? ⟨gx, 1, none⟩ = some vD := (unhide HG).bx.cell 1
              clear hbA
              go_wp2_with (at_builtin; refine unhide ?_)
              unfold Hid
              refine wpList_append_boo rfl _ _ rfl w6.heap.size vD XD false wr.heap.size 1 rfl (unhide HGA1).wd.d (by have := unhide HDL; omega) (unhide HGA1).bel.size rfl ((unhide HRA1).cell 0) (fun g1 c1 wk1 hv ho hk => ?_)
              obtain ⟨hg1, hb1⟩ := (unhide HGA1).app_d hv ho
              have HG1 := hide hg1
              have y0 : wk1.cell? ⟨gx, 1, none⟩ = some vD := hb1.cell 1
              have y1 := hb1.frozen 1
              have y2 : wk1.cell? ⟨gx, 0, none⟩ = some vP := hb1.cell 0
              clear hg1 hv ho hk HGA1 HRA1 z0 hb1
              obtain ⟨XE, hXE⟩ : ∃ z, XD.length + 1 = z := ⟨_, rfl⟩
              rw [hXE] at HG1 ⊢
              clear hXE
              have hbA : Below (wk1.setCell ⟨gx, 1, none⟩ (.slice (some ⟨g1, 0, none⟩) XE c1)).heap.size (wk1.setCell ⟨gx, 1, none⟩ (.slice (some ⟨g1, 0, none⟩) XE c1)) ((wk1.setCell ⟨gx, 1, none⟩ (.slice (some ⟨g1, 0, none⟩) XE c1)).alloc (.cells #[.string { data := #[] }] 9)) := (Below.refl _ _).alloc (Nat.le_refl _) _
              have HGA2 := hide ((unhide HG1).call hbA)
              have HRA2 : Hid (RowAt ((wk1.setCell ⟨gx, 1, none⟩ (.slice (some ⟨g1, 0, none⟩) XE c1)).alloc (.cells #[.string { data := #[] }] 9)) wk1.heap.size 9 [.string { data := #[] }]) := hide (by have h := RowAt.new (wk1.setCell ⟨gx, 1, none⟩ (.slice (some ⟨g1, 0, none⟩) XE c1)) 9 [.string { data := #[] }]; simpa using h)
              have z0 : (wk1.setCell ⟨gx, 1, none⟩ (.slice (some ⟨g1, 0, none⟩) XE c1)).cell? ⟨gx, 0, none⟩ = some vP := (unhide HG1).bx.cell 0
              clear hbA
              go_wp2_with (at_builtin; refine unhide ?_)
              unfold Hid
              refine wpList_append_txt rfl _ _ rfl w6.heap.size vP XP [] wk1.heap.size 1 rfl (unhide HGA2).wd.p (by have := unhide HPL; omega) (unhide HGA2).bel.size rfl ((unhide HRA2).cell 0) (fun g2 c2 wk2 hv ho hk => ?_)
              obtain ⟨hg1, hb1⟩ := (unhide HGA2).app_p hv ho
              have HG2 := hide hg1
              have y0 : wk2.cell? ⟨gx, 0, none⟩ = some vP := hb1.cell 0
              have y1 := hb1.frozen 0
              clear hg1 hv ho hk HGA2 HRA2 z0 hb1
              obtain ⟨XF, hXF⟩ : ∃ z, XP.length + 1 = z := ⟨_, rfl⟩
              rw [hXF] at HG2 ⊢
              clear hXF
              go_wp2_with fail
              exact ⟨⟨i + 1, by omega, by simp, hide ⟨_, _, _, _, _, unhide HG2, (unhide HL).next false, by have h := unhide HE; rw [← h]; simp [stp]⟩⟩, by simp [intOf] <;> omega⟩
          · obtain rfl : n = i := by omega
            have hR0 : R = [] := unhide HR3 rfl
            rw [hR0, At.inv, List.append_nil] at HE
            have hni : ¬ ((n : Int) < (n : Int)) := by omega
            clear hlq hcl hll hdl hR0
            go_wp2_with fail
            refine ⟨⟨n + 1, by omega, by simp, hide ⟨_, _, _, _, _, unhide HG, unhide HL, ?_⟩⟩, by simp [intOf] <;> omega⟩
            rw [List.drop_of_length_le (show P.length ≤ n + 1 by rw [(unhide HWL).pl]; exact Nat.le_refl _), wAts, At.inv, List.append_nil]
            exact unhide HE
    · obtain rfl : i = n + 1 := by omega
      rw [List.drop_of_length_le (show P.length ≤ n + 1 by rw [(unhide HWL).pl]; exact Nat.le_refl _), wAts, At.inv, List.append_nil] at heq
      obtain ⟨q0, hq0, -, -, -⟩ := hgl.last
      have z0 : wr.cell? ⟨gx, 0, none⟩ = some vP := hgx.bx.cell 0
      have z1 : wr.cell? ⟨gx, 1, none⟩ = some vD := hgx.bx.cell 1
      have HCL := hide (close_any wr hgx.wd hgl.pl hgl.cps (by rw [hgl.eq, heq]; have := unhide HTT; omega) (by rw [hgl.eq, heq, unhide HTO]; have := unhide HNN; omega) (by have h1 := (hgl.last).choose_spec.2.2.2; have h2 := unhide HTT; rw [heq] at h1; omega))
      have HBW := hide ((unhide HB6).trans (hgx.bel.mono (unhide HB6).size))
      have HEQ : Hid (wAts XP XD = T) := hide (by rw [hgl.eq, heq])
      have hcI : ¬ ((n : Int) + 1 < (n : Int) + 1) := by omega
      clear hgx hgl heq hq0 HZ
      go_wp2_with fail
      refine Calls.mono (unhide HCL) ?_
      rintro r w9 ⟨v9, L9, rfl, ho9, hn9, ha9, hb9⟩
      have HO9 := hide (own_base ho9 (unhide HBW).size)
      have HB9 := hide ((unhide HBW).trans (hb9.mono (unhide HBW).size))
      have HA9 := hide (And.intro hn9 ha9)
      clear ho9 hn9 ha9 hb9
      go_wp2_with fail
      go_ret2
      exact ⟨_, L9, rfl, unhide HO9, (unhide HA9).1, by rw [(unhide HA9).2, unhide HEQ], unhide HB9⟩
end Go.Proofs.YtidblnjohkadhaaDoor
