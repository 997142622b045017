/- A tick of a desk with its seats; what an append of nothing gives. -/
import Derived.Test.YthgacmlbmcehmaaDAny
namespace Go.Proofs.Ythgacmlbmcehmaa
set_option linter.unusedVariables false
set_option linter.unusedSimpArgs false
open Go.ChangeShapes Go.WideShapes Go.ChangeAt Go.RowKit Go.Joins Go.Deep

theorem age_gok {x : Gst} (h : Gok x) : Gok (ageG x) := by
  have a := h.l0; have b := h.l1; have e := h.s0; have f := h.s1
  unfold ageG
  split
  · rename_i ho
    have k := h.s2 ho
    refine ⟨h.w0, h.w1, by simp only; omega, by simp only; omega, ?_, by simp only; omega, by simp only; omega, h.c0, h.c1⟩
    intro hh
    have := of_decide_eq_true hh
    simp only
    omega
  · exact ⟨h.w0, h.w1, h.s0, h.s1, h.s2, by simp only; omega, by simp only; omega, h.c0, h.c1⟩
theorem age_label (x : Gst) : (ageG x).label = x.label := by unfold ageG; split <;> rfl
theorem agedL_all (D : List Gst) : agedL D D.length = D.map ageG := by simp [agedL]
theorem tick_any {w : World} {g gg c nq : Nat} {sv : Value} {ex : List Value} {Q : Nat → Int} {D : List Gst} (h : Ds w g gg c nq sv ex Q D) : Calls Try.prog 33 #[.pointer (some ⟨g, 0, none⟩)] w fun r w' => ∃ v, r = .returned v ∧ Ds w' g gg c nq sv ex Q (D.map ageG) ∧ Only (· = gg) w w' ∧
    w'.ownsRow w.heap.size 3 1 v (oversL D D.length).length ((oversL D D.length).map (Value.int IntKind.i64)) ∧ (oversL D D.length = [] → v = .slice none 0 0) := by
  refine Calls.mono (tick_ok g gg c sv ex D w h.dk (fun x hx => (h.gin x hx).ok)) ?_
  rintro r w' ⟨v, rfl, ht⟩
  have hd := ht.dk
  rw [agedL_all] at hd
  refine ⟨v, rfl, ⟨hd, h.sq.turn h.dk ht.only, ?_, h.n32⟩, ht.only, ht.own, ht.nil⟩
  intro y hy
  obtain ⟨x, hx, rfl⟩ := List.mem_map.1 hy
  exact ⟨age_gok (h.gin x hx).ok, by rw [age_label]; exact (h.gin x hx).lab⟩
theorem run_append_nil (w : World) (b : Option Addr) (n c : Nat) (hn : n ≤ c) (hc : c ≤ maxLen) : (Builtin.append_ #[41, 41] 41 #[.slice b n c, .slice none 0 0]).run Try.prog w = .ok (.slice b n c) w := by
  unfold Builtin.append_
  simp [go_sem, Try.underlying41]
  rw [if_pos hn]
  cases b <;> rfl
theorem wpList_append_nil {ops : Array Oper} {rest : List Oper} {o : Oper} {a : Act} {Q : Exit → Act → World → Prop} {W : World} (hgd : o.guard = none) (s x : Operand)
    (ho : o.op = .call { callee := .builtin .append, args := #[s, x], argTypes := #[41, 41] }) (hty : o.type = 41) (b : Option Addr) (n c : Nat) (hs : a.eval s = .slice b n c) (hn : n ≤ c) (hc : c ≤ maxLen) (hx : a.eval x = .slice none 0 0)
    (h : wpList Try.prog ops Q rest (a.put o.dst (.slice b n c)) W) : wpList Try.prog ops Q (o :: rest) a W := by
  refine wpList_plain hgd fun K hK => ?_
  unfold Oper.wp execOp
  simp only [ho, hty, resolve, invoke, builtin, Sem.run_bind, Sem.run_pure, Result.andThen_ok, List.map_toArray, List.map_cons, List.map_nil, hs, hx, run_append_nil W b n c hn hc]
  exact hK _ _ h
theorem wpList_append_ints {ops : Array Oper} {rest : List Oper} {o : Oper} {a : Act} {Q : Exit → Act → World → Prop} {W : World} (hgd : o.guard = none) (s x : Operand)
    (ho : o.op = .call { callee := .builtin .append, args := #[s, x], argTypes := #[41, 41] }) (B B2 : Nat) (v v2 : Value) (n m : Nat) (xs ys : List Int)
    (hs : a.eval s = v) (hv : W.ownsRow B 3 1 v n (xs.map (Value.int IntKind.i64))) (hn : n + m ≤ 1000) (hB : B ≤ W.heap.size) (hx : a.eval x = v2) (hv2 : W.ownsRow B2 3 1 v2 m (ys.map (Value.int IntKind.i64))) (hm : 0 < m)
    (h : ∀ v' w', w'.ownsRow B 3 1 v' (n + m) ((xs ++ ys).map (Value.int IntKind.i64)) → Only (fun q => v.ownBlock = some q) W w' → wpList Try.prog ops Q rest (a.put o.dst v') w') : wpList Try.prog ops Q (o :: rest) a W := by
  obtain ⟨i0, hi, hz, hsz, hb⟩ := info_parts info3
  obtain ⟨hlen, ⟨_, h0⟩ | ⟨g2, cap2, cur, rfl, e2, e3, e4, e5, e6, e7⟩⟩ := hv2
  · omega
  have row : RowAt W g2 3 cur.toList := e3
  have nw : ∀ k y, (ys.map (Value.int IntKind.i64))[k]? = some y → W.cell? ((⟨g2, 0, none⟩ : Addr).add k) = some y := by
    intro k y hk
    rw [add_plain, Nat.zero_add, row.cell]
    have hkl := (List.getElem?_eq_some_iff.1 hk).1
    rw [← e7, List.getElem?_take] at hk
    split at hk
    · exact hk
    · cases hk
  refine wpList_append_lies _ hgd s x 41 ho B 3 i0 _ 1 8 Try.underlying41 hi hz hsz hb (by simp [Value.cells]) (by decide) v n _ hs hv ⟨g2, 0, none⟩ m cap2 (ys.map (Value.int IntKind.i64)) hx hlen nw (fun y hy => by obtain ⟨q, _, rfl⟩ := List.mem_map.1 hy; rfl) hm (by unfold maxLen; omega) (by omega) hB W.heap.size rfl ?_
  intro g cap w' own grow lies lt
  refine h _ w' ?_ (grown_only grow)
  rw [List.map_append]
  exact own
end Go.Proofs.Ythgacmlbmcehmaa
