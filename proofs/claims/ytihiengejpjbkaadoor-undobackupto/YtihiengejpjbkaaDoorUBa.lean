/- UndoBack, where what comes in is of bulk at most 2^20. -/
import Derived.Test.YtihiengejpjbkaaDoorUSt
import Derived.Maps.AppendAt
namespace Go.Proofs.YtihiengejpjbkaaDoor
set_option linter.unusedVariables false
set_option linter.unusedSimpArgs false
open Go.ChangeShapes Go.WideShapes Go.ChangeAt Go.RowKit Go.Joins Go.Deep

theorem run_append_none {P : Program} (w : World) (t ty e : TypeId) (i : TypeInfo) (ht : P.underlying t = some (.slice e)) (hi : P.info? e = some i) (base : Option Addr) (sLen sCap c : Nat) (hle : sLen ≤ sCap) :
    (Builtin.append_ #[t, t] ty #[.slice base sLen sCap, .slice none 0 c]).run P w = .ok (.slice base sLen sCap) w := by
  cases base <;> simp [Builtin.append_, run_underlying ht, sizeOf, typeInfo, hi, Builtin.lenOf, Builtin.firstCells, loadCells, loadCellsFrom, hle, storeCells]
theorem wpList_append_src {P : Program} (w : World) {ops : Array Oper} {rest : List Oper} {o : Oper} {a : Act} {Q : Exit → Act → World → Prop} (hgd : o.guard = none) (s x : Operand) (t : TypeId)
    (ho : o.op = .call { callee := .builtin .append, args := #[s, x], argTypes := #[t, t] })
    (base : Nat) (e : TypeId) (i : TypeInfo) (z : Value) (size bytes : Nat) (ht : P.underlying t = some (.slice e)) (hi : P.info? e = some i) (hz : i.zero = some z)
    (hsize : i.size = size) (hby : i.bytes = bytes) (hzs : z.cells.size = size) (hsz : 0 < size)
    (v : Value) (n : Nat) (xs : List Value) (hs : a.eval s = v) (hown : w.ownsRow base e size v n xs)
    (ad : Option Addr) (m c : Nat) (news : List Value) (hx : a.eval x = .slice ad m c) (hl : news.length = m * size) (hnone : ad = none → m = 0) (hnews : ∀ b, ad = some b → ∀ j u, news[j]? = some u → w.cell? (b.add j) = some u) (h1 : ∀ u ∈ news, u.oneCell' = true)
    (h63 : n + m ≤ maxLen) (hbytes : (n + m) * bytes ≤ 140737488355328) (hbase : base ≤ w.heap.size)
    (h : ∀ ad' cap w', w'.ownsRow base e size (.slice ad' (n + m) cap) (n + m) (xs ++ news) → w.grownBy w' v.ownBlock → wpList P ops Q rest (a.put o.dst (.slice ad' (n + m) cap)) w') :
    wpList P ops Q (o :: rest) a w := by
  refine wpList_plain hgd fun K hK => ?_
  obtain ⟨ad', cap, w', hr, h2, h3⟩ : ∃ ad' cap w', (Builtin.append_ #[t, t] o.type #[v, .slice ad m c]).run P w = .ok (.slice ad' (n + m) cap) w' ∧ w'.ownsRow base e size (.slice ad' (n + m) cap) (n + m) (xs ++ news) ∧ w.grownBy w' v.ownBlock := by
    cases ad with
    | none =>
      have hm := hnone rfl
      subst hm
      have hn0 : news = [] := List.eq_nil_of_length_eq_zero (by simpa using hl)
      subst hn0
      obtain ⟨b, cap, hv, hle⟩ : ∃ b cap, v = .slice b n cap ∧ n ≤ cap := by
        rcases hown.2 with ⟨rfl, rfl⟩ | ⟨g, cap, cur, rfl, _, _, hle, _⟩
        · exact ⟨none, 0, rfl, Nat.le_refl _⟩
        · exact ⟨_, cap, rfl, hle⟩
      subst hv
      refine ⟨b, cap, w, run_append_none w t o.type e i ht hi b n cap c hle, ?_, ⟨rfl, rfl, rfl, Nat.le_refl _, fun _ _ _ => rfl⟩⟩
      simpa using hown
    | some b =>
      obtain ⟨v', w', hr, h2, h3, _, _⟩ := run_append_own_at (P := P) w base t o.type e i z size bytes ht hi hz hsize hby hzs hsz v n xs hown b m c news hl (hnews b rfl) h1 h63 hbytes hbase
      obtain ⟨ad', cap, rfl⟩ : ∃ ad' cap, v' = .slice ad' (n + m) cap := by
        rcases h2.2 with ⟨rfl, h0⟩ | ⟨g, cap, cur, rfl, _⟩
        · exact ⟨none, 0, by rw [h0]⟩
        · exact ⟨_, cap, rfl⟩
      exact ⟨ad', cap, w', hr, h2, h3⟩
  unfold Oper.wp execOp
  simp only [ho, resolve, invoke, builtin, Sem.run_bind, Sem.run_pure, Result.andThen_ok, List.map_toArray, List.map_cons, List.map_nil, hs, hx, hr]
  exact hK _ _ (h ad' cap w' h2 h3)

def MineP (w : World) (g M : Nat) (l : List Pt) (cs : List (List UInt8)) (q : Hs → Prop) (r : Ending) (w' : World) : Prop := ∃ vb va H, r = .returned (.int .i64 0) ∧ q H ∧ ∀ S, Tx S (At.app (atomsL l) cs) → FiS w w' g vb va H S (At.app (atomsL l) cs) M
theorem MineP.shape {w : World} {g M : Nat} {l : List Pt} {cs : List (List UInt8)} {q : Hs → Prop} {r : Ending} {w' : World} (h : MineP w g M l cs q r w') : ∃ vb va H, r = .returned (.int .i64 0) ∧ q H ∧ ∀ S, Tx S (At.app (atomsL l) cs) → FiS w w' g vb va H S (At.app (atomsL l) cs) M := h
def StepP (w W : World) (g M : Nat) (v : Value) (l : List Pt) (cs : List (List UInt8)) (q : Hs → Prop) (r : Ending) (w' : World) : Prop := StepS w g M v l cs q r w' ∧ OwnP w' 0 v l ∧ ∀ v l, OwnP W 0 v l → OwnP w' 0 v l
theorem StepP.shape {w W : World} {g M : Nat} {v : Value} {l : List Pt} {cs : List (List UInt8)} {q : Hs → Prop} {r : Ending} {w' : World} (h : StepP w W g M v l cs q r w') : StepS w g M v l cs q r w' ∧ OwnP w' 0 v l ∧ ∀ v l, OwnP W 0 v l → OwnP w' 0 v l := h
theorem FiS.mineP {w W : World} {g M m t c : Nat} {a : Option Addr} {l : List Pt} {vb va : Value} {H : Hs} {s : ByteArray} {cs : List (List UInt8)} (h : FiS w W g vb va H s cs M) (hT : UT W) (he : Edit W a l c) (hm : l.length = m) (hed : IsEd l cs.length t) (hM : M + sumT l ≤ 1048576) (hl : m ≤ 1099511627776) :
    Calls Tryd.prog 15 #[.pointer (some ⟨g, 0, none⟩), .slice a m c, .string s] W fun r w' => MineP w g (M + sumT l) l cs (fun H9 => ∃ Q q, H9.back = Q ++ [q] ∧ atomsL q.l = At.can (At.inv (atomsL l) cs)) r w' := by
  have ht := ed_to hed
  have hm0 := h.m
  refine Calls.mono (mine_ok w.heap.size g m t vb va H a l c s cs W h.hi hT he hm h.tx hed h.n (by omega) h.lb hl) ?_
  intro r w' hr
  obtain ⟨p, vb', rfl, at', pk, hh, on⟩ := hr.shape
  have hi := inv_from hed.2.1.symm
  rw [← at', hed.2.2.1] at hi
  have hlen : (At.app (atomsL l) cs).length = t := by rw [At.app_len _ _ hed.2.1.symm]; exact hed.2.2.1
  refine ⟨vb', _, ⟨t, pushP H.back p, []⟩, rfl, ⟨H.back.drop (H.back.length + 1 - 50), p, by show pushP H.back p = _; unfold pushP; rw [List.drop_append_of_le_length (by omega)], at'⟩, fun S hS => ⟨hh, by rw [hlen], hS, by show (pushP H.back p).length ≤ 50; rw [pushP_len]; omega, by simp, ?_, Chain.none _, ?_, Sz.none _, by rw [hlen]; omega, h.bel.trans (h.hi.low on)⟩⟩
  · rw [hlen]
    exact Chain.push h.cb hi.1 hi.2
  · exact Sz.push (h.sb.mono (Nat.le_add_right _ _)) (by rw [hi.1]; omega) (by rw [hi.2]; omega)
theorem FiS.undoP {w W : World} {g M : Nat} {vb va : Value} {H : Hs} {s : ByteArray} {cs : List (List UInt8)} {P : List Pe} {p : Pe} (h : FiS w W g vb va H s cs M) (hU : ∀ W, Below w.heap.size w W → UT W) (hM : M ≤ 1048576) (hF : H.back = P ++ [p]) :
    IsEd p.l cs.length (At.toN (atomsL p.l)) ∧ Calls Tryd.prog 19 #[.pointer (some ⟨g, 0, none⟩), .string s] W fun r w' => StepP w W g M p.v p.l cs (fun H' => H'.back = P ∧ ∃ Q q, H'.again = Q ++ [q] ∧ atomsL q.l = At.can (At.inv (atomsL p.l) cs)) r w' := by
  have hm0 := h.m
  have hp := h.hi.eb p (by rw [hF]; exact List.mem_append.2 (.inr (by simp)))
  have ha : ats H.back = atomsL p.l :: ats P := by rw [hF]; simp [ats]
  have hc := h.cb
  rw [ha] at hc
  have hs := h.sb
  rw [ha] at hs
  have hs1 := hs _ (List.mem_cons_self ..)
  have hed : IsEd p.l cs.length (At.toN (atomsL p.l)) := ⟨hp.nf, hc.1, rfl, by omega, by have := hs1.2; omega⟩
  refine ⟨hed, ?_⟩
  obtain ⟨t, ht⟩ : ∃ t, At.toN (atomsL p.l) = t := ⟨_, rfl⟩
  rw [ht] at hed
  have hPl : P.length ≤ 50 := by have := h.lb; rw [hF, List.length_append] at this; omega
  refine Calls.mono (undo_ok w.heap.size g t vb va H P p s cs W h.hi (fun W' hW => hU W' (h.bel.trans hW)) hF (by omega) h.la h.tx hed h.n (by omega) (by have := hs1.2; omega)) ?_
  intro r w' hr
  obtain ⟨q, vb', va', rfl, at', pq, pp, hh, on⟩ := hr.shape
  obtain ⟨a, c, hv, E⟩ := pp.edit hed (by have := hs1.2; omega)
  have hi := inv_from hed.2.1.symm
  rw [← at', hed.2.2.1] at hi
  have hlen : (At.app (atomsL p.l) cs).length = t := by rw [At.app_len _ _ hed.2.1.symm]; exact hed.2.2.1
  have h2 := hs1.2
  rw [ht] at h2
  refine ⟨⟨vb', va', ⟨t, P, pushP H.again q⟩, a, c, rfl, hv, E, ⟨rfl, H.again.drop (H.again.length + 1 - 50), q, by show pushP H.again q = _; unfold pushP; rw [List.drop_append_of_le_length (by omega)], at'⟩, h.bel.trans (h.hi.low on), fun S hS => ?_⟩, pp.own, fun v l h9 => h.hi.keep on h9⟩
  have cP : Chain t (ats P) := by rw [← ht]; exact hc.2
  have sP : Sz M (ats P) := fun x hx => hs x (List.mem_cons_of_mem _ hx)
  have cQ : Chain t (ats (pushP H.again q)) := Chain.push h.ca hi.1 hi.2
  have sQ : Sz M (ats (pushP H.again q)) := Sz.push h.sa (by rw [hi.1]; exact h2) (by rw [hi.2]; exact hm0)
  have lQ : (pushP H.again q).length ≤ 50 := by rw [pushP_len]; omega
  exact ⟨hh, by rw [hlen], hS, hPl, lQ, by rw [hlen]; exact cP, by rw [hlen]; exact cQ, sP, sQ, by rw [hlen]; exact h2, h.bel.trans (h.hi.low on)⟩
theorem FiS.redoP {w W : World} {g M : Nat} {vb va : Value} {H : Hs} {s : ByteArray} {cs : List (List UInt8)} {P : List Pe} {p : Pe} (h : FiS w W g vb va H s cs M) (hU : ∀ W, Below w.heap.size w W → UT W) (hM : M ≤ 1048576) (hF : H.again = P ++ [p]) :
    IsEd p.l cs.length (At.toN (atomsL p.l)) ∧ Calls Tryd.prog 21 #[.pointer (some ⟨g, 0, none⟩), .string s] W fun r w' => StepP w W g M p.v p.l cs (fun H' => H'.again = P ∧ ∃ Q q, H'.back = Q ++ [q] ∧ atomsL q.l = At.can (At.inv (atomsL p.l) cs)) r w' := by
  have hm0 := h.m
  have hp := h.hi.ea p (by rw [hF]; exact List.mem_append.2 (.inr (by simp)))
  have ha : ats H.again = atomsL p.l :: ats P := by rw [hF]; simp [ats]
  have hc := h.ca
  rw [ha] at hc
  have hs := h.sa
  rw [ha] at hs
  have hs1 := hs _ (List.mem_cons_self ..)
  have hed : IsEd p.l cs.length (At.toN (atomsL p.l)) := ⟨hp.nf, hc.1, rfl, by omega, by have := hs1.2; omega⟩
  refine ⟨hed, ?_⟩
  obtain ⟨t, ht⟩ : ∃ t, At.toN (atomsL p.l) = t := ⟨_, rfl⟩
  rw [ht] at hed
  have hPl : P.length ≤ 50 := by have := h.la; rw [hF, List.length_append] at this; omega
  refine Calls.mono (redo_ok w.heap.size g t vb va H P p s cs W h.hi (fun W' hW => hU W' (h.bel.trans hW)) hF (by omega) h.lb h.tx hed h.n (by omega) (by have := hs1.2; omega)) ?_
  intro r w' hr
  obtain ⟨q, vb', va', rfl, at', pq, pp, hh, on⟩ := hr.shape
  obtain ⟨a, c, hv, E⟩ := pp.edit hed (by have := hs1.2; omega)
  have hi := inv_from hed.2.1.symm
  rw [← at', hed.2.2.1] at hi
  have hlen : (At.app (atomsL p.l) cs).length = t := by rw [At.app_len _ _ hed.2.1.symm]; exact hed.2.2.1
  have h2 := hs1.2
  rw [ht] at h2
  refine ⟨⟨vb', va', ⟨t, pushP H.back q, P⟩, a, c, rfl, hv, E, ⟨rfl, H.back.drop (H.back.length + 1 - 50), q, by show pushP H.back q = _; unfold pushP; rw [List.drop_append_of_le_length (by omega)], at'⟩, h.bel.trans (h.hi.low on), fun S hS => ?_⟩, pp.own, fun v l h9 => h.hi.keep on h9⟩
  have cP : Chain t (ats P) := by rw [← ht]; exact hc.2
  have sP : Sz M (ats P) := fun x hx => hs x (List.mem_cons_of_mem _ hx)
  have cQ : Chain t (ats (pushP H.back q)) := Chain.push h.cb hi.1 hi.2
  have sQ : Sz M (ats (pushP H.back q)) := Sz.push h.sb (by rw [hi.1]; exact h2) (by rw [hi.2]; exact hm0)
  have lQ : (pushP H.back q).length ≤ 50 := by rw [pushP_len]; omega
  exact ⟨hh, by rw [hlen], hS, lQ, hPl, by rw [hlen]; exact cQ, by rw [hlen]; exact cP, sQ, sP, by rw [hlen]; exact h2, h.bel.trans (h.hi.low on)⟩
theorem mod_le (k : Int) (F : Nat) (h : F ≤ 1099511627776) : ∃ j : Nat, wrap64 ((IntKind.u64.wrap k).tmod ((F : Int) + 1)) = (j : Int) ∧ j ≤ F := by
  have h0 : 0 ≤ IntKind.u64.wrap k := wrap_u64_nonneg k
  rw [Int.tmod_eq_emod_of_nonneg h0]
  have g1 := Int.emod_nonneg (IntKind.u64.wrap k) (show (F : Int) + 1 ≠ 0 by omega)
  have g2 := Int.emod_lt_of_pos (IntKind.u64.wrap k) (show (0 : Int) < (F : Int) + 1 by omega)
  generalize IntKind.u64.wrap k % ((F : Int) + 1) = x at *
  refine ⟨x.toNat, ?_, by omega⟩
  unfold wrap64
  omega
/-- calls as cells -/
def dcs (L : List Dl) : List Value := (L.map Dl.cs).flatten
theorem dcs_cons (d : Dl) (L : List Dl) : dcs (d :: L) = d.cs ++ dcs L := rfl
theorem dcs_len : ∀ L : List Dl, (dcs L).length = L.length * 3
  | [] => rfl
  | d :: L => by rw [dcs_cons, List.length_append, dcs_len L, List.length_cons]; show 3 + _ = _; omega
theorem dcs_get : ∀ (L : List Dl) (i f : Nat) (d : Dl) (u : Value), L[i]? = some d → d.cs[f]? = some u → (dcs L)[i * 3 + f]? = some u
  | d :: L, 0, f, e, u, h, hf => by
    obtain rfl : d = e := by simpa using h
    have hlt : f < d.cs.length := (List.getElem?_eq_some_iff.1 hf).1
    rw [dcs_cons, Nat.zero_mul, Nat.zero_add, List.getElem?_append_left hlt]
    exact hf
  | d :: L, i + 1, f, e, u, h, hf => by
    have h1 := dcs_get L i f e u (by simpa using h) hf
    have h3 : d.cs.length = 3 := rfl
    rw [dcs_cons, List.getElem?_append_right (by rw [h3]; omega), h3, show (i + 1) * 3 + f - 3 = i * 3 + f by omega]
    exact h1
theorem dcs_inv : ∀ (L : List Dl) (j : Nat) (u : Value), (dcs L)[j]? = some u → ∃ i f d, j = i * 3 + f ∧ L[i]? = some d ∧ d.cs[f]? = some u
  | [], j, u, h => by simp [dcs] at h
  | d :: L, j, u, h => by
    rw [dcs_cons] at h
    have h3 : d.cs.length = 3 := rfl
    by_cases hj : j < 3
    · rw [List.getElem?_append_left (by rw [h3]; exact hj)] at h
      exact ⟨0, j, d, by omega, rfl, h⟩
    · rw [List.getElem?_append_right (by rw [h3]; omega), h3] at h
      obtain ⟨i, f, e, h1, h2, h4⟩ := dcs_inv L (j - 3) u h
      exact ⟨i + 1, f, e, by omega, by simpa using h2, h4⟩
theorem dcs_one (L : List Dl) : ∀ u ∈ dcs L, u.oneCell' = true := by
  intro u hu
  obtain ⟨j, hj⟩ := List.getElem?_of_mem hu
  obtain ⟨i, f, d, _, _, h⟩ := dcs_inv L j u hj
  have hf : f < 3 := (List.getElem?_eq_some_iff.1 h).1
  match f, hf, h with
  | 0, _, h => obtain rfl : (.int .i64 d.op : Value) = u := by simpa [Dl.cs] using h
               rfl
  | 1, _, h => obtain rfl : (.int .i64 d.n : Value) = u := by simpa [Dl.cs] using h
               rfl
  | 2, _, h => obtain rfl : (.slice d.a d.l.length d.c : Value) = u := by simpa [Dl.cs] using h
               rfl
theorem Dos.news {w : World} {a : Option Addr} {L : List Dl} (h : Dos w a L) : ∀ b, a = some b → ∀ j u, (dcs L)[j]? = some u → w.cell? (b.add j) = some u := by
  intro b hb j u hj
  rcases h.2 with h0 | ⟨g, off, e, _, hx⟩
  · rw [h0] at hj; simp [dcs] at hj
  · rw [hb] at e
    injection e with e
    subst e
    obtain ⟨i, f, d, rfl, hi, hf⟩ := dcs_inv L j u hj
    rw [Addr.add_lit, ← Nat.add_assoc]
    exact hx i d hi f u hf
theorem dos_own {w : World} {B n c : Nat} {a : Option Addr} {L : List Dl} (h : w.ownsRow B 34 3 (.slice a n c) n (dcs L)) (hn : L.length = n) (he : ∀ d ∈ L, Edit w d.a d.l d.c) : Dos w a L ∧ n ≤ c ∧ c ≤ maxLen := by
  rcases h.2 with ⟨e, h0⟩ | ⟨g, cap, cur, e, h1, h2, h3, h4, h5, h6⟩
  · injection e with e1 e2 e3
    subst e1 e3
    exact ⟨⟨he, .inl (List.eq_nil_of_length_eq_zero (by omega))⟩, by omega, by unfold maxLen; omega⟩
  · injection e with e1 e2 e3
    subst e1 e3
    refine ⟨⟨he, .inr ⟨g, 0, rfl, (Array.getElem?_eq_some_iff.1 h2).1, fun i d hi f u hu => ?_⟩⟩, h3, h4⟩
    have := World.ownsRow.cells h (g := g) rfl _ u (dcs_get L i f d u hi hu)
    rw [Addr.add_lit] at this
    rw [Nat.zero_add] at this
    rw [Nat.zero_add]
    exact this
theorem infoDo : ∃ i, Tryd.prog.info? 34 = some i ∧ i.zero = some (.agg #[.int .i64 0, .int .i64 0, .slice none 0 0]) ∧ i.size = 3 ∧ i.bytes = 40 := info_parts (by kernel_rfl)
set_option maxRecDepth 100000 in
theorem dos_len {H : Type} {enc : TypeId × Value → H} {W : World} {base n c : Nat} {spare : Nat → Bool} {held : Bool} {a : Option Addr} {d : DataW H} {p : List MemPlace}
    (h : DataW.Trod enc Tryd.prog W base spare held 22 (.slice a n c) d p) : n ≤ Rows.uptoBulk d := by
  have hl : ∀ l : List (DataW H), l.length ≤ Rows.uptoBulkAll l := by
    intro l
    induction l with
    | nil => simp [Rows.uptoBulkAll]
    | cons x r ih => have := one_le x; simp only [Rows.uptoBulkAll, List.length_cons]; omega
  obtain ⟨fuel, hf⟩ := h
  rcases open_slice Tryd.underlying22 hf with ⟨hcs, _⟩ | ⟨a', n', c', m, k, D, Pl, hcs, hb, hl2, hm, hmm, hx, hel⟩
  · simp [Value.cells] at hcs
    omega
  · simp [Value.cells] at hcs
    obtain ⟨_, hn', _⟩ := hcs
    obtain ⟨hd, _⟩ := Prod.mk.inj hx
    rw [hd, hn']
    have h1 := hl ((List.range n').map D)
    simp only [Rows.uptoBulk]
    rw [List.length_map, List.length_range] at h1
    omega
def FiR (w W : World) (g : Nat) (s : ByteArray) (M : Nat) : Prop := ∃ vb va H cs, FiS w W g vb va H s cs M
theorem FiR.shape {w W : World} {g : Nat} {s : ByteArray} {M : Nat} (h : FiR w W g s M) : ∃ vb va H cs, FiS w W g vb va H s cs M := h
theorem inv_back {x : List At} {cs : List (List UInt8)} (h : cs.length = At.fromN x) : At.app (At.can (At.inv x cs)) (At.app x cs) = cs := by rw [At.app_can, At.inv_app _ _ h]
set_option maxRecDepth 100000 in
set_option maxHeartbeats 4000000 in
theorem back_law (s : ByteArray) (a0 : Option Addr) (L : List Dl) (c0 : Nat) (ae : Option Addr) (le : List Pt) (ce : Nat) (w : World) (hT : UT w) (hD : Dos w a0 L) (hc : L.length ≤ c0) (hm : c0 ≤ maxLen) (hE : Edit w ae le ce) (hk : s.size + sumD L + sumT le ≤ 1048576) (hkn : L.length ≤ 1048576) : Calls Tryd.prog 4 #[.string s, .slice a0 L.length c0, .slice ae le.length ce] w fun r w' => r = .returned (.bool true) ∧ Below w.heap.size w w' := by
  have HU : Hid (∀ W, Below w.heap.size w W → UT W) := hide (fun W h => hT.call h)
  have HEE : Hid (∀ W, Below w.heap.size w W → Edit W ae le ce) := hide (fun W h => hE.call h)
  have HDO := hide hD
  have HK := hide hk
  have hs0 : s.size ≤ 1048576 := by omega
  have HS0 := hide hs0
  obtain ⟨n, hn⟩ : ∃ n, L.length = n := ⟨_, rfl⟩
  obtain ⟨me, hme⟩ : ∃ n, le.length = n := ⟨_, rfl⟩
  rw [hn] at hc hkn ⊢
  rw [hme]
  have HN0 := hide hn
  have HME := hide hme
  unfold maxLen at hm
  have hnI : (n : Int) ≤ 1048576 := by omega
  have b0 : Below w.heap.size w (w.alloc (.cells #[.int .i64 0, .int .i64 0, .slice ae me ce] 34)) := (Below.refl _ _).alloc (Nat.le_refl _) _
  have HB0 := hide b0
  have hrow := RowAt.new w 34 [.int .i64 0, .int .i64 0, .slice ae me ce]
  have HROW : Hid ((w.alloc (.cells #[.int .i64 0, .int .i64 0, .slice ae me ce] 34)).ownsRow w.heap.size 34 3 (.slice (some ⟨w.heap.size, 0, none⟩) 1 1) 1 (dcs [⟨0, 0, ae, le, ce⟩])) := hide ⟨rfl, .inr ⟨w.heap.size, 1, #[.int .i64 0, .int .i64 0, .slice ae me ce], rfl, Nat.le_refl _, hrow, Nat.le_refl _, by unfold maxLen; omega, rfl, by rw [← hme]; rfl⟩⟩
  have HNEW := hide (hD.call b0).news
  have HNON : Hid (a0 = none → n = 0) := hide (fun e => by
    rcases hD.2 with h | ⟨b, off, e2, _⟩
    · rw [← hn, h]; rfl
    · rw [e] at e2; cases e2)
  clear hT hD hn hk hs0 hE hme b0 hrow
  go_enter Tryd.func4, Tryd.ntmps4
  go_wp2_with (at_builtin; refine unhide ?_)
  obtain ⟨i9, hi9, hz9, hs9, hb9⟩ := infoDo
  refine hide ?_
  refine wpList_append_src _ rfl _ _ 22 rfl w.heap.size 34 i9 (.agg #[.int .i64 0, .int .i64 0, .slice none 0 0]) 3 40 Tryd.underlying22 hi9 hz9 hs9 hb9 rfl (by decide) (.slice (some ⟨w.heap.size, 0, none⟩) 1 1) 1 (dcs [⟨0, 0, ae, le, ce⟩]) rfl (unhide HROW) a0 n c0 (dcs L) rfl (by rw [dcs_len, unhide HN0]) (unhide HNON) (unhide HNEW) (dcs_one L) (by unfold maxLen; omega) (by omega) (unhide HB0).size ?_
  intro a3 c3 w3 ho hg
  have b3 : Below w.heap.size w w3 := (unhide HB0).trans ((grown_only hg).below (unhide HB0).size (fun k hk => by have : w.heap.size = k := by simpa [Value.ownBlock] using hk
                                                                                                                  omega))
  have ho' : w3.ownsRow w.heap.size 34 3 (.slice a3 (1 + n) c3) (1 + n) (dcs (⟨0, 0, ae, le, ce⟩ :: L)) := ho
  have hd3 := dos_own (L := ⟨0, 0, ae, le, ce⟩ :: L) ho' (by rw [List.length_cons, unhide HN0]; omega) (fun d hd => by
    rcases List.mem_cons.1 hd with rfl | hd
    · exact unhide HEE _ b3
    · exact ((unhide HDO).call b3).1 d hd)
  have KS := hide (short_any s a3 (⟨0, 0, ae, le, ce⟩ :: L) c3 w3 hd3.1 (by rw [List.length_cons, unhide HN0]; have := hd3.2.1; omega) hd3.2.2)
  rw [List.length_cons, unhide HN0, Nat.add_comm n 1] at KS
  have B0 := hide b3
  clear ho ho' hg b3 hd3 HROW HNEW HNON HB0 hi9 hz9 hs9 hb9 i9
  go_wp2_with fail
  refine Calls.mono (unhide KS) ?_
  rintro r w1 ⟨⟨bb, rfl, hsh⟩, b1⟩
  have B1 := hide ((unhide B0).trans (b1.mono (unhide B0).size))
  have HSH := hide hsh
  clear b1 KS hsh B0
  cases bb with
  | false =>
    go_wp2_with fail
    refine Calls.mono (awake_any _ (unhide HU _ (unhide B1))) ?_
    rintro r wa ⟨rfl, hba⟩
    have HBa := hide ((unhide B1).trans (hba.mono (unhide B1).size))
    clear hba
    go_wp2_with fail
    go_ret
    exact ⟨rfl, unhide HBa⟩
  | true =>
    have KV := hide (valid_any s w1 (unhide HU _ (unhide B1)) (by have := unhide HS0; omega))
    cases hv : Lib.validD s.data.toList with
    | false =>
      rw [hv] at KV
      clear hv
      go_wp2_with fail
      refine Calls.mono (unhide KV) ?_
      rintro r w2 ⟨rfl, b2⟩
      have B2 := hide ((unhide B1).trans (b2.mono (unhide B1).size))
      clear b2 KV
      go_wp2_with fail
      refine Calls.mono (awake_any _ (unhide HU _ (unhide B2))) ?_
      rintro r wa ⟨rfl, hba⟩
      have HBa := hide ((unhide B2).trans (hba.mono (unhide B2).size))
      clear hba
      go_wp2_with fail
      go_ret
      exact ⟨rfl, unhide HBa⟩
    | true =>
      obtain ⟨cs0, hx0⟩ := tx_of_valid hv
      rw [hv] at KV
      have HX0 := hide hx0
      have H100 : Hid (∀ d ∈ (⟨0, 0, ae, le, ce⟩ :: L : List Dl), d.l.length ≤ 100) := hide (unhide HSH rfl).2.2.1
      have hfew := hx0.few
      have HFEW := hide hfew
      clear hv hx0 HSH hc hm hfew
      go_wp2_with fail
      refine Calls.mono (unhide KV) ?_
      rintro r w2 ⟨rfl, b2⟩
      have B2 := hide ((unhide B1).trans (b2.mono (unhide B1).size))
      clear b2 KV
      go_wp2_with fail
      refine Calls.mono (begun_any s w2 (by have := unhide HS0; omega) (by rw [(unhide HX0).count]; have := unhide HFEW; have := unhide HS0; omega)) ?_
      intro r w4 h4
      obtain ⟨g, vb, va, rfl, hh, b4⟩ := h4.shape
      rw [(unhide HX0).count] at hh
      have F4 : Hid (FiR w w4 g s (Mk s L 0)) := hide ⟨vb, va, _, cs0, FiS.begun (hh.base (unhide B2).size) (unhide HX0) (by have := unhide HFEW; simp [Mk, sumD]; omega) ((unhide B2).trans (b4.mono (unhide B2).size))⟩
      clear h4 hh b4 B1 B2
      go_wp2_with fail
      go_loopw [0, 38] (fun sv i wr => ∃ (k : Nat) (sk : ByteArray), k ≤ n ∧ i = .int .i64 (k : Int) ∧ sv = .string sk ∧ Hid (FiR w wr g sk (Mk s L k))) (fun _ i _ => ((n : Int) - intOf i).toNat)
      case atStart => exact ⟨0, _, by omega, by simp, rfl, F4⟩
      case round =>
        clear F4
        obtain ⟨k, sk, hk, rfl, rfl, HM⟩ := hrel
        by_cases c1 : (k : Int) < (n : Int)
        · obtain ⟨vb, va, H, cs, hF⟩ := (unhide HM).shape
          obtain ⟨d, hd⟩ : ∃ d, L[k]? = some d := ⟨_, List.getElem?_eq_getElem (by rw [unhide HN0]; omega)⟩
          have hx := ((unhide HDO).call hF.bel).2
          rcases hx with h0 | ⟨b, off, rfl, hlt, hx⟩
          · exfalso; rw [h0] at hd; simp at hd
          have q0 : wr.cell? ⟨b, off + k * 3, none⟩ = some (.int .i64 d.op) := hx k d hd 0 _ rfl
          have q1 : wr.cell? ⟨b, off + k * 3 + 1, none⟩ = some (.int .i64 d.n) := hx k d hd 1 _ rfl
          have q2 : wr.cell? ⟨b, off + k * 3 + 2, none⟩ = some (.slice d.a d.l.length d.c) := hx k d hd 2 _ rfl
          have hmem := List.mem_of_getElem? hd
          have HMK := hide (Mk_next (s := s) hd)
          have HMB : Hid (Mk s L k + sumT d.l ≤ 1048576) := hide (by have h1 := Mk_next (s := s) hd; have h2 := Mk_le s L (k + 1); have h3 := unhide HK; omega)
          have H1 := hide ((unhide H100) d (List.mem_cons_of_mem _ hmem))
          have HED : Hid (∀ W, Below w.heap.size w W → Edit W d.a d.l d.c) := hide (fun W hW => ((unhide HDO).1 d hmem).call hW)
          have HSK : Hid (sk.size ≤ 281474976710656) := hide (hF.tx.small rfl (by have := hF.m; have := unhide HMB; omega))
          have k0 : (0 : Int) ≤ (k : Int) := by omega
          have hal : Below wr.heap.size wr (wr.alloc (.cells #[.int .i64 d.op, .int .i64 d.n, .slice d.a d.l.length d.c] 34)) := (Below.refl _ _).alloc (Nat.le_refl _) _
          have hF := hF.call hal
          obtain ⟨m, hmm⟩ : ∃ z, d.l.length = z := ⟨_, rfl⟩
          rw [hmm] at q2 H1 hF
          have HN := hide hmm
          have BW := hide hF.bel
          have FK := hide hF
          have HX := hide hF.tx
          have HE := hide (unhide HED _ hF.bel)
          have hrow := RowAt.new wr 34 [.int .i64 d.op, .int .i64 d.n, .slice d.a m d.c]
          have HR := hide hrow
          clear HM hd hx hmem hlt hal hmm hF hrow
          go_wp2_with fail
          refine Calls.mono (apply_at sk (unhide HU _ (unhide BW)) (unhide HE) (unhide HN) (unhide HSK) (Below.refl _ _)) ?_
          rintro r w3 ⟨h3, b3⟩
          have F3 := hide ((unhide FK).call b3)
          have E3 := hide ((unhide HE).call b3)
          have q3 := ((unhide HR).below b3 (unhide HR).lt).cell 0
          have q5 := ((unhide HR).below b3 (unhide HR).lt).cell 2
          simp only [List.getElem?_cons_zero, List.getElem?_cons_succ] at q3 q5
          clear b3 FK HE BW HR
          rcases h3 with ⟨h3, rfl⟩ | ⟨h3, S3, c3, x3, y3, rfl⟩
          · clear h3
            go_wp2_with fail
            exact ⟨⟨k + 1, sk, by omega, by simp, rfl, hide ⟨_, _, _, _, (unhide F3).mono (by rw [unhide HMK]; omega)⟩⟩, by simp [intOf]; omega⟩
          · obtain ⟨c4, t, x4, hed⟩ := isOf_ed h3
            obtain rfl : c4 = cs := x4.inj (unhide HX)
            obtain rfl : c3 = c4 := x3.inj (unhide HX)
            have HD := hide hed
            have HY := hide y3
            clear h3 x3 y3 x4 hed
            go_wp2_with fail
            · refine Calls.mono ((unhide F3).mine (unhide HU _ (unhide F3).bel) (unhide E3) (unhide HN) (unhide HD) (unhide HMB) (by have := unhide H1; omega)) ?_
              intro r w5 h5
              obtain ⟨vb5, va5, H5, rfl, hbel, hF5⟩ := h5.shape
              have F5 : Hid (FiR w w5 g S3 (Mk s L (k + 1))) := hide ⟨_, _, _, _, by rw [unhide HMK]; exact hF5 S3 (unhide HY)⟩
              clear h5 hbel hF5 F3 E3
              go_wp2_with fail
              exact ⟨⟨k + 1, S3, by omega, by simp, rfl, F5⟩, by simp [intOf]; omega⟩
            · refine Calls.mono ((unhide F3).theirs (unhide HU _ (unhide F3).bel) (unhide E3) (unhide HN) (unhide HD) (unhide HMB)) ?_
              intro r w5 h5
              obtain ⟨vb5, va5, H5, rfl, hbel, hF5⟩ := h5.shape
              have F5 : Hid (FiR w w5 g S3 (Mk s L (k + 1))) := hide ⟨_, _, _, _, by rw [unhide HMK]; exact hF5 S3 (unhide HY)⟩
              clear h5 hbel hF5 F3 E3
              go_wp2_with fail
              exact ⟨⟨k + 1, S3, by omega, by simp, rfl, F5⟩, by simp [intOf]; omega⟩
        · obtain ⟨vb, va, H, cs, hF⟩ := (unhide HM).shape
          have hMn : Mk s L k + sumT le ≤ 1048576 := by have h1 := Mk_le s L k; have h2 := unhide HK; omega
          have HMB := hide hMn
          have HSK : Hid (sk.size ≤ 281474976710656) := hide (hF.tx.small rfl (by have := hF.m; omega))
          have BW := hide hF.bel
          have FK := hide hF
          have HX := hide hF.tx
          have HM1 : Hid (me ≤ 100) := hide (by have h1 := (unhide H100) ⟨0, 0, ae, le, ce⟩ (List.mem_cons_self ..); have h2 : le.length ≤ 100 := h1; rw [← unhide HME]; exact h2)
          clear HM hF hMn H100 HDO
          go_wp2_with fail
          refine Calls.mono (apply_at sk (unhide HU _ (unhide BW)) (unhide HEE _ (unhide BW)) (unhide HME) (unhide HSK) (Below.refl _ _)) ?_
          rintro r w3 ⟨h3, b3⟩
          have F3 := hide ((unhide FK).call b3)
          clear b3 FK BW
          rcases h3 with ⟨h3, rfl⟩ | ⟨h3, S3, c3, x3, y3, rfl⟩
          · have KM := hide (mine_no w.heap.size g me vb va H ae le ce sk w3 (unhide F3).hi (unhide HU _ (unhide F3).bel) (unhide HEE _ (unhide F3).bel) (unhide HME) (unhide HSK) h3 (by have := unhide HM1; omega))
            clear h3
            go_wp2_with fail
            refine Calls.mono (unhide KM) ?_
            rintro r w5 ⟨rfl, b5⟩
            have B5 := hide ((unhide F3).bel.trans (b5.mono (unhide F3).bel.size))
            clear b5
            go_wp2_with fail
            refine Calls.mono (awake_any _ (unhide HU _ (unhide B5))) ?_
            rintro r wa ⟨rfl, hba⟩
            have HBa := hide ((unhide B5).trans (hba.mono (unhide B5).size))
            clear hba
            go_wp2_with fail
            go_ret
            exact ⟨rfl, unhide HBa⟩
          · obtain ⟨c4, t, x4, hed⟩ := isOf_ed h3
            obtain rfl : c4 = cs := x4.inj (unhide HX)
            obtain rfl : c3 = c4 := x3.inj (unhide HX)
            have hTl : (At.app (atomsL le) c3).length = t := by rw [At.app_len _ _ hed.2.1.symm]; exact hed.2.2.1
            have HD := hide hed
            have HY := hide y3
            have HTL := hide hTl
            have HI0 := hide (inv_from hed.2.1.symm)
            have HIB := hide (inv_back hed.2.1.symm)
            clear h3 x3 y3 x4 hed hTl
            go_wp2_with fail
            refine Calls.mono ((unhide F3).mineP (unhide HU _ (unhide F3).bel) (unhide HEE _ (unhide F3).bel) (unhide HME) (unhide HD) (unhide HMB) (by have := unhide HM1; omega)) ?_
            intro r w5 h5
            obtain ⟨vb5, va5, H5, rfl, ⟨Q5, p5, hb5, hp5⟩, hF5⟩ := h5.shape
            have hF5 := hF5 S3 (unhide HY)
            have hK5 := hF5.undoP (unhide HU) (unhide HMB) hb5
            have HD5 := hide hK5.1
            have K5 := hide hK5.2
            have HP5 := hide hp5
            clear h5 hF5 hK5 hb5 hp5 F3
            go_wp2_with fail
            refine Calls.mono (unhide K5) ?_
            intro r w6 h6
            obtain ⟨hst, hown6, hkp6⟩ := h6.shape
            obtain ⟨vb6, va6, H6, a6, c6, rfl, hv6, E6, ⟨_, Q6, p6, hb6, hp6⟩, hbel6, hF6⟩ := hst.shape
            have happ6 : At.app (atomsL p5.l) (At.app (atomsL le) c3) = c3 := by rw [unhide HP5]; exact unhide HIB
            have hF6 := hF6 sk (by rw [happ6]; exact unhide HX)
            rw [happ6] at hF6
            have hK6 := hF6.redoP (unhide HU) (unhide HMB) hb6
            have HD6 := hide hK6.1
            have K6 := hide hK6.2
            have HP6 := hide hp6
            have O6 := hide hown6
            have HA6 := hide happ6
            obtain ⟨n6, hn6⟩ : ∃ z, p5.l.length = z := ⟨_, rfl⟩
            rw [hv6, hn6]
            have HV6 := hide hv6
            have HN6 := hide hn6
            clear h6 hst hown6 hkp6 E6 hbel6 hF6 hK6 hb6 hp6 happ6 K5 hv6 hn6
            go_wp2_with fail
            refine Calls.mono (unhide K6) ?_
            intro r w7 h7
            obtain ⟨hst, hown7, hkp7⟩ := h7.shape
            obtain ⟨vb7, va7, H7, a7, c7, rfl, hv7, E7, ⟨_, Q7, p7, hb7, hp7⟩, hbel7, hF7⟩ := hst.shape
            have happ7 : At.app (atomsL p6.l) c3 = At.app (atomsL le) c3 := by
              rw [unhide HP6]
              have h8 := inv_back (x := atomsL p5.l) (cs := At.app (atomsL le) c3) (unhide HD5).2.1.symm
              rw [unhide HA6] at h8
              exact h8
            have hF7 := hF7 S3 (by rw [happ7]; exact unhide HY)
            rw [happ7] at hF7
            have hK7 := hF7.undoP (unhide HU) (unhide HMB) hb7
            have HD7 := hide hK7.1
            have K7 := hide hK7.2
            have HP7 := hide hp7
            have O67 := hide (hkp7 _ _ (unhide O6))
            have O7 := hide hown7
            have HA7 := hide happ7
            obtain ⟨n7, hn7⟩ : ∃ z, p6.l.length = z := ⟨_, rfl⟩
            rw [hv7, hn7]
            have HV7 := hide hv7
            have HN7 := hide hn7
            clear h7 hst hown7 hkp7 E7 hbel7 hF7 hK7 hb7 hp7 happ7 K6 hv7 hn7 O6
            go_wp2_with fail
            refine Calls.mono (unhide K7) ?_
            intro r w8 h8
            obtain ⟨hst, hown8, hkp8⟩ := h8.shape
            obtain ⟨vb8, va8, H8, a8, c8, rfl, hv8, E8, _, hbel8, _⟩ := hst.shape
            have O5 := hide (hkp8 _ _ (unhide O67))
            have O6 := hide (hkp8 _ _ (unhide O7))
            have O8 := hide hown8
            have B8 := hide hbel8
            have hll : p7.l = p5.l := nf_unique _ _ _ _ (unhide HD7).1 (unhide HD5).1 (by
              rw [unhide HP7, unhide HP6]
              have h9 := At.inv_twice (atomsL p5.l) (At.app (atomsL le) c3) (unhide HD5).2.1.symm
              rw [unhide HA6] at h9
              rw [h9, unhide HP5, At.can_can])
            have HLL := hide hll
            rw [hll, unhide HN6] at hv8
            rw [hv8]
            have HV8 := hide hv8
            clear h8 hst hown8 hkp8 hv8 E8 hbel8 K7 O67 O7 hll
            go_wp2_with fail
            have hE5 : Edit w8 a6 p5.l c6 := by
              obtain ⟨x, y, hv, E⟩ := (unhide O5).edit (ed_txt (unhide HD5)) (by have h1 := nf_len (unhide HD5).1; have h2 := (unhide HD5).2; omega)
              rw [unhide HV6] at hv
              injection hv with e1 _ e3
              subst e1 e3
              exact E
            have hE6 : Edit w8 a7 p6.l c7 := by
              obtain ⟨x, y, hv, E⟩ := (unhide O6).edit (ed_txt (unhide HD6)) (by have h1 := nf_len (unhide HD6).1; have h2 := (unhide HD6).2; omega)
              rw [unhide HV7] at hv
              injection hv with e1 _ e3
              subst e1 e3
              exact E
            have hE7 : Edit w8 a8 p5.l c8 := by
              obtain ⟨x, y, hv, E⟩ := (unhide O8).edit (ed_txt (unhide HD7)) (by have h1 := nf_len (unhide HD7).1; have h2 := (unhide HD7).2; omega)
              rw [unhide HV8, unhide HLL] at hv
              injection hv with e1 _ e3
              subst e1 e3
              rw [← unhide HLL]
              exact E
            have E5 := hide hE5
            have E6 := hide hE6
            have E7 := hide hE7
            clear hE5 hE6 hE7 O5 O6 O8
            refine Calls.mono (applied_any a6 p5.l c6 n6 (At.toN (atomsL p5.l)) S3 (At.app (atomsL le) c3) w8 (unhide HU _ (unhide B8)) (unhide E5) (unhide HN6) (unhide HY) (unhide HD5)) ?_
            rintro r w9 ⟨S9, rfl, x9, b9⟩
            rw [unhide HA6] at x9
            obtain rfl : S9 = sk := x9.same (unhide HX)
            have B9 := hide ((unhide B8).trans (b9.mono (unhide B8).size))
            have E59 := hide ((unhide E5).call b9)
            have E69 := hide ((unhide E6).call b9)
            have E79 := hide ((unhide E7).call b9)
            clear x9 b9 E5 E6 E7 B8
            go_wp2_with fail
            refine Calls.mono (applied_any a7 p6.l c7 n7 (At.toN (atomsL p6.l)) S9 c3 w9 (unhide HU _ (unhide B9)) (unhide E69) (unhide HN7) (unhide HX) (unhide HD6)) ?_
            rintro r w10 ⟨S10, rfl, x10, b10⟩
            rw [unhide HA7] at x10
            obtain rfl : S10 = S3 := x10.same (unhide HY)
            have B10 := hide ((unhide B9).trans (b10.mono (unhide B9).size))
            have E510 := hide ((unhide E59).call b10)
            have E710 := hide ((unhide E79).call b10)
            clear x10 b10 E59 E69 E79 B9
            go_wp2_with fail
            refine Calls.mono (rsame_at (w := w10) (unhide E510) (unhide E710) rfl (unhide HN6) (unhide HN6) (Below.refl _ _)) ?_
            rintro r w11 ⟨rfl, b11⟩
            have B11 := hide ((unhide B10).trans (b11.mono (unhide B10).size))
            clear b11 E510 E710 B10
            go_wp2_with fail
            refine Calls.mono (awake_any _ (unhide HU _ (unhide B11))) ?_
            rintro r wa ⟨rfl, hba⟩
            have HBa := hide ((unhide B11).trans (hba.mono (unhide B11).size))
            clear hba
            go_wp2_with fail
            go_ret
            exact ⟨rfl, unhide HBa⟩
end Go.Proofs.YtihiengejpjbkaaDoor
