/- Parts behind those of an own row, whatever the source. -/
import Derived.Test.YtonabfpgdgnpnaaDoorRep
import Derived.Deep.AppendLies
namespace Go.Proofs.YtonabfpgdgnpnaaDoor
set_option linter.unusedVariables false
set_option linter.unusedSimpArgs false
open Go.ChangeShapes Go.WideShapes Go.ChangeAt Go.RowKit Go.Joins Go.Deep

theorem run_append_none {P : Program} (w : World) (t ty e : TypeId) (i : TypeInfo) (ht : P.underlying t = some (.slice e)) (hi : P.info? e = some i) (base : Option Addr) (sLen sCap c : Nat) (hle : sLen ≤ sCap) :
    (Builtin.append_ #[t, t] ty #[.slice base sLen sCap, .slice none 0 c]).run P w = .ok (.slice base sLen sCap) w := by
  cases base <;> simp [Builtin.append_, run_underlying ht, sizeOf, typeInfo, hi, Builtin.lenOf, Builtin.firstCells, loadCells, loadCellsFrom, hle, storeCells]

theorem wp_append_src {P : Program} (w : World) {o : Oper} {a : Act} {K : Act → World → Prop} {Q : Exit → Act → World → Prop} (s x : Operand) (t : TypeId)
    (ho : o.op = .call { callee := .builtin .append, args := #[s, x], argTypes := #[t, t] })
    (base : Nat) (e : TypeId) (i : TypeInfo) (z : Value) (size bytes : Nat) (ht : P.underlying t = some (.slice e)) (hi : P.info? e = some i) (hz : i.zero = some z)
    (hsize : i.size = size) (hby : i.bytes = bytes) (hzs : z.cells.size = size) (hsz : 0 < size)
    (v : Value) (n : Nat) (xs : List Value) (hs : a.eval s = v) (hown : w.ownsRow base e size v n xs)
    (ad : Option Addr) (m c : Nat) (news : List Value) (hx : a.eval x = .slice ad m c) (hl : news.length = m * size) (hnone : ad = none → m = 0) (hnews : ∀ b, ad = some b → ∀ j u, news[j]? = some u → w.cell? (b.add j) = some u) (h1 : ∀ u ∈ news, u.oneCell' = true)
    (h63 : n + m ≤ maxLen) (hbytes : (n + m) * bytes ≤ 140737488355328) (hbase : base ≤ w.heap.size)
    (h : ∀ ad' cap w', w'.ownsRow base e size (.slice ad' (n + m) cap) (n + m) (xs ++ news) → w.grownBy w' v.ownBlock → (Value.ownBlock (.slice ad' (n + m) cap) = v.ownBlock ∨ Value.ownBlock (.slice ad' (n + m) cap) = some w.heap.size) → K (a.put o.dst (.slice ad' (n + m) cap)) w') :
    o.wp P a w K Q := by
  obtain ⟨ad', cap, w', hr, h2, h3, h5⟩ : ∃ ad' cap w', (Builtin.append_ #[t, t] o.type #[v, .slice ad m c]).run P w = .ok (.slice ad' (n + m) cap) w' ∧ w'.ownsRow base e size (.slice ad' (n + m) cap) (n + m) (xs ++ news) ∧ w.grownBy w' v.ownBlock ∧ (Value.ownBlock (.slice ad' (n + m) cap) = v.ownBlock ∨ Value.ownBlock (.slice ad' (n + m) cap) = some w.heap.size) := by
    cases ad with
    | none =>
      have hm := hnone rfl
      subst hm
      have hn0 : news = [] := List.eq_nil_of_length_eq_zero (by simpa using hl)
      subst hn0
      obtain ⟨b, cap, hv, hle⟩ : ∃ b cap, v = .slice b n cap ∧ n ≤ cap := by
        rcases hown.2 with ⟨rfl, rfl⟩ | ⟨g, cap, cur, rfl, _, _, hle, _⟩
        · exact ⟨none, 0, rfl, Nat.le_refl _⟩
        · exact ⟨_, cap, rfl, hle⟩
      subst hv
      refine ⟨b, cap, w, run_append_none w t o.type e i ht hi b n cap c hle, ?_, ⟨rfl, rfl, rfl, Nat.le_refl _, fun _ _ _ => rfl⟩, .inl ?_⟩
      · simpa using hown
      · cases b <;> rfl
    | some b =>
      obtain ⟨v', w', hr, h2, h3, _, h5⟩ := run_append_own_at (P := P) w base t o.type e i z size bytes ht hi hz hsize hby hzs hsz v n xs hown b m c news hl (hnews b rfl) h1 h63 hbytes hbase
      obtain ⟨ad', cap, rfl⟩ : ∃ ad' cap, v' = .slice ad' (n + m) cap := by
        rcases h2.2 with ⟨rfl, h0⟩ | ⟨g, cap, cur, rfl, _⟩
        · exact ⟨none, 0, by rw [h0]⟩
        · exact ⟨_, cap, rfl⟩
      exact ⟨ad', cap, w', hr, h2, h3, h5⟩
  unfold Oper.wp execOp
  simp only [ho, resolve, invoke, builtin, Sem.run_bind, Sem.run_pure, Result.andThen_ok, List.map_toArray, List.map_cons, List.map_nil, hs, hx, hr]
  exact h ad' cap w' h2 h3 h5

theorem ptc_one (l : List Pt) : ∀ u ∈ ptc l, u.oneCell' = true := by
  induction l with
  | nil => intro u h; cases h
  | cons p l ih =>
    intro u hu
    rcases List.mem_append.1 (show u ∈ pcs p ++ ptc l from hu) with h | h
    · simp only [pcs, List.mem_cons, List.not_mem_nil, or_false] at h
      rcases h with rfl | rfl | rfl <;> rfl
    · exact ih u h
theorem ptc_app (l m : List Pt) : ptc (l ++ m) = ptc l ++ ptc m := by
  induction l with
  | nil => rfl
  | cons p l ih =>
    show pcs p ++ ptc (l ++ m) = (pcs p ++ ptc l) ++ ptc m
    rw [ih, List.append_assoc]
/-- parts that lie somewhere, behind those of an own row -/
theorem wp_append_pts {o : Oper} {a : Act} {K : Act → World → Prop} {Q : Exit → Act → World → Prop} {W : World} (s x : Operand)
    (ho : o.op = .call { callee := .builtin .append, args := #[s, x], argTypes := #[24, 24] }) (B : Nat) (v : Value) (l m : List Pt) (ad : Option Addr) (c : Nat)
    (hs : a.eval s = v) (hv : OwnP W B v l) (hn : l.length + m.length ≤ 4398046511104) (hB : B ≤ W.heap.size) (hx : a.eval x = .slice ad m.length c) (hp : PtsAt W ad m)
    (h : ∀ ad' cap w', OwnP w' B (.slice ad' (l.length + m.length) cap) (l ++ m) → W.grownBy w' v.ownBlock → (Value.ownBlock (.slice ad' (l.length + m.length) cap) = v.ownBlock ∨ Value.ownBlock (.slice ad' (l.length + m.length) cap) = some W.heap.size) → K (a.put o.dst (.slice ad' (l.length + m.length) cap)) w') : o.wp Tryd.prog a W K Q := by
  obtain ⟨i0, hi, hz, hsz, hb⟩ := infoPart
  refine wp_append_src W s x 24 ho B 39 i0 _ 3 32 Tryd.underlying24 hi hz hsz hb (by simp [Value.cells]) (by decide) v l.length (ptc l) hs hv ad m.length c (ptc m) hx (ptc_len m) (fun e => ?_) (fun b hb j u hu => ?_) (ptc_one m) (by unfold maxLen; omega) (by omega) hB (fun ad' cap w' h1 h2 h3 => h ad' cap w' ?_ h2 h3)
  · rcases hp with rfl | ⟨g, off, e2, _⟩
    · rfl
    · rw [e] at e2; cases e2
  · rcases hp with rfl | ⟨g, off, e2, _, hc⟩
    · cases hu
    · rw [hb] at e2
      cases e2
      have hlt : j < (ptc m).length := by
        rcases Nat.lt_or_ge j (ptc m).length with h | h
        · exact h
        · rw [List.getElem?_eq_none h] at hu; cases hu
      rw [ptc_len] at hlt
      obtain ⟨p, hp⟩ : ∃ p, m[j / 3]? = some p := ⟨_, List.getElem?_eq_getElem (by omega)⟩
      have h0 := hc _ _ hp
      have h1 := ptc_at m (j / 3) p hp
      rw [Addr.add_lit]
      have hj : j % 3 = 0 ∨ j % 3 = 1 ∨ j % 3 = 2 := by omega
      rcases hj with hj | hj | hj
      · have e : j = j / 3 * 3 := by omega
        rw [e] at hu ⊢
        rw [h1.1] at hu
        rw [← hu]
        have e3 : j / 3 * 3 / 3 = j / 3 := by omega
        exact h0.1
      · have e : j = j / 3 * 3 + 1 := by omega
        rw [e] at hu ⊢
        rw [h1.2.1] at hu
        rw [← hu]
        exact h0.2.1
      · have e : j = j / 3 * 3 + 2 := by omega
        rw [e] at hu ⊢
        rw [h1.2.2] at hu
        rw [← hu]
        exact h0.2.2
  · unfold OwnP
    rw [List.length_append, ptc_app]
    exact h1
end Go.Proofs.YtonabfpgdgnpnaaDoor
