/- Parts of the walk: Nxt, Mee, Rcu. -/
import Derived.Test.YtonabfpgdgnpnaaDoorMz13
import Derived.Test.YtonabfpgdgnpnaaDoorMz04
namespace Go.Proofs.YtonabfpgdgnpnaaDoor
set_option linter.unusedVariables false
set_option linter.unusedSimpArgs false
open Go.ChangeShapes Go.WideShapes Go.ChangeAt Go.RowKit Go.Joins Go.Deep

/-- one row that grows by a copy and by a literal: what has been done -/
structure Hf (e : Nat) (w0 w : World) (own : Option (Value × List Value)) (lit : Option (Nat × Value)) : Prop where
  own_ : ∀ v xs, own = some (v, xs) → w.ownsRow w0.heap.size e 1 v xs.length xs
  lit_ : ∀ q u, lit = some (q, u) → RowAt w q e [u] ∧ w0.heap.size ≤ q ∧ ∀ v xs, own = some (v, xs) → v.ownBlock ≠ some q
theorem Hf.more {e : Nat} {w0 w w' : World} {own : Option (Value × List Value)} {lit : Option (Nat × Value)} (h : Hf e w0 w own lit) (hb : Below w.heap.size w w') : Hf e w0 w' own lit :=
  ⟨fun v xs q => own_call (h.own_ v xs q) hb, fun q u c => ⟨(h.lit_ q u c).1.below hb (h.lit_ q u c).1.lt, (h.lit_ q u c).2⟩⟩
theorem own_lt2 {w : World} {B e n : Nat} {v : Value} {xs : List Value} (h : w.ownsRow B e 1 v n xs) {k : Nat} (hk : v.ownBlock = some k) : k < w.heap.size := by
  rcases h.2 with ⟨rfl, _⟩ | ⟨g, c, cur, rfl, _, e3, _⟩
  · cases hk
  · have : g = k := by simpa [Value.ownBlock] using hk
    subst this
    exact (Array.getElem?_eq_some_iff.1 e3).1
theorem own_ge2 {w : World} {B e n : Nat} {v : Value} {xs : List Value} (h : w.ownsRow B e 1 v n xs) {k : Nat} (hk : v.ownBlock = some k) : B ≤ k := by
  rcases h.2 with ⟨rfl, _⟩ | ⟨g, c, cur, rfl, e2, _⟩
  · cases hk
  · have : g = k := by simpa [Value.ownBlock] using hk
    omega
theorem Hf.build {e : Nat} {w0 w : World} {lit : Option (Nat × Value)} (h : Hf e w0 w none lit) (hB : w0.heap.size ≤ w.heap.size) : Hf e w0 (w.alloc (.cells #[] e)) (some (.slice (some ⟨w.heap.size, 0, none⟩) 0 0, [])) lit := by
  have hb : Below w.heap.size w (w.alloc (.cells #[] e)) := (Below.refl _ _).alloc (Nat.le_refl _) _
  refine ⟨fun v xs q => ?_, fun q u c => ⟨(h.lit_ q u c).1.below hb (h.lit_ q u c).1.lt, (h.lit_ q u c).2.1, fun v xs k => ?_⟩⟩
  · cases q
    exact ⟨rfl, .inr ⟨w.heap.size, 0, #[], rfl, hB, RowAt.new w e [], Nat.le_refl _, by unfold maxLen; simp, by simp, by simp⟩⟩
  · cases k
    intro k
    have h1 : w.heap.size = q := by simpa [Value.ownBlock] using k
    have := (h.lit_ q u c).1.lt
    omega
theorem Hf.lit {e : Nat} {w0 w : World} {own : Option (Value × List Value)} (h : Hf e w0 w own none) (hB : w0.heap.size ≤ w.heap.size) (u : Value) : Hf e w0 (w.alloc (.cells #[u] e)) own (some (w.heap.size, u)) := by
  have hb : Below w.heap.size w (w.alloc (.cells #[u] e)) := (Below.refl _ _).alloc (Nat.le_refl _) _
  refine ⟨fun v xs q => own_call (h.own_ v xs q) hb, fun q u' c => ?_⟩
  cases c
  refine ⟨RowAt.new w e [u], hB, fun v xs k k2 => ?_⟩
  have := own_lt2 (h.own_ v xs k) k2
  omega
theorem Hf.grow {e : Nat} {w0 w w' : World} {v v' : Value} {xs xs' : List Value} {lit : Option (Nat × Value)} (h : Hf e w0 w (some (v, xs)) lit) (ho : w'.ownsRow w0.heap.size e 1 v' xs'.length xs') (hg : w.grownBy w' v.ownBlock) (hv : v'.ownBlock = v.ownBlock ∨ v'.ownBlock = some w.heap.size) : Hf e w0 w' (some (v', xs')) lit := by
  refine ⟨fun _ _ q => by cases q; exact ho, fun q u c => ?_⟩
  obtain ⟨h1, h2, h3⟩ := h.lit_ q u c
  refine ⟨h1.only (grown_only hg) (h3 v xs rfl), h2, fun _ _ k => ?_⟩
  cases k
  intro k
  rcases hv with hv | hv
  · rw [hv] at k; exact h3 v xs rfl k
  · rw [hv] at k
    have : w.heap.size = q := by simpa using k
    have := h1.lt
    omega
theorem Hf.other {e e' : Nat} {w0 w w' : World} {v : Value} {n : Nat} {xs : List Value} {own : Option (Value × List Value)} {lit : Option (Nat × Value)} (h : Hf e w0 w own lit) (hv : w.ownsRow w0.heap.size e' 1 v n xs) (hne : e' ≠ e) (hg : w.grownBy w' v.ownBlock) : Hf e w0 w' own lit :=
  ⟨fun u ys q => own_only (h.own_ u ys q) (grown_only hg) (fun k hk hk2 => own_two (h.own_ u ys q) hv (fun c => hne c.symm) hk hk2), fun q u c => ⟨(h.lit_ q u c).1.only (grown_only hg) (tag_ne hv (h.lit_ q u c).1 hne), (h.lit_ q u c).2⟩⟩
/-- both rows -/
structure NX (w0 w : World) (o9 : Option (Value × List Value)) (l9 : Option (Nat × Value)) (o4 : Option (Value × List Value)) (l4 : Option (Nat × Value)) : Prop where
  bel : Below w0.heap.size w0 w
  p : Hf 9 w0 w o9 l9
  d : Hf 4 w0 w o4 l4
theorem NX.start (w : World) : NX w w.drew none none none none := ⟨(Below.refl _ _).drew, ⟨(fun _ _ h => by cases h), (fun _ _ h => by cases h)⟩, ⟨(fun _ _ h => by cases h), (fun _ _ h => by cases h)⟩⟩
section
variable {w0 W : World} {o9 o4 : Option (Value × List Value)} {l9 l4 : Option (Nat × Value)} {o : Oper} {a : Act} {K : Act → World → Prop} {Q : Exit → Act → World → Prop}
theorem NX.bP (h : NX w0 W none l9 o4 l4) (hop : o.op = Op.buildSlice 47 0 #[]) (hk : ∀ v w', NX w0 w' (some (v, [])) l9 o4 l4 → K (a.put o.dst v) w') : o.wp Tryd.prog a W K Q := by
  obtain ⟨ds, op, ty, ps, af, gd⟩ := o
  obtain rfl : op = Op.buildSlice 47 0 #[] := hop
  have hb : Below W.heap.size W (W.alloc (.cells #[] 9)) := (Below.refl _ _).alloc (Nat.le_refl _) _
  have hn : NX w0 (W.alloc (.cells #[] 9)) (some (.slice (some ⟨W.heap.size, 0, none⟩) 0 0, [])) l9 o4 l4 := ⟨h.bel.trans (hb.mono h.bel.size), h.p.build h.bel.size, h.d.more hb⟩
  go_simp
  exact hk _ _ hn
theorem NX.bD (h : NX w0 W o9 l9 none l4) (hop : o.op = Op.buildSlice 111 0 #[]) (hk : ∀ v w', NX w0 w' o9 l9 (some (v, [])) l4 → K (a.put o.dst v) w') : o.wp Tryd.prog a W K Q := by
  obtain ⟨ds, op, ty, ps, af, gd⟩ := o
  obtain rfl : op = Op.buildSlice 111 0 #[] := hop
  have hb : Below W.heap.size W (W.alloc (.cells #[] 4)) := (Below.refl _ _).alloc (Nat.le_refl _) _
  have hn : NX w0 (W.alloc (.cells #[] 4)) o9 l9 (some (.slice (some ⟨W.heap.size, 0, none⟩) 0 0, [])) l4 := ⟨h.bel.trans (hb.mono h.bel.size), h.p.more hb, h.d.build h.bel.size⟩
  go_simp
  exact hk _ _ hn
theorem NX.lP (h : NX w0 W o9 none o4 l4) (hop : o.op = Op.buildSlice 47 1 #[(0, Operand.const (Value.string { data := #[] }))]) (hk : ∀ g w', NX w0 w' o9 (some (g, .string { data := #[] })) o4 l4 → K (a.put o.dst (.slice (some ⟨g, 0, none⟩) 1 1)) w') : o.wp Tryd.prog a W K Q := by
  obtain ⟨ds, op, ty, ps, af, gd⟩ := o
  obtain rfl : op = Op.buildSlice 47 1 #[(0, Operand.const (Value.string { data := #[] }))] := hop
  have hb : Below W.heap.size W (W.alloc (.cells #[.string { data := #[] }] 9)) := (Below.refl _ _).alloc (Nat.le_refl _) _
  have hn : NX w0 (W.alloc (.cells #[.string { data := #[] }] 9)) o9 (some (W.heap.size, .string { data := #[] })) o4 l4 := ⟨h.bel.trans (hb.mono h.bel.size), h.p.lit h.bel.size _, h.d.more hb⟩
  go_simp
  exact hk _ _ hn
theorem NX.lD {x : Operand} {b : Bool} (h : NX w0 W o9 l9 o4 none) (hop : o.op = Op.buildSlice 111 1 #[(0, x)]) (hx : a.eval x = .bool b) (hk : ∀ g w', NX w0 w' o9 l9 o4 (some (g, .bool b)) → K (a.put o.dst (.slice (some ⟨g, 0, none⟩) 1 1)) w') : o.wp Tryd.prog a W K Q := by
  obtain ⟨ds, op, ty, ps, af, gd⟩ := o
  obtain rfl : op = Op.buildSlice 111 1 #[(0, x)] := hop
  have hb : Below W.heap.size W (W.alloc (.cells #[.bool b] 4)) := (Below.refl _ _).alloc (Nat.le_refl _) _
  have hn : NX w0 (W.alloc (.cells #[.bool b] 4)) o9 l9 o4 (some (W.heap.size, .bool b)) := ⟨h.bel.trans (hb.mono h.bel.size), h.p.more hb, h.d.lit h.bel.size _⟩
  simp only [Oper.wp, execOp, hx, List.map_toArray, List.map_cons, List.map_nil]
  go_simp
  exact hk _ _ hn
/-- an append of any row behind an own one -/
theorem NX.aP {v : Value} {xs ys : List Value} {ad : Option Addr} {m c : Nat} (h : NX w0 W (some (v, xs)) l9 o4 l4) (s x : Operand) (hop : o.op = .call { callee := .builtin .append, args := #[s, x], argTypes := #[47, 47] }) (hs : a.eval s = v) (hx : a.eval x = .slice ad m c) (hl : ys.length = m) (hn : ad = none → m = 0) (hc : ∀ b, ad = some b → ∀ j u, ys[j]? = some u → W.cell? (b.add j) = some u) (h1 : ∀ u ∈ ys, u.oneCell' = true) (hm : xs.length + m ≤ 4398046511104)
    (hk : ∀ v' w', NX w0 w' (some (v', xs ++ ys)) l9 o4 l4 → K (a.put o.dst v') w') : o.wp Tryd.prog a W K Q := by
  obtain ⟨i0, hi, hz, hsz, hb⟩ := infoStr
  refine wp_append_src W s x 47 hop w0.heap.size 9 i0 _ 1 16 Tryd.underlying47 hi hz hsz hb rfl (by decide) v xs.length xs hs (h.p.own_ v xs rfl) ad m c ys hx (by rw [hl, Nat.mul_one]) hn hc h1 (by unfold maxLen; omega) (by omega) h.bel.size (fun ad' cap w' q1 q2 q3 => hk _ _ ?_)
  have ho : w'.ownsRow w0.heap.size 9 1 (.slice ad' (xs.length + m) cap) (xs ++ ys).length (xs ++ ys) := by rw [List.length_append, hl]; exact q1
  exact ⟨h.bel.trans ((grown_only q2).below h.bel.size (fun k hk => own_ge2 (h.p.own_ v xs rfl) hk)), h.p.grow ho q2 q3, h.d.other (h.p.own_ v xs rfl) (by decide) q2⟩
theorem NX.aD {v : Value} {xs ys : List Value} {ad : Option Addr} {m c : Nat} (h : NX w0 W o9 l9 (some (v, xs)) l4) (s x : Operand) (hop : o.op = .call { callee := .builtin .append, args := #[s, x], argTypes := #[111, 111] }) (hs : a.eval s = v) (hx : a.eval x = .slice ad m c) (hl : ys.length = m) (hn : ad = none → m = 0) (hc : ∀ b, ad = some b → ∀ j u, ys[j]? = some u → W.cell? (b.add j) = some u) (h1 : ∀ u ∈ ys, u.oneCell' = true) (hm : xs.length + m ≤ 4398046511104)
    (hk : ∀ v' w', NX w0 w' o9 l9 (some (v', xs ++ ys)) l4 → K (a.put o.dst v') w') : o.wp Tryd.prog a W K Q := by
  obtain ⟨i0, hi, hz, hsz, hb⟩ := infoBoo
  refine wp_append_src W s x 111 hop w0.heap.size 4 i0 _ 1 1 Tryd.underlying111 hi hz hsz hb rfl (by decide) v xs.length xs hs (h.d.own_ v xs rfl) ad m c ys hx (by rw [hl, Nat.mul_one]) hn hc h1 (by unfold maxLen; omega) (by omega) h.bel.size (fun ad' cap w' q1 q2 q3 => hk _ _ ?_)
  have ho : w'.ownsRow w0.heap.size 4 1 (.slice ad' (xs.length + m) cap) (xs ++ ys).length (xs ++ ys) := by rw [List.length_append, hl]; exact q1
  exact ⟨h.bel.trans ((grown_only q2).below h.bel.size (fun k hk => own_ge2 (h.d.own_ v xs rfl) hk)), h.p.other (h.d.own_ v xs rfl) (by decide) q2, h.d.grow ho q2 q3⟩
end
theorem sS_one (P : List (List (List UInt8))) : ∀ u ∈ sS P, u.oneCell' = true := by
  intro u hu
  simp only [sS, List.mem_map] at hu
  obtain ⟨x, _, rfl⟩ := hu
  rfl
theorem bS_one (D : List Bool) : ∀ u ∈ bS D, u.oneCell' = true := by
  intro u hu
  simp only [bS, List.mem_map] at hu
  obtain ⟨x, _, rfl⟩ := hu
  rfl
/-- a row's cells, as an append reads them -/
theorem own_cells {w : World} {B e n : Nat} {ad : Option Addr} {c : Nat} {xs : List Value} (h : w.ownsRow B e 1 (.slice ad n c) n xs) : (ad = none → n = 0) ∧ ∀ b, ad = some b → ∀ j u, xs[j]? = some u → w.cell? (b.add j) = some u := by
  rcases h.2 with ⟨h2, h0⟩ | ⟨g, cap, cur, h2, _⟩
  · cases h2
    exact ⟨fun _ => rfl, fun b hb => by cases hb⟩
  · cases h2
    refine ⟨fun hb => (by cases hb), fun b hb j u hu => ?_⟩
    cases hb
    exact World.ownsRow.cells h (g := g) rfl j u hu
theorem lit_cells {w : World} {q e : Nat} {u : Value} (h : RowAt w q e [u]) : ∀ b, some (⟨q, 0, none⟩ : Addr) = some b → ∀ j v, [u][j]? = some v → w.cell? (b.add j) = some v := by
  intro b hb j v hv
  cases hb
  match j with
  | 0 =>
    have e1 : u = v := by simpa using hv
    subst e1
    have := h.cell 0
    simpa [Addr.add_lit] using this
  | j + 1 => simp at hv
theorem anyT_four {P : Program} {ops : Array Oper} {Q : Exit → Act → World → Prop} {md : Region.Mode} {S : World → Prop} {hd : Nat → Bool} {i j l m : Nat} {oi oj ol om : Oper} {fuel : Nat} {listed : Array Bool} {a : Act} {w : World} (hr : Region.ready md ops listed = [i, j, l, m]) (hoi : ops[i]? = some oi) (hoj : ops[j]? = some oj) (hol : ops[l]? = some ol) (hom : ops[m]? = some om)
    (hi : ∀ K' : Act → World → Prop, Shut (∀ a w, (hd i = true → S w) → wpAnyT P md ops Q S hd fuel (listed.setIfInBounds i true) a w → K' a w) → if Region.wanted oi (yielded ops a.tmps) = true then Oper.wp P oi a w K' Q else K' (a.put oi.dst undef) w)
    (hj : ∀ K' : Act → World → Prop, Shut (∀ a w, (hd j = true → S w) → wpAnyT P md ops Q S hd fuel (listed.setIfInBounds j true) a w → K' a w) → if Region.wanted oj (yielded ops a.tmps) = true then Oper.wp P oj a w K' Q else K' (a.put oj.dst undef) w)
    (hl : ∀ K' : Act → World → Prop, Shut (∀ a w, (hd l = true → S w) → wpAnyT P md ops Q S hd fuel (listed.setIfInBounds l true) a w → K' a w) → if Region.wanted ol (yielded ops a.tmps) = true then Oper.wp P ol a w K' Q else K' (a.put ol.dst undef) w)
    (hm : ∀ K' : Act → World → Prop, Shut (∀ a w, (hd m = true → S w) → wpAnyT P md ops Q S hd fuel (listed.setIfInBounds m true) a w → K' a w) → if Region.wanted om (yielded ops a.tmps) = true then Oper.wp P om a w K' Q else K' (a.put om.dst undef) w) :
    wpAnyT P md ops Q S hd (fuel + 1) listed a w := by
  refine ⟨fun h0 => absurd (hr ▸ h0) (by simp), fun k hk => ?_⟩
  rw [hr] at hk
  rcases List.mem_cons.1 hk with rfl | hk
  · exact wpOp_step hoi (fun K' hK => hi K' (fun a w hS hW => hK a w ⟨hS, hW⟩))
  · rcases List.mem_cons.1 hk with rfl | hk
    · exact wpOp_step hoj (fun K' hK => hj K' (fun a w hS hW => hK a w ⟨hS, hW⟩))
    · rcases List.mem_cons.1 hk with rfl | hk
      · exact wpOp_step hol (fun K' hK => hl K' (fun a w hS hW => hK a w ⟨hS, hW⟩))
      · obtain rfl := List.mem_singleton.1 hk
        exact wpOp_step hom (fun K' hK => hm K' (fun a w hS hW => hK a w ⟨hS, hW⟩))
set_option maxRecDepth 100000
abbrev nq0 : Oper := { dst := some 5, op := Op.buildSlice 47 0 #[], type := 47, pos := "ref.go:308", after := #[], guard := none }
abbrev nq1 : Oper := { dst := some 6, op := Op.fieldAddr 113 (Operand.tmp 2) 0, type := 0, pos := "ref.go:308", after := #[], guard := none }
abbrev nq2 : Oper := { dst := some 7, op := Op.load 47 (Operand.tmp 6), type := 47, pos := "ref.go:308", after := #[{ on := 1, ground := Ground.data }], guard := none }
abbrev nq3 : Oper := { dst := some 8, op := Op.call { callee := Callee.builtin Builtin.append, args := #[Operand.tmp 5, Operand.tmp 7], argTypes := #[47, 47] }, type := 47, pos := "ref.go:308", after := #[{ on := 0, ground := Ground.data }, { on := 2, ground := Ground.data }], guard := none }
abbrev nq4 : Oper := { dst := some 9, op := Op.buildSlice 47 1 #[(0, Operand.const (Value.string { data := #[] }))], type := 47, pos := "ref.go:308", after := #[], guard := none }
abbrev nq5 : Oper := { dst := some 10, op := Op.call { callee := Callee.builtin Builtin.append, args := #[Operand.tmp 8, Operand.tmp 9], argTypes := #[47, 47] }, type := 47, pos := "ref.go:308", after := #[{ on := 3, ground := Ground.data }, { on := 4, ground := Ground.data }, { on := 3, ground := Ground.chain }], guard := none }
abbrev nq6 : Oper := { dst := some 11, op := Op.buildSlice 111 0 #[], type := 111, pos := "ref.go:308", after := #[], guard := none }
abbrev nq7 : Oper := { dst := some 12, op := Op.fieldAddr 113 (Operand.tmp 2) 1, type := 0, pos := "ref.go:308", after := #[], guard := none }
abbrev nq8 : Oper := { dst := some 13, op := Op.load 111 (Operand.tmp 12), type := 111, pos := "ref.go:308", after := #[{ on := 7, ground := Ground.data }], guard := none }
abbrev nq9 : Oper := { dst := some 14, op := Op.call { callee := Callee.builtin Builtin.append, args := #[Operand.tmp 11, Operand.tmp 13], argTypes := #[111, 111] }, type := 111, pos := "ref.go:308", after := #[{ on := 6, ground := Ground.data }, { on := 8, ground := Ground.data }, { on := 5, ground := Ground.chain }], guard := none }
abbrev nq10 : Oper := { dst := some 15, op := Op.move (Operand.tmp 1), type := 4, pos := "ref.go:308", after := #[], guard := none }
abbrev nq11 : Oper := { dst := some 16, op := Op.buildSlice 111 1 #[(0, Operand.tmp 15)], type := 111, pos := "ref.go:308", after := #[{ on := 10, ground := Ground.data }], guard := none }
abbrev nq12 : Oper := { dst := some 17, op := Op.call { callee := Callee.builtin Builtin.append, args := #[Operand.tmp 14, Operand.tmp 16], argTypes := #[111, 111] }, type := 111, pos := "ref.go:308", after := #[{ on := 9, ground := Ground.data }, { on := 11, ground := Ground.data }, { on := 9, ground := Ground.chain }], guard := none }
abbrev nq13 : Oper := { dst := some 18, op := Op.build 113 #[(0, Operand.tmp 10), (1, Operand.tmp 17)], type := 113, pos := "ref.go:308", after := #[{ on := 5, ground := Ground.data }, { on := 12, ground := Ground.data }], guard := none }
abbrev nq14 : Oper := { dst := none, op := Op.store 113 (Operand.tmp 4) (Operand.tmp 18), type := 0, pos := "ref.go:308", after := #[{ on := 13, ground := Ground.data }, { on := 12, ground := Ground.chain }, { on := 0, ground := Ground.phase }, { on := 1, ground := Ground.phase }, { on := 2, ground := Ground.phase }, { on := 3, ground := Ground.phase }, { on := 4, ground := Ground.phase }, { on := 5, ground := Ground.phase }, { on := 6, ground := Ground.phase }, { on := 7, ground := Ground.phase }, { on := 8, ground := Ground.phase }, { on := 9, ground := Ground.phase }, { on := 10, ground := Ground.phase }, { on := 11, ground := Ground.phase }, { on := 12, ground := Ground.phase }, { on := 13, ground := Ground.phase }], guard := none }
abbrev nqs : Array Oper := #[nq0, nq1, nq2, nq3, nq4, nq5, nq6, nq7, nq8, nq9, nq10, nq11, nq12, nq13, nq14]
/-- the frame -/
abbrev nF (vP vD : Value) (b : Bool) (bb gr : Nat) (x5 x8 x9 x10 x11 x14 x16 x17 x18 : Value) : Act := { tmps := #[.agg #[vP, vD], .bool b, .pointer (some ⟨bb, 0, none⟩), undef, .pointer (some ⟨gr, 0, none⟩), x5, .pointer (some ⟨bb, 0, none⟩), vP, x8, x9, x10, x11, .pointer (some ⟨bb, 1, none⟩), vD, x14, .bool b, x16, x17, x18], defers := [] }
/-- what the region needs of the old rows, and what it hands on -/
structure Old (w : World) (bb : Nat) (aP aD : Option Addr) (cP cD : Nat) (P : List (List (List UInt8))) (D : List Bool) : Prop where
  s : ∀ W, Below w.heap.size w W → W.cell? ⟨bb, 0, none⟩ = some (.slice aP P.length cP) ∧ W.cell? ⟨bb, 1, none⟩ = some (.slice aD D.length cD)
  np : aP = none → P.length = 0
  nd : aD = none → D.length = 0
  cp : ∀ W, Below w.heap.size w W → ∀ b, aP = some b → ∀ j u, (sS P)[j]? = some u → W.cell? (b.add j) = some u
  cd : ∀ W, Below w.heap.size w W → ∀ b, aD = some b → ∀ j u, (bS D)[j]? = some u → W.cell? (b.add j) = some u
  lp : P.length ≤ 2199023255552
  ld : D.length ≤ 2199023255552
section
variable {w : World} {bb gr : Nat} {aP aD : Option Addr} {cP cD : Nat} {P : List (List (List UInt8))} {D : List Bool} {b : Bool} {Q : Exit → Act → World → Prop}
abbrev nS (bb : Nat) (aP aD : Option Addr) (cP cD : Nat) (P : List (List (List UInt8))) (D : List Bool) : World → Prop := fun W => W.cell? ⟨bb, 0, none⟩ = some (.slice aP P.length cP) ∧ W.cell? ⟨bb, 1, none⟩ = some (.slice aD D.length cD)
/-- the end -/
abbrev nE (w : World) (bb gr : Nat) (aP aD : Option Addr) (cP cD : Nat) (P : List (List (List UInt8))) (D : List Bool) (b : Bool) (Q : Exit → Act → World → Prop) : Prop := ∀ x5 x8 x9 x10 x11 x14 x16 x17 W l9 l4, NX w W (some (x10, sS P ++ [.string { data := #[] }])) l9 (some (x17, bS D ++ [.bool b])) l4 → wpAnyT Tryd.prog .any nqs Q (nS bb aP aD cP cD P D) (fun i => decide (i < 14)) 2 #[true, true, true, true, true, true, true, true, true, true, true, true, true, false, false] (nF (.slice aP P.length cP) (.slice aD D.length cD) b bb gr x5 x8 x9 x10 x11 x14 x16 x17 undef) W
theorem nx4_1111 {x5 : Value} {x8 : Value} {x10 : Value} {x11 : Value} {x14 : Value} {x17 : Value} {g9 : Nat} {g16 : Nat} {W : World} (HO : Old w bb aP aD cP cD P D) (HE : nE w bb gr aP aD cP cD P D b Q) (HN : NX w W (some (x10, sS P ++ [.string { data := #[] }])) (some (g9, .string { data := #[] })) (some (x17, bS D ++ [.bool b])) (some (g16, .bool b))) : wpAnyT Tryd.prog .any nqs Q (nS bb aP aD cP cD P D) (fun i => decide (i < 14)) 2 #[true, true, true, true, true, true, true, true, true, true, true, true, true, false, false] (nF (.slice aP P.length cP) (.slice aD D.length cD) b bb gr x5 x8 (.slice (some ⟨g9, 0, none⟩) 1 1) x10 x11 x14 (.slice (some ⟨g16, 0, none⟩) 1 1) x17 undef) W := by
  exact HE _ _ _ _ _ _ _ _ _ _ _ HN
theorem nx3_1111 {x5 : Value} {x8 : Value} {x10 : Value} {x11 : Value} {x14 : Value} {g9 : Nat} {g16 : Nat} {W : World} (HO : Old w bb aP aD cP cD P D) (HE : nE w bb gr aP aD cP cD P D b Q) (HN : NX w W (some (x10, sS P ++ [.string { data := #[] }])) (some (g9, .string { data := #[] })) (some (x14, bS D)) (some (g16, .bool b))) : wpAnyT Tryd.prog .any nqs Q (nS bb aP aD cP cD P D) (fun i => decide (i < 14)) 3 #[true, true, true, true, true, true, true, true, true, true, true, true, false, false, false] (nF (.slice aP P.length cP) (.slice aD D.length cD) b bb gr x5 x8 (.slice (some ⟨g9, 0, none⟩) 1 1) x10 x11 x14 (.slice (some ⟨g16, 0, none⟩) 1 1) undef undef) W := by
  refine wpAnyT_one (i := 12) (o := nq12) (by kernel_rfl) rfl (fun K hK => ?_)
  rw [if_pos (by rfl)]
  refine HN.aD (ys := [.bool b]) _ _ rfl rfl rfl rfl (fun h => by cases h) (lit_cells (HN.d.lit_ g16 _ rfl).1) (fun u hu => by rw [List.mem_singleton] at hu; rw [hu]; rfl) (by have := HO.ld; rw [bS_len]; omega) (fun x17 W1 hm => ?_)
  exact hK.out _ _ (fun _ => HO.s _ hm.bel) (nx4_1111 HO HE hm)
theorem nx3_1110 {x5 : Value} {x8 : Value} {x10 : Value} {x11 : Value} {x14 : Value} {g9 : Nat} {W : World} (HO : Old w bb aP aD cP cD P D) (HE : nE w bb gr aP aD cP cD P D b Q) (HN : NX w W (some (x10, sS P ++ [.string { data := #[] }])) (some (g9, .string { data := #[] })) (some (x14, bS D)) none) : wpAnyT Tryd.prog .any nqs Q (nS bb aP aD cP cD P D) (fun i => decide (i < 14)) 4 #[true, true, true, true, true, true, true, true, true, true, true, false, false, false, false] (nF (.slice aP P.length cP) (.slice aD D.length cD) b bb gr x5 x8 (.slice (some ⟨g9, 0, none⟩) 1 1) x10 x11 x14 undef undef undef) W := by
  refine wpAnyT_one (i := 11) (o := nq11) (by kernel_rfl) rfl (fun K hK => ?_)
  rw [if_pos (by rfl)]
  refine HN.lD rfl rfl (fun g16 W1 hm => ?_)
  exact hK.out _ _ (fun _ => HO.s _ hm.bel) (nx3_1111 HO HE hm)
theorem nx2_1111 {x5 : Value} {x8 : Value} {x10 : Value} {x11 : Value} {g9 : Nat} {g16 : Nat} {W : World} (HO : Old w bb aP aD cP cD P D) (HE : nE w bb gr aP aD cP cD P D b Q) (HN : NX w W (some (x10, sS P ++ [.string { data := #[] }])) (some (g9, .string { data := #[] })) (some (x11, [])) (some (g16, .bool b))) : wpAnyT Tryd.prog .any nqs Q (nS bb aP aD cP cD P D) (fun i => decide (i < 14)) 4 #[true, true, true, true, true, true, true, true, true, false, true, true, false, false, false] (nF (.slice aP P.length cP) (.slice aD D.length cD) b bb gr x5 x8 (.slice (some ⟨g9, 0, none⟩) 1 1) x10 x11 undef (.slice (some ⟨g16, 0, none⟩) 1 1) undef undef) W := by
  refine wpAnyT_one (i := 9) (o := nq9) (by kernel_rfl) rfl (fun K hK => ?_)
  rw [if_pos (by rfl)]
  refine HN.aD (ys := bS D) _ _ rfl rfl rfl (bS_len D) HO.nd (HO.cd _ HN.bel) (bS_one D) (by have := HO.ld; simp only [List.length_nil]; omega) (fun x14 W1 hm => ?_)
  rw [List.nil_append] at hm
  exact hK.out _ _ (fun _ => HO.s _ hm.bel) (nx3_1111 HO HE hm)
theorem nx2_1110 {x5 : Value} {x8 : Value} {x10 : Value} {x11 : Value} {g9 : Nat} {W : World} (HO : Old w bb aP aD cP cD P D) (HE : nE w bb gr aP aD cP cD P D b Q) (HN : NX w W (some (x10, sS P ++ [.string { data := #[] }])) (some (g9, .string { data := #[] })) (some (x11, [])) none) : wpAnyT Tryd.prog .any nqs Q (nS bb aP aD cP cD P D) (fun i => decide (i < 14)) 5 #[true, true, true, true, true, true, true, true, true, false, true, false, false, false, false] (nF (.slice aP P.length cP) (.slice aD D.length cD) b bb gr x5 x8 (.slice (some ⟨g9, 0, none⟩) 1 1) x10 x11 undef undef undef undef) W := by
  refine anyU_two (i := 9) (j := 11) (oi := nq9) (oj := nq11) (by kernel_rfl) rfl rfl (fun K hK => ?_) (fun K hK => ?_)
  · rw [if_pos (by rfl)]
    refine HN.aD (ys := bS D) _ _ rfl rfl rfl (bS_len D) HO.nd (HO.cd _ HN.bel) (bS_one D) (by have := HO.ld; simp only [List.length_nil]; omega) (fun x14 W1 hm => ?_)
    rw [List.nil_append] at hm
    exact hK.out _ _ (fun _ => HO.s _ hm.bel) (nx3_1110 HO HE hm)
  · rw [if_pos (by rfl)]
    refine HN.lD rfl rfl (fun g16 W1 hm => ?_)
    exact hK.out _ _ (fun _ => HO.s _ hm.bel) (nx2_1111 HO HE hm)
theorem nx2_1101 {x5 : Value} {x8 : Value} {x10 : Value} {g9 : Nat} {g16 : Nat} {W : World} (HO : Old w bb aP aD cP cD P D) (HE : nE w bb gr aP aD cP cD P D b Q) (HN : NX w W (some (x10, sS P ++ [.string { data := #[] }])) (some (g9, .string { data := #[] })) none (some (g16, .bool b))) : wpAnyT Tryd.prog .any nqs Q (nS bb aP aD cP cD P D) (fun i => decide (i < 14)) 5 #[true, true, true, true, true, true, false, true, true, false, true, true, false, false, false] (nF (.slice aP P.length cP) (.slice aD D.length cD) b bb gr x5 x8 (.slice (some ⟨g9, 0, none⟩) 1 1) x10 undef undef (.slice (some ⟨g16, 0, none⟩) 1 1) undef undef) W := by
  refine wpAnyT_one (i := 6) (o := nq6) (by kernel_rfl) rfl (fun K hK => ?_)
  rw [if_pos (by rfl)]
  refine HN.bD rfl (fun x11 W1 hm => ?_)
  exact hK.out _ _ (fun _ => HO.s _ hm.bel) (nx2_1111 HO HE hm)
theorem nx2_1100 {x5 : Value} {x8 : Value} {x10 : Value} {g9 : Nat} {W : World} (HO : Old w bb aP aD cP cD P D) (HE : nE w bb gr aP aD cP cD P D b Q) (HN : NX w W (some (x10, sS P ++ [.string { data := #[] }])) (some (g9, .string { data := #[] })) none none) : wpAnyT Tryd.prog .any nqs Q (nS bb aP aD cP cD P D) (fun i => decide (i < 14)) 6 #[true, true, true, true, true, true, false, true, true, false, true, false, false, false, false] (nF (.slice aP P.length cP) (.slice aD D.length cD) b bb gr x5 x8 (.slice (some ⟨g9, 0, none⟩) 1 1) x10 undef undef undef undef undef) W := by
  refine anyU_two (i := 6) (j := 11) (oi := nq6) (oj := nq11) (by kernel_rfl) rfl rfl (fun K hK => ?_) (fun K hK => ?_)
  · rw [if_pos (by rfl)]
    refine HN.bD rfl (fun x11 W1 hm => ?_)
    exact hK.out _ _ (fun _ => HO.s _ hm.bel) (nx2_1110 HO HE hm)
  · rw [if_pos (by rfl)]
    refine HN.lD rfl rfl (fun g16 W1 hm => ?_)
    exact hK.out _ _ (fun _ => HO.s _ hm.bel) (nx2_1101 HO HE hm)
theorem nx1_1111 {x5 : Value} {x8 : Value} {x11 : Value} {g9 : Nat} {g16 : Nat} {W : World} (HO : Old w bb aP aD cP cD P D) (HE : nE w bb gr aP aD cP cD P D b Q) (HN : NX w W (some (x8, sS P)) (some (g9, .string { data := #[] })) (some (x11, [])) (some (g16, .bool b))) : wpAnyT Tryd.prog .any nqs Q (nS bb aP aD cP cD P D) (fun i => decide (i < 14)) 5 #[true, true, true, true, true, false, true, true, true, false, true, true, false, false, false] (nF (.slice aP P.length cP) (.slice aD D.length cD) b bb gr x5 x8 (.slice (some ⟨g9, 0, none⟩) 1 1) undef x11 undef (.slice (some ⟨g16, 0, none⟩) 1 1) undef undef) W := by
  refine wpAnyT_one (i := 5) (o := nq5) (by kernel_rfl) rfl (fun K hK => ?_)
  rw [if_pos (by rfl)]
  refine HN.aP (ys := [.string { data := #[] }]) _ _ rfl rfl rfl rfl (fun h => by cases h) (lit_cells (HN.p.lit_ g9 _ rfl).1) (fun u hu => by rw [List.mem_singleton] at hu; rw [hu]; rfl) (by have := HO.lp; rw [sS_len]; omega) (fun x10 W1 hm => ?_)
  exact hK.out _ _ (fun _ => HO.s _ hm.bel) (nx2_1111 HO HE hm)
theorem nx1_1110 {x5 : Value} {x8 : Value} {x11 : Value} {g9 : Nat} {W : World} (HO : Old w bb aP aD cP cD P D) (HE : nE w bb gr aP aD cP cD P D b Q) (HN : NX w W (some (x8, sS P)) (some (g9, .string { data := #[] })) (some (x11, [])) none) : wpAnyT Tryd.prog .any nqs Q (nS bb aP aD cP cD P D) (fun i => decide (i < 14)) 6 #[true, true, true, true, true, false, true, true, true, false, true, false, false, false, false] (nF (.slice aP P.length cP) (.slice aD D.length cD) b bb gr x5 x8 (.slice (some ⟨g9, 0, none⟩) 1 1) undef x11 undef undef undef undef) W := by
  refine anyU_two (i := 5) (j := 11) (oi := nq5) (oj := nq11) (by kernel_rfl) rfl rfl (fun K hK => ?_) (fun K hK => ?_)
  · rw [if_pos (by rfl)]
    refine HN.aP (ys := [.string { data := #[] }]) _ _ rfl rfl rfl rfl (fun h => by cases h) (lit_cells (HN.p.lit_ g9 _ rfl).1) (fun u hu => by rw [List.mem_singleton] at hu; rw [hu]; rfl) (by have := HO.lp; rw [sS_len]; omega) (fun x10 W1 hm => ?_)
    exact hK.out _ _ (fun _ => HO.s _ hm.bel) (nx2_1110 HO HE hm)
  · rw [if_pos (by rfl)]
    refine HN.lD rfl rfl (fun g16 W1 hm => ?_)
    exact hK.out _ _ (fun _ => HO.s _ hm.bel) (nx1_1111 HO HE hm)
theorem nx1_1101 {x5 : Value} {x8 : Value} {g9 : Nat} {g16 : Nat} {W : World} (HO : Old w bb aP aD cP cD P D) (HE : nE w bb gr aP aD cP cD P D b Q) (HN : NX w W (some (x8, sS P)) (some (g9, .string { data := #[] })) none (some (g16, .bool b))) : wpAnyT Tryd.prog .any nqs Q (nS bb aP aD cP cD P D) (fun i => decide (i < 14)) 6 #[true, true, true, true, true, false, false, true, true, false, true, true, false, false, false] (nF (.slice aP P.length cP) (.slice aD D.length cD) b bb gr x5 x8 (.slice (some ⟨g9, 0, none⟩) 1 1) undef undef undef (.slice (some ⟨g16, 0, none⟩) 1 1) undef undef) W := by
  refine anyU_two (i := 5) (j := 6) (oi := nq5) (oj := nq6) (by kernel_rfl) rfl rfl (fun K hK => ?_) (fun K hK => ?_)
  · rw [if_pos (by rfl)]
    refine HN.aP (ys := [.string { data := #[] }]) _ _ rfl rfl rfl rfl (fun h => by cases h) (lit_cells (HN.p.lit_ g9 _ rfl).1) (fun u hu => by rw [List.mem_singleton] at hu; rw [hu]; rfl) (by have := HO.lp; rw [sS_len]; omega) (fun x10 W1 hm => ?_)
    exact hK.out _ _ (fun _ => HO.s _ hm.bel) (nx2_1101 HO HE hm)
  · rw [if_pos (by rfl)]
    refine HN.bD rfl (fun x11 W1 hm => ?_)
    exact hK.out _ _ (fun _ => HO.s _ hm.bel) (nx1_1111 HO HE hm)
theorem nx1_1011 {x5 : Value} {x8 : Value} {x11 : Value} {g16 : Nat} {W : World} (HO : Old w bb aP aD cP cD P D) (HE : nE w bb gr aP aD cP cD P D b Q) (HN : NX w W (some (x8, sS P)) none (some (x11, [])) (some (g16, .bool b))) : wpAnyT Tryd.prog .any nqs Q (nS bb aP aD cP cD P D) (fun i => decide (i < 14)) 6 #[true, true, true, true, false, false, true, true, true, false, true, true, false, false, false] (nF (.slice aP P.length cP) (.slice aD D.length cD) b bb gr x5 x8 undef undef x11 undef (.slice (some ⟨g16, 0, none⟩) 1 1) undef undef) W := by
  refine wpAnyT_one (i := 4) (o := nq4) (by kernel_rfl) rfl (fun K hK => ?_)
  rw [if_pos (by rfl)]
  refine HN.lP rfl (fun g9 W1 hm => ?_)
  exact hK.out _ _ (fun _ => HO.s _ hm.bel) (nx1_1111 HO HE hm)
theorem nx1_1100 {x5 : Value} {x8 : Value} {g9 : Nat} {W : World} (HO : Old w bb aP aD cP cD P D) (HE : nE w bb gr aP aD cP cD P D b Q) (HN : NX w W (some (x8, sS P)) (some (g9, .string { data := #[] })) none none) : wpAnyT Tryd.prog .any nqs Q (nS bb aP aD cP cD P D) (fun i => decide (i < 14)) 7 #[true, true, true, true, true, false, false, true, true, false, true, false, false, false, false] (nF (.slice aP P.length cP) (.slice aD D.length cD) b bb gr x5 x8 (.slice (some ⟨g9, 0, none⟩) 1 1) undef undef undef undef undef undef) W := by
  refine anyT_three (i := 5) (j := 6) (l := 11) (oi := nq5) (oj := nq6) (ol := nq11) (by kernel_rfl) rfl rfl rfl (fun K hK => ?_) (fun K hK => ?_) (fun K hK => ?_)
  · rw [if_pos (by rfl)]
    refine HN.aP (ys := [.string { data := #[] }]) _ _ rfl rfl rfl rfl (fun h => by cases h) (lit_cells (HN.p.lit_ g9 _ rfl).1) (fun u hu => by rw [List.mem_singleton] at hu; rw [hu]; rfl) (by have := HO.lp; rw [sS_len]; omega) (fun x10 W1 hm => ?_)
    exact hK.out _ _ (fun _ => HO.s _ hm.bel) (nx2_1100 HO HE hm)
  · rw [if_pos (by rfl)]
    refine HN.bD rfl (fun x11 W1 hm => ?_)
    exact hK.out _ _ (fun _ => HO.s _ hm.bel) (nx1_1110 HO HE hm)
  · rw [if_pos (by rfl)]
    refine HN.lD rfl rfl (fun g16 W1 hm => ?_)
    exact hK.out _ _ (fun _ => HO.s _ hm.bel) (nx1_1101 HO HE hm)
theorem nx1_1010 {x5 : Value} {x8 : Value} {x11 : Value} {W : World} (HO : Old w bb aP aD cP cD P D) (HE : nE w bb gr aP aD cP cD P D b Q) (HN : NX w W (some (x8, sS P)) none (some (x11, [])) none) : wpAnyT Tryd.prog .any nqs Q (nS bb aP aD cP cD P D) (fun i => decide (i < 14)) 7 #[true, true, true, true, false, false, true, true, true, false, true, false, false, false, false] (nF (.slice aP P.length cP) (.slice aD D.length cD) b bb gr x5 x8 undef undef x11 undef undef undef undef) W := by
  refine anyU_two (i := 4) (j := 11) (oi := nq4) (oj := nq11) (by kernel_rfl) rfl rfl (fun K hK => ?_) (fun K hK => ?_)
  · rw [if_pos (by rfl)]
    refine HN.lP rfl (fun g9 W1 hm => ?_)
    exact hK.out _ _ (fun _ => HO.s _ hm.bel) (nx1_1110 HO HE hm)
  · rw [if_pos (by rfl)]
    refine HN.lD rfl rfl (fun g16 W1 hm => ?_)
    exact hK.out _ _ (fun _ => HO.s _ hm.bel) (nx1_1011 HO HE hm)
theorem nx1_1001 {x5 : Value} {x8 : Value} {g16 : Nat} {W : World} (HO : Old w bb aP aD cP cD P D) (HE : nE w bb gr aP aD cP cD P D b Q) (HN : NX w W (some (x8, sS P)) none none (some (g16, .bool b))) : wpAnyT Tryd.prog .any nqs Q (nS bb aP aD cP cD P D) (fun i => decide (i < 14)) 7 #[true, true, true, true, false, false, false, true, true, false, true, true, false, false, false] (nF (.slice aP P.length cP) (.slice aD D.length cD) b bb gr x5 x8 undef undef undef undef (.slice (some ⟨g16, 0, none⟩) 1 1) undef undef) W := by
  refine anyU_two (i := 4) (j := 6) (oi := nq4) (oj := nq6) (by kernel_rfl) rfl rfl (fun K hK => ?_) (fun K hK => ?_)
  · rw [if_pos (by rfl)]
    refine HN.lP rfl (fun g9 W1 hm => ?_)
    exact hK.out _ _ (fun _ => HO.s _ hm.bel) (nx1_1101 HO HE hm)
  · rw [if_pos (by rfl)]
    refine HN.bD rfl (fun x11 W1 hm => ?_)
    exact hK.out _ _ (fun _ => HO.s _ hm.bel) (nx1_1011 HO HE hm)
theorem nx1_1000 {x5 : Value} {x8 : Value} {W : World} (HO : Old w bb aP aD cP cD P D) (HE : nE w bb gr aP aD cP cD P D b Q) (HN : NX w W (some (x8, sS P)) none none none) : wpAnyT Tryd.prog .any nqs Q (nS bb aP aD cP cD P D) (fun i => decide (i < 14)) 8 #[true, true, true, true, false, false, false, true, true, false, true, false, false, false, false] (nF (.slice aP P.length cP) (.slice aD D.length cD) b bb gr x5 x8 undef undef undef undef undef undef undef) W := by
  refine anyT_three (i := 4) (j := 6) (l := 11) (oi := nq4) (oj := nq6) (ol := nq11) (by kernel_rfl) rfl rfl rfl (fun K hK => ?_) (fun K hK => ?_) (fun K hK => ?_)
  · rw [if_pos (by rfl)]
    refine HN.lP rfl (fun g9 W1 hm => ?_)
    exact hK.out _ _ (fun _ => HO.s _ hm.bel) (nx1_1100 HO HE hm)
  · rw [if_pos (by rfl)]
    refine HN.bD rfl (fun x11 W1 hm => ?_)
    exact hK.out _ _ (fun _ => HO.s _ hm.bel) (nx1_1010 HO HE hm)
  · rw [if_pos (by rfl)]
    refine HN.lD rfl rfl (fun g16 W1 hm => ?_)
    exact hK.out _ _ (fun _ => HO.s _ hm.bel) (nx1_1001 HO HE hm)
theorem nx0_1111 {x5 : Value} {x11 : Value} {g9 : Nat} {g16 : Nat} {W : World} (HO : Old w bb aP aD cP cD P D) (HE : nE w bb gr aP aD cP cD P D b Q) (HN : NX w W (some (x5, [])) (some (g9, .string { data := #[] })) (some (x11, [])) (some (g16, .bool b))) : wpAnyT Tryd.prog .any nqs Q (nS bb aP aD cP cD P D) (fun i => decide (i < 14)) 6 #[true, true, true, false, true, false, true, true, true, false, true, true, false, false, false] (nF (.slice aP P.length cP) (.slice aD D.length cD) b bb gr x5 undef (.slice (some ⟨g9, 0, none⟩) 1 1) undef x11 undef (.slice (some ⟨g16, 0, none⟩) 1 1) undef undef) W := by
  refine wpAnyT_one (i := 3) (o := nq3) (by kernel_rfl) rfl (fun K hK => ?_)
  rw [if_pos (by rfl)]
  refine HN.aP (ys := sS P) _ _ rfl rfl rfl (sS_len P) HO.np (HO.cp _ HN.bel) (sS_one P) (by have := HO.lp; simp only [List.length_nil]; omega) (fun x8 W1 hm => ?_)
  rw [List.nil_append] at hm
  exact hK.out _ _ (fun _ => HO.s _ hm.bel) (nx1_1111 HO HE hm)
theorem nx0_1110 {x5 : Value} {x11 : Value} {g9 : Nat} {W : World} (HO : Old w bb aP aD cP cD P D) (HE : nE w bb gr aP aD cP cD P D b Q) (HN : NX w W (some (x5, [])) (some (g9, .string { data := #[] })) (some (x11, [])) none) : wpAnyT Tryd.prog .any nqs Q (nS bb aP aD cP cD P D) (fun i => decide (i < 14)) 7 #[true, true, true, false, true, false, true, true, true, false, true, false, false, false, false] (nF (.slice aP P.length cP) (.slice aD D.length cD) b bb gr x5 undef (.slice (some ⟨g9, 0, none⟩) 1 1) undef x11 undef undef undef undef) W := by
  refine anyU_two (i := 3) (j := 11) (oi := nq3) (oj := nq11) (by kernel_rfl) rfl rfl (fun K hK => ?_) (fun K hK => ?_)
  · rw [if_pos (by rfl)]
    refine HN.aP (ys := sS P) _ _ rfl rfl rfl (sS_len P) HO.np (HO.cp _ HN.bel) (sS_one P) (by have := HO.lp; simp only [List.length_nil]; omega) (fun x8 W1 hm => ?_)
    rw [List.nil_append] at hm
    exact hK.out _ _ (fun _ => HO.s _ hm.bel) (nx1_1110 HO HE hm)
  · rw [if_pos (by rfl)]
    refine HN.lD rfl rfl (fun g16 W1 hm => ?_)
    exact hK.out _ _ (fun _ => HO.s _ hm.bel) (nx0_1111 HO HE hm)
theorem nx0_1101 {x5 : Value} {g9 : Nat} {g16 : Nat} {W : World} (HO : Old w bb aP aD cP cD P D) (HE : nE w bb gr aP aD cP cD P D b Q) (HN : NX w W (some (x5, [])) (some (g9, .string { data := #[] })) none (some (g16, .bool b))) : wpAnyT Tryd.prog .any nqs Q (nS bb aP aD cP cD P D) (fun i => decide (i < 14)) 7 #[true, true, true, false, true, false, false, true, true, false, true, true, false, false, false] (nF (.slice aP P.length cP) (.slice aD D.length cD) b bb gr x5 undef (.slice (some ⟨g9, 0, none⟩) 1 1) undef undef undef (.slice (some ⟨g16, 0, none⟩) 1 1) undef undef) W := by
  refine anyU_two (i := 3) (j := 6) (oi := nq3) (oj := nq6) (by kernel_rfl) rfl rfl (fun K hK => ?_) (fun K hK => ?_)
  · rw [if_pos (by rfl)]
    refine HN.aP (ys := sS P) _ _ rfl rfl rfl (sS_len P) HO.np (HO.cp _ HN.bel) (sS_one P) (by have := HO.lp; simp only [List.length_nil]; omega) (fun x8 W1 hm => ?_)
    rw [List.nil_append] at hm
    exact hK.out _ _ (fun _ => HO.s _ hm.bel) (nx1_1101 HO HE hm)
  · rw [if_pos (by rfl)]
    refine HN.bD rfl (fun x11 W1 hm => ?_)
    exact hK.out _ _ (fun _ => HO.s _ hm.bel) (nx0_1111 HO HE hm)
theorem nx0_1011 {x5 : Value} {x11 : Value} {g16 : Nat} {W : World} (HO : Old w bb aP aD cP cD P D) (HE : nE w bb gr aP aD cP cD P D b Q) (HN : NX w W (some (x5, [])) none (some (x11, [])) (some (g16, .bool b))) : wpAnyT Tryd.prog .any nqs Q (nS bb aP aD cP cD P D) (fun i => decide (i < 14)) 7 #[true, true, true, false, false, false, true, true, true, false, true, true, false, false, false] (nF (.slice aP P.length cP) (.slice aD D.length cD) b bb gr x5 undef undef undef x11 undef (.slice (some ⟨g16, 0, none⟩) 1 1) undef undef) W := by
  refine anyU_two (i := 3) (j := 4) (oi := nq3) (oj := nq4) (by kernel_rfl) rfl rfl (fun K hK => ?_) (fun K hK => ?_)
  · rw [if_pos (by rfl)]
    refine HN.aP (ys := sS P) _ _ rfl rfl rfl (sS_len P) HO.np (HO.cp _ HN.bel) (sS_one P) (by have := HO.lp; simp only [List.length_nil]; omega) (fun x8 W1 hm => ?_)
    rw [List.nil_append] at hm
    exact hK.out _ _ (fun _ => HO.s _ hm.bel) (nx1_1011 HO HE hm)
  · rw [if_pos (by rfl)]
    refine HN.lP rfl (fun g9 W1 hm => ?_)
    exact hK.out _ _ (fun _ => HO.s _ hm.bel) (nx0_1111 HO HE hm)
theorem nx0_0111 {x11 : Value} {g9 : Nat} {g16 : Nat} {W : World} (HO : Old w bb aP aD cP cD P D) (HE : nE w bb gr aP aD cP cD P D b Q) (HN : NX w W none (some (g9, .string { data := #[] })) (some (x11, [])) (some (g16, .bool b))) : wpAnyT Tryd.prog .any nqs Q (nS bb aP aD cP cD P D) (fun i => decide (i < 14)) 7 #[false, true, true, false, true, false, true, true, true, false, true, true, false, false, false] (nF (.slice aP P.length cP) (.slice aD D.length cD) b bb gr undef undef (.slice (some ⟨g9, 0, none⟩) 1 1) undef x11 undef (.slice (some ⟨g16, 0, none⟩) 1 1) undef undef) W := by
  refine wpAnyT_one (i := 0) (o := nq0) (by kernel_rfl) rfl (fun K hK => ?_)
  rw [if_pos (by rfl)]
  refine HN.bP rfl (fun x5 W1 hm => ?_)
  exact hK.out _ _ (fun _ => HO.s _ hm.bel) (nx0_1111 HO HE hm)
theorem nx0_1100 {x5 : Value} {g9 : Nat} {W : World} (HO : Old w bb aP aD cP cD P D) (HE : nE w bb gr aP aD cP cD P D b Q) (HN : NX w W (some (x5, [])) (some (g9, .string { data := #[] })) none none) : wpAnyT Tryd.prog .any nqs Q (nS bb aP aD cP cD P D) (fun i => decide (i < 14)) 8 #[true, true, true, false, true, false, false, true, true, false, true, false, false, false, false] (nF (.slice aP P.length cP) (.slice aD D.length cD) b bb gr x5 undef (.slice (some ⟨g9, 0, none⟩) 1 1) undef undef undef undef undef undef) W := by
  refine anyT_three (i := 3) (j := 6) (l := 11) (oi := nq3) (oj := nq6) (ol := nq11) (by kernel_rfl) rfl rfl rfl (fun K hK => ?_) (fun K hK => ?_) (fun K hK => ?_)
  · rw [if_pos (by rfl)]
    refine HN.aP (ys := sS P) _ _ rfl rfl rfl (sS_len P) HO.np (HO.cp _ HN.bel) (sS_one P) (by have := HO.lp; simp only [List.length_nil]; omega) (fun x8 W1 hm => ?_)
    rw [List.nil_append] at hm
    exact hK.out _ _ (fun _ => HO.s _ hm.bel) (nx1_1100 HO HE hm)
  · rw [if_pos (by rfl)]
    refine HN.bD rfl (fun x11 W1 hm => ?_)
    exact hK.out _ _ (fun _ => HO.s _ hm.bel) (nx0_1110 HO HE hm)
  · rw [if_pos (by rfl)]
    refine HN.lD rfl rfl (fun g16 W1 hm => ?_)
    exact hK.out _ _ (fun _ => HO.s _ hm.bel) (nx0_1101 HO HE hm)
theorem nx0_1010 {x5 : Value} {x11 : Value} {W : World} (HO : Old w bb aP aD cP cD P D) (HE : nE w bb gr aP aD cP cD P D b Q) (HN : NX w W (some (x5, [])) none (some (x11, [])) none) : wpAnyT Tryd.prog .any nqs Q (nS bb aP aD cP cD P D) (fun i => decide (i < 14)) 8 #[true, true, true, false, false, false, true, true, true, false, true, false, false, false, false] (nF (.slice aP P.length cP) (.slice aD D.length cD) b bb gr x5 undef undef undef x11 undef undef undef undef) W := by
  refine anyT_three (i := 3) (j := 4) (l := 11) (oi := nq3) (oj := nq4) (ol := nq11) (by kernel_rfl) rfl rfl rfl (fun K hK => ?_) (fun K hK => ?_) (fun K hK => ?_)
  · rw [if_pos (by rfl)]
    refine HN.aP (ys := sS P) _ _ rfl rfl rfl (sS_len P) HO.np (HO.cp _ HN.bel) (sS_one P) (by have := HO.lp; simp only [List.length_nil]; omega) (fun x8 W1 hm => ?_)
    rw [List.nil_append] at hm
    exact hK.out _ _ (fun _ => HO.s _ hm.bel) (nx1_1010 HO HE hm)
  · rw [if_pos (by rfl)]
    refine HN.lP rfl (fun g9 W1 hm => ?_)
    exact hK.out _ _ (fun _ => HO.s _ hm.bel) (nx0_1110 HO HE hm)
  · rw [if_pos (by rfl)]
    refine HN.lD rfl rfl (fun g16 W1 hm => ?_)
    exact hK.out _ _ (fun _ => HO.s _ hm.bel) (nx0_1011 HO HE hm)
theorem nx0_1001 {x5 : Value} {g16 : Nat} {W : World} (HO : Old w bb aP aD cP cD P D) (HE : nE w bb gr aP aD cP cD P D b Q) (HN : NX w W (some (x5, [])) none none (some (g16, .bool b))) : wpAnyT Tryd.prog .any nqs Q (nS bb aP aD cP cD P D) (fun i => decide (i < 14)) 8 #[true, true, true, false, false, false, false, true, true, false, true, true, false, false, false] (nF (.slice aP P.length cP) (.slice aD D.length cD) b bb gr x5 undef undef undef undef undef (.slice (some ⟨g16, 0, none⟩) 1 1) undef undef) W := by
  refine anyT_three (i := 3) (j := 4) (l := 6) (oi := nq3) (oj := nq4) (ol := nq6) (by kernel_rfl) rfl rfl rfl (fun K hK => ?_) (fun K hK => ?_) (fun K hK => ?_)
  · rw [if_pos (by rfl)]
    refine HN.aP (ys := sS P) _ _ rfl rfl rfl (sS_len P) HO.np (HO.cp _ HN.bel) (sS_one P) (by have := HO.lp; simp only [List.length_nil]; omega) (fun x8 W1 hm => ?_)
    rw [List.nil_append] at hm
    exact hK.out _ _ (fun _ => HO.s _ hm.bel) (nx1_1001 HO HE hm)
  · rw [if_pos (by rfl)]
    refine HN.lP rfl (fun g9 W1 hm => ?_)
    exact hK.out _ _ (fun _ => HO.s _ hm.bel) (nx0_1101 HO HE hm)
  · rw [if_pos (by rfl)]
    refine HN.bD rfl (fun x11 W1 hm => ?_)
    exact hK.out _ _ (fun _ => HO.s _ hm.bel) (nx0_1011 HO HE hm)
theorem nx0_0110 {x11 : Value} {g9 : Nat} {W : World} (HO : Old w bb aP aD cP cD P D) (HE : nE w bb gr aP aD cP cD P D b Q) (HN : NX w W none (some (g9, .string { data := #[] })) (some (x11, [])) none) : wpAnyT Tryd.prog .any nqs Q (nS bb aP aD cP cD P D) (fun i => decide (i < 14)) 8 #[false, true, true, false, true, false, true, true, true, false, true, false, false, false, false] (nF (.slice aP P.length cP) (.slice aD D.length cD) b bb gr undef undef (.slice (some ⟨g9, 0, none⟩) 1 1) undef x11 undef undef undef undef) W := by
  refine anyU_two (i := 0) (j := 11) (oi := nq0) (oj := nq11) (by kernel_rfl) rfl rfl (fun K hK => ?_) (fun K hK => ?_)
  · rw [if_pos (by rfl)]
    refine HN.bP rfl (fun x5 W1 hm => ?_)
    exact hK.out _ _ (fun _ => HO.s _ hm.bel) (nx0_1110 HO HE hm)
  · rw [if_pos (by rfl)]
    refine HN.lD rfl rfl (fun g16 W1 hm => ?_)
    exact hK.out _ _ (fun _ => HO.s _ hm.bel) (nx0_0111 HO HE hm)
theorem nx0_0101 {g9 : Nat} {g16 : Nat} {W : World} (HO : Old w bb aP aD cP cD P D) (HE : nE w bb gr aP aD cP cD P D b Q) (HN : NX w W none (some (g9, .string { data := #[] })) none (some (g16, .bool b))) : wpAnyT Tryd.prog .any nqs Q (nS bb aP aD cP cD P D) (fun i => decide (i < 14)) 8 #[false, true, true, false, true, false, false, true, true, false, true, true, false, false, false] (nF (.slice aP P.length cP) (.slice aD D.length cD) b bb gr undef undef (.slice (some ⟨g9, 0, none⟩) 1 1) undef undef undef (.slice (some ⟨g16, 0, none⟩) 1 1) undef undef) W := by
  refine anyU_two (i := 0) (j := 6) (oi := nq0) (oj := nq6) (by kernel_rfl) rfl rfl (fun K hK => ?_) (fun K hK => ?_)
  · rw [if_pos (by rfl)]
    refine HN.bP rfl (fun x5 W1 hm => ?_)
    exact hK.out _ _ (fun _ => HO.s _ hm.bel) (nx0_1101 HO HE hm)
  · rw [if_pos (by rfl)]
    refine HN.bD rfl (fun x11 W1 hm => ?_)
    exact hK.out _ _ (fun _ => HO.s _ hm.bel) (nx0_0111 HO HE hm)
theorem nx0_0011 {x11 : Value} {g16 : Nat} {W : World} (HO : Old w bb aP aD cP cD P D) (HE : nE w bb gr aP aD cP cD P D b Q) (HN : NX w W none none (some (x11, [])) (some (g16, .bool b))) : wpAnyT Tryd.prog .any nqs Q (nS bb aP aD cP cD P D) (fun i => decide (i < 14)) 8 #[false, true, true, false, false, false, true, true, true, false, true, true, false, false, false] (nF (.slice aP P.length cP) (.slice aD D.length cD) b bb gr undef undef undef undef x11 undef (.slice (some ⟨g16, 0, none⟩) 1 1) undef undef) W := by
  refine anyU_two (i := 0) (j := 4) (oi := nq0) (oj := nq4) (by kernel_rfl) rfl rfl (fun K hK => ?_) (fun K hK => ?_)
  · rw [if_pos (by rfl)]
    refine HN.bP rfl (fun x5 W1 hm => ?_)
    exact hK.out _ _ (fun _ => HO.s _ hm.bel) (nx0_1011 HO HE hm)
  · rw [if_pos (by rfl)]
    refine HN.lP rfl (fun g9 W1 hm => ?_)
    exact hK.out _ _ (fun _ => HO.s _ hm.bel) (nx0_0111 HO HE hm)
theorem nx0_1000 {x5 : Value} {W : World} (HO : Old w bb aP aD cP cD P D) (HE : nE w bb gr aP aD cP cD P D b Q) (HN : NX w W (some (x5, [])) none none none) : wpAnyT Tryd.prog .any nqs Q (nS bb aP aD cP cD P D) (fun i => decide (i < 14)) 9 #[true, true, true, false, false, false, false, true, true, false, true, false, false, false, false] (nF (.slice aP P.length cP) (.slice aD D.length cD) b bb gr x5 undef undef undef undef undef undef undef undef) W := by
  refine anyT_four (i := 3) (j := 4) (l := 6) (m := 11) (oi := nq3) (oj := nq4) (ol := nq6) (om := nq11) (by kernel_rfl) rfl rfl rfl rfl (fun K hK => ?_) (fun K hK => ?_) (fun K hK => ?_) (fun K hK => ?_)
  · rw [if_pos (by rfl)]
    refine HN.aP (ys := sS P) _ _ rfl rfl rfl (sS_len P) HO.np (HO.cp _ HN.bel) (sS_one P) (by have := HO.lp; simp only [List.length_nil]; omega) (fun x8 W1 hm => ?_)
    rw [List.nil_append] at hm
    exact hK.out _ _ (fun _ => HO.s _ hm.bel) (nx1_1000 HO HE hm)
  · rw [if_pos (by rfl)]
    refine HN.lP rfl (fun g9 W1 hm => ?_)
    exact hK.out _ _ (fun _ => HO.s _ hm.bel) (nx0_1100 HO HE hm)
  · rw [if_pos (by rfl)]
    refine HN.bD rfl (fun x11 W1 hm => ?_)
    exact hK.out _ _ (fun _ => HO.s _ hm.bel) (nx0_1010 HO HE hm)
  · rw [if_pos (by rfl)]
    refine HN.lD rfl rfl (fun g16 W1 hm => ?_)
    exact hK.out _ _ (fun _ => HO.s _ hm.bel) (nx0_1001 HO HE hm)
theorem nx0_0100 {g9 : Nat} {W : World} (HO : Old w bb aP aD cP cD P D) (HE : nE w bb gr aP aD cP cD P D b Q) (HN : NX w W none (some (g9, .string { data := #[] })) none none) : wpAnyT Tryd.prog .any nqs Q (nS bb aP aD cP cD P D) (fun i => decide (i < 14)) 9 #[false, true, true, false, true, false, false, true, true, false, true, false, false, false, false] (nF (.slice aP P.length cP) (.slice aD D.length cD) b bb gr undef undef (.slice (some ⟨g9, 0, none⟩) 1 1) undef undef undef undef undef undef) W := by
  refine anyT_three (i := 0) (j := 6) (l := 11) (oi := nq0) (oj := nq6) (ol := nq11) (by kernel_rfl) rfl rfl rfl (fun K hK => ?_) (fun K hK => ?_) (fun K hK => ?_)
  · rw [if_pos (by rfl)]
    refine HN.bP rfl (fun x5 W1 hm => ?_)
    exact hK.out _ _ (fun _ => HO.s _ hm.bel) (nx0_1100 HO HE hm)
  · rw [if_pos (by rfl)]
    refine HN.bD rfl (fun x11 W1 hm => ?_)
    exact hK.out _ _ (fun _ => HO.s _ hm.bel) (nx0_0110 HO HE hm)
  · rw [if_pos (by rfl)]
    refine HN.lD rfl rfl (fun g16 W1 hm => ?_)
    exact hK.out _ _ (fun _ => HO.s _ hm.bel) (nx0_0101 HO HE hm)
theorem nx0_0010 {x11 : Value} {W : World} (HO : Old w bb aP aD cP cD P D) (HE : nE w bb gr aP aD cP cD P D b Q) (HN : NX w W none none (some (x11, [])) none) : wpAnyT Tryd.prog .any nqs Q (nS bb aP aD cP cD P D) (fun i => decide (i < 14)) 9 #[false, true, true, false, false, false, true, true, true, false, true, false, false, false, false] (nF (.slice aP P.length cP) (.slice aD D.length cD) b bb gr undef undef undef undef x11 undef undef undef undef) W := by
  refine anyT_three (i := 0) (j := 4) (l := 11) (oi := nq0) (oj := nq4) (ol := nq11) (by kernel_rfl) rfl rfl rfl (fun K hK => ?_) (fun K hK => ?_) (fun K hK => ?_)
  · rw [if_pos (by rfl)]
    refine HN.bP rfl (fun x5 W1 hm => ?_)
    exact hK.out _ _ (fun _ => HO.s _ hm.bel) (nx0_1010 HO HE hm)
  · rw [if_pos (by rfl)]
    refine HN.lP rfl (fun g9 W1 hm => ?_)
    exact hK.out _ _ (fun _ => HO.s _ hm.bel) (nx0_0110 HO HE hm)
  · rw [if_pos (by rfl)]
    refine HN.lD rfl rfl (fun g16 W1 hm => ?_)
    exact hK.out _ _ (fun _ => HO.s _ hm.bel) (nx0_0011 HO HE hm)
theorem nx0_0001 {g16 : Nat} {W : World} (HO : Old w bb aP aD cP cD P D) (HE : nE w bb gr aP aD cP cD P D b Q) (HN : NX w W none none none (some (g16, .bool b))) : wpAnyT Tryd.prog .any nqs Q (nS bb aP aD cP cD P D) (fun i => decide (i < 14)) 9 #[false, true, true, false, false, false, false, true, true, false, true, true, false, false, false] (nF (.slice aP P.length cP) (.slice aD D.length cD) b bb gr undef undef undef undef undef undef (.slice (some ⟨g16, 0, none⟩) 1 1) undef undef) W := by
  refine anyT_three (i := 0) (j := 4) (l := 6) (oi := nq0) (oj := nq4) (ol := nq6) (by kernel_rfl) rfl rfl rfl (fun K hK => ?_) (fun K hK => ?_) (fun K hK => ?_)
  · rw [if_pos (by rfl)]
    refine HN.bP rfl (fun x5 W1 hm => ?_)
    exact hK.out _ _ (fun _ => HO.s _ hm.bel) (nx0_1001 HO HE hm)
  · rw [if_pos (by rfl)]
    refine HN.lP rfl (fun g9 W1 hm => ?_)
    exact hK.out _ _ (fun _ => HO.s _ hm.bel) (nx0_0101 HO HE hm)
  · rw [if_pos (by rfl)]
    refine HN.bD rfl (fun x11 W1 hm => ?_)
    exact hK.out _ _ (fun _ => HO.s _ hm.bel) (nx0_0011 HO HE hm)
theorem nx0_0000 {W : World} (HO : Old w bb aP aD cP cD P D) (HE : nE w bb gr aP aD cP cD P D b Q) (HN : NX w W none none none none) : wpAnyT Tryd.prog .any nqs Q (nS bb aP aD cP cD P D) (fun i => decide (i < 14)) 10 #[false, true, true, false, false, false, false, true, true, false, true, false, false, false, false] (nF (.slice aP P.length cP) (.slice aD D.length cD) b bb gr undef undef undef undef undef undef undef undef undef) W := by
  refine anyT_four (i := 0) (j := 4) (l := 6) (m := 11) (oi := nq0) (oj := nq4) (ol := nq6) (om := nq11) (by kernel_rfl) rfl rfl rfl rfl (fun K hK => ?_) (fun K hK => ?_) (fun K hK => ?_) (fun K hK => ?_)
  · rw [if_pos (by rfl)]
    refine HN.bP rfl (fun x5 W1 hm => ?_)
    exact hK.out _ _ (fun _ => HO.s _ hm.bel) (nx0_1000 HO HE hm)
  · rw [if_pos (by rfl)]
    refine HN.lP rfl (fun g9 W1 hm => ?_)
    exact hK.out _ _ (fun _ => HO.s _ hm.bel) (nx0_0100 HO HE hm)
  · rw [if_pos (by rfl)]
    refine HN.bD rfl (fun x11 W1 hm => ?_)
    exact hK.out _ _ (fun _ => HO.s _ hm.bel) (nx0_0010 HO HE hm)
  · rw [if_pos (by rfl)]
    refine HN.lD rfl rfl (fun g16 W1 hm => ?_)
    exact hK.out _ _ (fun _ => HO.s _ hm.bel) (nx0_0001 HO HE hm)
end
end Go.Proofs.YtonabfpgdgnpnaaDoor

namespace Go.Proofs.YtonabfpgdgnpnaaDoor
set_option linter.unusedVariables false
set_option linter.unusedSimpArgs false
open Go.ChangeShapes Go.WideShapes Go.ChangeAt Go.RowKit Go.Joins Go.Deep

theorem Wd.old {w W : World} {B bb cP cD : Nat} {aP aD : Option Addr} {P : List (List (List UInt8))} {D : List Bool} (h : Wd w B (.slice aP P.length cP) (.slice aD D.length cD) P D) (hb : RowAt w bb 113 [.slice aP P.length cP, .slice aD D.length cD]) (lp : P.length ≤ 2199023255552) (ld : D.length ≤ 2199023255552) : Old w bb aP aD cP cD P D :=
  ⟨fun W hW => ⟨(hb.below hW hb.lt).cell 0, (hb.below hW hb.lt).cell 1⟩, (own_cells h.p).1, (own_cells h.d).1, fun W hW => (own_cells (h.call hW).p).2, fun W hW => (own_cells (h.call hW).d).2, lp, ld⟩
set_option maxRecDepth 100000 in
set_option maxHeartbeats 4000000 in
theorem wnext_any {w : World} {B : Nat} {vP vD : Value} {P : List (List (List UInt8))} {D : List Bool} (b : Bool) (hw : Wd w B vP vD P D) (lp : P.length ≤ 2199023255552) (ld : D.length ≤ 2199023255552) :
    Calls Tryd.prog 85 #[.agg #[vP, vD], .bool b] w fun r w' => ∃ vP' vD', r = .returned (.agg #[vP', vD']) ∧ Wd w' w.heap.size vP' vD' (P ++ [[]]) (D ++ [b]) ∧ Below w.heap.size w w' := by
  obtain ⟨aP, cP, rfl, -, -⟩ := own_sl hw.p
  obtain ⟨aD, cD, rfl, -, -⟩ := own_sl hw.d
  have hb1 : Below w.heap.size w (w.alloc (.cells #[.slice aP P.length cP, .slice aD D.length cD] 113)) := (Below.refl _ _).alloc (Nat.le_refl _) _
  have hb2 : Below (w.alloc (.cells #[.slice aP P.length cP, .slice aD D.length cD] 113)).heap.size (w.alloc (.cells #[.slice aP P.length cP, .slice aD D.length cD] 113)) ((w.alloc (.cells #[.slice aP P.length cP, .slice aD D.length cD] 113)).alloc (.cells #[.slice none 0 0, .slice none 0 0] 113)) := (Below.refl _ _).alloc (Nat.le_refl _) _
  have HR1 := hide ((RowAt.new w 113 [.slice aP P.length cP, .slice aD D.length cD]).below hb2 (by simp))
  have HR2 : Hid (RowAt ((w.alloc (.cells #[.slice aP P.length cP, .slice aD D.length cD] 113)).alloc (.cells #[.slice none 0 0, .slice none 0 0] 113)) (w.heap.size + 1) 113 [.slice none 0 0, .slice none 0 0]) := hide (by have h := RowAt.new (w.alloc (.cells #[.slice aP P.length cP, .slice aD D.length cD] 113)) 113 [.slice none 0 0, .slice none 0 0]; rw [size_alloc] at h; exact h)
  have HW2 := hide ((hw.call hb1).call hb2)
  have HB2 := hide (hb1.trans (hb2.mono hb1.size))
  have HLP := hide (And.intro lp ld)
  clear hw hb1 hb2 lp ld
  go_enter Tryd.func85, Tryd.ntmps85
  go_wp2_with fail
  obtain ⟨wA, hA⟩ : ∃ z, (w.alloc (.cells #[.slice aP P.length cP, .slice aD D.length cD] 113)).alloc (.cells #[.slice none 0 0, .slice none 0 0] 113) = z := ⟨_, rfl⟩
  obtain ⟨bb, hbb⟩ : ∃ z, w.heap.size = z := ⟨_, rfl⟩
  obtain ⟨gr, hgr⟩ : ∃ z, bb + 1 = z := ⟨_, rfl⟩
  have HR1 : Hid (RowAt wA bb 113 [.slice aP P.length cP, .slice aD D.length cD]) := by rw [← hbb, ← hA]; exact HR1
  have HR2 : Hid (RowAt wA gr 113 [.slice none 0 0, .slice none 0 0]) := by rw [← hgr, ← hbb, ← hA]; exact HR2
  have HB2 : Hid (Below w.heap.size w wA) := by rw [← hA]; exact HB2
  have HW2 : Hid (Wd wA B (.slice aP P.length cP) (.slice aD D.length cD) P D) := by rw [← hA]; exact HW2
  have HGR : Hid (w.heap.size ≤ gr) := hide (by omega)
  simp only [hA]
  simp only [hbb, hgr]
  have HOL := hide (Wd.old (W := wA) (unhide HW2) (unhide HR1) (unhide HLP).1 (unhide HLP).2)
  clear hA hgr HW2 HR1
  refine wp_region_T (S := nS bb aP aD cP cD P D) (fun i => decide (i < 14)) (by kernel_rfl) ((unhide HOL).s _ (Below.refl _ _).drew) (fun hHeld => ?_)
  refine tk 1 (v := .pointer (some ⟨bb, 0, none⟩)) rfl (Or.inl ⟨by rfl, ?_⟩) hHeld ?_
  · intro w hSw
    obtain ⟨s0, s1⟩ := hSw
    first
      | rfl
      | (go_simp; done)
  try go_frame
  refine tk 2 (v := .slice aP P.length cP) rfl (Or.inl ⟨by rfl, ?_⟩) hHeld ?_
  · intro w hSw
    obtain ⟨s0, s1⟩ := hSw
    first
      | rfl
      | (go_simp; done)
  try go_frame
  refine tk 7 (v := .pointer (some ⟨bb, 1, none⟩)) rfl (Or.inl ⟨by rfl, ?_⟩) hHeld ?_
  · intro w hSw
    obtain ⟨s0, s1⟩ := hSw
    first
      | rfl
      | (go_simp; done)
  try go_frame
  refine tk 8 (v := .slice aD D.length cD) rfl (Or.inl ⟨by rfl, ?_⟩) hHeld ?_
  · intro w hSw
    obtain ⟨s0, s1⟩ := hSw
    first
      | rfl
      | (go_simp; done)
  try go_frame
  refine tk 10 (v := .bool b) rfl (Or.inl ⟨by rfl, ?_⟩) hHeld ?_
  · intro w hSw
    obtain ⟨s0, s1⟩ := hSw
    first
      | rfl
      | (go_simp; done)
  try go_frame
  refine nx0_0000 (unhide HOL) (fun x5 x8 x9 x10 x11 x14 x16 x17 W l9 l4 hN => ?_) (NX.start wA)
  obtain ⟨a10, c10, hx10, -, -⟩ := own_sl (hN.p.own_ _ _ rfl)
  obtain ⟨a17, c17, hx17, -, -⟩ := own_sl (hN.d.own_ _ _ rfl)
  generalize (sS P ++ [Value.string { data := #[] }]).length = n10 at hx10
  generalize (bS D ++ [Value.bool b]).length = n17 at hx17
  subst hx10 hx17
  have HN := hide hN
  have fr0 := ((unhide HR2).below hN.bel (unhide HR2).lt).frozen 0
  have fr1 := ((unhide HR2).below hN.bel (unhide HR2).lt).frozen 1
  have xc0 : W.cell? ⟨gr, 0, none⟩ = some (.slice none 0 0) := ((unhide HR2).below hN.bel (unhide HR2).lt).cell 0
  have xc1 : W.cell? ⟨gr, 1, none⟩ = some (.slice none 0 0) := ((unhide HR2).below hN.bel (unhide HR2).lt).cell 1
  have HFI : Hid (RowAt ((W.setCell ⟨gr, 0, none⟩ (.slice a10 n10 c10)).setCell ⟨gr, 1, none⟩ (.slice a17 n17 c17)) gr 113 [(.slice a10 n10 c10), (.slice a17 n17 c17)] ∧ Wd ((W.setCell ⟨gr, 0, none⟩ (.slice a10 n10 c10)).setCell ⟨gr, 1, none⟩ (.slice a17 n17 c17)) w.heap.size (.slice a10 n10 c10) (.slice a17 n17 c17) (P ++ [[]]) (D ++ [b]) ∧ Below w.heap.size w ((W.setCell ⟨gr, 0, none⟩ (.slice a10 n10 c10)).setCell ⟨gr, 1, none⟩ (.slice a17 n17 c17))) := hide (by
    have hr := (unhide HR2).below hN.bel (unhide HR2).lt
    have e1 : sS (P ++ [[]]) = sS P ++ [.string { data := #[] }] := by simp [sS]; rfl
    have e2 : bS (D ++ [b]) = bS D ++ [.bool b] := by simp [bS]
    have h9 := hN.p.own_ _ _ rfl
    have h4 := hN.d.own_ _ _ rfl
    rw [← e1, sS_len] at h9
    rw [← e2, bS_len] at h4
    have hwd : Wd W w.heap.size (.slice a10 n10 c10) (.slice a17 n17 c17) (P ++ [[]]) (D ++ [b]) := ⟨own_base h9 (unhide HB2).size, own_base h4 (unhide HB2).size⟩
    obtain ⟨n1, n2⟩ := hwd.row_ne hr (by decide) (by decide)
    exact ⟨(hr.set 0 (.slice a10 n10 c10)).set 1 (.slice a17 n17 c17), (hwd.other n1 n2).other n1 n2, (((unhide HB2).trans (hN.bel.mono (unhide HB2).size)).setCell (unhide HGR) _).setCell (unhide HGR) _⟩)
  clear hN
  refine tk 13 (v := .agg #[(.slice a10 n10 c10), (.slice a17 n17 c17)]) rfl (Or.inl ⟨by rfl, ?_⟩) ((unhide HOL).s _ (unhide HN).bel) ?_
  · intro w hSw
    obtain ⟨s0, s1⟩ := hSw
    first
      | rfl
      | (go_simp; done)
  try go_frame
  refine wpAnyT_one (i := 14) (o := { dst := none, op := Op.store 113 (Operand.tmp 4) (Operand.tmp 18), type := 0, pos := "ref.go:308", after := #[{ on := 13, ground := Ground.data }, { on := 12, ground := Ground.chain }, { on := 0, ground := Ground.phase }, { on := 1, ground := Ground.phase }, { on := 2, ground := Ground.phase }, { on := 3, ground := Ground.phase }, { on := 4, ground := Ground.phase }, { on := 5, ground := Ground.phase }, { on := 6, ground := Ground.phase }, { on := 7, ground := Ground.phase }, { on := 8, ground := Ground.phase }, { on := 9, ground := Ground.phase }, { on := 10, ground := Ground.phase }, { on := 11, ground := Ground.phase }, { on := 12, ground := Ground.phase }, { on := 13, ground := Ground.phase }], guard := none }) (by kernel_rfl) rfl (fun K hK => ?_)
  go_simp
  refine hK.out _ _ (fun h => by cases h) ?_
  clear hK K
  try go_frame
  refine wpAnyT_done (by kernel_rfl) ?_ _
  go_wp2_with fail
  obtain ⟨wF, hF⟩ : ∃ z, (W.setCell ⟨gr, 0, none⟩ (.slice a10 n10 c10)).setCell ⟨gr, 1, none⟩ (.slice a17 n17 c17) = z := ⟨_, rfl⟩
  simp only [hF] at HFI ⊢
  clear hF
  have q0 : wF.cell? ⟨gr, 0, none⟩ = some (.slice a10 n10 c10) := (unhide HFI).1.cell 0
  have q1 : wF.cell? ⟨gr, 1, none⟩ = some (.slice a17 n17 c17) := (unhide HFI).1.cell 1
  refine bodyPost_ret (v := .agg #[.slice a10 n10 c10, .slice a17 n17 c17]) (by simp [results, Tryd.results85, go_sem, q0, q1]) rfl ?_
  exact ⟨_, _, rfl, (unhide HFI).2.1, (unhide HFI).2.2⟩
set_option maxRecDepth 100000 in
set_option maxHeartbeats 4000000 in
theorem wlast_any {w : World} {B : Nat} {vP vD : Value} {P : List (List (List UInt8))} {D : List Bool} {q r : List (List UInt8)} (hw : Wd w B vP vD P D) (hB : B ≤ w.heap.size) (hl : P.length = D.length + 1) (hq : P[D.length]? = some q) (lp : P.length ≤ 2199023255552) (hs : (txB q).size + (txB r).size ≤ 9223372036854775807) :
    Calls Tryd.prog 84 #[.agg #[vP, vD], .string (txB r)] w fun e w' => ∃ vP', e = .returned (.agg #[vP', vD]) ∧ Wd w' B vP' vD (P.set D.length (q ++ r)) D ∧ Below w.heap.size w w' := by
  obtain ⟨aP, cP, rfl, -, -⟩ := own_sl hw.p
  obtain ⟨aD, cD, rfl, -, -⟩ := own_sl hw.d
  have hb1 : Below w.heap.size w (w.alloc (.cells #[.slice aP P.length cP, .slice aD D.length cD] 113)) := (Below.refl _ _).alloc (Nat.le_refl _) _
  have hb2 : Below (w.alloc (.cells #[.slice aP P.length cP, .slice aD D.length cD] 113)).heap.size (w.alloc (.cells #[.slice aP P.length cP, .slice aD D.length cD] 113)) ((w.alloc (.cells #[.slice aP P.length cP, .slice aD D.length cD] 113)).alloc (.cells #[.slice none 0 0, .slice none 0 0] 113)) := (Below.refl _ _).alloc (Nat.le_refl _) _
  have HR1 := hide ((RowAt.new w 113 [.slice aP P.length cP, .slice aD D.length cD]).below hb2 (by simp))
  have HR2 : Hid (RowAt ((w.alloc (.cells #[.slice aP P.length cP, .slice aD D.length cD] 113)).alloc (.cells #[.slice none 0 0, .slice none 0 0] 113)) (w.heap.size + 1) 113 [.slice none 0 0, .slice none 0 0]) := hide (by have h := RowAt.new (w.alloc (.cells #[.slice aP P.length cP, .slice aD D.length cD] 113)) 113 [.slice none 0 0, .slice none 0 0]; rw [size_alloc] at h; exact h)
  have HW2 := hide ((hw.call hb1).call hb2)
  have HB2 := hide (hb1.trans (hb2.mono hb1.size))
  have HLL := hide hl
  have HQQ := hide hq
  have HLP := hide lp
  have HBB := hide hB
  have hap : txB q ++ txB r = txB (q ++ r) := txB_app q r
  have HAP := hide hap
  clear hw hb1 hb2 lp hl hq hB hap
  obtain ⟨wA, hA⟩ : ∃ z, (w.alloc (.cells #[.slice aP P.length cP, .slice aD D.length cD] 113)).alloc (.cells #[.slice none 0 0, .slice none 0 0] 113) = z := ⟨_, rfl⟩
  have HA := hide hA
  have HNX : Hid (NX wA (wA.alloc (.cells #[] 9)) (some (.slice (some ⟨wA.heap.size, 0, none⟩) 0 0, [])) none none none) := hide (by
    have hb : Below wA.heap.size wA (wA.alloc (.cells #[] 9)) := (Below.refl _ _).alloc (Nat.le_refl _) _
    exact ⟨hb, Hf.build ⟨(fun _ _ h => by cases h), (fun _ _ h => by cases h)⟩ (Nat.le_refl _), ⟨(fun _ _ h => by cases h), (fun _ _ h => by cases h)⟩⟩)
  rw [hA] at HR1 HR2 HW2 HB2
  have HSZ : Hid (wA.heap.size = w.heap.size + 1 + 1) := hide (by rw [← hA, size_alloc, size_alloc])
  have a0 : wA.cell? ⟨w.heap.size, 0, none⟩ = some (.slice aP P.length cP) := (unhide HR1).cell 0
  rw [← hA] at a0
  clear hA
  go_enter Tryd.func84, Tryd.ntmps84
  go_wp2_with (at_builtin; refine unhide ?_)
  unfold Hid
  rw [unhide HA]
  rw [unhide HSZ] at HNX
  refine wpList_plain rfl (fun _ hK => (unhide HNX).aP (ys := sS P) _ _ rfl rfl rfl (sS_len P) (own_cells (unhide HW2).p).1 (own_cells ((unhide HW2).call (unhide HNX).bel).p).2 (sS_one P) (by have := unhide HLP; simp only [List.length_nil]; omega) (fun v1 w1 hm => hK _ _ ?_))
  clear hK
  rw [List.nil_append] at hm
  have h9 := hm.p.own_ _ _ rfl
  rw [sS_len] at h9
  obtain ⟨g1, c1, rfl, k0, k1, hge, -, -, -⟩ := own_rd2 h9 (sS_at (unhide HQQ))
  have HW1 : Hid (Wd w1 B (.slice (some ⟨g1, 0, none⟩) P.length c1) (.slice aD D.length cD) P D) := hide ⟨own_base h9 (Nat.le_trans (unhide HBB) (unhide HB2).size), ((unhide HW2).call hm.bel).d⟩
  have HB1 : Hid (Below w.heap.size w w1) := hide ((unhide HB2).trans (hm.bel.mono (unhide HB2).size))
  have HX1 := hide ((unhide HR1).below hm.bel (unhide HR1).lt)
  have HX2 := hide ((unhide HR2).below hm.bel (unhide HR2).lt)
  have HGE : Hid (w.heap.size ≤ g1) := hide (by have := unhide HSZ; omega)
  obtain ⟨xm, hxm⟩ : ∃ z, P.length = z := ⟨_, rfl⟩
  obtain ⟨xd, hxd⟩ : ∃ z, D.length = z := ⟨_, rfl⟩
  have HXM : Hid (xm = xd + 1) := hide (by have := unhide HLL; omega)
  have hwm : IntKind.i64.wrap ((xm : Int) - 1) = (xd : Int) := by have := unhide HXM; have := unhide HLP; rw [IntKind.wrap_i64] <;> omega
  have xdI : (xd : Int) < (xm : Int) := by have := unhide HXM; omega
  have xd0 : (0 : Int) ≤ (xd : Int) := by omega
  have HST : Hid (Wd (w1.setCell ⟨g1, xd, none⟩ (.string (txB (q ++ r)))) B (.slice (some ⟨g1, 0, none⟩) xm c1) (.slice aD xd cD) (P.set xd (q ++ r)) D ∧ RowAt (w1.setCell ⟨g1, xd, none⟩ (.string (txB (q ++ r)))) w.heap.size 113 [.slice aP xm cP, .slice aD xd cD] ∧ RowAt (w1.setCell ⟨g1, xd, none⟩ (.string (txB (q ++ r)))) (w.heap.size + 1) 113 [.slice none 0 0, .slice none 0 0] ∧ Below w.heap.size w (w1.setCell ⟨g1, xd, none⟩ (.string (txB (q ++ r))))) := hide (by
    have h1 := (unhide HW1).set_p D.length (q ++ r) (List.getElem?_eq_some_iff.1 (unhide HQQ)).1
    rw [hxm, hxd] at h1
    have ho : Only (fun k => k = g1) w1 (w1.setCell ⟨g1, xd, none⟩ (.string (txB (q ++ r)))) := (Only.refl _ _).set g1 xd _ rfl
    have n1 := ((unhide HW1).row_ne (unhide HX1) (by decide) (by decide)).1
    have n2 := ((unhide HW1).row_ne (unhide HX2) (by decide) (by decide)).1
    have x1 := (unhide HX1).only ho (fun e => n1 (by rw [e]; rfl))
    rw [hxm, hxd] at x1
    exact ⟨h1, x1, (unhide HX2).only ho (fun e => n2 (by rw [e]; rfl)), (unhide HB1).setCell (by show w.heap.size ≤ g1; exact unhide HGE) _⟩)
  rw [hxd] at k0 k1
  simp only [hxm, hxd]
  obtain ⟨wS, hS⟩ : ∃ z, w1.setCell ⟨g1, xd, none⟩ (.string (txB (q ++ r))) = z := ⟨_, rfl⟩
  have y1 : (w1.setCell ⟨g1, xd, none⟩ (.string (txB (q ++ r)))).cell? ⟨w.heap.size, 1, none⟩ = some (.slice aD xd cD) := (unhide HST).2.1.cell 1
  rw [hS] at HST
  have HWS := hide hS
  have y2 : wS.cell? ⟨w.heap.size + 1, 0, none⟩ = some (.slice none 0 0) := (unhide HST).2.2.1.cell 0
  have y3 : wS.cell? ⟨w.heap.size + 1, 1, none⟩ = some (.slice none 0 0) := (unhide HST).2.2.1.cell 1
  have y4 := (unhide HST).2.2.1.frozen 0
  have y5 := (unhide HST).2.2.1.frozen 1
  rw [← hS] at y2 y3 y4 y5
  clear hm h9 hge HR1 HR2 HW2 HB2 HNX a0 HA HSZ HW1 HX1 HX2 HB1 hS
  have hap := unhide HAP
  have HFI : Hid (RowAt ((wS.setCell ⟨w.heap.size + 1, 0, none⟩ (.slice (some ⟨g1, 0, none⟩) xm c1)).setCell ⟨w.heap.size + 1, 1, none⟩ (.slice aD xd cD)) (w.heap.size + 1) 113 [.slice (some ⟨g1, 0, none⟩) xm c1, .slice aD xd cD] ∧ Wd ((wS.setCell ⟨w.heap.size + 1, 0, none⟩ (.slice (some ⟨g1, 0, none⟩) xm c1)).setCell ⟨w.heap.size + 1, 1, none⟩ (.slice aD xd cD)) B (.slice (some ⟨g1, 0, none⟩) xm c1) (.slice aD xd cD) (P.set xd (q ++ r)) D ∧ Below w.heap.size w ((wS.setCell ⟨w.heap.size + 1, 0, none⟩ (.slice (some ⟨g1, 0, none⟩) xm c1)).setCell ⟨w.heap.size + 1, 1, none⟩ (.slice aD xd cD))) := hide (by
    obtain ⟨h1, h2, h3, h4⟩ := unhide HST
    obtain ⟨n1, n2⟩ := h1.row_ne h3 (by decide) (by decide)
    exact ⟨(h3.set 0 _).set 1 _, (h1.other n1 n2).other n1 n2, (h4.setCell (by show w.heap.size ≤ w.heap.size + 1; omega) _).setCell (by show w.heap.size ≤ w.heap.size + 1; omega) _⟩)
  go_wp2_with fail
  rw [unhide HWS]
  obtain ⟨wF, hF⟩ : ∃ z, (wS.setCell ⟨w.heap.size + 1, 0, none⟩ (.slice (some ⟨g1, 0, none⟩) xm c1)).setCell ⟨w.heap.size + 1, 1, none⟩ (.slice aD xd cD) = z := ⟨_, rfl⟩
  simp only [hF] at HFI ⊢
  clear hF
  have q0 : wF.cell? ⟨w.heap.size + 1, 0, none⟩ = some (.slice (some ⟨g1, 0, none⟩) xm c1) := (unhide HFI).1.cell 0
  have q1 : wF.cell? ⟨w.heap.size + 1, 1, none⟩ = some (.slice aD xd cD) := (unhide HFI).1.cell 1
  refine bodyPost_ret (v := .agg #[.slice (some ⟨g1, 0, none⟩) xm c1, .slice aD xd cD]) (by simp [results, Tryd.results84, go_sem, q0, q1]) rfl ?_
  rw [hxd]
  exact ⟨_, rfl, (unhide HFI).2.1, (unhide HFI).2.2⟩
end Go.Proofs.YtonabfpgdgnpnaaDoor

namespace Go.Proofs.YtonabfpgdgnpnaaDoor
set_option linter.unusedVariables false
set_option linter.unusedSimpArgs false
open Go.ChangeShapes Go.WideShapes Go.ChangeAt Go.RowKit Go.Joins Go.Deep

/-- a wide edit that lies in a place of its own -/
structure WdX (w wr : World) (gP gD gW n m : Nat) (P : List (List (List UInt8))) (D : List Bool) : Prop where
  wd : Wd wr w.heap.size (.slice (some ⟨gP, 0, none⟩) m m) (.slice (some ⟨gD, 0, none⟩) n n) P D
  bx : RowAt wr gW 113 [.slice (some ⟨gP, 0, none⟩) m m, .slice (some ⟨gD, 0, none⟩) n n]
theorem WdX.call {w wr wr' : World} {gP gD gW n m : Nat} {P : List (List (List UInt8))} {D : List Bool} (h : WdX w wr gP gD gW n m P D) (hb : Below wr.heap.size wr wr') : WdX w wr' gP gD gW n m P D :=
  ⟨h.wd.call hb, h.bx.below hb h.bx.lt⟩
theorem WdX.box {w wr : World} {gP gD n m : Nat} {P : List (List (List UInt8))} {D : List Bool} (h : Wd wr w.heap.size (.slice (some ⟨gP, 0, none⟩) m m) (.slice (some ⟨gD, 0, none⟩) n n) P D) :
    WdX w (wr.alloc (.cells #[.slice (some ⟨gP, 0, none⟩) m m, .slice (some ⟨gD, 0, none⟩) n n] 113)) gP gD wr.heap.size n m P D :=
  ⟨h.call ((Below.refl _ _).alloc (Nat.le_refl _) _), RowAt.new wr 113 [.slice (some ⟨gP, 0, none⟩) m m, .slice (some ⟨gD, 0, none⟩) n n]⟩
/-- the lists of a wide edit of n code points -/
structure WdL (P : List (List (List UInt8))) (D : List Bool) (n : Nat) (x : List At) : Prop where
  eq : wAts P D = x
  pl : P.length = n + 1
  dl : D.length = n
  cps : ∀ q ∈ P, Cps q
theorem wPre_toN : ∀ (P : List (List (List UInt8))) (D : List Bool) (i : Nat) (q : List (List UInt8)), P[i]? = some q → P.length = D.length + 1 → q.length ≤ At.toN (wAts P D)
  | [], _, i, q, h, _ => by simp at h
  | r :: P, [], 0, q, h, _ => by
    obtain rfl : r = q := by simpa using h
    simp only [wAts]
    rw [to_map]
    exact Nat.le_refl _
  | r :: P, [], i + 1, q, h, k => by
    have : P = [] := by simpa using k
    subst this
    simp at h
  | r :: P, b :: D, 0, q, h, _ => by
    obtain rfl : r = q := by simpa using h
    simp only [wAts]
    rw [At.to_app, to_map]
    omega
  | r :: P, b :: D, i + 1, q, h, k => by
    have := wPre_toN P D i q (by simpa using h) (by simpa using k)
    simp only [wAts]
    rw [At.to_app]
    cases b <;> simp only [stp, Bool.false_eq_true, ↓reduceIte, At.toN] <;> omega
theorem WdL.at_ {P : List (List (List UInt8))} {D : List Bool} {n : Nat} {x : List At} (h : WdL P D n x) {i : Nat} (hi : i ≤ n) : ∃ q, P[i]? = some q ∧ Cps q ∧ q.length ≤ At.toN x := by
  obtain ⟨q, hq⟩ : ∃ z, P[i]? = some z := ⟨_, List.getElem?_eq_getElem (by rw [h.pl]; omega)⟩
  refine ⟨q, hq, h.cps q (List.mem_of_getElem? hq), ?_⟩
  rw [← h.eq]
  exact wPre_toN P D i q hq (by rw [h.pl, h.dl])
theorem WdL.dr {P : List (List (List UInt8))} {D : List Bool} {n : Nat} {x : List At} (h : WdL P D n x) {i : Nat} (hi : i < n) : ∃ b, D[i]? = some b := ⟨_, List.getElem?_eq_getElem (by rw [h.dl]; omega)⟩
end Go.Proofs.YtonabfpgdgnpnaaDoor
