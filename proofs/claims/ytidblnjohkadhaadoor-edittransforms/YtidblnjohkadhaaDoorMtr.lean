/- A wide edit that grows, two that meet, Transform: the document's own, walked; and the law over it. -/
import Derived.Test.YtidblnjohkadhaaDoorSpr
import Derived.Test.YtidblnjohkadhaaDoorApd
import Derived.Test.YtidblnjohkadhaaDoorRcu
import Derived.Test.YtidblnjohkadhaaDoorClo
import Derived.Test.YtidblnjohkadhaaDoorNar2
import Derived.Lib.LazyBuf
namespace Go.Proofs.YtidblnjohkadhaaDoor
set_option linter.unusedVariables false
set_option linter.unusedSimpArgs false
open Go.ChangeShapes Go.WideShapes Go.ChangeAt Go.RowKit Go.Joins Go.Deep

/-- one row that grows by a copy and by a literal: what has been done -/
structure Hf (e : Nat) (w0 w : World) (own : Option (Value × List Value)) (lit : Option (Nat × Value)) : Prop where
  own_ : ∀ v xs, own = some (v, xs) → w.ownsRow w0.heap.size e 1 v xs.length xs
  lit_ : ∀ q u, lit = some (q, u) → RowAt w q e [u] ∧ w0.heap.size ≤ q ∧ ∀ v xs, own = some (v, xs) → v.ownBlock ≠ some q
theorem Hf.more {e : Nat} {w0 w w' : World} {own : Option (Value × List Value)} {lit : Option (Nat × Value)} (h : Hf e w0 w own lit) (hb : Below w.heap.size w w') : Hf e w0 w' own lit :=
  ⟨fun v xs q => own_call (h.own_ v xs q) hb, fun q u c => ⟨(h.lit_ q u c).1.below hb (h.lit_ q u c).1.lt, (h.lit_ q u c).2⟩⟩
theorem own_lt2 {w : World} {B e n : Nat} {v : Value} {xs : List Value} (h : w.ownsRow B e 1 v n xs) {k : Nat} (hk : v.ownBlock = some k) : k < w.heap.size := by
  rcases h.2 with ⟨rfl, _⟩ | ⟨g, c, cur, rfl, _, e3, _⟩
  · cases hk
  · have : g = k := by simpa [Value.ownBlock] using hk
    subst this
    exact (Array.getElem?_eq_some_iff.1 e3).1
theorem own_ge2 {w : World} {B e n : Nat} {v : Value} {xs : List Value} (h : w.ownsRow B e 1 v n xs) {k : Nat} (hk : v.ownBlock = some k) : B ≤ k := by
  rcases h.2 with ⟨rfl, _⟩ | ⟨g, c, cur, rfl, e2, _⟩
  · cases hk
  · have : g = k := by simpa [Value.ownBlock] using hk
    omega
theorem Hf.build {e : Nat} {w0 w : World} {lit : Option (Nat × Value)} (h : Hf e w0 w none lit) (hB : w0.heap.size ≤ w.heap.size) : Hf e w0 (w.alloc (.cells #[] e)) (some (.slice (some ⟨w.heap.size, 0, none⟩) 0 0, [])) lit := by
  have hb : Below w.heap.size w (w.alloc (.cells #[] e)) := (Below.refl _ _).alloc (Nat.le_refl _) _
  refine ⟨fun v xs q => ?_, fun q u c => ⟨(h.lit_ q u c).1.below hb (h.lit_ q u c).1.lt, (h.lit_ q u c).2.1, fun v xs k => ?_⟩⟩
  · cases q
    exact ⟨rfl, .inr ⟨w.heap.size, 0, #[], rfl, hB, RowAt.new w e [], Nat.le_refl _, by unfold maxLen; simp, by simp, by simp⟩⟩
  · cases k
    intro k
    have h1 : w.heap.size = q := by simpa [Value.ownBlock] using k
    have := (h.lit_ q u c).1.lt
    omega
theorem Hf.lit {e : Nat} {w0 w : World} {own : Option (Value × List Value)} (h : Hf e w0 w own none) (hB : w0.heap.size ≤ w.heap.size) (u : Value) : Hf e w0 (w.alloc (.cells #[u] e)) own (some (w.heap.size, u)) := by
  have hb : Below w.heap.size w (w.alloc (.cells #[u] e)) := (Below.refl _ _).alloc (Nat.le_refl _) _
  refine ⟨fun v xs q => own_call (h.own_ v xs q) hb, fun q u' c => ?_⟩
  cases c
  refine ⟨RowAt.new w e [u], hB, fun v xs k k2 => ?_⟩
  have := own_lt2 (h.own_ v xs k) k2
  omega
theorem Hf.grow {e : Nat} {w0 w w' : World} {v v' : Value} {xs xs' : List Value} {lit : Option (Nat × Value)} (h : Hf e w0 w (some (v, xs)) lit) (ho : w'.ownsRow w0.heap.size e 1 v' xs'.length xs') (hg : w.grownBy w' v.ownBlock) (hv : v'.ownBlock = v.ownBlock ∨ v'.ownBlock = some w.heap.size) : Hf e w0 w' (some (v', xs')) lit := by
  refine ⟨fun _ _ q => by cases q; exact ho, fun q u c => ?_⟩
  obtain ⟨h1, h2, h3⟩ := h.lit_ q u c
  refine ⟨h1.only (grown_only hg) (h3 v xs rfl), h2, fun _ _ k => ?_⟩
  cases k
  intro k
  rcases hv with hv | hv
  · rw [hv] at k; exact h3 v xs rfl k
  · rw [hv] at k
    have : w.heap.size = q := by simpa using k
    have := h1.lt
    omega
theorem Hf.other {e e' : Nat} {w0 w w' : World} {v : Value} {n : Nat} {xs : List Value} {own : Option (Value × List Value)} {lit : Option (Nat × Value)} (h : Hf e w0 w own lit) (hv : w.ownsRow w0.heap.size e' 1 v n xs) (hne : e' ≠ e) (hg : w.grownBy w' v.ownBlock) : Hf e w0 w' own lit :=
  ⟨fun u ys q => own_only (h.own_ u ys q) (grown_only hg) (fun k hk hk2 => own_two (h.own_ u ys q) hv (fun c => hne c.symm) hk hk2), fun q u c => ⟨(h.lit_ q u c).1.only (grown_only hg) (tag_ne hv (h.lit_ q u c).1 hne), (h.lit_ q u c).2⟩⟩
/-- both rows -/
structure NX (w0 w : World) (o9 : Option (Value × List Value)) (l9 : Option (Nat × Value)) (o4 : Option (Value × List Value)) (l4 : Option (Nat × Value)) : Prop where
  bel : Below w0.heap.size w0 w
  p : Hf 9 w0 w o9 l9
  d : Hf 4 w0 w o4 l4
theorem NX.start (w : World) : NX w w.drew none none none none := ⟨(Below.refl _ _).drew, ⟨(fun _ _ h => by cases h), (fun _ _ h => by cases h)⟩, ⟨(fun _ _ h => by cases h), (fun _ _ h => by cases h)⟩⟩
section
variable {w0 W : World} {o9 o4 : Option (Value × List Value)} {l9 l4 : Option (Nat × Value)} {o : Oper} {a : Act} {K : Act → World → Prop} {Q : Exit → Act → World → Prop}
theorem NX.bP (h : NX w0 W none l9 o4 l4) (hop : o.op = Op.buildSlice 85 0 #[]) (hk : ∀ v w', NX w0 w' (some (v, [])) l9 o4 l4 → K (a.put o.dst v) w') : o.wp Tryd.prog a W K Q := by
  obtain ⟨ds, op, ty, ps, af, gd⟩ := o
  obtain rfl : op = Op.buildSlice 85 0 #[] := hop
  have hb : Below W.heap.size W (W.alloc (.cells #[] 9)) := (Below.refl _ _).alloc (Nat.le_refl _) _
  have hn : NX w0 (W.alloc (.cells #[] 9)) (some (.slice (some ⟨W.heap.size, 0, none⟩) 0 0, [])) l9 o4 l4 := ⟨h.bel.trans (hb.mono h.bel.size), h.p.build h.bel.size, h.d.more hb⟩
  go_simp
  exact hk _ _ hn
theorem NX.bD (h : NX w0 W o9 l9 none l4) (hop : o.op = Op.buildSlice 86 0 #[]) (hk : ∀ v w', NX w0 w' o9 l9 (some (v, [])) l4 → K (a.put o.dst v) w') : o.wp Tryd.prog a W K Q := by
  obtain ⟨ds, op, ty, ps, af, gd⟩ := o
  obtain rfl : op = Op.buildSlice 86 0 #[] := hop
  have hb : Below W.heap.size W (W.alloc (.cells #[] 4)) := (Below.refl _ _).alloc (Nat.le_refl _) _
  have hn : NX w0 (W.alloc (.cells #[] 4)) o9 l9 (some (.slice (some ⟨W.heap.size, 0, none⟩) 0 0, [])) l4 := ⟨h.bel.trans (hb.mono h.bel.size), h.p.more hb, h.d.build h.bel.size⟩
  go_simp
  exact hk _ _ hn
theorem NX.lP (h : NX w0 W o9 none o4 l4) (hop : o.op = Op.buildSlice 85 1 #[(0, Operand.const (Value.string { data := #[] }))]) (hk : ∀ g w', NX w0 w' o9 (some (g, .string { data := #[] })) o4 l4 → K (a.put o.dst (.slice (some ⟨g, 0, none⟩) 1 1)) w') : o.wp Tryd.prog a W K Q := by
  obtain ⟨ds, op, ty, ps, af, gd⟩ := o
  obtain rfl : op = Op.buildSlice 85 1 #[(0, Operand.const (Value.string { data := #[] }))] := hop
  have hb : Below W.heap.size W (W.alloc (.cells #[.string { data := #[] }] 9)) := (Below.refl _ _).alloc (Nat.le_refl _) _
  have hn : NX w0 (W.alloc (.cells #[.string { data := #[] }] 9)) o9 (some (W.heap.size, .string { data := #[] })) o4 l4 := ⟨h.bel.trans (hb.mono h.bel.size), h.p.lit h.bel.size _, h.d.more hb⟩
  go_simp
  exact hk _ _ hn
theorem NX.lD {x : Operand} {b : Bool} (h : NX w0 W o9 l9 o4 none) (hop : o.op = Op.buildSlice 86 1 #[(0, x)]) (hx : a.eval x = .bool b) (hk : ∀ g w', NX w0 w' o9 l9 o4 (some (g, .bool b)) → K (a.put o.dst (.slice (some ⟨g, 0, none⟩) 1 1)) w') : o.wp Tryd.prog a W K Q := by
  obtain ⟨ds, op, ty, ps, af, gd⟩ := o
  obtain rfl : op = Op.buildSlice 86 1 #[(0, x)] := hop
  have hb : Below W.heap.size W (W.alloc (.cells #[.bool b] 4)) := (Below.refl _ _).alloc (Nat.le_refl _) _
  have hn : NX w0 (W.alloc (.cells #[.bool b] 4)) o9 l9 o4 (some (W.heap.size, .bool b)) := ⟨h.bel.trans (hb.mono h.bel.size), h.p.more hb, h.d.lit h.bel.size _⟩
  simp only [Oper.wp, execOp, hx, List.map_toArray, List.map_cons, List.map_nil]
  go_simp
  exact hk _ _ hn
/-- an append of any row behind an own one -/
theorem NX.aP {v : Value} {xs ys : List Value} {ad : Option Addr} {m c : Nat} (h : NX w0 W (some (v, xs)) l9 o4 l4) (s x : Operand) (hop : o.op = .call { callee := .builtin .append, args := #[s, x], argTypes := #[85, 85] }) (hs : a.eval s = v) (hx : a.eval x = .slice ad m c) (hl : ys.length = m) (hn : ad = none → m = 0) (hc : ∀ b, ad = some b → ∀ j u, ys[j]? = some u → W.cell? (b.add j) = some u) (h1 : ∀ u ∈ ys, u.oneCell' = true) (hm : xs.length + m ≤ 4398046511104)
    (hk : ∀ v' w', NX w0 w' (some (v', xs ++ ys)) l9 o4 l4 → K (a.put o.dst v') w') : o.wp Tryd.prog a W K Q := by
  obtain ⟨i0, hi, hz, hsz, hb⟩ := infoStr
  refine wp_append_src W s x 85 hop w0.heap.size 9 i0 _ 1 16 Tryd.underlying85 hi hz hsz hb rfl (by decide) v xs.length xs hs (h.p.own_ v xs rfl) ad m c ys hx (by rw [hl, Nat.mul_one]) hn hc h1 (by unfold maxLen; omega) (by omega) h.bel.size (fun ad' cap w' q1 q2 q3 => hk _ _ ?_)
  have ho : w'.ownsRow w0.heap.size 9 1 (.slice ad' (xs.length + m) cap) (xs ++ ys).length (xs ++ ys) := by rw [List.length_append, hl]; exact q1
  exact ⟨h.bel.trans ((grown_only q2).below h.bel.size (fun k hk => own_ge2 (h.p.own_ v xs rfl) hk)), h.p.grow ho q2 q3, h.d.other (h.p.own_ v xs rfl) (by decide) q2⟩
theorem NX.aD {v : Value} {xs ys : List Value} {ad : Option Addr} {m c : Nat} (h : NX w0 W o9 l9 (some (v, xs)) l4) (s x : Operand) (hop : o.op = .call { callee := .builtin .append, args := #[s, x], argTypes := #[86, 86] }) (hs : a.eval s = v) (hx : a.eval x = .slice ad m c) (hl : ys.length = m) (hn : ad = none → m = 0) (hc : ∀ b, ad = some b → ∀ j u, ys[j]? = some u → W.cell? (b.add j) = some u) (h1 : ∀ u ∈ ys, u.oneCell' = true) (hm : xs.length + m ≤ 4398046511104)
    (hk : ∀ v' w', NX w0 w' o9 l9 (some (v', xs ++ ys)) l4 → K (a.put o.dst v') w') : o.wp Tryd.prog a W K Q := by
  obtain ⟨i0, hi, hz, hsz, hb⟩ := infoBoo
  refine wp_append_src W s x 86 hop w0.heap.size 4 i0 _ 1 1 Tryd.underlying86 hi hz hsz hb rfl (by decide) v xs.length xs hs (h.d.own_ v xs rfl) ad m c ys hx (by rw [hl, Nat.mul_one]) hn hc h1 (by unfold maxLen; omega) (by omega) h.bel.size (fun ad' cap w' q1 q2 q3 => hk _ _ ?_)
  have ho : w'.ownsRow w0.heap.size 4 1 (.slice ad' (xs.length + m) cap) (xs ++ ys).length (xs ++ ys) := by rw [List.length_append, hl]; exact q1
  exact ⟨h.bel.trans ((grown_only q2).below h.bel.size (fun k hk => own_ge2 (h.d.own_ v xs rfl) hk)), h.p.other (h.d.own_ v xs rfl) (by decide) q2, h.d.grow ho q2 q3⟩
end
theorem sS_one (P : List (List (List UInt8))) : ∀ u ∈ sS P, u.oneCell' = true := by
  intro u hu
  simp only [sS, List.mem_map] at hu
  obtain ⟨x, _, rfl⟩ := hu
  rfl
theorem bS_one (D : List Bool) : ∀ u ∈ bS D, u.oneCell' = true := by
  intro u hu
  simp only [bS, List.mem_map] at hu
  obtain ⟨x, _, rfl⟩ := hu
  rfl
/-- a row's cells, as an append reads them -/
theorem own_cells {w : World} {B e n : Nat} {ad : Option Addr} {c : Nat} {xs : List Value} (h : w.ownsRow B e 1 (.slice ad n c) n xs) : (ad = none → n = 0) ∧ ∀ b, ad = some b → ∀ j u, xs[j]? = some u → w.cell? (b.add j) = some u := by
  rcases h.2 with ⟨h2, h0⟩ | ⟨g, cap, cur, h2, _⟩
  · cases h2
    exact ⟨fun _ => rfl, fun b hb => by cases hb⟩
  · cases h2
    refine ⟨fun hb => (by cases hb), fun b hb j u hu => ?_⟩
    cases hb
    exact World.ownsRow.cells h (g := g) rfl j u hu
theorem lit_cells {w : World} {q e : Nat} {u : Value} (h : RowAt w q e [u]) : ∀ b, some (⟨q, 0, none⟩ : Addr) = some b → ∀ j v, [u][j]? = some v → w.cell? (b.add j) = some v := by
  intro b hb j v hv
  cases hb
  match j with
  | 0 =>
    have e1 : u = v := by simpa using hv
    subst e1
    have := h.cell 0
    simpa [Addr.add_lit] using this
  | j + 1 => simp at hv
theorem anyT_four {P : Program} {ops : Array Oper} {Q : Exit → Act → World → Prop} {md : Region.Mode} {S : World → Prop} {hd : Nat → Bool} {i j l m : Nat} {oi oj ol om : Oper} {fuel : Nat} {listed : Array Bool} {a : Act} {w : World} (hr : Region.ready md ops listed = [i, j, l, m]) (hoi : ops[i]? = some oi) (hoj : ops[j]? = some oj) (hol : ops[l]? = some ol) (hom : ops[m]? = some om)
    (hi : ∀ K' : Act → World → Prop, Shut (∀ a w, (hd i = true → S w) → wpAnyT P md ops Q S hd fuel (listed.setIfInBounds i true) a w → K' a w) → if Region.wanted oi (yielded ops a.tmps) = true then Oper.wp P oi a w K' Q else K' (a.put oi.dst undef) w)
    (hj : ∀ K' : Act → World → Prop, Shut (∀ a w, (hd j = true → S w) → wpAnyT P md ops Q S hd fuel (listed.setIfInBounds j true) a w → K' a w) → if Region.wanted oj (yielded ops a.tmps) = true then Oper.wp P oj a w K' Q else K' (a.put oj.dst undef) w)
    (hl : ∀ K' : Act → World → Prop, Shut (∀ a w, (hd l = true → S w) → wpAnyT P md ops Q S hd fuel (listed.setIfInBounds l true) a w → K' a w) → if Region.wanted ol (yielded ops a.tmps) = true then Oper.wp P ol a w K' Q else K' (a.put ol.dst undef) w)
    (hm : ∀ K' : Act → World → Prop, Shut (∀ a w, (hd m = true → S w) → wpAnyT P md ops Q S hd fuel (listed.setIfInBounds m true) a w → K' a w) → if Region.wanted om (yielded ops a.tmps) = true then Oper.wp P om a w K' Q else K' (a.put om.dst undef) w) :
    wpAnyT P md ops Q S hd (fuel + 1) listed a w := by
  refine ⟨fun h0 => absurd (hr ▸ h0) (by simp), fun k hk => ?_⟩
  rw [hr] at hk
  rcases List.mem_cons.1 hk with rfl | hk
  · exact wpOp_step hoi (fun K' hK => hi K' (fun a w hS hW => hK a w ⟨hS, hW⟩))
  · rcases List.mem_cons.1 hk with rfl | hk
    · exact wpOp_step hoj (fun K' hK => hj K' (fun a w hS hW => hK a w ⟨hS, hW⟩))
    · rcases List.mem_cons.1 hk with rfl | hk
      · exact wpOp_step hol (fun K' hK => hl K' (fun a w hS hW => hK a w ⟨hS, hW⟩))
      · obtain rfl := List.mem_singleton.1 hk
        exact wpOp_step hom (fun K' hK => hm K' (fun a w hS hW => hK a w ⟨hS, hW⟩))
set_option maxRecDepth 100000
abbrev nq0 : Oper := { dst := some 5, op := Op.buildSlice 85 0 #[], type := 85, pos := "ref.go:308", after := #[], guard := none }
abbrev nq1 : Oper := { dst := some 6, op := Op.fieldAddr 88 (Operand.tmp 2) 0, type := 0, pos := "ref.go:308", after := #[], guard := none }
abbrev nq2 : Oper := { dst := some 7, op := Op.load 85 (Operand.tmp 6), type := 85, pos := "ref.go:308", after := #[{ on := 1, ground := Ground.data }], guard := none }
abbrev nq3 : Oper := { dst := some 8, op := Op.call { callee := Callee.builtin Builtin.append, args := #[Operand.tmp 5, Operand.tmp 7], argTypes := #[85, 85] }, type := 85, pos := "ref.go:308", after := #[{ on := 0, ground := Ground.data }, { on := 2, ground := Ground.data }], guard := none }
abbrev nq4 : Oper := { dst := some 9, op := Op.buildSlice 85 1 #[(0, Operand.const (Value.string { data := #[] }))], type := 85, pos := "ref.go:308", after := #[], guard := none }
abbrev nq5 : Oper := { dst := some 10, op := Op.call { callee := Callee.builtin Builtin.append, args := #[Operand.tmp 8, Operand.tmp 9], argTypes := #[85, 85] }, type := 85, pos := "ref.go:308", after := #[{ on := 3, ground := Ground.data }, { on := 4, ground := Ground.data }, { on := 3, ground := Ground.chain }], guard := none }
abbrev nq6 : Oper := { dst := some 11, op := Op.buildSlice 86 0 #[], type := 86, pos := "ref.go:308", after := #[], guard := none }
abbrev nq7 : Oper := { dst := some 12, op := Op.fieldAddr 88 (Operand.tmp 2) 1, type := 0, pos := "ref.go:308", after := #[], guard := none }
abbrev nq8 : Oper := { dst := some 13, op := Op.load 86 (Operand.tmp 12), type := 86, pos := "ref.go:308", after := #[{ on := 7, ground := Ground.data }], guard := none }
abbrev nq9 : Oper := { dst := some 14, op := Op.call { callee := Callee.builtin Builtin.append, args := #[Operand.tmp 11, Operand.tmp 13], argTypes := #[86, 86] }, type := 86, pos := "ref.go:308", after := #[{ on := 6, ground := Ground.data }, { on := 8, ground := Ground.data }, { on := 5, ground := Ground.chain }], guard := none }
abbrev nq10 : Oper := { dst := some 15, op := Op.move (Operand.tmp 1), type := 4, pos := "ref.go:308", after := #[], guard := none }
abbrev nq11 : Oper := { dst := some 16, op := Op.buildSlice 86 1 #[(0, Operand.tmp 15)], type := 86, pos := "ref.go:308", after := #[{ on := 10, ground := Ground.data }], guard := none }
abbrev nq12 : Oper := { dst := some 17, op := Op.call { callee := Callee.builtin Builtin.append, args := #[Operand.tmp 14, Operand.tmp 16], argTypes := #[86, 86] }, type := 86, pos := "ref.go:308", after := #[{ on := 9, ground := Ground.data }, { on := 11, ground := Ground.data }, { on := 9, ground := Ground.chain }], guard := none }
abbrev nq13 : Oper := { dst := some 18, op := Op.build 88 #[(0, Operand.tmp 10), (1, Operand.tmp 17)], type := 88, pos := "ref.go:308", after := #[{ on := 5, ground := Ground.data }, { on := 12, ground := Ground.data }], guard := none }
abbrev nq14 : Oper := { dst := none, op := Op.store 88 (Operand.tmp 4) (Operand.tmp 18), type := 0, pos := "ref.go:308", after := #[{ on := 13, ground := Ground.data }, { on := 12, ground := Ground.chain }, { on := 0, ground := Ground.phase }, { on := 1, ground := Ground.phase }, { on := 2, ground := Ground.phase }, { on := 3, ground := Ground.phase }, { on := 4, ground := Ground.phase }, { on := 5, ground := Ground.phase }, { on := 6, ground := Ground.phase }, { on := 7, ground := Ground.phase }, { on := 8, ground := Ground.phase }, { on := 9, ground := Ground.phase }, { on := 10, ground := Ground.phase }, { on := 11, ground := Ground.phase }, { on := 12, ground := Ground.phase }, { on := 13, ground := Ground.phase }], guard := none }
abbrev nqs : Array Oper := #[nq0, nq1, nq2, nq3, nq4, nq5, nq6, nq7, nq8, nq9, nq10, nq11, nq12, nq13, nq14]
/-- the frame -/
abbrev nF (vP vD : Value) (b : Bool) (bb gr : Nat) (x5 x8 x9 x10 x11 x14 x16 x17 x18 : Value) : Act := { tmps := #[.agg #[vP, vD], .bool b, .pointer (some ⟨bb, 0, none⟩), undef, .pointer (some ⟨gr, 0, none⟩), x5, .pointer (some ⟨bb, 0, none⟩), vP, x8, x9, x10, x11, .pointer (some ⟨bb, 1, none⟩), vD, x14, .bool b, x16, x17, x18], defers := [] }
/-- what the region needs of the old rows, and what it hands on -/
structure Old (w : World) (bb : Nat) (aP aD : Option Addr) (cP cD : Nat) (P : List (List (List UInt8))) (D : List Bool) : Prop where
  s : ∀ W, Below w.heap.size w W → W.cell? ⟨bb, 0, none⟩ = some (.slice aP P.length cP) ∧ W.cell? ⟨bb, 1, none⟩ = some (.slice aD D.length cD)
  np : aP = none → P.length = 0
  nd : aD = none → D.length = 0
  cp : ∀ W, Below w.heap.size w W → ∀ b, aP = some b → ∀ j u, (sS P)[j]? = some u → W.cell? (b.add j) = some u
  cd : ∀ W, Below w.heap.size w W → ∀ b, aD = some b → ∀ j u, (bS D)[j]? = some u → W.cell? (b.add j) = some u
  lp : P.length ≤ 2199023255552
  ld : D.length ≤ 2199023255552
section
variable {w : World} {bb gr : Nat} {aP aD : Option Addr} {cP cD : Nat} {P : List (List (List UInt8))} {D : List Bool} {b : Bool} {Q : Exit → Act → World → Prop}
abbrev nS (bb : Nat) (aP aD : Option Addr) (cP cD : Nat) (P : List (List (List UInt8))) (D : List Bool) : World → Prop := fun W => W.cell? ⟨bb, 0, none⟩ = some (.slice aP P.length cP) ∧ W.cell? ⟨bb, 1, none⟩ = some (.slice aD D.length cD)
/-- the end -/
abbrev nE (w : World) (bb gr : Nat) (aP aD : Option Addr) (cP cD : Nat) (P : List (List (List UInt8))) (D : List Bool) (b : Bool) (Q : Exit → Act → World → Prop) : Prop := ∀ x5 x8 x9 x10 x11 x14 x16 x17 W l9 l4, NX w W (some (x10, sS P ++ [.string { data := #[] }])) l9 (some (x17, bS D ++ [.bool b])) l4 → wpAnyT Tryd.prog .any nqs Q (nS bb aP aD cP cD P D) (fun i => decide (i < 14)) 2 #[true, true, true, true, true, true, true, true, true, true, true, true, true, false, false] (nF (.slice aP P.length cP) (.slice aD D.length cD) b bb gr x5 x8 x9 x10 x11 x14 x16 x17 undef) W
theorem nx4_1111 {x5 : Value} {x8 : Value} {x10 : Value} {x11 : Value} {x14 : Value} {x17 : Value} {g9 : Nat} {g16 : Nat} {W : World} (HO : Old w bb aP aD cP cD P D) (HE : nE w bb gr aP aD cP cD P D b Q) (HN : NX w W (some (x10, sS P ++ [.string { data := #[] }])) (some (g9, .string { data := #[] })) (some (x17, bS D ++ [.bool b])) (some (g16, .bool b))) : wpAnyT Tryd.prog .any nqs Q (nS bb aP aD cP cD P D) (fun i => decide (i < 14)) 2 #[true, true, true, true, true, true, true, true, true, true, true, true, true, false, false] (nF (.slice aP P.length cP) (.slice aD D.length cD) b bb gr x5 x8 (.slice (some ⟨g9, 0, none⟩) 1 1) x10 x11 x14 (.slice (some ⟨g16, 0, none⟩) 1 1) x17 undef) W := by
  exact HE _ _ _ _ _ _ _ _ _ _ _ HN
theorem nx3_1111 {x5 : Value} {x8 : Value} {x10 : Value} {x11 : Value} {x14 : Value} {g9 : Nat} {g16 : Nat} {W : World} (HO : Old w bb aP aD cP cD P D) (HE : nE w bb gr aP aD cP cD P D b Q) (HN : NX w W (some (x10, sS P ++ [.string { data := #[] }])) (some (g9, .string { data := #[] })) (some (x14, bS D)) (some (g16, .bool b))) : wpAnyT Tryd.prog .any nqs Q (nS bb aP aD cP cD P D) (fun i => decide (i < 14)) 3 #[true, true, true, true, true, true, true, true, true, true, true, true, false, false, false] (nF (.slice aP P.length cP) (.slice aD D.length cD) b bb gr x5 x8 (.slice (some ⟨g9, 0, none⟩) 1 1) x10 x11 x14 (.slice (some ⟨g16, 0, none⟩) 1 1) undef undef) W := by
  refine wpAnyT_one (i := 12) (o := nq12) (by kernel_rfl) rfl (fun K hK => ?_)
  rw [if_pos (by rfl)]
  refine HN.aD (ys := [.bool b]) _ _ rfl rfl rfl rfl (fun h => by cases h) (lit_cells (HN.d.lit_ g16 _ rfl).1) (fun u hu => by rw [List.mem_singleton] at hu; rw [hu]; rfl) (by have := HO.ld; rw [bS_len]; omega) (fun x17 W1 hm => ?_)
  exact hK.out _ _ (fun _ => HO.s _ hm.bel) (nx4_1111 HO HE hm)
theorem nx3_1110 {x5 : Value} {x8 : Value} {x10 : Value} {x11 : Value} {x14 : Value} {g9 : Nat} {W : World} (HO : Old w bb aP aD cP cD P D) (HE : nE w bb gr aP aD cP cD P D b Q) (HN : NX w W (some (x10, sS P ++ [.string { data := #[] }])) (some (g9, .string { data := #[] })) (some (x14, bS D)) none) : wpAnyT Tryd.prog .any nqs Q (nS bb aP aD cP cD P D) (fun i => decide (i < 14)) 4 #[true, true, true, true, true, true, true, true, true, true, true, false, false, false, false] (nF (.slice aP P.length cP) (.slice aD D.length cD) b bb gr x5 x8 (.slice (some ⟨g9, 0, none⟩) 1 1) x10 x11 x14 undef undef undef) W := by
  refine wpAnyT_one (i := 11) (o := nq11) (by kernel_rfl) rfl (fun K hK => ?_)
  rw [if_pos (by rfl)]
  refine HN.lD rfl rfl (fun g16 W1 hm => ?_)
  exact hK.out _ _ (fun _ => HO.s _ hm.bel) (nx3_1111 HO HE hm)
theorem nx2_1111 {x5 : Value} {x8 : Value} {x10 : Value} {x11 : Value} {g9 : Nat} {g16 : Nat} {W : World} (HO : Old w bb aP aD cP cD P D) (HE : nE w bb gr aP aD cP cD P D b Q) (HN : NX w W (some (x10, sS P ++ [.string { data := #[] }])) (some (g9, .string { data := #[] })) (some (x11, [])) (some (g16, .bool b))) : wpAnyT Tryd.prog .any nqs Q (nS bb aP aD cP cD P D) (fun i => decide (i < 14)) 4 #[true, true, true, true, true, true, true, true, true, false, true, true, false, false, false] (nF (.slice aP P.length cP) (.slice aD D.length cD) b bb gr x5 x8 (.slice (some ⟨g9, 0, none⟩) 1 1) x10 x11 undef (.slice (some ⟨g16, 0, none⟩) 1 1) undef undef) W := by
  refine wpAnyT_one (i := 9) (o := nq9) (by kernel_rfl) rfl (fun K hK => ?_)
  rw [if_pos (by rfl)]
  refine HN.aD (ys := bS D) _ _ rfl rfl rfl (bS_len D) HO.nd (HO.cd _ HN.bel) (bS_one D) (by have := HO.ld; simp only [List.length_nil]; omega) (fun x14 W1 hm => ?_)
  rw [List.nil_append] at hm
  exact hK.out _ _ (fun _ => HO.s _ hm.bel) (nx3_1111 HO HE hm)
theorem nx2_1110 {x5 : Value} {x8 : Value} {x10 : Value} {x11 : Value} {g9 : Nat} {W : World} (HO : Old w bb aP aD cP cD P D) (HE : nE w bb gr aP aD cP cD P D b Q) (HN : NX w W (some (x10, sS P ++ [.string { data := #[] }])) (some (g9, .string { data := #[] })) (some (x11, [])) none) : wpAnyT Tryd.prog .any nqs Q (nS bb aP aD cP cD P D) (fun i => decide (i < 14)) 5 #[true, true, true, true, true, true, true, true, true, false, true, false, false, false, false] (nF (.slice aP P.length cP) (.slice aD D.length cD) b bb gr x5 x8 (.slice (some ⟨g9, 0, none⟩) 1 1) x10 x11 undef undef undef undef) W := by
  refine anyU_two (i := 9) (j := 11) (oi := nq9) (oj := nq11) (by kernel_rfl) rfl rfl (fun K hK => ?_) (fun K hK => ?_)
  · rw [if_pos (by rfl)]
    refine HN.aD (ys := bS D) _ _ rfl rfl rfl (bS_len D) HO.nd (HO.cd _ HN.bel) (bS_one D) (by have := HO.ld; simp only [List.length_nil]; omega) (fun x14 W1 hm => ?_)
    rw [List.nil_append] at hm
    exact hK.out _ _ (fun _ => HO.s _ hm.bel) (nx3_1110 HO HE hm)
  · rw [if_pos (by rfl)]
    refine HN.lD rfl rfl (fun g16 W1 hm => ?_)
    exact hK.out _ _ (fun _ => HO.s _ hm.bel) (nx2_1111 HO HE hm)
theorem nx2_1101 {x5 : Value} {x8 : Value} {x10 : Value} {g9 : Nat} {g16 : Nat} {W : World} (HO : Old w bb aP aD cP cD P D) (HE : nE w bb gr aP aD cP cD P D b Q) (HN : NX w W (some (x10, sS P ++ [.string { data := #[] }])) (some (g9, .string { data := #[] })) none (some (g16, .bool b))) : wpAnyT Tryd.prog .any nqs Q (nS bb aP aD cP cD P D) (fun i => decide (i < 14)) 5 #[true, true, true, true, true, true, false, true, true, false, true, true, false, false, false] (nF (.slice aP P.length cP) (.slice aD D.length cD) b bb gr x5 x8 (.slice (some ⟨g9, 0, none⟩) 1 1) x10 undef undef (.slice (some ⟨g16, 0, none⟩) 1 1) undef undef) W := by
  refine wpAnyT_one (i := 6) (o := nq6) (by kernel_rfl) rfl (fun K hK => ?_)
  rw [if_pos (by rfl)]
  refine HN.bD rfl (fun x11 W1 hm => ?_)
  exact hK.out _ _ (fun _ => HO.s _ hm.bel) (nx2_1111 HO HE hm)
theorem nx2_1100 {x5 : Value} {x8 : Value} {x10 : Value} {g9 : Nat} {W : World} (HO : Old w bb aP aD cP cD P D) (HE : nE w bb gr aP aD cP cD P D b Q) (HN : NX w W (some (x10, sS P ++ [.string { data := #[] }])) (some (g9, .string { data := #[] })) none none) : wpAnyT Tryd.prog .any nqs Q (nS bb aP aD cP cD P D) (fun i => decide (i < 14)) 6 #[true, true, true, true, true, true, false, true, true, false, true, false, false, false, false] (nF (.slice aP P.length cP) (.slice aD D.length cD) b bb gr x5 x8 (.slice (some ⟨g9, 0, none⟩) 1 1) x10 undef undef undef undef undef) W := by
  refine anyU_two (i := 6) (j := 11) (oi := nq6) (oj := nq11) (by kernel_rfl) rfl rfl (fun K hK => ?_) (fun K hK => ?_)
  · rw [if_pos (by rfl)]
    refine HN.bD rfl (fun x11 W1 hm => ?_)
    exact hK.out _ _ (fun _ => HO.s _ hm.bel) (nx2_1110 HO HE hm)
  · rw [if_pos (by rfl)]
    refine HN.lD rfl rfl (fun g16 W1 hm => ?_)
    exact hK.out _ _ (fun _ => HO.s _ hm.bel) (nx2_1101 HO HE hm)
theorem nx1_1111 {x5 : Value} {x8 : Value} {x11 : Value} {g9 : Nat} {g16 : Nat} {W : World} (HO : Old w bb aP aD cP cD P D) (HE : nE w bb gr aP aD cP cD P D b Q) (HN : NX w W (some (x8, sS P)) (some (g9, .string { data := #[] })) (some (x11, [])) (some (g16, .bool b))) : wpAnyT Tryd.prog .any nqs Q (nS bb aP aD cP cD P D) (fun i => decide (i < 14)) 5 #[true, true, true, true, true, false, true, true, true, false, true, true, false, false, false] (nF (.slice aP P.length cP) (.slice aD D.length cD) b bb gr x5 x8 (.slice (some ⟨g9, 0, none⟩) 1 1) undef x11 undef (.slice (some ⟨g16, 0, none⟩) 1 1) undef undef) W := by
  refine wpAnyT_one (i := 5) (o := nq5) (by kernel_rfl) rfl (fun K hK => ?_)
  rw [if_pos (by rfl)]
  refine HN.aP (ys := [.string { data := #[] }]) _ _ rfl rfl rfl rfl (fun h => by cases h) (lit_cells (HN.p.lit_ g9 _ rfl).1) (fun u hu => by rw [List.mem_singleton] at hu; rw [hu]; rfl) (by have := HO.lp; rw [sS_len]; omega) (fun x10 W1 hm => ?_)
  exact hK.out _ _ (fun _ => HO.s _ hm.bel) (nx2_1111 HO HE hm)
theorem nx1_1110 {x5 : Value} {x8 : Value} {x11 : Value} {g9 : Nat} {W : World} (HO : Old w bb aP aD cP cD P D) (HE : nE w bb gr aP aD cP cD P D b Q) (HN : NX w W (some (x8, sS P)) (some (g9, .string { data := #[] })) (some (x11, [])) none) : wpAnyT Tryd.prog .any nqs Q (nS bb aP aD cP cD P D) (fun i => decide (i < 14)) 6 #[true, true, true, true, true, false, true, true, true, false, true, false, false, false, false] (nF (.slice aP P.length cP) (.slice aD D.length cD) b bb gr x5 x8 (.slice (some ⟨g9, 0, none⟩) 1 1) undef x11 undef undef undef undef) W := by
  refine anyU_two (i := 5) (j := 11) (oi := nq5) (oj := nq11) (by kernel_rfl) rfl rfl (fun K hK => ?_) (fun K hK => ?_)
  · rw [if_pos (by rfl)]
    refine HN.aP (ys := [.string { data := #[] }]) _ _ rfl rfl rfl rfl (fun h => by cases h) (lit_cells (HN.p.lit_ g9 _ rfl).1) (fun u hu => by rw [List.mem_singleton] at hu; rw [hu]; rfl) (by have := HO.lp; rw [sS_len]; omega) (fun x10 W1 hm => ?_)
    exact hK.out _ _ (fun _ => HO.s _ hm.bel) (nx2_1110 HO HE hm)
  · rw [if_pos (by rfl)]
    refine HN.lD rfl rfl (fun g16 W1 hm => ?_)
    exact hK.out _ _ (fun _ => HO.s _ hm.bel) (nx1_1111 HO HE hm)
theorem nx1_1101 {x5 : Value} {x8 : Value} {g9 : Nat} {g16 : Nat} {W : World} (HO : Old w bb aP aD cP cD P D) (HE : nE w bb gr aP aD cP cD P D b Q) (HN : NX w W (some (x8, sS P)) (some (g9, .string { data := #[] })) none (some (g16, .bool b))) : wpAnyT Tryd.prog .any nqs Q (nS bb aP aD cP cD P D) (fun i => decide (i < 14)) 6 #[true, true, true, true, true, false, false, true, true, false, true, true, false, false, false] (nF (.slice aP P.length cP) (.slice aD D.length cD) b bb gr x5 x8 (.slice (some ⟨g9, 0, none⟩) 1 1) undef undef undef (.slice (some ⟨g16, 0, none⟩) 1 1) undef undef) W := by
  refine anyU_two (i := 5) (j := 6) (oi := nq5) (oj := nq6) (by kernel_rfl) rfl rfl (fun K hK => ?_) (fun K hK => ?_)
  · rw [if_pos (by rfl)]
    refine HN.aP (ys := [.string { data := #[] }]) _ _ rfl rfl rfl rfl (fun h => by cases h) (lit_cells (HN.p.lit_ g9 _ rfl).1) (fun u hu => by rw [List.mem_singleton] at hu; rw [hu]; rfl) (by have := HO.lp; rw [sS_len]; omega) (fun x10 W1 hm => ?_)
    exact hK.out _ _ (fun _ => HO.s _ hm.bel) (nx2_1101 HO HE hm)
  · rw [if_pos (by rfl)]
    refine HN.bD rfl (fun x11 W1 hm => ?_)
    exact hK.out _ _ (fun _ => HO.s _ hm.bel) (nx1_1111 HO HE hm)
theorem nx1_1011 {x5 : Value} {x8 : Value} {x11 : Value} {g16 : Nat} {W : World} (HO : Old w bb aP aD cP cD P D) (HE : nE w bb gr aP aD cP cD P D b Q) (HN : NX w W (some (x8, sS P)) none (some (x11, [])) (some (g16, .bool b))) : wpAnyT Tryd.prog .any nqs Q (nS bb aP aD cP cD P D) (fun i => decide (i < 14)) 6 #[true, true, true, true, false, false, true, true, true, false, true, true, false, false, false] (nF (.slice aP P.length cP) (.slice aD D.length cD) b bb gr x5 x8 undef undef x11 undef (.slice (some ⟨g16, 0, none⟩) 1 1) undef undef) W := by
  refine wpAnyT_one (i := 4) (o := nq4) (by kernel_rfl) rfl (fun K hK => ?_)
  rw [if_pos (by rfl)]
  refine HN.lP rfl (fun g9 W1 hm => ?_)
  exact hK.out _ _ (fun _ => HO.s _ hm.bel) (nx1_1111 HO HE hm)
theorem nx1_1100 {x5 : Value} {x8 : Value} {g9 : Nat} {W : World} (HO : Old w bb aP aD cP cD P D) (HE : nE w bb gr aP aD cP cD P D b Q) (HN : NX w W (some (x8, sS P)) (some (g9, .string { data := #[] })) none none) : wpAnyT Tryd.prog .any nqs Q (nS bb aP aD cP cD P D) (fun i => decide (i < 14)) 7 #[true, true, true, true, true, false, false, true, true, false, true, false, false, false, false] (nF (.slice aP P.length cP) (.slice aD D.length cD) b bb gr x5 x8 (.slice (some ⟨g9, 0, none⟩) 1 1) undef undef undef undef undef undef) W := by
  refine anyT_three (i := 5) (j := 6) (l := 11) (oi := nq5) (oj := nq6) (ol := nq11) (by kernel_rfl) rfl rfl rfl (fun K hK => ?_) (fun K hK => ?_) (fun K hK => ?_)
  · rw [if_pos (by rfl)]
    refine HN.aP (ys := [.string { data := #[] }]) _ _ rfl rfl rfl rfl (fun h => by cases h) (lit_cells (HN.p.lit_ g9 _ rfl).1) (fun u hu => by rw [List.mem_singleton] at hu; rw [hu]; rfl) (by have := HO.lp; rw [sS_len]; omega) (fun x10 W1 hm => ?_)
    exact hK.out _ _ (fun _ => HO.s _ hm.bel) (nx2_1100 HO HE hm)
  · rw [if_pos (by rfl)]
    refine HN.bD rfl (fun x11 W1 hm => ?_)
    exact hK.out _ _ (fun _ => HO.s _ hm.bel) (nx1_1110 HO HE hm)
  · rw [if_pos (by rfl)]
    refine HN.lD rfl rfl (fun g16 W1 hm => ?_)
    exact hK.out _ _ (fun _ => HO.s _ hm.bel) (nx1_1101 HO HE hm)
theorem nx1_1010 {x5 : Value} {x8 : Value} {x11 : Value} {W : World} (HO : Old w bb aP aD cP cD P D) (HE : nE w bb gr aP aD cP cD P D b Q) (HN : NX w W (some (x8, sS P)) none (some (x11, [])) none) : wpAnyT Tryd.prog .any nqs Q (nS bb aP aD cP cD P D) (fun i => decide (i < 14)) 7 #[true, true, true, true, false, false, true, true, true, false, true, false, false, false, false] (nF (.slice aP P.length cP) (.slice aD D.length cD) b bb gr x5 x8 undef undef x11 undef undef undef undef) W := by
  refine anyU_two (i := 4) (j := 11) (oi := nq4) (oj := nq11) (by kernel_rfl) rfl rfl (fun K hK => ?_) (fun K hK => ?_)
  · rw [if_pos (by rfl)]
    refine HN.lP rfl (fun g9 W1 hm => ?_)
    exact hK.out _ _ (fun _ => HO.s _ hm.bel) (nx1_1110 HO HE hm)
  · rw [if_pos (by rfl)]
    refine HN.lD rfl rfl (fun g16 W1 hm => ?_)
    exact hK.out _ _ (fun _ => HO.s _ hm.bel) (nx1_1011 HO HE hm)
theorem nx1_1001 {x5 : Value} {x8 : Value} {g16 : Nat} {W : World} (HO : Old w bb aP aD cP cD P D) (HE : nE w bb gr aP aD cP cD P D b Q) (HN : NX w W (some (x8, sS P)) none none (some (g16, .bool b))) : wpAnyT Tryd.prog .any nqs Q (nS bb aP aD cP cD P D) (fun i => decide (i < 14)) 7 #[true, true, true, true, false, false, false, true, true, false, true, true, false, false, false] (nF (.slice aP P.length cP) (.slice aD D.length cD) b bb gr x5 x8 undef undef undef undef (.slice (some ⟨g16, 0, none⟩) 1 1) undef undef) W := by
  refine anyU_two (i := 4) (j := 6) (oi := nq4) (oj := nq6) (by kernel_rfl) rfl rfl (fun K hK => ?_) (fun K hK => ?_)
  · rw [if_pos (by rfl)]
    refine HN.lP rfl (fun g9 W1 hm => ?_)
    exact hK.out _ _ (fun _ => HO.s _ hm.bel) (nx1_1101 HO HE hm)
  · rw [if_pos (by rfl)]
    refine HN.bD rfl (fun x11 W1 hm => ?_)
    exact hK.out _ _ (fun _ => HO.s _ hm.bel) (nx1_1011 HO HE hm)
theorem nx1_1000 {x5 : Value} {x8 : Value} {W : World} (HO : Old w bb aP aD cP cD P D) (HE : nE w bb gr aP aD cP cD P D b Q) (HN : NX w W (some (x8, sS P)) none none none) : wpAnyT Tryd.prog .any nqs Q (nS bb aP aD cP cD P D) (fun i => decide (i < 14)) 8 #[true, true, true, true, false, false, false, true, true, false, true, false, false, false, false] (nF (.slice aP P.length cP) (.slice aD D.length cD) b bb gr x5 x8 undef undef undef undef undef undef undef) W := by
  refine anyT_three (i := 4) (j := 6) (l := 11) (oi := nq4) (oj := nq6) (ol := nq11) (by kernel_rfl) rfl rfl rfl (fun K hK => ?_) (fun K hK => ?_) (fun K hK => ?_)
  · rw [if_pos (by rfl)]
    refine HN.lP rfl (fun g9 W1 hm => ?_)
    exact hK.out _ _ (fun _ => HO.s _ hm.bel) (nx1_1100 HO HE hm)
  · rw [if_pos (by rfl)]
    refine HN.bD rfl (fun x11 W1 hm => ?_)
    exact hK.out _ _ (fun _ => HO.s _ hm.bel) (nx1_1010 HO HE hm)
  · rw [if_pos (by rfl)]
    refine HN.lD rfl rfl (fun g16 W1 hm => ?_)
    exact hK.out _ _ (fun _ => HO.s _ hm.bel) (nx1_1001 HO HE hm)
theorem nx0_1111 {x5 : Value} {x11 : Value} {g9 : Nat} {g16 : Nat} {W : World} (HO : Old w bb aP aD cP cD P D) (HE : nE w bb gr aP aD cP cD P D b Q) (HN : NX w W (some (x5, [])) (some (g9, .string { data := #[] })) (some (x11, [])) (some (g16, .bool b))) : wpAnyT Tryd.prog .any nqs Q (nS bb aP aD cP cD P D) (fun i => decide (i < 14)) 6 #[true, true, true, false, true, false, true, true, true, false, true, true, false, false, false] (nF (.slice aP P.length cP) (.slice aD D.length cD) b bb gr x5 undef (.slice (some ⟨g9, 0, none⟩) 1 1) undef x11 undef (.slice (some ⟨g16, 0, none⟩) 1 1) undef undef) W := by
  refine wpAnyT_one (i := 3) (o := nq3) (by kernel_rfl) rfl (fun K hK => ?_)
  rw [if_pos (by rfl)]
  refine HN.aP (ys := sS P) _ _ rfl rfl rfl (sS_len P) HO.np (HO.cp _ HN.bel) (sS_one P) (by have := HO.lp; simp only [List.length_nil]; omega) (fun x8 W1 hm => ?_)
  rw [List.nil_append] at hm
  exact hK.out _ _ (fun _ => HO.s _ hm.bel) (nx1_1111 HO HE hm)
theorem nx0_1110 {x5 : Value} {x11 : Value} {g9 : Nat} {W : World} (HO : Old w bb aP aD cP cD P D) (HE : nE w bb gr aP aD cP cD P D b Q) (HN : NX w W (some (x5, [])) (some (g9, .string { data := #[] })) (some (x11, [])) none) : wpAnyT Tryd.prog .any nqs Q (nS bb aP aD cP cD P D) (fun i => decide (i < 14)) 7 #[true, true, true, false, true, false, true, true, true, false, true, false, false, false, false] (nF (.slice aP P.length cP) (.slice aD D.length cD) b bb gr x5 undef (.slice (some ⟨g9, 0, none⟩) 1 1) undef x11 undef undef undef undef) W := by
  refine anyU_two (i := 3) (j := 11) (oi := nq3) (oj := nq11) (by kernel_rfl) rfl rfl (fun K hK => ?_) (fun K hK => ?_)
  · rw [if_pos (by rfl)]
    refine HN.aP (ys := sS P) _ _ rfl rfl rfl (sS_len P) HO.np (HO.cp _ HN.bel) (sS_one P) (by have := HO.lp; simp only [List.length_nil]; omega) (fun x8 W1 hm => ?_)
    rw [List.nil_append] at hm
    exact hK.out _ _ (fun _ => HO.s _ hm.bel) (nx1_1110 HO HE hm)
  · rw [if_pos (by rfl)]
    refine HN.lD rfl rfl (fun g16 W1 hm => ?_)
    exact hK.out _ _ (fun _ => HO.s _ hm.bel) (nx0_1111 HO HE hm)
theorem nx0_1101 {x5 : Value} {g9 : Nat} {g16 : Nat} {W : World} (HO : Old w bb aP aD cP cD P D) (HE : nE w bb gr aP aD cP cD P D b Q) (HN : NX w W (some (x5, [])) (some (g9, .string { data := #[] })) none (some (g16, .bool b))) : wpAnyT Tryd.prog .any nqs Q (nS bb aP aD cP cD P D) (fun i => decide (i < 14)) 7 #[true, true, true, false, true, false, false, true, true, false, true, true, false, false, false] (nF (.slice aP P.length cP) (.slice aD D.length cD) b bb gr x5 undef (.slice (some ⟨g9, 0, none⟩) 1 1) undef undef undef (.slice (some ⟨g16, 0, none⟩) 1 1) undef undef) W := by
  refine anyU_two (i := 3) (j := 6) (oi := nq3) (oj := nq6) (by kernel_rfl) rfl rfl (fun K hK => ?_) (fun K hK => ?_)
  · rw [if_pos (by rfl)]
    refine HN.aP (ys := sS P) _ _ rfl rfl rfl (sS_len P) HO.np (HO.cp _ HN.bel) (sS_one P) (by have := HO.lp; simp only [List.length_nil]; omega) (fun x8 W1 hm => ?_)
    rw [List.nil_append] at hm
    exact hK.out _ _ (fun _ => HO.s _ hm.bel) (nx1_1101 HO HE hm)
  · rw [if_pos (by rfl)]
    refine HN.bD rfl (fun x11 W1 hm => ?_)
    exact hK.out _ _ (fun _ => HO.s _ hm.bel) (nx0_1111 HO HE hm)
theorem nx0_1011 {x5 : Value} {x11 : Value} {g16 : Nat} {W : World} (HO : Old w bb aP aD cP cD P D) (HE : nE w bb gr aP aD cP cD P D b Q) (HN : NX w W (some (x5, [])) none (some (x11, [])) (some (g16, .bool b))) : wpAnyT Tryd.prog .any nqs Q (nS bb aP aD cP cD P D) (fun i => decide (i < 14)) 7 #[true, true, true, false, false, false, true, true, true, false, true, true, false, false, false] (nF (.slice aP P.length cP) (.slice aD D.length cD) b bb gr x5 undef undef undef x11 undef (.slice (some ⟨g16, 0, none⟩) 1 1) undef undef) W := by
  refine anyU_two (i := 3) (j := 4) (oi := nq3) (oj := nq4) (by kernel_rfl) rfl rfl (fun K hK => ?_) (fun K hK => ?_)
  · rw [if_pos (by rfl)]
    refine HN.aP (ys := sS P) _ _ rfl rfl rfl (sS_len P) HO.np (HO.cp _ HN.bel) (sS_one P) (by have := HO.lp; simp only [List.length_nil]; omega) (fun x8 W1 hm => ?_)
    rw [List.nil_append] at hm
    exact hK.out _ _ (fun _ => HO.s _ hm.bel) (nx1_1011 HO HE hm)
  · rw [if_pos (by rfl)]
    refine HN.lP rfl (fun g9 W1 hm => ?_)
    exact hK.out _ _ (fun _ => HO.s _ hm.bel) (nx0_1111 HO HE hm)
theorem nx0_0111 {x11 : Value} {g9 : Nat} {g16 : Nat} {W : World} (HO : Old w bb aP aD cP cD P D) (HE : nE w bb gr aP aD cP cD P D b Q) (HN : NX w W none (some (g9, .string { data := #[] })) (some (x11, [])) (some (g16, .bool b))) : wpAnyT Tryd.prog .any nqs Q (nS bb aP aD cP cD P D) (fun i => decide (i < 14)) 7 #[false, true, true, false, true, false, true, true, true, false, true, true, false, false, false] (nF (.slice aP P.length cP) (.slice aD D.length cD) b bb gr undef undef (.slice (some ⟨g9, 0, none⟩) 1 1) undef x11 undef (.slice (some ⟨g16, 0, none⟩) 1 1) undef undef) W := by
  refine wpAnyT_one (i := 0) (o := nq0) (by kernel_rfl) rfl (fun K hK => ?_)
  rw [if_pos (by rfl)]
  refine HN.bP rfl (fun x5 W1 hm => ?_)
  exact hK.out _ _ (fun _ => HO.s _ hm.bel) (nx0_1111 HO HE hm)
theorem nx0_1100 {x5 : Value} {g9 : Nat} {W : World} (HO : Old w bb aP aD cP cD P D) (HE : nE w bb gr aP aD cP cD P D b Q) (HN : NX w W (some (x5, [])) (some (g9, .string { data := #[] })) none none) : wpAnyT Tryd.prog .any nqs Q (nS bb aP aD cP cD P D) (fun i => decide (i < 14)) 8 #[true, true, true, false, true, false, false, true, true, false, true, false, false, false, false] (nF (.slice aP P.length cP) (.slice aD D.length cD) b bb gr x5 undef (.slice (some ⟨g9, 0, none⟩) 1 1) undef undef undef undef undef undef) W := by
  refine anyT_three (i := 3) (j := 6) (l := 11) (oi := nq3) (oj := nq6) (ol := nq11) (by kernel_rfl) rfl rfl rfl (fun K hK => ?_) (fun K hK => ?_) (fun K hK => ?_)
  · rw [if_pos (by rfl)]
    refine HN.aP (ys := sS P) _ _ rfl rfl rfl (sS_len P) HO.np (HO.cp _ HN.bel) (sS_one P) (by have := HO.lp; simp only [List.length_nil]; omega) (fun x8 W1 hm => ?_)
    rw [List.nil_append] at hm
    exact hK.out _ _ (fun _ => HO.s _ hm.bel) (nx1_1100 HO HE hm)
  · rw [if_pos (by rfl)]
    refine HN.bD rfl (fun x11 W1 hm => ?_)
    exact hK.out _ _ (fun _ => HO.s _ hm.bel) (nx0_1110 HO HE hm)
  · rw [if_pos (by rfl)]
    refine HN.lD rfl rfl (fun g16 W1 hm => ?_)
    exact hK.out _ _ (fun _ => HO.s _ hm.bel) (nx0_1101 HO HE hm)
theorem nx0_1010 {x5 : Value} {x11 : Value} {W : World} (HO : Old w bb aP aD cP cD P D) (HE : nE w bb gr aP aD cP cD P D b Q) (HN : NX w W (some (x5, [])) none (some (x11, [])) none) : wpAnyT Tryd.prog .any nqs Q (nS bb aP aD cP cD P D) (fun i => decide (i < 14)) 8 #[true, true, true, false, false, false, true, true, true, false, true, false, false, false, false] (nF (.slice aP P.length cP) (.slice aD D.length cD) b bb gr x5 undef undef undef x11 undef undef undef undef) W := by
  refine anyT_three (i := 3) (j := 4) (l := 11) (oi := nq3) (oj := nq4) (ol := nq11) (by kernel_rfl) rfl rfl rfl (fun K hK => ?_) (fun K hK => ?_) (fun K hK => ?_)
  · rw [if_pos (by rfl)]
    refine HN.aP (ys := sS P) _ _ rfl rfl rfl (sS_len P) HO.np (HO.cp _ HN.bel) (sS_one P) (by have := HO.lp; simp only [List.length_nil]; omega) (fun x8 W1 hm => ?_)
    rw [List.nil_append] at hm
    exact hK.out _ _ (fun _ => HO.s _ hm.bel) (nx1_1010 HO HE hm)
  · rw [if_pos (by rfl)]
    refine HN.lP rfl (fun g9 W1 hm => ?_)
    exact hK.out _ _ (fun _ => HO.s _ hm.bel) (nx0_1110 HO HE hm)
  · rw [if_pos (by rfl)]
    refine HN.lD rfl rfl (fun g16 W1 hm => ?_)
    exact hK.out _ _ (fun _ => HO.s _ hm.bel) (nx0_1011 HO HE hm)
theorem nx0_1001 {x5 : Value} {g16 : Nat} {W : World} (HO : Old w bb aP aD cP cD P D) (HE : nE w bb gr aP aD cP cD P D b Q) (HN : NX w W (some (x5, [])) none none (some (g16, .bool b))) : wpAnyT Tryd.prog .any nqs Q (nS bb aP aD cP cD P D) (fun i => decide (i < 14)) 8 #[true, true, true, false, false, false, false, true, true, false, true, true, false, false, false] (nF (.slice aP P.length cP) (.slice aD D.length cD) b bb gr x5 undef undef undef undef undef (.slice (some ⟨g16, 0, none⟩) 1 1) undef undef) W := by
  refine anyT_three (i := 3) (j := 4) (l := 6) (oi := nq3) (oj := nq4) (ol := nq6) (by kernel_rfl) rfl rfl rfl (fun K hK => ?_) (fun K hK => ?_) (fun K hK => ?_)
  · rw [if_pos (by rfl)]
    refine HN.aP (ys := sS P) _ _ rfl rfl rfl (sS_len P) HO.np (HO.cp _ HN.bel) (sS_one P) (by have := HO.lp; simp only [List.length_nil]; omega) (fun x8 W1 hm => ?_)
    rw [List.nil_append] at hm
    exact hK.out _ _ (fun _ => HO.s _ hm.bel) (nx1_1001 HO HE hm)
  · rw [if_pos (by rfl)]
    refine HN.lP rfl (fun g9 W1 hm => ?_)
    exact hK.out _ _ (fun _ => HO.s _ hm.bel) (nx0_1101 HO HE hm)
  · rw [if_pos (by rfl)]
    refine HN.bD rfl (fun x11 W1 hm => ?_)
    exact hK.out _ _ (fun _ => HO.s _ hm.bel) (nx0_1011 HO HE hm)
theorem nx0_0110 {x11 : Value} {g9 : Nat} {W : World} (HO : Old w bb aP aD cP cD P D) (HE : nE w bb gr aP aD cP cD P D b Q) (HN : NX w W none (some (g9, .string { data := #[] })) (some (x11, [])) none) : wpAnyT Tryd.prog .any nqs Q (nS bb aP aD cP cD P D) (fun i => decide (i < 14)) 8 #[false, true, true, false, true, false, true, true, true, false, true, false, false, false, false] (nF (.slice aP P.length cP) (.slice aD D.length cD) b bb gr undef undef (.slice (some ⟨g9, 0, none⟩) 1 1) undef x11 undef undef undef undef) W := by
  refine anyU_two (i := 0) (j := 11) (oi := nq0) (oj := nq11) (by kernel_rfl) rfl rfl (fun K hK => ?_) (fun K hK => ?_)
  · rw [if_pos (by rfl)]
    refine HN.bP rfl (fun x5 W1 hm => ?_)
    exact hK.out _ _ (fun _ => HO.s _ hm.bel) (nx0_1110 HO HE hm)
  · rw [if_pos (by rfl)]
    refine HN.lD rfl rfl (fun g16 W1 hm => ?_)
    exact hK.out _ _ (fun _ => HO.s _ hm.bel) (nx0_0111 HO HE hm)
theorem nx0_0101 {g9 : Nat} {g16 : Nat} {W : World} (HO : Old w bb aP aD cP cD P D) (HE : nE w bb gr aP aD cP cD P D b Q) (HN : NX w W none (some (g9, .string { data := #[] })) none (some (g16, .bool b))) : wpAnyT Tryd.prog .any nqs Q (nS bb aP aD cP cD P D) (fun i => decide (i < 14)) 8 #[false, true, true, false, true, false, false, true, true, false, true, true, false, false, false] (nF (.slice aP P.length cP) (.slice aD D.length cD) b bb gr undef undef (.slice (some ⟨g9, 0, none⟩) 1 1) undef undef undef (.slice (some ⟨g16, 0, none⟩) 1 1) undef undef) W := by
  refine anyU_two (i := 0) (j := 6) (oi := nq0) (oj := nq6) (by kernel_rfl) rfl rfl (fun K hK => ?_) (fun K hK => ?_)
  · rw [if_pos (by rfl)]
    refine HN.bP rfl (fun x5 W1 hm => ?_)
    exact hK.out _ _ (fun _ => HO.s _ hm.bel) (nx0_1101 HO HE hm)
  · rw [if_pos (by rfl)]
    refine HN.bD rfl (fun x11 W1 hm => ?_)
    exact hK.out _ _ (fun _ => HO.s _ hm.bel) (nx0_0111 HO HE hm)
theorem nx0_0011 {x11 : Value} {g16 : Nat} {W : World} (HO : Old w bb aP aD cP cD P D) (HE : nE w bb gr aP aD cP cD P D b Q) (HN : NX w W none none (some (x11, [])) (some (g16, .bool b))) : wpAnyT Tryd.prog .any nqs Q (nS bb aP aD cP cD P D) (fun i => decide (i < 14)) 8 #[false, true, true, false, false, false, true, true, true, false, true, true, false, false, false] (nF (.slice aP P.length cP) (.slice aD D.length cD) b bb gr undef undef undef undef x11 undef (.slice (some ⟨g16, 0, none⟩) 1 1) undef undef) W := by
  refine anyU_two (i := 0) (j := 4) (oi := nq0) (oj := nq4) (by kernel_rfl) rfl rfl (fun K hK => ?_) (fun K hK => ?_)
  · rw [if_pos (by rfl)]
    refine HN.bP rfl (fun x5 W1 hm => ?_)
    exact hK.out _ _ (fun _ => HO.s _ hm.bel) (nx0_1011 HO HE hm)
  · rw [if_pos (by rfl)]
    refine HN.lP rfl (fun g9 W1 hm => ?_)
    exact hK.out _ _ (fun _ => HO.s _ hm.bel) (nx0_0111 HO HE hm)
theorem nx0_1000 {x5 : Value} {W : World} (HO : Old w bb aP aD cP cD P D) (HE : nE w bb gr aP aD cP cD P D b Q) (HN : NX w W (some (x5, [])) none none none) : wpAnyT Tryd.prog .any nqs Q (nS bb aP aD cP cD P D) (fun i => decide (i < 14)) 9 #[true, true, true, false, false, false, false, true, true, false, true, false, false, false, false] (nF (.slice aP P.length cP) (.slice aD D.length cD) b bb gr x5 undef undef undef undef undef undef undef undef) W := by
  refine anyT_four (i := 3) (j := 4) (l := 6) (m := 11) (oi := nq3) (oj := nq4) (ol := nq6) (om := nq11) (by kernel_rfl) rfl rfl rfl rfl (fun K hK => ?_) (fun K hK => ?_) (fun K hK => ?_) (fun K hK => ?_)
  · rw [if_pos (by rfl)]
    refine HN.aP (ys := sS P) _ _ rfl rfl rfl (sS_len P) HO.np (HO.cp _ HN.bel) (sS_one P) (by have := HO.lp; simp only [List.length_nil]; omega) (fun x8 W1 hm => ?_)
    rw [List.nil_append] at hm
    exact hK.out _ _ (fun _ => HO.s _ hm.bel) (nx1_1000 HO HE hm)
  · rw [if_pos (by rfl)]
    refine HN.lP rfl (fun g9 W1 hm => ?_)
    exact hK.out _ _ (fun _ => HO.s _ hm.bel) (nx0_1100 HO HE hm)
  · rw [if_pos (by rfl)]
    refine HN.bD rfl (fun x11 W1 hm => ?_)
    exact hK.out _ _ (fun _ => HO.s _ hm.bel) (nx0_1010 HO HE hm)
  · rw [if_pos (by rfl)]
    refine HN.lD rfl rfl (fun g16 W1 hm => ?_)
    exact hK.out _ _ (fun _ => HO.s _ hm.bel) (nx0_1001 HO HE hm)
theorem nx0_0100 {g9 : Nat} {W : World} (HO : Old w bb aP aD cP cD P D) (HE : nE w bb gr aP aD cP cD P D b Q) (HN : NX w W none (some (g9, .string { data := #[] })) none none) : wpAnyT Tryd.prog .any nqs Q (nS bb aP aD cP cD P D) (fun i => decide (i < 14)) 9 #[false, true, true, false, true, false, false, true, true, false, true, false, false, false, false] (nF (.slice aP P.length cP) (.slice aD D.length cD) b bb gr undef undef (.slice (some ⟨g9, 0, none⟩) 1 1) undef undef undef undef undef undef) W := by
  refine anyT_three (i := 0) (j := 6) (l := 11) (oi := nq0) (oj := nq6) (ol := nq11) (by kernel_rfl) rfl rfl rfl (fun K hK => ?_) (fun K hK => ?_) (fun K hK => ?_)
  · rw [if_pos (by rfl)]
    refine HN.bP rfl (fun x5 W1 hm => ?_)
    exact hK.out _ _ (fun _ => HO.s _ hm.bel) (nx0_1100 HO HE hm)
  · rw [if_pos (by rfl)]
    refine HN.bD rfl (fun x11 W1 hm => ?_)
    exact hK.out _ _ (fun _ => HO.s _ hm.bel) (nx0_0110 HO HE hm)
  · rw [if_pos (by rfl)]
    refine HN.lD rfl rfl (fun g16 W1 hm => ?_)
    exact hK.out _ _ (fun _ => HO.s _ hm.bel) (nx0_0101 HO HE hm)
theorem nx0_0010 {x11 : Value} {W : World} (HO : Old w bb aP aD cP cD P D) (HE : nE w bb gr aP aD cP cD P D b Q) (HN : NX w W none none (some (x11, [])) none) : wpAnyT Tryd.prog .any nqs Q (nS bb aP aD cP cD P D) (fun i => decide (i < 14)) 9 #[false, true, true, false, false, false, true, true, true, false, true, false, false, false, false] (nF (.slice aP P.length cP) (.slice aD D.length cD) b bb gr undef undef undef undef x11 undef undef undef undef) W := by
  refine anyT_three (i := 0) (j := 4) (l := 11) (oi := nq0) (oj := nq4) (ol := nq11) (by kernel_rfl) rfl rfl rfl (fun K hK => ?_) (fun K hK => ?_) (fun K hK => ?_)
  · rw [if_pos (by rfl)]
    refine HN.bP rfl (fun x5 W1 hm => ?_)
    exact hK.out _ _ (fun _ => HO.s _ hm.bel) (nx0_1010 HO HE hm)
  · rw [if_pos (by rfl)]
    refine HN.lP rfl (fun g9 W1 hm => ?_)
    exact hK.out _ _ (fun _ => HO.s _ hm.bel) (nx0_0110 HO HE hm)
  · rw [if_pos (by rfl)]
    refine HN.lD rfl rfl (fun g16 W1 hm => ?_)
    exact hK.out _ _ (fun _ => HO.s _ hm.bel) (nx0_0011 HO HE hm)
theorem nx0_0001 {g16 : Nat} {W : World} (HO : Old w bb aP aD cP cD P D) (HE : nE w bb gr aP aD cP cD P D b Q) (HN : NX w W none none none (some (g16, .bool b))) : wpAnyT Tryd.prog .any nqs Q (nS bb aP aD cP cD P D) (fun i => decide (i < 14)) 9 #[false, true, true, false, false, false, false, true, true, false, true, true, false, false, false] (nF (.slice aP P.length cP) (.slice aD D.length cD) b bb gr undef undef undef undef undef undef (.slice (some ⟨g16, 0, none⟩) 1 1) undef undef) W := by
  refine anyT_three (i := 0) (j := 4) (l := 6) (oi := nq0) (oj := nq4) (ol := nq6) (by kernel_rfl) rfl rfl rfl (fun K hK => ?_) (fun K hK => ?_) (fun K hK => ?_)
  · rw [if_pos (by rfl)]
    refine HN.bP rfl (fun x5 W1 hm => ?_)
    exact hK.out _ _ (fun _ => HO.s _ hm.bel) (nx0_1001 HO HE hm)
  · rw [if_pos (by rfl)]
    refine HN.lP rfl (fun g9 W1 hm => ?_)
    exact hK.out _ _ (fun _ => HO.s _ hm.bel) (nx0_0101 HO HE hm)
  · rw [if_pos (by rfl)]
    refine HN.bD rfl (fun x11 W1 hm => ?_)
    exact hK.out _ _ (fun _ => HO.s _ hm.bel) (nx0_0011 HO HE hm)
theorem nx0_0000 {W : World} (HO : Old w bb aP aD cP cD P D) (HE : nE w bb gr aP aD cP cD P D b Q) (HN : NX w W none none none none) : wpAnyT Tryd.prog .any nqs Q (nS bb aP aD cP cD P D) (fun i => decide (i < 14)) 10 #[false, true, true, false, false, false, false, true, true, false, true, false, false, false, false] (nF (.slice aP P.length cP) (.slice aD D.length cD) b bb gr undef undef undef undef undef undef undef undef undef) W := by
  refine anyT_four (i := 0) (j := 4) (l := 6) (m := 11) (oi := nq0) (oj := nq4) (ol := nq6) (om := nq11) (by kernel_rfl) rfl rfl rfl rfl (fun K hK => ?_) (fun K hK => ?_) (fun K hK => ?_) (fun K hK => ?_)
  · rw [if_pos (by rfl)]
    refine HN.bP rfl (fun x5 W1 hm => ?_)
    exact hK.out _ _ (fun _ => HO.s _ hm.bel) (nx0_1000 HO HE hm)
  · rw [if_pos (by rfl)]
    refine HN.lP rfl (fun g9 W1 hm => ?_)
    exact hK.out _ _ (fun _ => HO.s _ hm.bel) (nx0_0100 HO HE hm)
  · rw [if_pos (by rfl)]
    refine HN.bD rfl (fun x11 W1 hm => ?_)
    exact hK.out _ _ (fun _ => HO.s _ hm.bel) (nx0_0010 HO HE hm)
  · rw [if_pos (by rfl)]
    refine HN.lD rfl rfl (fun g16 W1 hm => ?_)
    exact hK.out _ _ (fun _ => HO.s _ hm.bel) (nx0_0001 HO HE hm)
end
end Go.Proofs.YtidblnjohkadhaaDoor

namespace Go.Proofs.YtidblnjohkadhaaDoor
set_option linter.unusedVariables false
set_option linter.unusedSimpArgs false
open Go.ChangeShapes Go.WideShapes Go.ChangeAt Go.RowKit Go.Joins Go.Deep

theorem Wd.old {w W : World} {B bb cP cD : Nat} {aP aD : Option Addr} {P : List (List (List UInt8))} {D : List Bool} (h : Wd w B (.slice aP P.length cP) (.slice aD D.length cD) P D) (hb : RowAt w bb 88 [.slice aP P.length cP, .slice aD D.length cD]) (lp : P.length ≤ 2199023255552) (ld : D.length ≤ 2199023255552) : Old w bb aP aD cP cD P D :=
  ⟨fun W hW => ⟨(hb.below hW hb.lt).cell 0, (hb.below hW hb.lt).cell 1⟩, (own_cells h.p).1, (own_cells h.d).1, fun W hW => (own_cells (h.call hW).p).2, fun W hW => (own_cells (h.call hW).d).2, lp, ld⟩
set_option maxRecDepth 100000 in
set_option maxHeartbeats 4000000 in
theorem wnext_any {w : World} {B : Nat} {vP vD : Value} {P : List (List (List UInt8))} {D : List Bool} (b : Bool) (hw : Wd w B vP vD P D) (lp : P.length ≤ 2199023255552) (ld : D.length ≤ 2199023255552) :
    Calls Tryd.prog 90 #[.agg #[vP, vD], .bool b] w fun r w' => ∃ vP' vD', r = .returned (.agg #[vP', vD']) ∧ Wd w' w.heap.size vP' vD' (P ++ [[]]) (D ++ [b]) ∧ Below w.heap.size w w' := by
  obtain ⟨aP, cP, rfl, -, -⟩ := own_sl hw.p
  obtain ⟨aD, cD, rfl, -, -⟩ := own_sl hw.d
  have hb1 : Below w.heap.size w (w.alloc (.cells #[.slice aP P.length cP, .slice aD D.length cD] 88)) := (Below.refl _ _).alloc (Nat.le_refl _) _
  have hb2 : Below (w.alloc (.cells #[.slice aP P.length cP, .slice aD D.length cD] 88)).heap.size (w.alloc (.cells #[.slice aP P.length cP, .slice aD D.length cD] 88)) ((w.alloc (.cells #[.slice aP P.length cP, .slice aD D.length cD] 88)).alloc (.cells #[.slice none 0 0, .slice none 0 0] 88)) := (Below.refl _ _).alloc (Nat.le_refl _) _
  have HR1 := hide ((RowAt.new w 88 [.slice aP P.length cP, .slice aD D.length cD]).below hb2 (by simp))
  have HR2 : Hid (RowAt ((w.alloc (.cells #[.slice aP P.length cP, .slice aD D.length cD] 88)).alloc (.cells #[.slice none 0 0, .slice none 0 0] 88)) (w.heap.size + 1) 88 [.slice none 0 0, .slice none 0 0]) := hide (by have h := RowAt.new (w.alloc (.cells #[.slice aP P.length cP, .slice aD D.length cD] 88)) 88 [.slice none 0 0, .slice none 0 0]; rw [size_alloc] at h; exact h)
  have HW2 := hide ((hw.call hb1).call hb2)
  have HB2 := hide (hb1.trans (hb2.mono hb1.size))
  have HLP := hide (And.intro lp ld)
  clear hw hb1 hb2 lp ld
  go_enter Tryd.func90, Tryd.ntmps90
  go_wp2_with fail
  obtain ⟨wA, hA⟩ : ∃ z, (w.alloc (.cells #[.slice aP P.length cP, .slice aD D.length cD] 88)).alloc (.cells #[.slice none 0 0, .slice none 0 0] 88) = z := ⟨_, rfl⟩
  obtain ⟨bb, hbb⟩ : ∃ z, w.heap.size = z := ⟨_, rfl⟩
  obtain ⟨gr, hgr⟩ : ∃ z, bb + 1 = z := ⟨_, rfl⟩
  have HR1 : Hid (RowAt wA bb 88 [.slice aP P.length cP, .slice aD D.length cD]) := by rw [← hbb, ← hA]; exact HR1
  have HR2 : Hid (RowAt wA gr 88 [.slice none 0 0, .slice none 0 0]) := by rw [← hgr, ← hbb, ← hA]; exact HR2
  have HB2 : Hid (Below w.heap.size w wA) := by rw [← hA]; exact HB2
  have HW2 : Hid (Wd wA B (.slice aP P.length cP) (.slice aD D.length cD) P D) := by rw [← hA]; exact HW2
  have HGR : Hid (w.heap.size ≤ gr) := hide (by omega)
  simp only [hA]
  simp only [hbb, hgr]
  have HOL := hide (Wd.old (W := wA) (unhide HW2) (unhide HR1) (unhide HLP).1 (unhide HLP).2)
  clear hA hgr HW2 HR1
  refine wp_region_T (S := nS bb aP aD cP cD P D) (fun i => decide (i < 14)) (by kernel_rfl) ((unhide HOL).s _ (Below.refl _ _).drew) (fun hHeld => ?_)
  refine wpAnyT_take (i := 1) (oi := { dst := some 6, op := Op.fieldAddr 88 (Operand.tmp 2) 0, type := 0, pos := "ref.go:308", after := #[], guard := none }) (v := .pointer (some ⟨bb, 0, none⟩)) rfl (by kernel_rfl) (by kernel_rfl) (by kernel_rfl) (by kernel_rfl) (fun _ _ _ h => h) (Or.inl ⟨by rfl, ?_⟩) hHeld ?_
  · intro w hSw
    obtain ⟨s0, s1⟩ := hSw
    first
      | rfl
      | (go_simp; done)
  try simp only [Act.put, List.setIfInBounds_toArray, List.set_cons_zero, List.set_cons_succ]
  refine wpAnyT_take (i := 2) (oi := { dst := some 7, op := Op.load 85 (Operand.tmp 6), type := 85, pos := "ref.go:308", after := #[{ on := 1, ground := Ground.data }], guard := none }) (v := .slice aP P.length cP) rfl (by kernel_rfl) (by kernel_rfl) (by kernel_rfl) (by kernel_rfl) (fun _ _ _ h => h) (Or.inl ⟨by rfl, ?_⟩) hHeld ?_
  · intro w hSw
    obtain ⟨s0, s1⟩ := hSw
    first
      | rfl
      | (go_simp; done)
  try simp only [Act.put, List.setIfInBounds_toArray, List.set_cons_zero, List.set_cons_succ]
  refine wpAnyT_take (i := 7) (oi := { dst := some 12, op := Op.fieldAddr 88 (Operand.tmp 2) 1, type := 0, pos := "ref.go:308", after := #[], guard := none }) (v := .pointer (some ⟨bb, 1, none⟩)) rfl (by kernel_rfl) (by kernel_rfl) (by kernel_rfl) (by kernel_rfl) (fun _ _ _ h => h) (Or.inl ⟨by rfl, ?_⟩) hHeld ?_
  · intro w hSw
    obtain ⟨s0, s1⟩ := hSw
    first
      | rfl
      | (go_simp; done)
  try simp only [Act.put, List.setIfInBounds_toArray, List.set_cons_zero, List.set_cons_succ]
  refine wpAnyT_take (i := 8) (oi := { dst := some 13, op := Op.load 86 (Operand.tmp 12), type := 86, pos := "ref.go:308", after := #[{ on := 7, ground := Ground.data }], guard := none }) (v := .slice aD D.length cD) rfl (by kernel_rfl) (by kernel_rfl) (by kernel_rfl) (by kernel_rfl) (fun _ _ _ h => h) (Or.inl ⟨by rfl, ?_⟩) hHeld ?_
  · intro w hSw
    obtain ⟨s0, s1⟩ := hSw
    first
      | rfl
      | (go_simp; done)
  try simp only [Act.put, List.setIfInBounds_toArray, List.set_cons_zero, List.set_cons_succ]
  refine wpAnyT_take (i := 10) (oi := { dst := some 15, op := Op.move (Operand.tmp 1), type := 4, pos := "ref.go:308", after := #[], guard := none }) (v := .bool b) rfl (by kernel_rfl) (by kernel_rfl) (by kernel_rfl) (by kernel_rfl) (fun _ _ _ h => h) (Or.inl ⟨by rfl, ?_⟩) hHeld ?_
  · intro w hSw
    obtain ⟨s0, s1⟩ := hSw
    first
      | rfl
      | (go_simp; done)
  try simp only [Act.put, List.setIfInBounds_toArray, List.set_cons_zero, List.set_cons_succ]
  refine nx0_0000 (unhide HOL) (fun x5 x8 x9 x10 x11 x14 x16 x17 W l9 l4 hN => ?_) (NX.start wA)
  obtain ⟨a10, c10, hx10, -, -⟩ := own_sl (hN.p.own_ _ _ rfl)
  obtain ⟨a17, c17, hx17, -, -⟩ := own_sl (hN.d.own_ _ _ rfl)
  generalize (sS P ++ [Value.string { data := #[] }]).length = n10 at hx10
  generalize (bS D ++ [Value.bool b]).length = n17 at hx17
  subst hx10 hx17
  have HN := hide hN
  have fr0 := ((unhide HR2).below hN.bel (unhide HR2).lt).frozen 0
  have fr1 := ((unhide HR2).below hN.bel (unhide HR2).lt).frozen 1
  have xc0 : W.cell? ⟨gr, 0, none⟩ = some (.slice none 0 0) := ((unhide HR2).below hN.bel (unhide HR2).lt).cell 0
  have xc1 : W.cell? ⟨gr, 1, none⟩ = some (.slice none 0 0) := ((unhide HR2).below hN.bel (unhide HR2).lt).cell 1
  have HFI : Hid (RowAt ((W.setCell ⟨gr, 0, none⟩ (.slice a10 n10 c10)).setCell ⟨gr, 1, none⟩ (.slice a17 n17 c17)) gr 88 [(.slice a10 n10 c10), (.slice a17 n17 c17)] ∧ Wd ((W.setCell ⟨gr, 0, none⟩ (.slice a10 n10 c10)).setCell ⟨gr, 1, none⟩ (.slice a17 n17 c17)) w.heap.size (.slice a10 n10 c10) (.slice a17 n17 c17) (P ++ [[]]) (D ++ [b]) ∧ Below w.heap.size w ((W.setCell ⟨gr, 0, none⟩ (.slice a10 n10 c10)).setCell ⟨gr, 1, none⟩ (.slice a17 n17 c17))) := hide (by
    have hr := (unhide HR2).below hN.bel (unhide HR2).lt
    have e1 : sS (P ++ [[]]) = sS P ++ [.string { data := #[] }] := by simp [sS]; rfl
    have e2 : bS (D ++ [b]) = bS D ++ [.bool b] := by simp [bS]
    have h9 := hN.p.own_ _ _ rfl
    have h4 := hN.d.own_ _ _ rfl
    rw [← e1, sS_len] at h9
    rw [← e2, bS_len] at h4
    have hwd : Wd W w.heap.size (.slice a10 n10 c10) (.slice a17 n17 c17) (P ++ [[]]) (D ++ [b]) := ⟨own_base h9 (unhide HB2).size, own_base h4 (unhide HB2).size⟩
    obtain ⟨n1, n2⟩ := hwd.row_ne hr (by decide) (by decide)
    exact ⟨(hr.set 0 (.slice a10 n10 c10)).set 1 (.slice a17 n17 c17), (hwd.other n1 n2).other n1 n2, (((unhide HB2).trans (hN.bel.mono (unhide HB2).size)).setCell (unhide HGR) _).setCell (unhide HGR) _⟩)
  clear hN
  refine wpAnyT_take (i := 13) (oi := { dst := some 18, op := Op.build 88 #[(0, Operand.tmp 10), (1, Operand.tmp 17)], type := 88, pos := "ref.go:308", after := #[{ on := 5, ground := Ground.data }, { on := 12, ground := Ground.data }], guard := none }) (v := .agg #[(.slice a10 n10 c10), (.slice a17 n17 c17)]) rfl (by kernel_rfl) (by kernel_rfl) (by kernel_rfl) (by kernel_rfl) (fun _ _ _ h => h) (Or.inl ⟨by rfl, ?_⟩) ((unhide HOL).s _ (unhide HN).bel) ?_
  · intro w hSw
    obtain ⟨s0, s1⟩ := hSw
    first
      | rfl
      | (go_simp; done)
  try simp only [Act.put, List.setIfInBounds_toArray, List.set_cons_zero, List.set_cons_succ]
  refine wpAnyT_one (i := 14) (o := { dst := none, op := Op.store 88 (Operand.tmp 4) (Operand.tmp 18), type := 0, pos := "ref.go:308", after := #[{ on := 13, ground := Ground.data }, { on := 12, ground := Ground.chain }, { on := 0, ground := Ground.phase }, { on := 1, ground := Ground.phase }, { on := 2, ground := Ground.phase }, { on := 3, ground := Ground.phase }, { on := 4, ground := Ground.phase }, { on := 5, ground := Ground.phase }, { on := 6, ground := Ground.phase }, { on := 7, ground := Ground.phase }, { on := 8, ground := Ground.phase }, { on := 9, ground := Ground.phase }, { on := 10, ground := Ground.phase }, { on := 11, ground := Ground.phase }, { on := 12, ground := Ground.phase }, { on := 13, ground := Ground.phase }], guard := none }) (by kernel_rfl) rfl (fun K hK => ?_)
  go_simp
  refine hK.out _ _ (fun h => by cases h) ?_
  clear hK K
  try simp only [Act.put, List.setIfInBounds_toArray, List.set_cons_zero, List.set_cons_succ]
  refine wpAnyT_done (by kernel_rfl) ?_ _
  go_wp2_with fail
  obtain ⟨wF, hF⟩ : ∃ z, (W.setCell ⟨gr, 0, none⟩ (.slice a10 n10 c10)).setCell ⟨gr, 1, none⟩ (.slice a17 n17 c17) = z := ⟨_, rfl⟩
  simp only [hF] at HFI ⊢
  clear hF
  have q0 : wF.cell? ⟨gr, 0, none⟩ = some (.slice a10 n10 c10) := (unhide HFI).1.cell 0
  have q1 : wF.cell? ⟨gr, 1, none⟩ = some (.slice a17 n17 c17) := (unhide HFI).1.cell 1
  refine bodyPost_ret (v := .agg #[.slice a10 n10 c10, .slice a17 n17 c17]) (by simp [results, Tryd.results90, go_sem, q0, q1]) rfl ?_
  exact ⟨_, _, rfl, (unhide HFI).2.1, (unhide HFI).2.2⟩
set_option maxRecDepth 100000 in
set_option maxHeartbeats 4000000 in
theorem wlast_any {w : World} {B : Nat} {vP vD : Value} {P : List (List (List UInt8))} {D : List Bool} {q r : List (List UInt8)} (hw : Wd w B vP vD P D) (hB : B ≤ w.heap.size) (hl : P.length = D.length + 1) (hq : P[D.length]? = some q) (lp : P.length ≤ 2199023255552) (hs : (txB q).size + (txB r).size ≤ 9223372036854775807) :
    Calls Tryd.prog 89 #[.agg #[vP, vD], .string (txB r)] w fun e w' => ∃ vP', e = .returned (.agg #[vP', vD]) ∧ Wd w' B vP' vD (P.set D.length (q ++ r)) D ∧ Below w.heap.size w w' := by
  obtain ⟨aP, cP, rfl, -, -⟩ := own_sl hw.p
  obtain ⟨aD, cD, rfl, -, -⟩ := own_sl hw.d
  have hb1 : Below w.heap.size w (w.alloc (.cells #[.slice aP P.length cP, .slice aD D.length cD] 88)) := (Below.refl _ _).alloc (Nat.le_refl _) _
  have hb2 : Below (w.alloc (.cells #[.slice aP P.length cP, .slice aD D.length cD] 88)).heap.size (w.alloc (.cells #[.slice aP P.length cP, .slice aD D.length cD] 88)) ((w.alloc (.cells #[.slice aP P.length cP, .slice aD D.length cD] 88)).alloc (.cells #[.slice none 0 0, .slice none 0 0] 88)) := (Below.refl _ _).alloc (Nat.le_refl _) _
  have HR1 := hide ((RowAt.new w 88 [.slice aP P.length cP, .slice aD D.length cD]).below hb2 (by simp))
  have HR2 : Hid (RowAt ((w.alloc (.cells #[.slice aP P.length cP, .slice aD D.length cD] 88)).alloc (.cells #[.slice none 0 0, .slice none 0 0] 88)) (w.heap.size + 1) 88 [.slice none 0 0, .slice none 0 0]) := hide (by have h := RowAt.new (w.alloc (.cells #[.slice aP P.length cP, .slice aD D.length cD] 88)) 88 [.slice none 0 0, .slice none 0 0]; rw [size_alloc] at h; exact h)
  have HW2 := hide ((hw.call hb1).call hb2)
  have HB2 := hide (hb1.trans (hb2.mono hb1.size))
  have HLL := hide hl
  have HQQ := hide hq
  have HLP := hide lp
  have HBB := hide hB
  have hap : txB q ++ txB r = txB (q ++ r) := txB_app q r
  have HAP := hide hap
  clear hw hb1 hb2 lp hl hq hB hap
  obtain ⟨wA, hA⟩ : ∃ z, (w.alloc (.cells #[.slice aP P.length cP, .slice aD D.length cD] 88)).alloc (.cells #[.slice none 0 0, .slice none 0 0] 88) = z := ⟨_, rfl⟩
  have HA := hide hA
  have HNX : Hid (NX wA (wA.alloc (.cells #[] 9)) (some (.slice (some ⟨wA.heap.size, 0, none⟩) 0 0, [])) none none none) := hide (by
    have hb : Below wA.heap.size wA (wA.alloc (.cells #[] 9)) := (Below.refl _ _).alloc (Nat.le_refl _) _
    exact ⟨hb, Hf.build ⟨(fun _ _ h => by cases h), (fun _ _ h => by cases h)⟩ (Nat.le_refl _), ⟨(fun _ _ h => by cases h), (fun _ _ h => by cases h)⟩⟩)
  rw [hA] at HR1 HR2 HW2 HB2
  have HSZ : Hid (wA.heap.size = w.heap.size + 1 + 1) := hide (by rw [← hA, size_alloc, size_alloc])
  have a0 : wA.cell? ⟨w.heap.size, 0, none⟩ = some (.slice aP P.length cP) := (unhide HR1).cell 0
  rw [← hA] at a0
  clear hA
  go_enter Tryd.func89, Tryd.ntmps89
  go_wp2_with (at_builtin; refine unhide ?_)
  unfold Hid
  rw [unhide HA]
  rw [unhide HSZ] at HNX
  refine wpList_plain rfl (fun _ hK => (unhide HNX).aP (ys := sS P) _ _ rfl rfl rfl (sS_len P) (own_cells (unhide HW2).p).1 (own_cells ((unhide HW2).call (unhide HNX).bel).p).2 (sS_one P) (by have := unhide HLP; simp only [List.length_nil]; omega) (fun v1 w1 hm => hK _ _ ?_))
  clear hK
  rw [List.nil_append] at hm
  have h9 := hm.p.own_ _ _ rfl
  rw [sS_len] at h9
  obtain ⟨g1, c1, rfl, k0, k1, hge, -, -, -⟩ := own_rd h9 (sS_at (unhide HQQ))
  have HW1 : Hid (Wd w1 B (.slice (some ⟨g1, 0, none⟩) P.length c1) (.slice aD D.length cD) P D) := hide ⟨own_base h9 (Nat.le_trans (unhide HBB) (unhide HB2).size), ((unhide HW2).call hm.bel).d⟩
  have HB1 : Hid (Below w.heap.size w w1) := hide ((unhide HB2).trans (hm.bel.mono (unhide HB2).size))
  have HX1 := hide ((unhide HR1).below hm.bel (unhide HR1).lt)
  have HX2 := hide ((unhide HR2).below hm.bel (unhide HR2).lt)
  have HGE : Hid (w.heap.size ≤ g1) := hide (by have := unhide HSZ; omega)
  obtain ⟨xm, hxm⟩ : ∃ z, P.length = z := ⟨_, rfl⟩
  obtain ⟨xd, hxd⟩ : ∃ z, D.length = z := ⟨_, rfl⟩
  have HXM : Hid (xm = xd + 1) := hide (by have := unhide HLL; omega)
  have hwm : IntKind.i64.wrap ((xm : Int) - 1) = (xd : Int) := by have := unhide HXM; have := unhide HLP; rw [IntKind.wrap_i64] <;> omega
  have xdI : (xd : Int) < (xm : Int) := by have := unhide HXM; omega
  have xd0 : (0 : Int) ≤ (xd : Int) := by omega
  have HST : Hid (Wd (w1.setCell ⟨g1, xd, none⟩ (.string (txB (q ++ r)))) B (.slice (some ⟨g1, 0, none⟩) xm c1) (.slice aD xd cD) (P.set xd (q ++ r)) D ∧ RowAt (w1.setCell ⟨g1, xd, none⟩ (.string (txB (q ++ r)))) w.heap.size 88 [.slice aP xm cP, .slice aD xd cD] ∧ RowAt (w1.setCell ⟨g1, xd, none⟩ (.string (txB (q ++ r)))) (w.heap.size + 1) 88 [.slice none 0 0, .slice none 0 0] ∧ Below w.heap.size w (w1.setCell ⟨g1, xd, none⟩ (.string (txB (q ++ r))))) := hide (by
    have h1 := (unhide HW1).set_p D.length (q ++ r) (List.getElem?_eq_some_iff.1 (unhide HQQ)).1
    rw [hxm, hxd] at h1
    have ho : Only (fun k => k = g1) w1 (w1.setCell ⟨g1, xd, none⟩ (.string (txB (q ++ r)))) := (Only.refl _ _).set g1 xd _ rfl
    have n1 := ((unhide HW1).row_ne (unhide HX1) (by decide) (by decide)).1
    have n2 := ((unhide HW1).row_ne (unhide HX2) (by decide) (by decide)).1
    have x1 := (unhide HX1).only ho (fun e => n1 (by rw [e]; rfl))
    rw [hxm, hxd] at x1
    exact ⟨h1, x1, (unhide HX2).only ho (fun e => n2 (by rw [e]; rfl)), (unhide HB1).setCell (by show w.heap.size ≤ g1; exact unhide HGE) _⟩)
  rw [hxd] at k0 k1
  simp only [hxm, hxd]
  obtain ⟨wS, hS⟩ : ∃ z, w1.setCell ⟨g1, xd, none⟩ (.string (txB (q ++ r))) = z := ⟨_, rfl⟩
  have y1 : (w1.setCell ⟨g1, xd, none⟩ (.string (txB (q ++ r)))).cell? ⟨w.heap.size, 1, none⟩ = some (.slice aD xd cD) := (unhide HST).2.1.cell 1
  rw [hS] at HST
  have HWS := hide hS
  have y2 : wS.cell? ⟨w.heap.size + 1, 0, none⟩ = some (.slice none 0 0) := (unhide HST).2.2.1.cell 0
  have y3 : wS.cell? ⟨w.heap.size + 1, 1, none⟩ = some (.slice none 0 0) := (unhide HST).2.2.1.cell 1
  have y4 := (unhide HST).2.2.1.frozen 0
  have y5 := (unhide HST).2.2.1.frozen 1
  rw [← hS] at y2 y3 y4 y5
  clear hm h9 hge HR1 HR2 HW2 HB2 HNX a0 HA HSZ HW1 HX1 HX2 HB1 hS
  have hap := unhide HAP
  have HFI : Hid (RowAt ((wS.setCell ⟨w.heap.size + 1, 0, none⟩ (.slice (some ⟨g1, 0, none⟩) xm c1)).setCell ⟨w.heap.size + 1, 1, none⟩ (.slice aD xd cD)) (w.heap.size + 1) 88 [.slice (some ⟨g1, 0, none⟩) xm c1, .slice aD xd cD] ∧ Wd ((wS.setCell ⟨w.heap.size + 1, 0, none⟩ (.slice (some ⟨g1, 0, none⟩) xm c1)).setCell ⟨w.heap.size + 1, 1, none⟩ (.slice aD xd cD)) B (.slice (some ⟨g1, 0, none⟩) xm c1) (.slice aD xd cD) (P.set xd (q ++ r)) D ∧ Below w.heap.size w ((wS.setCell ⟨w.heap.size + 1, 0, none⟩ (.slice (some ⟨g1, 0, none⟩) xm c1)).setCell ⟨w.heap.size + 1, 1, none⟩ (.slice aD xd cD))) := hide (by
    obtain ⟨h1, h2, h3, h4⟩ := unhide HST
    obtain ⟨n1, n2⟩ := h1.row_ne h3 (by decide) (by decide)
    exact ⟨(h3.set 0 _).set 1 _, (h1.other n1 n2).other n1 n2, (h4.setCell (by show w.heap.size ≤ w.heap.size + 1; omega) _).setCell (by show w.heap.size ≤ w.heap.size + 1; omega) _⟩)
  go_wp2_with fail
  rw [unhide HWS]
  obtain ⟨wF, hF⟩ : ∃ z, (wS.setCell ⟨w.heap.size + 1, 0, none⟩ (.slice (some ⟨g1, 0, none⟩) xm c1)).setCell ⟨w.heap.size + 1, 1, none⟩ (.slice aD xd cD) = z := ⟨_, rfl⟩
  simp only [hF] at HFI ⊢
  clear hF
  have q0 : wF.cell? ⟨w.heap.size + 1, 0, none⟩ = some (.slice (some ⟨g1, 0, none⟩) xm c1) := (unhide HFI).1.cell 0
  have q1 : wF.cell? ⟨w.heap.size + 1, 1, none⟩ = some (.slice aD xd cD) := (unhide HFI).1.cell 1
  refine bodyPost_ret (v := .agg #[.slice (some ⟨g1, 0, none⟩) xm c1, .slice aD xd cD]) (by simp [results, Tryd.results89, go_sem, q0, q1]) rfl ?_
  rw [hxd]
  exact ⟨_, rfl, (unhide HFI).2.1, (unhide HFI).2.2⟩
end Go.Proofs.YtidblnjohkadhaaDoor

namespace Go.Proofs.YtidblnjohkadhaaDoor
set_option linter.unusedVariables false
set_option linter.unusedSimpArgs false
open Go.ChangeShapes Go.WideShapes Go.ChangeAt Go.RowKit Go.Joins Go.Deep

/-- the lists of a wide edit that grows -/
structure ZL (P : List (List (List UInt8))) (D : List Bool) (x : List At) : Prop where
  pl : P.length = D.length + 1
  cps : ∀ q ∈ P, Cps q
  eq : wAts P D = x
theorem ZL.start : ZL [[]] [] [] := ⟨rfl, (fun q hq => by rw [List.mem_singleton] at hq; rw [hq]; exact Cps.nil), rfl⟩
theorem ZL.next {P : List (List (List UInt8))} {D : List Bool} {x : List At} (h : ZL P D x) (b : Bool) : ZL (P ++ [[]]) (D ++ [b]) (x ++ [stp b]) := by
  refine ⟨by rw [List.length_append, List.length_append, h.pl]; rfl, fun q hq => ?_, by rw [wAts_next h.pl, h.eq]⟩
  rcases List.mem_append.1 hq with hq | hq
  · exact h.cps q hq
  · rw [List.mem_singleton] at hq; rw [hq]; exact Cps.nil
theorem ZL.more {P : List (List (List UInt8))} {D : List Bool} {x : List At} (h : ZL P D x) {q r : List (List UInt8)} (hq : P[D.length]? = some q) (hr : Cps r) : ZL (P.set D.length (q ++ r)) D (x ++ r.map .p) := by
  rcases List.eq_nil_or_concat P with rfl | ⟨P', q', rfl⟩
  · simp at hq
  · rw [List.concat_eq_append] at *
    have hl : P'.length = D.length := by have := h.pl; simpa using this
    have e : q' = q := by rw [← hl] at hq; simpa using hq
    subst e
    have e2 : (P' ++ [q']).set D.length (q' ++ r) = P' ++ [q' ++ r] := by rw [← hl]; simp
    rw [e2]
    refine ⟨by simp [hl], fun z hz => ?_, by rw [wAts_more hl, h.eq]⟩
    rcases List.mem_append.1 hz with hz | hz
    · exact h.cps z (List.mem_append_left _ hz)
    · rw [List.mem_singleton] at hz; rw [hz]; exact (h.cps q' (by simp)).append hr
theorem ZL.last {P : List (List (List UInt8))} {D : List Bool} {x : List At} (h : ZL P D x) : ∃ q, P[D.length]? = some q ∧ Cps q ∧ q.length ≤ x.length ∧ D.length ≤ x.length := by
  obtain ⟨q, hq⟩ : ∃ z, P[D.length]? = some z := ⟨_, List.getElem?_eq_getElem (by rw [h.pl]; omega)⟩
  refine ⟨q, hq, h.cps q (List.mem_of_getElem? hq), ?_, ?_⟩
  · rw [← h.eq]; exact wPre_long P D _ q hq h.pl
  · rw [← h.eq]
    have h1 := wAts_from P D h.pl
    have h2 : At.fromN (wAts P D) ≤ (wAts P D).length := by
      have : ∀ y : List At, At.fromN y ≤ y.length := fun y => by
        induction y with
        | nil => simp [At.fromN]
        | cons s y ih => cases s <;> simp only [At.fromN, List.length_cons] <;> omega
      exact this _
    omega
theorem apM_le {x y T : List At} (h : x ++ y = T) {M : Nat} (hM : T.length ≤ M) : x.length ≤ M := by
  have := congrArg List.length h
  rw [List.length_append] at this
  omega
/-- one place of both -/
theorem mt_at {XP YP : List (List (List UInt8))} {XD YD : List Bool} {n : Nat} {x y : List At} (hx : WdL XP XD n x) (hy : WdL YP YD n y) (f : Bool) {i : Nat} (hi : i ≤ n) {q r : List (List UInt8)} (hq : XP[i]? = some q) (hr : YP[i]? = some r) : ∃ R, mt f (wAts (XP.drop i) (XD.drop i)) (wAts (YP.drop i) (YD.drop i)) = mtP f q r ++ R ∧ (i < n → ∃ b c, XD[i]? = some b ∧ YD[i]? = some c ∧ R = kp c (stp b) ++ mt f (wAts (XP.drop (i + 1)) (XD.drop (i + 1))) (wAts (YP.drop (i + 1)) (YD.drop (i + 1)))) ∧ (i = n → R = []) := by
  by_cases e : i < n
  · obtain ⟨b, hb⟩ := hx.dr e
    obtain ⟨c, hc⟩ := hy.dr e
    exact ⟨_, by rw [wAts_drop hq hb, wAts_drop hr hc, mt_step], fun _ => ⟨b, c, hb, hc, rfl⟩, fun k => by omega⟩
  · obtain rfl : i = n := by omega
    have h1 := wAts_last (by rw [hx.pl, hx.dl]) (by rw [hx.dl]; exact hq)
    have h2 := wAts_last (by rw [hy.pl, hy.dl]) (by rw [hy.dl]; exact hr)
    rw [hx.dl] at h1
    rw [hy.dl] at h2
    exact ⟨[], by rw [h1, h2, mt_end, List.append_nil], fun k => by omega, fun _ => rfl⟩
theorem mt_over {XP YP : List (List (List UInt8))} {XD YD : List Bool} {n m : Nat} {x y : List At} (hx : WdL XP XD n x) (hy : WdL YP YD n y) (f : Bool) (hm : n + 1 = m) : mt f (wAts (XP.drop m) (XD.drop m)) (wAts (YP.drop m) (YD.drop m)) = [] := by
  rw [List.drop_of_length_le (by rw [hx.pl]; omega), List.drop_of_length_le (l := YP) (by rw [hy.pl]; omega)]
  have := mt_end f [] []
  simp only [List.map_nil] at this
  simp only [wAts]
  rw [this]
  cases f <;> rfl
theorem rep_k (x : List At) (j : Nat) : (x ++ List.replicate j .k) ++ [stp false] = x ++ List.replicate (j + 1) .k := by
  rw [List.replicate_succ', List.append_assoc]
  rfl
/-- what lies there while two edits meet -/
structure MS (w wr : World) (gX gY gr gz : Nat) (bX bY : List Value) (zP zD : Value) (P : List (List (List UInt8))) (D : List Bool) : Prop where
  z : Wd wr w.heap.size zP zD P D
  bz : RowAt wr gz 88 [zP, zD]
  x : RowAt wr gX 88 bX
  y : RowAt wr gY 88 bY
  r : RowAt wr gr 88 [.slice none 0 0, .slice none 0 0]
  nx : gz ≠ gX
  ny : gz ≠ gY
  nr : gz ≠ gr
  gb : w.heap.size ≤ gz
  bel : Below w.heap.size w wr
theorem MS.call {w wr wr' : World} {gX gY gr gz : Nat} {bX bY : List Value} {zP zD : Value} {P : List (List (List UInt8))} {D : List Bool} (h : MS w wr gX gY gr gz bX bY zP zD P D) (hb : Below wr.heap.size wr wr') : MS w wr' gX gY gr gz bX bY zP zD P D :=
  ⟨h.z.call hb, h.bz.below hb h.bz.lt, h.x.below hb h.x.lt, h.y.below hb h.y.lt, h.r.below hb h.r.lt, h.nx, h.ny, h.nr, h.gb, h.bel.trans (hb.mono h.bel.size)⟩
theorem MS.store {w wr : World} {gX gY gr gz : Nat} {bX bY : List Value} {zP zD vP vD : Value} {P P' : List (List (List UInt8))} {D D' : List Bool} (h : MS w wr gX gY gr gz bX bY zP zD P D) (hz : Wd wr w.heap.size vP vD P' D') : MS w ((wr.setCell ⟨gz, 0, none⟩ vP).setCell ⟨gz, 1, none⟩ vD) gX gY gr gz bX bY vP vD P' D' := by
  have ho : Only (fun k => k = gz) wr ((wr.setCell ⟨gz, 0, none⟩ vP).setCell ⟨gz, 1, none⟩ vD) := ((Only.refl (fun k => k = gz) wr).set gz 0 vP rfl).set gz 1 vD rfl
  obtain ⟨n1, n2⟩ := hz.row_ne h.bz (by decide) (by decide)
  exact ⟨(hz.other n1 n2).other n1 n2, (h.bz.set 0 vP).set 1 vD, h.x.only ho (fun e => h.nx e.symm), h.y.only ho (fun e => h.ny e.symm), h.r.only ho (fun e => h.nr e.symm), h.nx, h.ny, h.nr, h.gb, (h.bel.setCell (by show w.heap.size ≤ gz; exact h.gb) _).setCell (by show w.heap.size ≤ gz; exact h.gb) _⟩
set_option maxRecDepth 100000 in
set_option maxHeartbeats 4000000 in
theorem meet_any {w : World} {B xp xd yp yd n m : Nat} {XP YP : List (List (List UInt8))} {XD YD : List Bool} {X Y : List At} (f : Bool) (hx : Wd w B (.slice (some ⟨xp, 0, none⟩) m m) (.slice (some ⟨xd, 0, none⟩) n n) XP XD) (hy : Wd w B (.slice (some ⟨yp, 0, none⟩) m m) (.slice (some ⟨yd, 0, none⟩) n n) YP YD) (hxl : WdL XP XD n X) (hyl : WdL YP YD n Y) (hm : n + 1 = m) (hn : n ≤ 4096) (hM : (mt f X Y).length ≤ 65536) (htx : At.toN X ≤ 65536) (hty : At.toN Y ≤ 65536) :
    Calls Tryd.prog 80 #[.agg #[.slice (some ⟨xp, 0, none⟩) m m, .slice (some ⟨xd, 0, none⟩) n n], .agg #[.slice (some ⟨yp, 0, none⟩) m m, .slice (some ⟨yd, 0, none⟩) n n], .bool f] w fun e w' => ∃ zP zD ZP ZD, e = .returned (.agg #[zP, zD]) ∧ Wd w' w.heap.size zP zD ZP ZD ∧ ZL ZP ZD (mt f X Y) ∧ Below w.heap.size w w' := by
  have HXA : Hid (∀ W, Below w.heap.size w W → Wd W B (.slice (some ⟨xp, 0, none⟩) m m) (.slice (some ⟨xd, 0, none⟩) n n) XP XD) := hide (fun W hW => hx.call hW)
  have HYA : Hid (∀ W, Below w.heap.size w W → Wd W B (.slice (some ⟨yp, 0, none⟩) m m) (.slice (some ⟨yd, 0, none⟩) n n) YP YD) := hide (fun W hW => hy.call hW)
  have HXL := hide hxl
  have HYL := hide hyl
  have HM := hide hm
  have HMM := hide hM
  have HTX := hide htx
  have HTY := hide hty
  have mI : (m : Int) ≤ 4097 := by omega
  have nI : (n : Int) ≤ 4096 := by omega
  have HMS : Hid (MS w (((((w.alloc (.cells #[.slice (some ⟨xp, 0, none⟩) m m, .slice (some ⟨xd, 0, none⟩) n n] 88)).alloc (.cells #[.slice (some ⟨yp, 0, none⟩) m m, .slice (some ⟨yd, 0, none⟩) n n] 88)).alloc (.cells #[.slice none 0 0, .slice none 0 0] 88)).alloc (.cells #[.string { data := #[] }] 9)).alloc (.cells #[.slice (some ⟨w.heap.size + 1 + 1 + 1, 0, none⟩) 1 1, .slice none 0 0] 88)) w.heap.size (w.heap.size + 1) (w.heap.size + 1 + 1) (w.heap.size + 1 + 1 + 1 + 1) [.slice (some ⟨xp, 0, none⟩) m m, .slice (some ⟨xd, 0, none⟩) n n] [.slice (some ⟨yp, 0, none⟩) m m, .slice (some ⟨yd, 0, none⟩) n n] (.slice (some ⟨w.heap.size + 1 + 1 + 1, 0, none⟩) 1 1) (.slice none 0 0) [[]] []) := hide (by
    obtain ⟨w1, h1⟩ : ∃ z, w.alloc (.cells #[.slice (some ⟨xp, 0, none⟩) m m, .slice (some ⟨xd, 0, none⟩) n n] 88) = z := ⟨_, rfl⟩
    have b1 : Below w.heap.size w w1 := by rw [← h1]; exact (Below.refl _ _).alloc (Nat.le_refl _) _
    have s1 : w1.heap.size = w.heap.size + 1 := by rw [← h1, size_alloc]
    have r1 : RowAt w1 w.heap.size 88 [.slice (some ⟨xp, 0, none⟩) m m, .slice (some ⟨xd, 0, none⟩) n n] := by rw [← h1]; exact RowAt.new w 88 [.slice (some ⟨xp, 0, none⟩) m m, .slice (some ⟨xd, 0, none⟩) n n]
    rw [h1]
    obtain ⟨w2, h2⟩ : ∃ z, w1.alloc (.cells #[.slice (some ⟨yp, 0, none⟩) m m, .slice (some ⟨yd, 0, none⟩) n n] 88) = z := ⟨_, rfl⟩
    have b2 : Below w1.heap.size w1 w2 := by rw [← h2]; exact (Below.refl _ _).alloc (Nat.le_refl _) _
    have s2 : w2.heap.size = w.heap.size + 2 := by rw [← h2, size_alloc, s1]
    have r2 : RowAt w2 (w.heap.size + 1) 88 [.slice (some ⟨yp, 0, none⟩) m m, .slice (some ⟨yd, 0, none⟩) n n] := by rw [← h2, ← s1]; exact RowAt.new w1 88 [.slice (some ⟨yp, 0, none⟩) m m, .slice (some ⟨yd, 0, none⟩) n n]
    rw [h2]
    obtain ⟨w3, h3⟩ : ∃ z, w2.alloc (.cells #[.slice none 0 0, .slice none 0 0] 88) = z := ⟨_, rfl⟩
    have b3 : Below w2.heap.size w2 w3 := by rw [← h3]; exact (Below.refl _ _).alloc (Nat.le_refl _) _
    have s3 : w3.heap.size = w.heap.size + 3 := by rw [← h3, size_alloc, s2]
    have r3 : RowAt w3 (w.heap.size + 2) 88 [.slice none 0 0, .slice none 0 0] := by rw [← h3, ← s2]; exact RowAt.new w2 88 [.slice none 0 0, .slice none 0 0]
    rw [h3]
    obtain ⟨w4, h4⟩ : ∃ z, w3.alloc (.cells #[.string { data := #[] }] 9) = z := ⟨_, rfl⟩
    have b4 : Below w3.heap.size w3 w4 := by rw [← h4]; exact (Below.refl _ _).alloc (Nat.le_refl _) _
    have s4 : w4.heap.size = w.heap.size + 4 := by rw [← h4, size_alloc, s3]
    have r4 : RowAt w4 (w.heap.size + 3) 9 (sS [[]]) := by rw [← h4, ← s3]; exact RowAt.new w3 9 (sS [[]])
    rw [h4]
    obtain ⟨w5, h5⟩ : ∃ z, w4.alloc (.cells #[.slice (some ⟨w.heap.size + 1 + 1 + 1, 0, none⟩) 1 1, .slice none 0 0] 88) = z := ⟨_, rfl⟩
    have b5 : Below w4.heap.size w4 w5 := by rw [← h5]; exact (Below.refl _ _).alloc (Nat.le_refl _) _
    have r5 : RowAt w5 (w.heap.size + 4) 88 [.slice (some ⟨w.heap.size + 1 + 1 + 1, 0, none⟩) 1 1, .slice none 0 0] := by rw [← h5, ← s4]; exact RowAt.new w4 88 [.slice (some ⟨w.heap.size + 1 + 1 + 1, 0, none⟩) 1 1, .slice none 0 0]
    rw [h5]
    have b35 := b4.trans (b5.mono b4.size)
    have b25 := b3.trans (b35.mono b3.size)
    have b15 := b2.trans (b25.mono b2.size)
    have b05 := b1.trans (b15.mono b1.size)
    have ow := own_row r4 (show w.heap.size ≤ w.heap.size + 3 by omega) (by rw [sS_len]; unfold maxLen; simp)
    exact ⟨⟨own_call ow b5, own_call (World.ownsRow_nil _ _ _ _) b5⟩, r5, r1.below b15 r1.lt, r2.below b25 r2.lt, r3.below b35 r3.lt, by omega, by omega, by omega, by omega, b05⟩)
  obtain ⟨T, hT⟩ : ∃ z, mt f X Y = z := ⟨_, rfl⟩
  have HT := hide hT
  rw [hT] at HMM ⊢
  clear hx hy hxl hyl hm hn hM htx hty hT
  cases f with
  | true =>
    go_enter Tryd.func80, Tryd.ntmps80
    go_wp2_with fail
    obtain ⟨wA, hA⟩ : ∃ z, ((((w.alloc (.cells #[.slice (some ⟨xp, 0, none⟩) m m, .slice (some ⟨xd, 0, none⟩) n n] 88)).alloc (.cells #[.slice (some ⟨yp, 0, none⟩) m m, .slice (some ⟨yd, 0, none⟩) n n] 88)).alloc (.cells #[.slice none 0 0, .slice none 0 0] 88)).alloc (.cells #[.string { data := #[] }] 9)).alloc (.cells #[.slice (some ⟨w.heap.size + 1 + 1 + 1, 0, none⟩) 1 1, .slice none 0 0] 88) = z := ⟨_, rfl⟩
    rw [hA] at HMS
    simp only [hA]
    obtain ⟨gz, hgz⟩ : ∃ z, w.heap.size + 1 + 1 + 1 + 1 = z := ⟨_, rfl⟩
    rw [hgz] at HMS
    simp only [hgz]
    obtain ⟨gl, hgl⟩ : ∃ z, w.heap.size + 1 + 1 + 1 = z := ⟨_, rfl⟩
    rw [hgl] at HMS
    simp only [hgl]
    obtain ⟨gr, hgr⟩ : ∃ z, w.heap.size + 1 + 1 = z := ⟨_, rfl⟩
    rw [hgr] at HMS
    simp only [hgr]
    obtain ⟨gY, hgY⟩ : ∃ z, w.heap.size + 1 = z := ⟨_, rfl⟩
    rw [hgY] at HMS
    simp only [hgY]
    obtain ⟨gX, hgX⟩ : ∃ z, w.heap.size = z := ⟨_, rfl⟩
    have HMS : Hid (MS w wA gX gY gr gz [.slice (some ⟨xp, 0, none⟩) m m, .slice (some ⟨xd, 0, none⟩) n n] [.slice (some ⟨yp, 0, none⟩) m m, .slice (some ⟨yd, 0, none⟩) n n] (.slice (some ⟨gl, 0, none⟩) 1 1) (.slice none 0 0) [[]] []) := by rw [← hgX]; exact HMS
    have HGR : Hid (w.heap.size ≤ gr) := hide (by omega)
    rw [show (Value.pointer (some ({ block := w.heap.size, off := 0 } : Addr))) = Value.pointer (some ({ block := gX, off := 0 } : Addr)) by rw [hgX]]
    clear hA hgz hgl hgr hgY hgX
    go_loopw [14] (fun t14 wr => ∃ i : Nat, i ≤ m ∧ t14 = .int .i64 (i : Int) ∧ Hid (∃ zP zD ZP ZD x, MS w wr gX gY gr gz [.slice (some ⟨xp, 0, none⟩) m m, .slice (some ⟨xd, 0, none⟩) n n] [.slice (some ⟨yp, 0, none⟩) m m, .slice (some ⟨yd, 0, none⟩) n n] zP zD ZP ZD ∧ ZL ZP ZD x ∧ x ++ mt true (wAts (XP.drop i) (XD.drop i)) (wAts (YP.drop i) (YD.drop i)) = T)) (fun t14 _ => ((m : Int) - intOf t14).toNat)
    case atStart => exact ⟨0, by omega, by simp, hide ⟨_, _, _, _, [], unhide HMS, ZL.start, by rw [List.drop_zero, List.drop_zero, List.drop_zero, List.drop_zero, List.nil_append, (unhide HXL).eq, (unhide HYL).eq]; exact unhide HT⟩⟩
    case round =>
      obtain ⟨i, hi, rfl, HZ⟩ := hrel
      obtain ⟨zP, zD, ZP, ZD, x, hms, hzl, heq⟩ := unhide HZ
      have HS0 := hide hms
      have HL0 := hide hzl
      by_cases hlt : i < m
      · have hin : i ≤ n := by have := unhide HM; omega
        have iM : (i : Int) < (m : Int) := by omega
        have i0 : (0 : Int) ≤ (i : Int) := by omega
        obtain ⟨q, hq, hcq, hlq⟩ := (unhide HXL).at_ hin
        obtain ⟨r, hr, hcr, hlr⟩ := (unhide HYL).at_ hin
        obtain ⟨R, hR1, hR2, hR3⟩ := mt_at (unhide HXL) (unhide HYL) true hin hq hr
        rw [hR1] at heq
        have HE0 := hide heq
        have HR2 := hide hR2
        have HR3 := hide hR3
        have HQ := hide hq
        have HRQ := hide hr
        have HCQ := hide hcq
        have HQL : Hid (q.length ≤ 65536) := hide (by have := unhide HTX; omega)
        have HX8 : Hid (x.length ≤ 65536) := hide (apM_le heq (unhide HMM))
        have HCH := hide (fun W => chars_row (w := W) (tx_txB hcr) (by have := unhide HTY; omega))
        obtain ⟨rn, hrn⟩ : ∃ z, r.length = z := ⟨_, rfl⟩
        have HRN := hide hrn
        have rnI : (rn : Int) ≤ 65536 := by have := unhide HTY; omega
        rw [hrn] at HCH
        clear hms hzl heq HZ hq hr hcq hcr hlq hlr hR1 hR2 hR3 hrn
        go_wp2_with fail
        obtain ⟨lq, hlq, hcl, hll, hdl⟩ := (unhide HL0).last
        have HLS := hide (wlast_any (r := q) ((unhide HS0).call (Below.refl _ _).drew).z (unhide HS0).bel.size (unhide HL0).pl hlq (by have := (unhide HL0).pl; have := unhide HX8; omega) (by have h1 := txB_le hcl; have h2 := txB_le (unhide HCQ); have h3 := unhide HX8; have h4 := unhide HQL; omega))
        have HLN := hide ((unhide HL0).more hlq (unhide HCQ))
        clear hlq hcl hll hdl
        obtain ⟨az, cz, hza, -, -⟩ := own_sl (unhide HS0).z.p
        obtain ⟨ad, cd, hzd, -, -⟩ := own_sl (unhide HS0).z.d
        generalize hmz : ZP.length = mz at hza
        generalize hnz : ZD.length = nz at hzd
        subst hza hzd
        clear hmz hnz
        have HSS : Hid (∀ W, Below wr.heap.size wr W → W.cell? ⟨gz, 0, none⟩ = some (.slice az mz cz) ∧ W.cell? ⟨gz, 1, none⟩ = some (.slice ad nz cd) ∧ W.cell? ⟨gX, 0, none⟩ = some (.slice (some ⟨xp, 0, none⟩) m m) ∧ W.cell? ⟨xp, i, none⟩ = some (.string (txB q))) := hide (fun W hW => ⟨((unhide HS0).call hW).bz.cell 0, ((unhide HS0).call hW).bz.cell 1, ((unhide HS0).call hW).x.cell 0, ((unhide HXA W ((unhide HS0).call hW).bel).cp (unhide HQ)).1⟩)
        refine wp_region_T (S := fun W => W.cell? ⟨gz, 0, none⟩ = some (.slice az mz cz) ∧ W.cell? ⟨gz, 1, none⟩ = some (.slice ad nz cd) ∧ W.cell? ⟨gX, 0, none⟩ = some (.slice (some ⟨xp, 0, none⟩) m m) ∧ W.cell? ⟨xp, i, none⟩ = some (.string (txB q))) (fun i => decide (i < 7)) (by kernel_rfl) (unhide HSS _ (Below.refl _ _).drew) (fun hHeld => ?_)
        refine wpAnyT_take (i := 0) (oi := { dst := some 18, op := Op.load 88 (Operand.tmp 7), type := 88, pos := "ref.go:285", after := #[], guard := none }) (v := .agg #[.slice az mz cz, .slice ad nz cd]) rfl (by kernel_rfl) (by kernel_rfl) (by kernel_rfl) (by kernel_rfl) (fun _ _ _ h => h) (Or.inl ⟨by rfl, ?_⟩) hHeld ?_
        · intro w hSw
          obtain ⟨s0, s1, s2, s3⟩ := hSw
          first
            | rfl
            | (go_simp; done)
        try simp only [Act.put, List.setIfInBounds_toArray, List.set_cons_zero, List.set_cons_succ]
        refine wpAnyT_take (i := 1) (oi := { dst := some 19, op := Op.fieldAddr 88 (Operand.tmp 3) 0, type := 0, pos := "ref.go:285", after := #[], guard := none }) (v := .pointer (some ⟨gX, 0, none⟩)) rfl (by kernel_rfl) (by kernel_rfl) (by kernel_rfl) (by kernel_rfl) (fun _ _ _ h => h) (Or.inl ⟨by rfl, ?_⟩) hHeld ?_
        · intro w hSw
          obtain ⟨s0, s1, s2, s3⟩ := hSw
          first
            | rfl
            | (go_simp; done)
        try simp only [Act.put, List.setIfInBounds_toArray, List.set_cons_zero, List.set_cons_succ]
        refine wpAnyT_take (i := 2) (oi := { dst := some 20, op := Op.load 85 (Operand.tmp 19), type := 85, pos := "ref.go:285", after := #[{ on := 1, ground := Ground.data }], guard := none }) (v := .slice (some ⟨xp, 0, none⟩) m m) rfl (by kernel_rfl) (by kernel_rfl) (by kernel_rfl) (by kernel_rfl) (fun _ _ _ h => h) (Or.inl ⟨by rfl, ?_⟩) hHeld ?_
        · intro w hSw
          obtain ⟨s0, s1, s2, s3⟩ := hSw
          first
            | rfl
            | (go_simp; done)
        try simp only [Act.put, List.setIfInBounds_toArray, List.set_cons_zero, List.set_cons_succ]
        refine wpAnyT_take (i := 3) (oi := { dst := some 21, op := Op.move (Operand.tmp 8), type := 3, pos := "ref.go:285", after := #[], guard := none }) (v := .int .i64 (i : Int)) rfl (by kernel_rfl) (by kernel_rfl) (by kernel_rfl) (by kernel_rfl) (fun _ _ _ h => h) (Or.inl ⟨by rfl, ?_⟩) hHeld ?_
        · intro w hSw
          obtain ⟨s0, s1, s2, s3⟩ := hSw
          first
            | rfl
            | (go_simp; done)
        try simp only [Act.put, List.setIfInBounds_toArray, List.set_cons_zero, List.set_cons_succ]
        refine wpAnyT_take (i := 4) (oi := { dst := some 22, op := Op.indexAddr 85 (Operand.tmp 20) (Operand.tmp 21), type := 0, pos := "ref.go:285", after := #[{ on := 2, ground := Ground.data }, { on := 3, ground := Ground.data }], guard := none }) (v := .pointer (some ⟨xp, i, none⟩)) rfl (by kernel_rfl) (by kernel_rfl) (by kernel_rfl) (by kernel_rfl) (fun _ _ _ h => h) (Or.inl ⟨by rfl, ?_⟩) hHeld ?_
        · intro w hSw
          obtain ⟨s0, s1, s2, s3⟩ := hSw
          first
            | rfl
            | (go_simp; done)
        try simp only [Act.put, List.setIfInBounds_toArray, List.set_cons_zero, List.set_cons_succ]
        refine wpAnyT_take (i := 5) (oi := { dst := some 23, op := Op.load 9 (Operand.tmp 22), type := 9, pos := "ref.go:285", after := #[{ on := 4, ground := Ground.data }], guard := none }) (v := .string (txB q)) rfl (by kernel_rfl) (by kernel_rfl) (by kernel_rfl) (by kernel_rfl) (fun _ _ _ h => h) (Or.inl ⟨by rfl, ?_⟩) hHeld ?_
        · intro w hSw
          obtain ⟨s0, s1, s2, s3⟩ := hSw
          first
            | rfl
            | (go_simp; done)
        try simp only [Act.put, List.setIfInBounds_toArray, List.set_cons_zero, List.set_cons_succ]
        skip
        refine wpAnyT_one (i := 6) (o := { dst := some 24, op := Op.call { callee := Callee.value (Operand.func 89), args := #[Operand.tmp 18, Operand.tmp 23], argTypes := #[88, 9] }, type := 88, pos := "ref.go:285", after := #[{ on := 0, ground := Ground.data }, { on := 5, ground := Ground.data }], guard := none }) (by kernel_rfl) rfl (fun K hK => ?_)
        go_simp
        refine Calls.mono (unhide HLS) ?_
        rintro e v1 ⟨vP1, rfl, hz1, hb1⟩
        obtain ⟨ap, cp, hzp, -, -⟩ := own_sl hz1.p
        generalize hmp : (List.set _ _ _).length = mp at hzp
        subst hzp
        clear hmp
        have HSW := hide ((unhide HS0).call ((Below.refl _ _).drew.trans hb1))
        have HST := hide ((unhide HSW).store hz1)
        have HBV := hide hb1
        clear hz1 hb1
        go_wp2_with fail
        refine hK.out _ _ (fun _ => unhide HSS _ ((Below.refl _ _).drew.trans (unhide HBV))) ?_
        clear hK K
        try simp only [Act.put, List.setIfInBounds_toArray, List.set_cons_zero, List.set_cons_succ]
        have fr0 := (unhide HSW).bz.frozen 0
        have fr1 := (unhide HSW).bz.frozen 1
        have z0 : v1.cell? ⟨gz, 0, none⟩ = some (.slice az mz cz) := (unhide HSW).bz.cell 0
        have z1 : v1.cell? ⟨gz, 1, none⟩ = some (.slice ad nz cd) := (unhide HSW).bz.cell 1
        refine wpAnyT_one (i := 7) (o := { dst := none, op := Op.store 88 (Operand.tmp 7) (Operand.tmp 24), type := 0, pos := "ref.go:285", after := #[{ on := 6, ground := Ground.data }, { on := 6, ground := Ground.chain }, { on := 0, ground := Ground.phase }, { on := 1, ground := Ground.phase }, { on := 2, ground := Ground.phase }, { on := 3, ground := Ground.phase }, { on := 4, ground := Ground.phase }, { on := 5, ground := Ground.phase }, { on := 6, ground := Ground.phase }], guard := none }) (by kernel_rfl) rfl (fun K hK => ?_)
        go_simp
        refine hK.out _ _ (fun h => by cases h) ?_
        clear hK K
        try simp only [Act.put, List.setIfInBounds_toArray, List.set_cons_zero, List.set_cons_succ]
        refine wpAnyT_done (by kernel_rfl) ?_ _
        obtain ⟨u1, hu1⟩ : ∃ z, (v1.setCell ⟨gz, 0, none⟩ (.slice ap mp cp)).setCell ⟨gz, 1, none⟩ (.slice ad nz cd) = z := ⟨_, rfl⟩
        simp only [hu1] at HST ⊢
        obtain ⟨zP, zD, ZP, ZD, hS_, hL_⟩ : ∃ zP zD ZP ZD, MS w u1 gX gY gr gz [.slice (some ⟨xp, 0, none⟩) m m, .slice (some ⟨xd, 0, none⟩) n n] [.slice (some ⟨yp, 0, none⟩) m m, .slice (some ⟨yd, 0, none⟩) n n] zP zD ZP ZD ∧ ZL ZP ZD (x ++ q.map At.p) := ⟨_, _, _, _, unhide HST, unhide HLN⟩
        have HS1 := hide hS_
        have HL1 := hide hL_
        clear hu1 hS_ hL_ HSW HSS HLS HBV HST HLN fr0 fr1 z0 z1
        have d0 : u1.cell? ⟨gY, 0, none⟩ = some (.slice (some ⟨yp, 0, none⟩) m m) := (unhide HS1).y.cell 0
        have d1 : u1.cell? ⟨yp, i, none⟩ = some (.string (txB r)) := ((unhide HYA _ (unhide HS1).bel).cp (unhide HRQ)).1
        go_wp2_with fail
        refine Calls.mono (unhide HCH _) ?_
        rintro e w7 ⟨v7, rfl, hv7, hb7⟩
        obtain ⟨a7, c7, rfl, -, -⟩ := own_sl hv7
        have HS7 := hide ((unhide HS1).call hb7)
        clear hv7 hb7 HS1 d0 d1
        go_wp2_with fail
        go_loopw [32] (fun t32 wr => ∃ j : Nat, j ≤ rn ∧ t32 = .int .i64 (j : Int) ∧ Hid (∃ zP zD ZP ZD, MS w wr gX gY gr gz [.slice (some ⟨xp, 0, none⟩) m m, .slice (some ⟨xd, 0, none⟩) n n] [.slice (some ⟨yp, 0, none⟩) m m, .slice (some ⟨yd, 0, none⟩) n n] zP zD ZP ZD ∧ ZL ZP ZD ((x ++ q.map At.p) ++ List.replicate j .k))) (fun t32 _ => ((rn : Int) - intOf t32).toNat)
        case atStart => exact ⟨0, by omega, by simp, hide ⟨_, _, _, _, unhide HS7, by rw [List.replicate_zero, List.append_nil]; exact unhide HL1⟩⟩
        case round =>
          obtain ⟨j, hj, rfl, HZ⟩ := hrel
          obtain ⟨zP, zD, ZP, ZD, hms, hzl⟩ := unhide HZ
          have HS0 := hide hms
          have HL0 := hide hzl
          clear hms hzl HZ
          by_cases hjl : j < rn
          · have hjI : (j : Int) < (rn : Int) := by omega
            have HXX : Hid (((x ++ q.map At.p) ++ List.replicate j At.k).length ≤ 131072) := hide (by
              have h := unhide HE0
              have h2 := congrArg List.length h
              have h3 := unhide HMM
              have h4 := unhide HRN
              simp only [mtP, ↓reduceIte, List.length_append, List.length_map, List.length_replicate] at h2 ⊢
              omega)
            obtain ⟨lq, -, -, -, hdl⟩ := (unhide HL0).last
            have HLS := hide (wnext_any false (unhide HS0).z (by have := (unhide HL0).pl; have := unhide HXX; omega) (by have := unhide HXX; omega))
            have HLN := hide ((unhide HL0).next false)
            clear hdl
            obtain ⟨az, cz, hza, -, -⟩ := own_sl (unhide HS0).z.p
            obtain ⟨ad, cd, hzd, -, -⟩ := own_sl (unhide HS0).z.d
            generalize hmz : ZP.length = mz at hza
            generalize hnz : ZD.length = nz at hzd
            subst hza hzd
            clear hmz hnz
            have z0 : wr.cell? ⟨gz, 0, none⟩ = some (.slice az mz cz) := (unhide HS0).bz.cell 0
            have z1 : wr.cell? ⟨gz, 1, none⟩ = some (.slice ad nz cd) := (unhide HS0).bz.cell 1
            go_wp2_with fail
            refine Calls.mono (unhide HLS) ?_
            rintro e v8 ⟨vP8, vD8, rfl, hz8, hb8⟩
            clear z0 z1
            obtain ⟨ap, cp, hzp, -, -⟩ := own_sl hz8.p
            obtain ⟨aq, cq, hzq, -, -⟩ := own_sl hz8.d
            generalize hmp : (ZP ++ [[]]).length = mp at hzp
            generalize hnp : (ZD ++ [_]).length = nq at hzq
            subst hzp hzq
            clear hmp hnp
            have HSW := hide ((unhide HS0).call (hb8))
            have HST := hide ((unhide HSW).store (hz8.base (unhide HS0).bel.size))
            have HBV := hide hb8
            clear hz8 hb8
            have fr0 := (unhide HSW).bz.frozen 0
            have fr1 := (unhide HSW).bz.frozen 1
            have z0 : v8.cell? ⟨gz, 0, none⟩ = some (.slice az mz cz) := (unhide HSW).bz.cell 0
            have z1 : v8.cell? ⟨gz, 1, none⟩ = some (.slice ad nz cd) := (unhide HSW).bz.cell 1
            go_wp2_with fail
            exact ⟨⟨j + 1, by omega, by simp, hide ⟨_, _, _, _, unhide HST, by have h := unhide HLN; rw [rep_k] at h; exact h⟩⟩, by simp [intOf] <;> omega⟩
          · obtain rfl : rn = j := by omega
            have HEF : Hid (((x ++ q.map At.p) ++ List.replicate rn At.k) ++ R = T) := hide (by have h := unhide HE0; simp only [mtP, ↓reduceIte] at h; rw [unhide HRN] at h; simpa [List.append_assoc] using h)
            have e0 : wr.cell? ⟨gX, 1, none⟩ = some (.slice (some ⟨xd, 0, none⟩) n n) := (unhide HS0).x.cell 1
            have e1 : wr.cell? ⟨gY, 1, none⟩ = some (.slice (some ⟨yd, 0, none⟩) n n) := (unhide HS0).y.cell 1
            by_cases hin2 : i < n
            · obtain ⟨b, c, hb, hc, hRR⟩ := unhide HR2 hin2
              have e2 : wr.cell? ⟨yd, i, none⟩ = some (.bool c) := ((unhide HYA _ (unhide HS0).bel).cd hc).1
              have HBB := hide hb
              have hiI : (i : Int) < (n : Int) := by omega
              rw [hRR] at HEF
              have HXX := hide (apM_le (unhide HEF) (unhide HMM))
              clear hb hc hRR
              cases c with
              | true =>
                go_wp2_with fail
                exact ⟨⟨i + 1, by omega, by simp, hide ⟨_, _, _, _, _, unhide HS0, unhide HL0, unhide HEF⟩⟩, by simp [intOf] <;> omega⟩
              | false =>
                go_wp2_with fail
                obtain ⟨lq, -, -, -, hdl⟩ := (unhide HL0).last
                have HLS := hide (wnext_any b ((unhide HS0).call (Below.refl _ _).drew).z (by have := (unhide HL0).pl; have := unhide HXX; omega) (by have := unhide HXX; omega))
                have HLN := hide ((unhide HL0).next b)
                clear hdl
                obtain ⟨az, cz, hza, -, -⟩ := own_sl (unhide HS0).z.p
                obtain ⟨ad, cd, hzd, -, -⟩ := own_sl (unhide HS0).z.d
                generalize hmz : ZP.length = mz at hza
                generalize hnz : ZD.length = nz at hzd
                subst hza hzd
                clear hmz hnz
                have HSS : Hid (∀ W, Below wr.heap.size wr W → W.cell? ⟨gz, 0, none⟩ = some (.slice az mz cz) ∧ W.cell? ⟨gz, 1, none⟩ = some (.slice ad nz cd) ∧ W.cell? ⟨gX, 1, none⟩ = some (.slice (some ⟨xd, 0, none⟩) n n) ∧ W.cell? ⟨xd, i, none⟩ = some (.bool b)) := hide (fun W hW => ⟨((unhide HS0).call hW).bz.cell 0, ((unhide HS0).call hW).bz.cell 1, ((unhide HS0).call hW).x.cell 1, ((unhide HXA W ((unhide HS0).call hW).bel).cd (unhide HBB)).1⟩)
                refine wp_region_T (S := fun W => W.cell? ⟨gz, 0, none⟩ = some (.slice az mz cz) ∧ W.cell? ⟨gz, 1, none⟩ = some (.slice ad nz cd) ∧ W.cell? ⟨gX, 1, none⟩ = some (.slice (some ⟨xd, 0, none⟩) n n) ∧ W.cell? ⟨xd, i, none⟩ = some (.bool b)) (fun i => decide (i < 7)) (by kernel_rfl) (unhide HSS _ (Below.refl _ _).drew) (fun hHeld => ?_)
                refine wpAnyT_take (i := 0) (oi := { dst := some 59, op := Op.load 88 (Operand.tmp 7), type := 88, pos := "ref.go:294", after := #[], guard := none }) (v := .agg #[.slice az mz cz, .slice ad nz cd]) rfl (by kernel_rfl) (by kernel_rfl) (by kernel_rfl) (by kernel_rfl) (fun _ _ _ h => h) (Or.inl ⟨by rfl, ?_⟩) hHeld ?_
                · intro w hSw
                  obtain ⟨s0, s1, s2, s3⟩ := hSw
                  first
                    | rfl
                    | (go_simp; done)
                try simp only [Act.put, List.setIfInBounds_toArray, List.set_cons_zero, List.set_cons_succ]
                refine wpAnyT_take (i := 1) (oi := { dst := some 60, op := Op.fieldAddr 88 (Operand.tmp 3) 1, type := 0, pos := "ref.go:294", after := #[], guard := none }) (v := .pointer (some ⟨gX, 1, none⟩)) rfl (by kernel_rfl) (by kernel_rfl) (by kernel_rfl) (by kernel_rfl) (fun _ _ _ h => h) (Or.inl ⟨by rfl, ?_⟩) hHeld ?_
                · intro w hSw
                  obtain ⟨s0, s1, s2, s3⟩ := hSw
                  first
                    | rfl
                    | (go_simp; done)
                try simp only [Act.put, List.setIfInBounds_toArray, List.set_cons_zero, List.set_cons_succ]
                refine wpAnyT_take (i := 2) (oi := { dst := some 61, op := Op.load 86 (Operand.tmp 60), type := 86, pos := "ref.go:294", after := #[{ on := 1, ground := Ground.data }], guard := none }) (v := .slice (some ⟨xd, 0, none⟩) n n) rfl (by kernel_rfl) (by kernel_rfl) (by kernel_rfl) (by kernel_rfl) (fun _ _ _ h => h) (Or.inl ⟨by rfl, ?_⟩) hHeld ?_
                · intro w hSw
                  obtain ⟨s0, s1, s2, s3⟩ := hSw
                  first
                    | rfl
                    | (go_simp; done)
                try simp only [Act.put, List.setIfInBounds_toArray, List.set_cons_zero, List.set_cons_succ]
                refine wpAnyT_take (i := 3) (oi := { dst := some 62, op := Op.move (Operand.tmp 8), type := 3, pos := "ref.go:294", after := #[], guard := none }) (v := .int .i64 (i : Int)) rfl (by kernel_rfl) (by kernel_rfl) (by kernel_rfl) (by kernel_rfl) (fun _ _ _ h => h) (Or.inl ⟨by rfl, ?_⟩) hHeld ?_
                · intro w hSw
                  obtain ⟨s0, s1, s2, s3⟩ := hSw
                  first
                    | rfl
                    | (go_simp; done)
                try simp only [Act.put, List.setIfInBounds_toArray, List.set_cons_zero, List.set_cons_succ]
                refine wpAnyT_take (i := 4) (oi := { dst := some 63, op := Op.indexAddr 86 (Operand.tmp 61) (Operand.tmp 62), type := 0, pos := "ref.go:294", after := #[{ on := 2, ground := Ground.data }, { on := 3, ground := Ground.data }], guard := none }) (v := .pointer (some ⟨xd, i, none⟩)) rfl (by kernel_rfl) (by kernel_rfl) (by kernel_rfl) (by kernel_rfl) (fun _ _ _ h => h) (Or.inl ⟨by rfl, ?_⟩) hHeld ?_
                · intro w hSw
                  obtain ⟨s0, s1, s2, s3⟩ := hSw
                  first
                    | rfl
                    | (go_simp; done)
                try simp only [Act.put, List.setIfInBounds_toArray, List.set_cons_zero, List.set_cons_succ]
                refine wpAnyT_take (i := 5) (oi := { dst := some 64, op := Op.load 4 (Operand.tmp 63), type := 4, pos := "ref.go:294", after := #[{ on := 4, ground := Ground.data }], guard := none }) (v := .bool b) rfl (by kernel_rfl) (by kernel_rfl) (by kernel_rfl) (by kernel_rfl) (fun _ _ _ h => h) (Or.inl ⟨by rfl, ?_⟩) hHeld ?_
                · intro w hSw
                  obtain ⟨s0, s1, s2, s3⟩ := hSw
                  first
                    | rfl
                    | (go_simp; done)
                try simp only [Act.put, List.setIfInBounds_toArray, List.set_cons_zero, List.set_cons_succ]
                refine wpAnyT_one (i := 6) (o := { dst := some 65, op := Op.call { callee := Callee.value (Operand.func 90), args := #[Operand.tmp 59, Operand.tmp 64], argTypes := #[88, 4] }, type := 88, pos := "ref.go:294", after := #[{ on := 0, ground := Ground.data }, { on := 5, ground := Ground.data }], guard := none }) (by kernel_rfl) rfl (fun K hK => ?_)
                go_simp
                refine Calls.mono (unhide HLS) ?_
                rintro e v9 ⟨vP9, vD9, rfl, hz9, hb9⟩
                obtain ⟨ap, cp, hzp, -, -⟩ := own_sl hz9.p
                obtain ⟨aq, cq, hzq, -, -⟩ := own_sl hz9.d
                generalize hmp : (ZP ++ [[]]).length = mp at hzp
                generalize hnp : (ZD ++ [_]).length = nq at hzq
                subst hzp hzq
                clear hmp hnp
                have HSW := hide ((unhide HS0).call ((Below.refl _ _).drew.trans hb9))
                have HST := hide ((unhide HSW).store (hz9.base (unhide HS0).bel.size))
                have HBV := hide hb9
                clear hz9 hb9
                have fr0 := (unhide HSW).bz.frozen 0
                have fr1 := (unhide HSW).bz.frozen 1
                have z0 : v9.cell? ⟨gz, 0, none⟩ = some (.slice az mz cz) := (unhide HSW).bz.cell 0
                have z1 : v9.cell? ⟨gz, 1, none⟩ = some (.slice ad nz cd) := (unhide HSW).bz.cell 1
                go_wp2_with fail
                refine hK.out _ _ (fun _ => unhide HSS _ ((Below.refl _ _).drew.trans (unhide HBV))) ?_
                clear hK K
                try simp only [Act.put, List.setIfInBounds_toArray, List.set_cons_zero, List.set_cons_succ]
                refine wpAnyT_one (i := 7) (o := { dst := none, op := Op.store 88 (Operand.tmp 7) (Operand.tmp 65), type := 0, pos := "ref.go:294", after := #[{ on := 6, ground := Ground.data }, { on := 6, ground := Ground.chain }, { on := 0, ground := Ground.phase }, { on := 1, ground := Ground.phase }, { on := 2, ground := Ground.phase }, { on := 3, ground := Ground.phase }, { on := 4, ground := Ground.phase }, { on := 5, ground := Ground.phase }, { on := 6, ground := Ground.phase }], guard := none }) (by kernel_rfl) rfl (fun K hK => ?_)
                go_simp
                refine hK.out _ _ (fun h => by cases h) ?_
                clear hK K
                try simp only [Act.put, List.setIfInBounds_toArray, List.set_cons_zero, List.set_cons_succ]
                refine wpAnyT_done (by kernel_rfl) ?_ _
                obtain ⟨u9, hu9⟩ : ∃ z, (v9.setCell ⟨gz, 0, none⟩ (.slice ap mp cp)).setCell ⟨gz, 1, none⟩ (.slice aq nq cq) = z := ⟨_, rfl⟩
                simp only [hu9] at HST ⊢
                have HS9 := HST
                have HL9 := HLN
                clear hu9 HSW HSS HLS HBV HST HLN fr0 fr1 z0 z1
                go_wp2_with fail
                exact ⟨⟨i + 1, by omega, by simp, hide ⟨_, _, _, _, _, unhide HS9, unhide HL9, by have h := unhide HEF; rw [← h]; simp [kp]⟩⟩, by simp [intOf] <;> omega⟩
            · obtain rfl : n = i := by omega
              have hR0 := unhide HR3 rfl
              rw [hR0, List.append_nil] at HEF
              clear hR0
              go_wp2_with fail
              exact ⟨⟨n + 1, by omega, by simp, hide ⟨_, _, _, _, _, unhide HS0, unhide HL0, by rw [mt_over (unhide HXL) (unhide HYL) true (show n + 1 = n + 1 from rfl), List.append_nil]; exact unhide HEF⟩⟩, by simp [intOf] <;> omega⟩
      · obtain rfl : m = i := by omega
        rw [mt_over (unhide HXL) (unhide HYL) true (unhide HM), List.append_nil] at heq
        obtain ⟨az, cz, hza, -, -⟩ := own_sl hms.z.p
        obtain ⟨ad, cd, hzd, -, -⟩ := own_sl hms.z.d
        generalize hmz : ZP.length = mz at hza
        generalize hnz : ZD.length = nz at hzd
        subst hza hzd
        clear hmz hnz
        have z0 : wr.cell? ⟨gz, 0, none⟩ = some (.slice az mz cz) := hms.bz.cell 0
        have z1 : wr.cell? ⟨gz, 1, none⟩ = some (.slice ad nz cd) := hms.bz.cell 1
        have y0 : wr.cell? ⟨gr, 0, none⟩ = some (.slice none 0 0) := hms.r.cell 0
        have y1 : wr.cell? ⟨gr, 1, none⟩ = some (.slice none 0 0) := hms.r.cell 1
        have f0 := hms.r.frozen 0
        have f1 := hms.r.frozen 1
        have HEQ : Hid (ZL ZP ZD T) := hide (by rw [← heq]; exact hzl)
        have HFI : Hid (RowAt ((wr.setCell ⟨gr, 0, none⟩ (.slice az mz cz)).setCell ⟨gr, 1, none⟩ (.slice ad nz cd)) gr 88 [.slice az mz cz, .slice ad nz cd] ∧ Wd ((wr.setCell ⟨gr, 0, none⟩ (.slice az mz cz)).setCell ⟨gr, 1, none⟩ (.slice ad nz cd)) w.heap.size (.slice az mz cz) (.slice ad nz cd) ZP ZD ∧ Below w.heap.size w ((wr.setCell ⟨gr, 0, none⟩ (.slice az mz cz)).setCell ⟨gr, 1, none⟩ (.slice ad nz cd))) := hide (by
          obtain ⟨n1, n2⟩ := hms.z.row_ne hms.r (by decide) (by decide)
          exact ⟨(hms.r.set 0 _).set 1 _, (hms.z.other n1 n2).other n1 n2, (hms.bel.setCell (unhide HGR) _).setCell (unhide HGR) _⟩)
        clear hms hzl heq HZ HS0 HL0
        go_wp2_with fail
        obtain ⟨wF, hF⟩ : ∃ z, (wr.setCell ⟨gr, 0, none⟩ (.slice az mz cz)).setCell ⟨gr, 1, none⟩ (.slice ad nz cd) = z := ⟨_, rfl⟩
        simp only [hF] at HFI ⊢
        clear hF
        have q0 : wF.cell? ⟨gr, 0, none⟩ = some (.slice az mz cz) := (unhide HFI).1.cell 0
        have q1 : wF.cell? ⟨gr, 1, none⟩ = some (.slice ad nz cd) := (unhide HFI).1.cell 1
        refine bodyPost_ret (v := .agg #[.slice az mz cz, .slice ad nz cd]) (by simp [results, Tryd.results80, go_sem, q0, q1]) rfl ?_
        exact ⟨_, _, ZP, ZD, rfl, (unhide HFI).2.1, unhide HEQ, (unhide HFI).2.2⟩
  | false =>
    go_enter Tryd.func80, Tryd.ntmps80
    go_wp2_with fail
    obtain ⟨wA, hA⟩ : ∃ z, ((((w.alloc (.cells #[.slice (some ⟨xp, 0, none⟩) m m, .slice (some ⟨xd, 0, none⟩) n n] 88)).alloc (.cells #[.slice (some ⟨yp, 0, none⟩) m m, .slice (some ⟨yd, 0, none⟩) n n] 88)).alloc (.cells #[.slice none 0 0, .slice none 0 0] 88)).alloc (.cells #[.string { data := #[] }] 9)).alloc (.cells #[.slice (some ⟨w.heap.size + 1 + 1 + 1, 0, none⟩) 1 1, .slice none 0 0] 88) = z := ⟨_, rfl⟩
    rw [hA] at HMS
    simp only [hA]
    obtain ⟨gz, hgz⟩ : ∃ z, w.heap.size + 1 + 1 + 1 + 1 = z := ⟨_, rfl⟩
    rw [hgz] at HMS
    simp only [hgz]
    obtain ⟨gl, hgl⟩ : ∃ z, w.heap.size + 1 + 1 + 1 = z := ⟨_, rfl⟩
    rw [hgl] at HMS
    simp only [hgl]
    obtain ⟨gr, hgr⟩ : ∃ z, w.heap.size + 1 + 1 = z := ⟨_, rfl⟩
    rw [hgr] at HMS
    simp only [hgr]
    obtain ⟨gY, hgY⟩ : ∃ z, w.heap.size + 1 = z := ⟨_, rfl⟩
    rw [hgY] at HMS
    simp only [hgY]
    obtain ⟨gX, hgX⟩ : ∃ z, w.heap.size = z := ⟨_, rfl⟩
    have HMS : Hid (MS w wA gX gY gr gz [.slice (some ⟨xp, 0, none⟩) m m, .slice (some ⟨xd, 0, none⟩) n n] [.slice (some ⟨yp, 0, none⟩) m m, .slice (some ⟨yd, 0, none⟩) n n] (.slice (some ⟨gl, 0, none⟩) 1 1) (.slice none 0 0) [[]] []) := by rw [← hgX]; exact HMS
    have HGR : Hid (w.heap.size ≤ gr) := hide (by omega)
    rw [show (Value.pointer (some ({ block := w.heap.size, off := 0 } : Addr))) = Value.pointer (some ({ block := gX, off := 0 } : Addr)) by rw [hgX]]
    clear hA hgz hgl hgr hgY hgX
    go_loopw [14] (fun t14 wr => ∃ i : Nat, i ≤ m ∧ t14 = .int .i64 (i : Int) ∧ Hid (∃ zP zD ZP ZD x, MS w wr gX gY gr gz [.slice (some ⟨xp, 0, none⟩) m m, .slice (some ⟨xd, 0, none⟩) n n] [.slice (some ⟨yp, 0, none⟩) m m, .slice (some ⟨yd, 0, none⟩) n n] zP zD ZP ZD ∧ ZL ZP ZD x ∧ x ++ mt false (wAts (XP.drop i) (XD.drop i)) (wAts (YP.drop i) (YD.drop i)) = T)) (fun t14 _ => ((m : Int) - intOf t14).toNat)
    case atStart => exact ⟨0, by omega, by simp, hide ⟨_, _, _, _, [], unhide HMS, ZL.start, by rw [List.drop_zero, List.drop_zero, List.drop_zero, List.drop_zero, List.nil_append, (unhide HXL).eq, (unhide HYL).eq]; exact unhide HT⟩⟩
    case round =>
      obtain ⟨i, hi, rfl, HZ⟩ := hrel
      obtain ⟨zP, zD, ZP, ZD, x, hms, hzl, heq⟩ := unhide HZ
      have HS0 := hide hms
      have HL0 := hide hzl
      by_cases hlt : i < m
      · have hin : i ≤ n := by have := unhide HM; omega
        have iM : (i : Int) < (m : Int) := by omega
        have i0 : (0 : Int) ≤ (i : Int) := by omega
        obtain ⟨q, hq, hcq, hlq⟩ := (unhide HXL).at_ hin
        obtain ⟨r, hr, hcr, hlr⟩ := (unhide HYL).at_ hin
        obtain ⟨R, hR1, hR2, hR3⟩ := mt_at (unhide HXL) (unhide HYL) false hin hq hr
        rw [hR1] at heq
        have HE0 := hide heq
        have HR2 := hide hR2
        have HR3 := hide hR3
        have HQ := hide hq
        have HRQ := hide hr
        have HCQ := hide hcq
        have HQL : Hid (q.length ≤ 65536) := hide (by have := unhide HTX; omega)
        have HX8 : Hid (x.length ≤ 65536) := hide (apM_le heq (unhide HMM))
        have HCH := hide (fun W => chars_row (w := W) (tx_txB hcr) (by have := unhide HTY; omega))
        obtain ⟨rn, hrn⟩ : ∃ z, r.length = z := ⟨_, rfl⟩
        have HRN := hide hrn
        have rnI : (rn : Int) ≤ 65536 := by have := unhide HTY; omega
        rw [hrn] at HCH
        clear hms hzl heq HZ hq hr hcq hcr hlq hlr hR1 hR2 hR3 hrn
        have d0 : wr.cell? ⟨gY, 0, none⟩ = some (.slice (some ⟨yp, 0, none⟩) m m) := (unhide HS0).y.cell 0
        have d1 : wr.cell? ⟨yp, i, none⟩ = some (.string (txB r)) := ((unhide HYA _ (unhide HS0).bel).cp (unhide HRQ)).1
        go_wp2_with fail
        refine Calls.mono (unhide HCH _) ?_
        rintro e w7 ⟨v7, rfl, hv7, hb7⟩
        obtain ⟨a7, c7, rfl, -, -⟩ := own_sl hv7
        have HS7 := hide ((unhide HS0).call hb7)
        clear hv7 hb7 HS0 d0 d1
        go_wp2_with fail
        go_loopw [32] (fun t32 wr => ∃ j : Nat, j ≤ rn ∧ t32 = .int .i64 (j : Int) ∧ Hid (∃ zP zD ZP ZD, MS w wr gX gY gr gz [.slice (some ⟨xp, 0, none⟩) m m, .slice (some ⟨xd, 0, none⟩) n n] [.slice (some ⟨yp, 0, none⟩) m m, .slice (some ⟨yd, 0, none⟩) n n] zP zD ZP ZD ∧ ZL ZP ZD (x ++ List.replicate j .k))) (fun t32 _ => ((rn : Int) - intOf t32).toNat)
        case atStart => exact ⟨0, by omega, by simp, hide ⟨_, _, _, _, unhide HS7, by rw [List.replicate_zero, List.append_nil]; exact unhide HL0⟩⟩
        case round =>
          obtain ⟨j, hj, rfl, HZ⟩ := hrel
          obtain ⟨zP, zD, ZP, ZD, hms, hzl⟩ := unhide HZ
          have HS0 := hide hms
          have HL0 := hide hzl
          clear hms hzl HZ
          by_cases hjl : j < rn
          · have hjI : (j : Int) < (rn : Int) := by omega
            have HXX : Hid ((x ++ List.replicate j At.k).length ≤ 131072) := hide (by
              have h := unhide HE0
              have h2 := congrArg List.length h
              have h3 := unhide HMM
              have h4 := unhide HRN
              simp only [mtP, Bool.false_eq_true, ↓reduceIte, List.length_append, List.length_map, List.length_replicate] at h2 ⊢
              omega)
            obtain ⟨lq, -, -, -, hdl⟩ := (unhide HL0).last
            have HLS := hide (wnext_any false (unhide HS0).z (by have := (unhide HL0).pl; have := unhide HXX; omega) (by have := unhide HXX; omega))
            have HLN := hide ((unhide HL0).next false)
            clear hdl
            obtain ⟨az, cz, hza, -, -⟩ := own_sl (unhide HS0).z.p
            obtain ⟨ad, cd, hzd, -, -⟩ := own_sl (unhide HS0).z.d
            generalize hmz : ZP.length = mz at hza
            generalize hnz : ZD.length = nz at hzd
            subst hza hzd
            clear hmz hnz
            have z0 : wr.cell? ⟨gz, 0, none⟩ = some (.slice az mz cz) := (unhide HS0).bz.cell 0
            have z1 : wr.cell? ⟨gz, 1, none⟩ = some (.slice ad nz cd) := (unhide HS0).bz.cell 1
            go_wp2_with fail
            refine Calls.mono (unhide HLS) ?_
            rintro e v8 ⟨vP8, vD8, rfl, hz8, hb8⟩
            clear z0 z1
            obtain ⟨ap, cp, hzp, -, -⟩ := own_sl hz8.p
            obtain ⟨aq, cq, hzq, -, -⟩ := own_sl hz8.d
            generalize hmp : (ZP ++ [[]]).length = mp at hzp
            generalize hnp : (ZD ++ [_]).length = nq at hzq
            subst hzp hzq
            clear hmp hnp
            have HSW := hide ((unhide HS0).call (hb8))
            have HST := hide ((unhide HSW).store (hz8.base (unhide HS0).bel.size))
            have HBV := hide hb8
            clear hz8 hb8
            have fr0 := (unhide HSW).bz.frozen 0
            have fr1 := (unhide HSW).bz.frozen 1
            have z0 : v8.cell? ⟨gz, 0, none⟩ = some (.slice az mz cz) := (unhide HSW).bz.cell 0
            have z1 : v8.cell? ⟨gz, 1, none⟩ = some (.slice ad nz cd) := (unhide HSW).bz.cell 1
            go_wp2_with fail
            exact ⟨⟨j + 1, by omega, by simp, hide ⟨_, _, _, _, unhide HST, by have h := unhide HLN; rw [rep_k] at h; exact h⟩⟩, by simp [intOf] <;> omega⟩
          · obtain rfl : rn = j := by omega
            have HEF : Hid (((x ++ List.replicate rn At.k) ++ q.map .p) ++ R = T) := hide (by have h := unhide HE0; simp only [mtP, Bool.false_eq_true, ↓reduceIte] at h; rw [unhide HRN] at h; simpa [List.append_assoc] using h)
            have HX8 : Hid ((x ++ List.replicate rn At.k).length ≤ 65536) := hide (by have h := unhide HEF; rw [List.append_assoc] at h; exact apM_le h (unhide HMM))
            go_wp2_with fail
            obtain ⟨lq, hlq, hcl, hll, hdl⟩ := (unhide HL0).last
            have HLS := hide (wlast_any (r := q) ((unhide HS0).call (Below.refl _ _).drew).z (unhide HS0).bel.size (unhide HL0).pl hlq (by have := (unhide HL0).pl; have := unhide HX8; omega) (by have h1 := txB_le hcl; have h2 := txB_le (unhide HCQ); have h3 := unhide HX8; have h4 := unhide HQL; omega))
            have HLN := hide ((unhide HL0).more hlq (unhide HCQ))
            clear hlq hcl hll hdl
            obtain ⟨az, cz, hza, -, -⟩ := own_sl (unhide HS0).z.p
            obtain ⟨ad, cd, hzd, -, -⟩ := own_sl (unhide HS0).z.d
            generalize hmz : ZP.length = mz at hza
            generalize hnz : ZD.length = nz at hzd
            subst hza hzd
            clear hmz hnz
            have HSS : Hid (∀ W, Below wr.heap.size wr W → W.cell? ⟨gz, 0, none⟩ = some (.slice az mz cz) ∧ W.cell? ⟨gz, 1, none⟩ = some (.slice ad nz cd) ∧ W.cell? ⟨gX, 0, none⟩ = some (.slice (some ⟨xp, 0, none⟩) m m) ∧ W.cell? ⟨xp, i, none⟩ = some (.string (txB q))) := hide (fun W hW => ⟨((unhide HS0).call hW).bz.cell 0, ((unhide HS0).call hW).bz.cell 1, ((unhide HS0).call hW).x.cell 0, ((unhide HXA W ((unhide HS0).call hW).bel).cp (unhide HQ)).1⟩)
            refine wp_region_T (S := fun W => W.cell? ⟨gz, 0, none⟩ = some (.slice az mz cz) ∧ W.cell? ⟨gz, 1, none⟩ = some (.slice ad nz cd) ∧ W.cell? ⟨gX, 0, none⟩ = some (.slice (some ⟨xp, 0, none⟩) m m) ∧ W.cell? ⟨xp, i, none⟩ = some (.string (txB q))) (fun i => decide (i < 7)) (by kernel_rfl) (unhide HSS _ (Below.refl _ _).drew) (fun hHeld => ?_)
            refine wpAnyT_take (i := 0) (oi := { dst := some 39, op := Op.load 88 (Operand.tmp 7), type := 88, pos := "ref.go:291", after := #[], guard := none }) (v := .agg #[.slice az mz cz, .slice ad nz cd]) rfl (by kernel_rfl) (by kernel_rfl) (by kernel_rfl) (by kernel_rfl) (fun _ _ _ h => h) (Or.inl ⟨by rfl, ?_⟩) hHeld ?_
            · intro w hSw
              obtain ⟨s0, s1, s2, s3⟩ := hSw
              first
                | rfl
                | (go_simp; done)
            try simp only [Act.put, List.setIfInBounds_toArray, List.set_cons_zero, List.set_cons_succ]
            refine wpAnyT_take (i := 1) (oi := { dst := some 40, op := Op.fieldAddr 88 (Operand.tmp 3) 0, type := 0, pos := "ref.go:291", after := #[], guard := none }) (v := .pointer (some ⟨gX, 0, none⟩)) rfl (by kernel_rfl) (by kernel_rfl) (by kernel_rfl) (by kernel_rfl) (fun _ _ _ h => h) (Or.inl ⟨by rfl, ?_⟩) hHeld ?_
            · intro w hSw
              obtain ⟨s0, s1, s2, s3⟩ := hSw
              first
                | rfl
                | (go_simp; done)
            try simp only [Act.put, List.setIfInBounds_toArray, List.set_cons_zero, List.set_cons_succ]
            refine wpAnyT_take (i := 2) (oi := { dst := some 41, op := Op.load 85 (Operand.tmp 40), type := 85, pos := "ref.go:291", after := #[{ on := 1, ground := Ground.data }], guard := none }) (v := .slice (some ⟨xp, 0, none⟩) m m) rfl (by kernel_rfl) (by kernel_rfl) (by kernel_rfl) (by kernel_rfl) (fun _ _ _ h => h) (Or.inl ⟨by rfl, ?_⟩) hHeld ?_
            · intro w hSw
              obtain ⟨s0, s1, s2, s3⟩ := hSw
              first
                | rfl
                | (go_simp; done)
            try simp only [Act.put, List.setIfInBounds_toArray, List.set_cons_zero, List.set_cons_succ]
            refine wpAnyT_take (i := 3) (oi := { dst := some 42, op := Op.move (Operand.tmp 8), type := 3, pos := "ref.go:291", after := #[], guard := none }) (v := .int .i64 (i : Int)) rfl (by kernel_rfl) (by kernel_rfl) (by kernel_rfl) (by kernel_rfl) (fun _ _ _ h => h) (Or.inl ⟨by rfl, ?_⟩) hHeld ?_
            · intro w hSw
              obtain ⟨s0, s1, s2, s3⟩ := hSw
              first
                | rfl
                | (go_simp; done)
            try simp only [Act.put, List.setIfInBounds_toArray, List.set_cons_zero, List.set_cons_succ]
            refine wpAnyT_take (i := 4) (oi := { dst := some 43, op := Op.indexAddr 85 (Operand.tmp 41) (Operand.tmp 42), type := 0, pos := "ref.go:291", after := #[{ on := 2, ground := Ground.data }, { on := 3, ground := Ground.data }], guard := none }) (v := .pointer (some ⟨xp, i, none⟩)) rfl (by kernel_rfl) (by kernel_rfl) (by kernel_rfl) (by kernel_rfl) (fun _ _ _ h => h) (Or.inl ⟨by rfl, ?_⟩) hHeld ?_
            · intro w hSw
              obtain ⟨s0, s1, s2, s3⟩ := hSw
              first
                | rfl
                | (go_simp; done)
            try simp only [Act.put, List.setIfInBounds_toArray, List.set_cons_zero, List.set_cons_succ]
            refine wpAnyT_take (i := 5) (oi := { dst := some 44, op := Op.load 9 (Operand.tmp 43), type := 9, pos := "ref.go:291", after := #[{ on := 4, ground := Ground.data }], guard := none }) (v := .string (txB q)) rfl (by kernel_rfl) (by kernel_rfl) (by kernel_rfl) (by kernel_rfl) (fun _ _ _ h => h) (Or.inl ⟨by rfl, ?_⟩) hHeld ?_
            · intro w hSw
              obtain ⟨s0, s1, s2, s3⟩ := hSw
              first
                | rfl
                | (go_simp; done)
            try simp only [Act.put, List.setIfInBounds_toArray, List.set_cons_zero, List.set_cons_succ]
            skip
            refine wpAnyT_one (i := 6) (o := { dst := some 45, op := Op.call { callee := Callee.value (Operand.func 89), args := #[Operand.tmp 39, Operand.tmp 44], argTypes := #[88, 9] }, type := 88, pos := "ref.go:291", after := #[{ on := 0, ground := Ground.data }, { on := 5, ground := Ground.data }], guard := none }) (by kernel_rfl) rfl (fun K hK => ?_)
            go_simp
            refine Calls.mono (unhide HLS) ?_
            rintro e v2 ⟨vP2, rfl, hz2, hb2⟩
            obtain ⟨ap, cp, hzp, -, -⟩ := own_sl hz2.p
            generalize hmp : (List.set _ _ _).length = mp at hzp
            subst hzp
            clear hmp
            have HSW := hide ((unhide HS0).call ((Below.refl _ _).drew.trans hb2))
            have HST := hide ((unhide HSW).store hz2)
            have HBV := hide hb2
            clear hz2 hb2
            go_wp2_with fail
            refine hK.out _ _ (fun _ => unhide HSS _ ((Below.refl _ _).drew.trans (unhide HBV))) ?_
            clear hK K
            try simp only [Act.put, List.setIfInBounds_toArray, List.set_cons_zero, List.set_cons_succ]
            have fr0 := (unhide HSW).bz.frozen 0
            have fr1 := (unhide HSW).bz.frozen 1
            have z0 : v2.cell? ⟨gz, 0, none⟩ = some (.slice az mz cz) := (unhide HSW).bz.cell 0
            have z1 : v2.cell? ⟨gz, 1, none⟩ = some (.slice ad nz cd) := (unhide HSW).bz.cell 1
            refine wpAnyT_one (i := 7) (o := { dst := none, op := Op.store 88 (Operand.tmp 7) (Operand.tmp 45), type := 0, pos := "ref.go:291", after := #[{ on := 6, ground := Ground.data }, { on := 6, ground := Ground.chain }, { on := 0, ground := Ground.phase }, { on := 1, ground := Ground.phase }, { on := 2, ground := Ground.phase }, { on := 3, ground := Ground.phase }, { on := 4, ground := Ground.phase }, { on := 5, ground := Ground.phase }, { on := 6, ground := Ground.phase }], guard := none }) (by kernel_rfl) rfl (fun K hK => ?_)
            go_simp
            refine hK.out _ _ (fun h => by cases h) ?_
            clear hK K
            try simp only [Act.put, List.setIfInBounds_toArray, List.set_cons_zero, List.set_cons_succ]
            refine wpAnyT_done (by kernel_rfl) ?_ _
            obtain ⟨u2, hu2⟩ : ∃ z, (v2.setCell ⟨gz, 0, none⟩ (.slice ap mp cp)).setCell ⟨gz, 1, none⟩ (.slice ad nz cd) = z := ⟨_, rfl⟩
            simp only [hu2] at HST ⊢
            obtain ⟨zP, zD, ZP, ZD, hS_, hL_⟩ : ∃ zP zD ZP ZD, MS w u2 gX gY gr gz [.slice (some ⟨xp, 0, none⟩) m m, .slice (some ⟨xd, 0, none⟩) n n] [.slice (some ⟨yp, 0, none⟩) m m, .slice (some ⟨yd, 0, none⟩) n n] zP zD ZP ZD ∧ ZL ZP ZD ((x ++ List.replicate rn At.k) ++ q.map At.p) := ⟨_, _, _, _, unhide HST, unhide HLN⟩
            have HS2 := hide hS_
            have HL2 := hide hL_
            clear hu2 hS_ hL_ HSW HSS HLS HBV HST HLN fr0 fr1 z0 z1
            have e0 : u2.cell? ⟨gX, 1, none⟩ = some (.slice (some ⟨xd, 0, none⟩) n n) := (unhide HS2).x.cell 1
            have e1 : u2.cell? ⟨gY, 1, none⟩ = some (.slice (some ⟨yd, 0, none⟩) n n) := (unhide HS2).y.cell 1
            by_cases hin2 : i < n
            · obtain ⟨b, c, hb, hc, hRR⟩ := unhide HR2 hin2
              have e2 : u2.cell? ⟨yd, i, none⟩ = some (.bool c) := ((unhide HYA _ (unhide HS2).bel).cd hc).1
              have HBB := hide hb
              have hiI : (i : Int) < (n : Int) := by omega
              rw [hRR] at HEF
              have HXX := hide (apM_le (unhide HEF) (unhide HMM))
              clear hb hc hRR
              cases c with
              | true =>
                go_wp2_with fail
                exact ⟨⟨i + 1, by omega, by simp, hide ⟨_, _, _, _, _, unhide HS2, unhide HL2, unhide HEF⟩⟩, by simp [intOf] <;> omega⟩
              | false =>
                go_wp2_with fail
                obtain ⟨lq, -, -, -, hdl⟩ := (unhide HL2).last
                have HLS := hide (wnext_any b ((unhide HS2).call (Below.refl _ _).drew).z (by have := (unhide HL2).pl; have := unhide HXX; omega) (by have := unhide HXX; omega))
                have HLN := hide ((unhide HL2).next b)
                clear hdl
                obtain ⟨az, cz, hza, -, -⟩ := own_sl (unhide HS2).z.p
                obtain ⟨ad, cd, hzd, -, -⟩ := own_sl (unhide HS2).z.d
                generalize hmz : ZP.length = mz at hza
                generalize hnz : ZD.length = nz at hzd
                subst hza hzd
                clear hmz hnz
                have HSS : Hid (∀ W, Below u2.heap.size u2 W → W.cell? ⟨gz, 0, none⟩ = some (.slice az mz cz) ∧ W.cell? ⟨gz, 1, none⟩ = some (.slice ad nz cd) ∧ W.cell? ⟨gX, 1, none⟩ = some (.slice (some ⟨xd, 0, none⟩) n n) ∧ W.cell? ⟨xd, i, none⟩ = some (.bool b)) := hide (fun W hW => ⟨((unhide HS2).call hW).bz.cell 0, ((unhide HS2).call hW).bz.cell 1, ((unhide HS2).call hW).x.cell 1, ((unhide HXA W ((unhide HS2).call hW).bel).cd (unhide HBB)).1⟩)
                refine wp_region_T (S := fun W => W.cell? ⟨gz, 0, none⟩ = some (.slice az mz cz) ∧ W.cell? ⟨gz, 1, none⟩ = some (.slice ad nz cd) ∧ W.cell? ⟨gX, 1, none⟩ = some (.slice (some ⟨xd, 0, none⟩) n n) ∧ W.cell? ⟨xd, i, none⟩ = some (.bool b)) (fun i => decide (i < 7)) (by kernel_rfl) (unhide HSS _ (Below.refl _ _).drew) (fun hHeld => ?_)
                refine wpAnyT_take (i := 0) (oi := { dst := some 59, op := Op.load 88 (Operand.tmp 7), type := 88, pos := "ref.go:294", after := #[], guard := none }) (v := .agg #[.slice az mz cz, .slice ad nz cd]) rfl (by kernel_rfl) (by kernel_rfl) (by kernel_rfl) (by kernel_rfl) (fun _ _ _ h => h) (Or.inl ⟨by rfl, ?_⟩) hHeld ?_
                · intro w hSw
                  obtain ⟨s0, s1, s2, s3⟩ := hSw
                  first
                    | rfl
                    | (go_simp; done)
                try simp only [Act.put, List.setIfInBounds_toArray, List.set_cons_zero, List.set_cons_succ]
                refine wpAnyT_take (i := 1) (oi := { dst := some 60, op := Op.fieldAddr 88 (Operand.tmp 3) 1, type := 0, pos := "ref.go:294", after := #[], guard := none }) (v := .pointer (some ⟨gX, 1, none⟩)) rfl (by kernel_rfl) (by kernel_rfl) (by kernel_rfl) (by kernel_rfl) (fun _ _ _ h => h) (Or.inl ⟨by rfl, ?_⟩) hHeld ?_
                · intro w hSw
                  obtain ⟨s0, s1, s2, s3⟩ := hSw
                  first
                    | rfl
                    | (go_simp; done)
                try simp only [Act.put, List.setIfInBounds_toArray, List.set_cons_zero, List.set_cons_succ]
                refine wpAnyT_take (i := 2) (oi := { dst := some 61, op := Op.load 86 (Operand.tmp 60), type := 86, pos := "ref.go:294", after := #[{ on := 1, ground := Ground.data }], guard := none }) (v := .slice (some ⟨xd, 0, none⟩) n n) rfl (by kernel_rfl) (by kernel_rfl) (by kernel_rfl) (by kernel_rfl) (fun _ _ _ h => h) (Or.inl ⟨by rfl, ?_⟩) hHeld ?_
                · intro w hSw
                  obtain ⟨s0, s1, s2, s3⟩ := hSw
                  first
                    | rfl
                    | (go_simp; done)
                try simp only [Act.put, List.setIfInBounds_toArray, List.set_cons_zero, List.set_cons_succ]
                refine wpAnyT_take (i := 3) (oi := { dst := some 62, op := Op.move (Operand.tmp 8), type := 3, pos := "ref.go:294", after := #[], guard := none }) (v := .int .i64 (i : Int)) rfl (by kernel_rfl) (by kernel_rfl) (by kernel_rfl) (by kernel_rfl) (fun _ _ _ h => h) (Or.inl ⟨by rfl, ?_⟩) hHeld ?_
                · intro w hSw
                  obtain ⟨s0, s1, s2, s3⟩ := hSw
                  first
                    | rfl
                    | (go_simp; done)
                try simp only [Act.put, List.setIfInBounds_toArray, List.set_cons_zero, List.set_cons_succ]
                refine wpAnyT_take (i := 4) (oi := { dst := some 63, op := Op.indexAddr 86 (Operand.tmp 61) (Operand.tmp 62), type := 0, pos := "ref.go:294", after := #[{ on := 2, ground := Ground.data }, { on := 3, ground := Ground.data }], guard := none }) (v := .pointer (some ⟨xd, i, none⟩)) rfl (by kernel_rfl) (by kernel_rfl) (by kernel_rfl) (by kernel_rfl) (fun _ _ _ h => h) (Or.inl ⟨by rfl, ?_⟩) hHeld ?_
                · intro w hSw
                  obtain ⟨s0, s1, s2, s3⟩ := hSw
                  first
                    | rfl
                    | (go_simp; done)
                try simp only [Act.put, List.setIfInBounds_toArray, List.set_cons_zero, List.set_cons_succ]
                refine wpAnyT_take (i := 5) (oi := { dst := some 64, op := Op.load 4 (Operand.tmp 63), type := 4, pos := "ref.go:294", after := #[{ on := 4, ground := Ground.data }], guard := none }) (v := .bool b) rfl (by kernel_rfl) (by kernel_rfl) (by kernel_rfl) (by kernel_rfl) (fun _ _ _ h => h) (Or.inl ⟨by rfl, ?_⟩) hHeld ?_
                · intro w hSw
                  obtain ⟨s0, s1, s2, s3⟩ := hSw
                  first
                    | rfl
                    | (go_simp; done)
                try simp only [Act.put, List.setIfInBounds_toArray, List.set_cons_zero, List.set_cons_succ]
                refine wpAnyT_one (i := 6) (o := { dst := some 65, op := Op.call { callee := Callee.value (Operand.func 90), args := #[Operand.tmp 59, Operand.tmp 64], argTypes := #[88, 4] }, type := 88, pos := "ref.go:294", after := #[{ on := 0, ground := Ground.data }, { on := 5, ground := Ground.data }], guard := none }) (by kernel_rfl) rfl (fun K hK => ?_)
                go_simp
                refine Calls.mono (unhide HLS) ?_
                rintro e v9 ⟨vP9, vD9, rfl, hz9, hb9⟩
                obtain ⟨ap, cp, hzp, -, -⟩ := own_sl hz9.p
                obtain ⟨aq, cq, hzq, -, -⟩ := own_sl hz9.d
                generalize hmp : (ZP ++ [[]]).length = mp at hzp
                generalize hnp : (ZD ++ [_]).length = nq at hzq
                subst hzp hzq
                clear hmp hnp
                have HSW := hide ((unhide HS2).call ((Below.refl _ _).drew.trans hb9))
                have HST := hide ((unhide HSW).store (hz9.base (unhide HS2).bel.size))
                have HBV := hide hb9
                clear hz9 hb9
                have fr0 := (unhide HSW).bz.frozen 0
                have fr1 := (unhide HSW).bz.frozen 1
                have z0 : v9.cell? ⟨gz, 0, none⟩ = some (.slice az mz cz) := (unhide HSW).bz.cell 0
                have z1 : v9.cell? ⟨gz, 1, none⟩ = some (.slice ad nz cd) := (unhide HSW).bz.cell 1
                go_wp2_with fail
                refine hK.out _ _ (fun _ => unhide HSS _ ((Below.refl _ _).drew.trans (unhide HBV))) ?_
                clear hK K
                try simp only [Act.put, List.setIfInBounds_toArray, List.set_cons_zero, List.set_cons_succ]
                refine wpAnyT_one (i := 7) (o := { dst := none, op := Op.store 88 (Operand.tmp 7) (Operand.tmp 65), type := 0, pos := "ref.go:294", after := #[{ on := 6, ground := Ground.data }, { on := 6, ground := Ground.chain }, { on := 0, ground := Ground.phase }, { on := 1, ground := Ground.phase }, { on := 2, ground := Ground.phase }, { on := 3, ground := Ground.phase }, { on := 4, ground := Ground.phase }, { on := 5, ground := Ground.phase }, { on := 6, ground := Ground.phase }], guard := none }) (by kernel_rfl) rfl (fun K hK => ?_)
                go_simp
                refine hK.out _ _ (fun h => by cases h) ?_
                clear hK K
                try simp only [Act.put, List.setIfInBounds_toArray, List.set_cons_zero, List.set_cons_succ]
                refine wpAnyT_done (by kernel_rfl) ?_ _
                obtain ⟨u9, hu9⟩ : ∃ z, (v9.setCell ⟨gz, 0, none⟩ (.slice ap mp cp)).setCell ⟨gz, 1, none⟩ (.slice aq nq cq) = z := ⟨_, rfl⟩
                simp only [hu9] at HST ⊢
                have HS9 := HST
                have HL9 := HLN
                clear hu9 HSW HSS HLS HBV HST HLN fr0 fr1 z0 z1
                go_wp2_with fail
                exact ⟨⟨i + 1, by omega, by simp, hide ⟨_, _, _, _, _, unhide HS9, unhide HL9, by have h := unhide HEF; rw [← h]; simp [kp]⟩⟩, by simp [intOf] <;> omega⟩
            · obtain rfl : n = i := by omega
              have hR0 := unhide HR3 rfl
              rw [hR0, List.append_nil] at HEF
              clear hR0
              go_wp2_with fail
              exact ⟨⟨n + 1, by omega, by simp, hide ⟨_, _, _, _, _, unhide HS2, unhide HL2, by rw [mt_over (unhide HXL) (unhide HYL) false (show n + 1 = n + 1 from rfl), List.append_nil]; exact unhide HEF⟩⟩, by simp [intOf] <;> omega⟩
      · obtain rfl : m = i := by omega
        rw [mt_over (unhide HXL) (unhide HYL) false (unhide HM), List.append_nil] at heq
        obtain ⟨az, cz, hza, -, -⟩ := own_sl hms.z.p
        obtain ⟨ad, cd, hzd, -, -⟩ := own_sl hms.z.d
        generalize hmz : ZP.length = mz at hza
        generalize hnz : ZD.length = nz at hzd
        subst hza hzd
        clear hmz hnz
        have z0 : wr.cell? ⟨gz, 0, none⟩ = some (.slice az mz cz) := hms.bz.cell 0
        have z1 : wr.cell? ⟨gz, 1, none⟩ = some (.slice ad nz cd) := hms.bz.cell 1
        have y0 : wr.cell? ⟨gr, 0, none⟩ = some (.slice none 0 0) := hms.r.cell 0
        have y1 : wr.cell? ⟨gr, 1, none⟩ = some (.slice none 0 0) := hms.r.cell 1
        have f0 := hms.r.frozen 0
        have f1 := hms.r.frozen 1
        have HEQ : Hid (ZL ZP ZD T) := hide (by rw [← heq]; exact hzl)
        have HFI : Hid (RowAt ((wr.setCell ⟨gr, 0, none⟩ (.slice az mz cz)).setCell ⟨gr, 1, none⟩ (.slice ad nz cd)) gr 88 [.slice az mz cz, .slice ad nz cd] ∧ Wd ((wr.setCell ⟨gr, 0, none⟩ (.slice az mz cz)).setCell ⟨gr, 1, none⟩ (.slice ad nz cd)) w.heap.size (.slice az mz cz) (.slice ad nz cd) ZP ZD ∧ Below w.heap.size w ((wr.setCell ⟨gr, 0, none⟩ (.slice az mz cz)).setCell ⟨gr, 1, none⟩ (.slice ad nz cd))) := hide (by
          obtain ⟨n1, n2⟩ := hms.z.row_ne hms.r (by decide) (by decide)
          exact ⟨(hms.r.set 0 _).set 1 _, (hms.z.other n1 n2).other n1 n2, (hms.bel.setCell (unhide HGR) _).setCell (unhide HGR) _⟩)
        clear hms hzl heq HZ HS0 HL0
        go_wp2_with fail
        obtain ⟨wF, hF⟩ : ∃ z, (wr.setCell ⟨gr, 0, none⟩ (.slice az mz cz)).setCell ⟨gr, 1, none⟩ (.slice ad nz cd) = z := ⟨_, rfl⟩
        simp only [hF] at HFI ⊢
        clear hF
        have q0 : wF.cell? ⟨gr, 0, none⟩ = some (.slice az mz cz) := (unhide HFI).1.cell 0
        have q1 : wF.cell? ⟨gr, 1, none⟩ = some (.slice ad nz cd) := (unhide HFI).1.cell 1
        refine bodyPost_ret (v := .agg #[.slice az mz cz, .slice ad nz cd]) (by simp [results, Tryd.results80, go_sem, q0, q1]) rfl ?_
        exact ⟨_, _, ZP, ZD, rfl, (unhide HFI).2.1, unhide HEQ, (unhide HFI).2.2⟩
end Go.Proofs.YtidblnjohkadhaaDoor

namespace Go.Proofs.YtidblnjohkadhaaDoor
set_option linter.unusedVariables false
set_option linter.unusedSimpArgs false
open Go.ChangeShapes Go.WideShapes Go.ChangeAt Go.RowKit Go.Joins Go.Deep

theorem spread_tr {a : Option Addr} {l : List Pt} {c n t : Nat} {W : World} (he : Edit W a l c) (hd : IsEd l n t) (hc : l.length ≤ 4194304) : Calls Tryd.prog 70 #[.slice a l.length c, .int .i64 (n : Int)] W fun r w' => ∃ gP gD m P D, n + 1 = m ∧ r = .returned (.agg #[.slice (some ⟨gP, 0, none⟩) m m, .slice (some ⟨gD, 0, none⟩) n n]) ∧ Wd w' W.heap.size (.slice (some ⟨gP, 0, none⟩) m m) (.slice (some ⟨gD, 0, none⟩) n n) P D ∧ WdL P D n (atomsL l) ∧ Below W.heap.size W w' := Calls.mono (spread_any a l c n t W he.pts hd hc) (by
    rintro r w' ⟨gP, gD, m, P, D, h1, h2, h3, h4, h5, h6, h7, h8⟩
    exact ⟨gP, gD, m, P, D, h1, h2, h3, ⟨h4, h5, h6, h7⟩, h8⟩)
theorem to_fp (x : List At) : At.toN x ≤ At.fromN x + At.putsN x := by
  induction x with
  | nil => simp [At.toN]
  | cons s x ih => cases s <;> simp only [At.toN, At.fromN, At.putsN] <;> omega
theorem puts_to (x : List At) : At.putsN x ≤ At.toN x := by
  induction x with
  | nil => simp [At.putsN]
  | cons s x ih => cases s <;> simp only [At.toN, At.putsN] <;> omega
theorem mt_long {x y : List At} (h : At.fromN x = At.fromN y) (hx : At.toN x ≤ 4096) (hy : At.toN y ≤ 4096) : (At.one x y).length ≤ 65536 ∧ (At.two x y).length ≤ 65536 ∧ At.toN (At.one x y) ≤ 16384 ∧ At.toN (At.two x y) ≤ 16384 := by
  have hs := At.sizes x y h
  have h1 := at_len (At.one x y)
  have h2 := at_len (At.two x y)
  have h3 := to_fp (At.one x y)
  have h4 := puts_to x
  have h5 := puts_to y
  omega
set_option maxRecDepth 100000 in
set_option maxHeartbeats 4000000 in
theorem rtransform_ed (a b : Option Addr) (la lb : List Pt) (ca cb : Nat) (n ta tb : Nat) (w : World) (ea : Edit w a la ca) (eb : Edit w b lb cb) (ha : IsEd la n ta) (hb : IsEd lb n tb) (hn : n ≤ 4096) (hta : ta ≤ 4096) (htb : tb ≤ 4096) (hla : la.length ≤ 4194304) (hlb : lb.length ≤ 4194304) :
    Calls Tryd.prog 47 #[.slice a la.length ca, .slice b lb.length cb] w fun r w' => ∃ v1 v2 L1 L2, r = .returned (.tuple #[v1, v2, .int .i64 0]) ∧ OwnP w' w.heap.size v1 L1 ∧ OwnP w' w.heap.size v2 L2 ∧ NfG 0 L1 ∧ NfG 0 L2 ∧ atomsL L1 = At.can (At.one (atomsL la) (atomsL lb)) ∧ atomsL L2 = At.can (At.two (atomsL la) (atomsL lb)) ∧ Below w.heap.size w w' := by
  have HSA := hide (rsize_at (w := w) ea rfl (Below.refl _ _))
  have HSB : Hid (∀ W, Below w.heap.size w W → Calls Tryd.prog 24 #[.slice b lb.length cb] W fun r w' => r = .returned (szVal lb) ∧ Below W.heap.size W w') := hide (fun W hW => rsize_at (w := W) (eb.call hW) rfl (Below.refl _ _))
  have e : szVal la = .tuple #[.int .i64 (n : Int), .int .i64 (ta : Int), .int .i64 0] := by unfold szVal; rw [ed_size ha]
  have f : szVal lb = .tuple #[.int .i64 (n : Int), .int .i64 (tb : Int), .int .i64 0] := by unfold szVal; rw [ed_size hb]
  rw [e] at HSA
  rw [f] at HSB
  have HPA := hide (fun W (hW : Below w.heap.size w W) => spread_tr (ea.call hW) ha hla)
  have HPB := hide (fun W (hW : Below w.heap.size w W) => spread_tr (eb.call hW) hb hlb)
  have HLO := hide (mt_long (x := atomsL la) (y := atomsL lb) (by rw [ha.2.1, hb.2.1]) (by rw [ha.2.2.1]; exact hta) (by rw [hb.2.2.1]; exact htb))
  have HTA : Hid (At.toN (atomsL la) ≤ 65536) := hide (by rw [ha.2.2.1]; omega)
  have HTB : Hid (At.toN (atomsL lb) ≤ 65536) := hide (by rw [hb.2.2.1]; omega)
  have HNN := hide hn
  obtain ⟨na, hna⟩ : ∃ z, la.length = z := ⟨_, rfl⟩
  obtain ⟨nb, hnb⟩ : ∃ z, lb.length = z := ⟨_, rfl⟩
  rw [hna] at HSA HPA ⊢
  rw [hnb] at HSB HPB ⊢
  clear ea eb ha hb hn hta htb hla hlb hna hnb e f
  go_enter Tryd.func47, Tryd.ntmps47
  go_wp2_with fail
  refine Calls.mono (unhide HSA) ?_
  rintro r w1 ⟨rfl, hb1⟩
  have HB1 := hide hb1
  clear hb1 HSA
  go_wp2_with fail
  refine Calls.mono (unhide HSB _ (unhide HB1)) ?_
  rintro r w2 ⟨rfl, hb2⟩
  have HB2 := hide ((unhide HB1).trans (hb2.mono (unhide HB1).size))
  clear hb2 HSB HB1
  go_wp2_with fail
  refine Calls.mono (unhide HPA _ (unhide HB2)) ?_
  rintro r w3 ⟨xP, xD, m, XP, XD, hm, rfl, hxd, hxl, hb3⟩
  have HM := hide hm
  have HB3 := hide ((unhide HB2).trans (hb3.mono (unhide HB2).size))
  have HXL := hide hxl
  have HX3 := hide (hxd.base (unhide HB2).size)
  clear hb3 HPA hxd hxl HB2
  go_wp2_with fail
  refine Calls.mono (unhide HPB _ (unhide HB3)) ?_
  rintro r w4 ⟨yP, yD, k, YP, YD, hk, rfl, hyd, hyl, hb4⟩
  obtain rfl : m = k := by omega
  have HB4 := hide ((unhide HB3).trans (hb4.mono (unhide HB3).size))
  have HYL := hide hyl
  have HY4 := hide (hyd.base (unhide HB3).size)
  have HX4 := hide ((unhide HX3).call hb4)
  clear hb4 HPB hk hyd hyl HB3 HX3 hm
  have hba : Below w4.heap.size w4 (w4.alloc (.cells #[.slice (some ⟨xP, 0, none⟩) m m, .slice (some ⟨xD, 0, none⟩) n n] 88)) := (Below.refl _ _).alloc (Nat.le_refl _) _
  have hbb : Below (w4.alloc (.cells #[.slice (some ⟨xP, 0, none⟩) m m, .slice (some ⟨xD, 0, none⟩) n n] 88)).heap.size (w4.alloc (.cells #[.slice (some ⟨xP, 0, none⟩) m m, .slice (some ⟨xD, 0, none⟩) n n] 88)) ((w4.alloc (.cells #[.slice (some ⟨xP, 0, none⟩) m m, .slice (some ⟨xD, 0, none⟩) n n] 88)).alloc (.cells #[.slice (some ⟨yP, 0, none⟩) m m, .slice (some ⟨yD, 0, none⟩) n n] 88)) := (Below.refl _ _).alloc (Nat.le_refl _) _
  have HRX := hide ((RowAt.new w4 88 [.slice (some ⟨xP, 0, none⟩) m m, .slice (some ⟨xD, 0, none⟩) n n]).below hbb (by simp))
  have HRY := hide (RowAt.new (w4.alloc (.cells #[.slice (some ⟨xP, 0, none⟩) m m, .slice (some ⟨xD, 0, none⟩) n n] 88)) 88 [.slice (some ⟨yP, 0, none⟩) m m, .slice (some ⟨yD, 0, none⟩) n n])
  have HB6 := hide (((unhide HB4).trans (hba.mono (unhide HB4).size)).trans (hbb.mono (Nat.le_trans (unhide HB4).size hba.size)))
  have HX6 := hide (((unhide HX4).call hba).call hbb)
  have HY6 := hide (((unhide HY4).call hba).call hbb)
  clear hba hbb HX4 HY4 HB4
  go_wp2_with fail
  obtain ⟨wA, hA⟩ : ∃ z, (w4.alloc (.cells #[.slice (some ⟨xP, 0, none⟩) m m, .slice (some ⟨xD, 0, none⟩) n n] 88)).alloc (.cells #[.slice (some ⟨yP, 0, none⟩) m m, .slice (some ⟨yD, 0, none⟩) n n] 88) = z := ⟨_, rfl⟩
  rw [size_alloc] at HRY
  rw [hA] at HRX HRY HB6 HX6 HY6
  simp only [hA]
  obtain ⟨gX, hgX⟩ : ∃ z, w4.heap.size = z := ⟨_, rfl⟩
  obtain ⟨gY, hgY⟩ : ∃ z, gX + 1 = z := ⟨_, rfl⟩
  rw [hgX] at HRX HRY
  rw [hgY] at HRY
  simp only [hgX, hgY]
  clear hA hgX hgY
  have HSS : Hid (∀ W, Below wA.heap.size wA W → W.cell? ⟨gX, 0, none⟩ = some (.slice (some ⟨xP, 0, none⟩) m m) ∧ W.cell? ⟨gX, 1, none⟩ = some (.slice (some ⟨xD, 0, none⟩) n n) ∧ W.cell? ⟨gY, 0, none⟩ = some (.slice (some ⟨yP, 0, none⟩) m m) ∧ W.cell? ⟨gY, 1, none⟩ = some (.slice (some ⟨yD, 0, none⟩) n n)) := hide (fun W hW => ⟨((unhide HRX).below hW (unhide HRX).lt).cell 0, ((unhide HRX).below hW (unhide HRX).lt).cell 1, ((unhide HRY).below hW (unhide HRY).lt).cell 0, ((unhide HRY).below hW (unhide HRY).lt).cell 1⟩)
  have HM1 : Hid (∀ W, Below wA.heap.size wA W → Calls Tryd.prog 80 #[.agg #[.slice (some ⟨xP, 0, none⟩) m m, .slice (some ⟨xD, 0, none⟩) n n], .agg #[.slice (some ⟨yP, 0, none⟩) m m, .slice (some ⟨yD, 0, none⟩) n n], .bool true] W fun e w' => ∃ zP zD ZP ZD, e = .returned (.agg #[zP, zD]) ∧ Wd w' W.heap.size zP zD ZP ZD ∧ ZL ZP ZD (At.one (atomsL la) (atomsL lb)) ∧ Below W.heap.size W w') := hide (fun W hW => by
    have h := meet_any true ((unhide HX6).call hW) ((unhide HY6).call hW) (unhide HXL) (unhide HYL) (unhide HM) (unhide HNN) (unhide HLO).1 (unhide HTA) (unhide HTB)
    exact h)
  have HM2 : Hid (∀ W, Below wA.heap.size wA W → Calls Tryd.prog 80 #[.agg #[.slice (some ⟨yP, 0, none⟩) m m, .slice (some ⟨yD, 0, none⟩) n n], .agg #[.slice (some ⟨xP, 0, none⟩) m m, .slice (some ⟨xD, 0, none⟩) n n], .bool false] W fun e w' => ∃ zP zD ZP ZD, e = .returned (.agg #[zP, zD]) ∧ Wd w' W.heap.size zP zD ZP ZD ∧ ZL ZP ZD (At.two (atomsL la) (atomsL lb)) ∧ Below W.heap.size W w') := hide (fun W hW => by
    have h := meet_any false ((unhide HY6).call hW) ((unhide HX6).call hW) (unhide HYL) (unhide HXL) (unhide HM) (unhide HNN) (unhide HLO).2.1 (unhide HTB) (unhide HTA)
    exact h)
  have HV0 := hide ((Below.refl wA.heap.size wA).drew)
  refine wp_region_T (S := fun W => W.cell? ⟨gX, 0, none⟩ = some (.slice (some ⟨xP, 0, none⟩) m m) ∧ W.cell? ⟨gX, 1, none⟩ = some (.slice (some ⟨xD, 0, none⟩) n n) ∧ W.cell? ⟨gY, 0, none⟩ = some (.slice (some ⟨yP, 0, none⟩) m m) ∧ W.cell? ⟨gY, 1, none⟩ = some (.slice (some ⟨yD, 0, none⟩) n n)) (fun i => decide (i < 11)) (by kernel_rfl) (unhide HSS _ (Below.refl _ _).drew) (fun hHeld => ?_)
  refine wpAnyT_take (i := 0) (oi := { dst := some 44, op := Op.load 88 (Operand.tmp 13), type := 88, pos := "ref.go:277", after := #[], guard := none }) (v := .agg #[.slice (some ⟨xP, 0, none⟩) m m, .slice (some ⟨xD, 0, none⟩) n n]) rfl (by kernel_rfl) (by kernel_rfl) (by kernel_rfl) (by kernel_rfl) (fun _ _ _ h => h) (Or.inl ⟨by rfl, ?_⟩) hHeld ?_
  · intro w hSw
    obtain ⟨s0, s1, s2, s3⟩ := hSw
    first
      | rfl
      | (go_simp; done)
  try simp only [Act.put, List.setIfInBounds_toArray, List.set_cons_zero, List.set_cons_succ]
  refine wpAnyT_take (i := 1) (oi := { dst := some 45, op := Op.load 88 (Operand.tmp 14), type := 88, pos := "ref.go:277", after := #[], guard := none }) (v := .agg #[.slice (some ⟨yP, 0, none⟩) m m, .slice (some ⟨yD, 0, none⟩) n n]) rfl (by kernel_rfl) (by kernel_rfl) (by kernel_rfl) (by kernel_rfl) (fun _ _ _ h => h) (Or.inl ⟨by rfl, ?_⟩) hHeld ?_
  · intro w hSw
    obtain ⟨s0, s1, s2, s3⟩ := hSw
    first
      | rfl
      | (go_simp; done)
  try simp only [Act.put, List.setIfInBounds_toArray, List.set_cons_zero, List.set_cons_succ]
  refine wpAnyT_take (i := 4) (oi := { dst := some 48, op := Op.load 88 (Operand.tmp 14), type := 88, pos := "ref.go:277", after := #[], guard := none }) (v := .agg #[.slice (some ⟨yP, 0, none⟩) m m, .slice (some ⟨yD, 0, none⟩) n n]) rfl (by kernel_rfl) (by kernel_rfl) (by kernel_rfl) (by kernel_rfl) (fun _ _ _ h => h) (Or.inl ⟨by rfl, ?_⟩) hHeld ?_
  · intro w hSw
    obtain ⟨s0, s1, s2, s3⟩ := hSw
    first
      | rfl
      | (go_simp; done)
  try simp only [Act.put, List.setIfInBounds_toArray, List.set_cons_zero, List.set_cons_succ]
  refine wpAnyT_take (i := 5) (oi := { dst := some 49, op := Op.load 88 (Operand.tmp 13), type := 88, pos := "ref.go:277", after := #[], guard := none }) (v := .agg #[.slice (some ⟨xP, 0, none⟩) m m, .slice (some ⟨xD, 0, none⟩) n n]) rfl (by kernel_rfl) (by kernel_rfl) (by kernel_rfl) (by kernel_rfl) (fun _ _ _ h => h) (Or.inl ⟨by rfl, ?_⟩) hHeld ?_
  · intro w hSw
    obtain ⟨s0, s1, s2, s3⟩ := hSw
    first
      | rfl
      | (go_simp; done)
  try simp only [Act.put, List.setIfInBounds_toArray, List.set_cons_zero, List.set_cons_succ]
  refine wpAnyT_one (i := 2) (o := { dst := some 46, op := Op.call { callee := Callee.value (Operand.func 80), args := #[Operand.tmp 44, Operand.tmp 45, Operand.const (Value.bool true)], argTypes := #[88, 88, 4] }, type := 88, pos := "ref.go:277", after := #[{ on := 0, ground := Ground.data }, { on := 1, ground := Ground.data }], guard := none }) (by kernel_rfl) rfl (fun K hK => ?_)
  go_simp
  refine Calls.mono (unhide HM1 _ (unhide HV0)) ?_
  rintro e v1 ⟨zP1, zD1, ZP1, ZD1, rfl, hz1, hl1, hb1⟩
  have HV1 := hide ((unhide HV0).trans (hb1.mono (unhide HV0).size))
  have HC1 := hide (close_any v1 hz1 hl1.pl hl1.cps (by rw [hl1.eq]; have := unhide HLO; omega) (by rw [hl1.eq]; have := unhide HLO; omega) (by have h1 := hl1.last.choose_spec.2.2.2; have := unhide HLO; omega))
  rw [hl1.eq] at HC1
  clear hz1 hl1 hb1
  go_wp2_with fail
  refine hK.out _ _ (fun _ => unhide HSS _ (unhide HV1)) ?_
  clear hK K
  try simp only [Act.put, List.setIfInBounds_toArray, List.set_cons_zero, List.set_cons_succ]
  refine wpAnyT_one (i := 3) (o := { dst := some 47, op := Op.call { callee := Callee.value (Operand.func 72), args := #[Operand.tmp 46], argTypes := #[88] }, type := 22, pos := "ref.go:277", after := #[{ on := 2, ground := Ground.data }, { on := 2, ground := Ground.chain }], guard := none }) (by kernel_rfl) rfl (fun K hK => ?_)
  go_simp
  refine Calls.mono (unhide HC1) ?_
  rintro e v2 ⟨u2, L2, rfl, ho2, hn2, ha2, hb2⟩
  have HV2 := hide ((unhide HV1).trans (hb2.mono (unhide HV1).size))
  have HO2 := hide (own_base ho2 (Nat.le_trans (unhide HB6).size (unhide HV1).size))
  have HN2 := hide (And.intro hn2 ha2)
  have HBB2 := hide hb2
  clear ho2 hn2 ha2 hb2 HC1
  go_wp2_with fail
  refine hK.out _ _ (fun _ => unhide HSS _ (unhide HV2)) ?_
  clear hK K
  try simp only [Act.put, List.setIfInBounds_toArray, List.set_cons_zero, List.set_cons_succ]
  refine wpAnyT_one (i := 6) (o := { dst := some 50, op := Op.call { callee := Callee.value (Operand.func 80), args := #[Operand.tmp 48, Operand.tmp 49, Operand.const (Value.bool false)], argTypes := #[88, 88, 4] }, type := 88, pos := "ref.go:277", after := #[{ on := 4, ground := Ground.data }, { on := 5, ground := Ground.data }, { on := 3, ground := Ground.chain }], guard := none }) (by kernel_rfl) rfl (fun K hK => ?_)
  go_simp
  refine Calls.mono (unhide HM2 _ (unhide HV2)) ?_
  rintro e v3 ⟨zP3, zD3, ZP3, ZD3, rfl, hz3, hl3, hb3⟩
  have HV3 := hide ((unhide HV2).trans (hb3.mono (unhide HV2).size))
  have HC3 := hide (close_any v3 hz3 hl3.pl hl3.cps (by rw [hl3.eq]; have := unhide HLO; omega) (by rw [hl3.eq]; have := unhide HLO; omega) (by have h1 := hl3.last.choose_spec.2.2.2; have := unhide HLO; omega))
  rw [hl3.eq] at HC3
  have HB23 := hide hb3
  clear hz3 hl3 hb3
  go_wp2_with fail
  refine hK.out _ _ (fun _ => unhide HSS _ (unhide HV3)) ?_
  clear hK K
  try simp only [Act.put, List.setIfInBounds_toArray, List.set_cons_zero, List.set_cons_succ]
  refine wpAnyT_one (i := 7) (o := { dst := some 51, op := Op.call { callee := Callee.value (Operand.func 72), args := #[Operand.tmp 50], argTypes := #[88] }, type := 22, pos := "ref.go:277", after := #[{ on := 6, ground := Ground.data }, { on := 6, ground := Ground.chain }], guard := none }) (by kernel_rfl) rfl (fun K hK => ?_)
  go_simp
  refine Calls.mono (unhide HC3) ?_
  rintro e v4 ⟨u4, L4, rfl, ho4, hn4, ha4, hb4⟩
  have HV4 := hide ((unhide HV3).trans (hb4.mono (unhide HV3).size))
  have HO4 := hide (own_base ho4 (Nat.le_trans (unhide HB6).size (unhide HV3).size))
  have HN4 := hide (And.intro hn4 ha4)
  have HB24 := hide ((unhide HB23).trans (hb4.mono (unhide HB23).size))
  clear ho4 hn4 ha4 hb4 HC3
  go_wp2_with fail
  refine hK.out _ _ (fun _ => unhide HSS _ (unhide HV4)) ?_
  clear hK K
  try simp only [Act.put, List.setIfInBounds_toArray, List.set_cons_zero, List.set_cons_succ]
  refine wpAnyT_take (i := 8) (oi := { dst := some 4, op := Op.assign (Operand.tmp 47), type := 22, pos := "ref.go:277", after := #[{ on := 3, ground := Ground.data }, { on := 7, ground := Ground.chain }, { on := 0, ground := Ground.phase }, { on := 1, ground := Ground.phase }, { on := 2, ground := Ground.phase }, { on := 3, ground := Ground.phase }, { on := 4, ground := Ground.textOnly Departure.lateStores }, { on := 5, ground := Ground.textOnly Departure.lateStores }, { on := 6, ground := Ground.textOnly Departure.lateStoresUnsure }, { on := 7, ground := Ground.textOnly Departure.lateStoresUnsure }], guard := none }) (v := u2) rfl (by kernel_rfl) (by kernel_rfl) (by kernel_rfl) (by kernel_rfl) (fun _ _ _ h => h) (Or.inl ⟨by rfl, ?_⟩) (unhide HSS _ (unhide HV4)) ?_
  · intro w hSw
    obtain ⟨s0, s1, s2, s3⟩ := hSw
    first
      | rfl
      | (go_simp; done)
  try simp only [Act.put, List.setIfInBounds_toArray, List.set_cons_zero, List.set_cons_succ]
  refine wpAnyT_take (i := 9) (oi := { dst := some 5, op := Op.assign (Operand.tmp 51), type := 22, pos := "ref.go:277", after := #[{ on := 7, ground := Ground.data }, { on := 8, ground := Ground.chain }, { on := 0, ground := Ground.phase }, { on := 1, ground := Ground.phase }, { on := 2, ground := Ground.phase }, { on := 3, ground := Ground.phase }, { on := 4, ground := Ground.phase }, { on := 5, ground := Ground.phase }, { on := 6, ground := Ground.phase }, { on := 7, ground := Ground.phase }, { on := 8, ground := Ground.phase }], guard := none }) (v := u4) rfl (by kernel_rfl) (by kernel_rfl) (by kernel_rfl) (by kernel_rfl) (fun _ _ _ h => h) (Or.inl ⟨by rfl, ?_⟩) (unhide HSS _ (unhide HV4)) ?_
  · intro w hSw
    obtain ⟨s0, s1, s2, s3⟩ := hSw
    first
      | rfl
      | (go_simp; done)
  try simp only [Act.put, List.setIfInBounds_toArray, List.set_cons_zero, List.set_cons_succ]
  refine wpAnyT_take (i := 10) (oi := { dst := some 6, op := Op.assign (Operand.const (Value.int IntKind.i64 0)), type := 25, pos := "ref.go:277", after := #[{ on := 9, ground := Ground.chain }, { on := 0, ground := Ground.phase }, { on := 1, ground := Ground.phase }, { on := 2, ground := Ground.phase }, { on := 3, ground := Ground.phase }, { on := 4, ground := Ground.phase }, { on := 5, ground := Ground.phase }, { on := 6, ground := Ground.phase }, { on := 7, ground := Ground.phase }, { on := 8, ground := Ground.phase }, { on := 9, ground := Ground.phase }], guard := none }) (v := .int .i64 0) rfl (by kernel_rfl) (by kernel_rfl) (by kernel_rfl) (by kernel_rfl) (fun _ _ _ h => h) (Or.inl ⟨by rfl, ?_⟩) (unhide HSS _ (unhide HV4)) ?_
  · intro w hSw
    obtain ⟨s0, s1, s2, s3⟩ := hSw
    first
      | rfl
      | (go_simp; done)
  try simp only [Act.put, List.setIfInBounds_toArray, List.set_cons_zero, List.set_cons_succ]
  refine wpAnyT_done (by kernel_rfl) ?_ _
  have HO5 : Hid (OwnP v4 w.heap.size u2 L2) := hide (own_call (unhide HO2) (unhide HB24))
  go_wp2_with fail
  go_ret3
  exact ⟨_, _, L2, L4, rfl, unhide HO5, unhide HO4, (unhide HN2).1, (unhide HN4).1, (unhide HN2).2, (unhide HN4).2, (unhide HB6).trans ((unhide HV4).mono (unhide HB6).size)⟩
end Go.Proofs.YtidblnjohkadhaaDoor

namespace Go.Proofs.YtidblnjohkadhaaDoor
set_option linter.unusedVariables false
set_option linter.unusedSimpArgs false
open Go.ChangeShapes Go.WideShapes Go.ChangeAt Go.RowKit Go.Joins Go.Deep

theorem traB_ed {la lb : List Pt} (h : traB la lb = true) : ∃ n ta tb, IsEd la n ta ∧ IsEd lb n tb := by
  unfold traB at h
  cases ha : sizeL la with
  | none => rw [ha] at h; cases h
  | some x =>
    obtain ⟨f, t, k⟩ := x
    rw [ha] at h
    simp only [decide_eq_true_eq] at h
    unfold checkE at h
    cases hb : sizeL lb with
    | none => rw [hb] at h; simp at h
    | some y =>
      obtain ⟨f2, t2, k2⟩ := y
      rw [hb] at h
      simp only at h
      have hf : f2 = f := by
        by_cases hh : f2 = f
        · exact hh
        · rw [if_neg hh] at h; omega
      subst hf
      exact ⟨_, _, _, (size_ed ha).1, (size_ed hb).1⟩
theorem wpList_append_pts {ops : Array Oper} {rest : List Oper} {o : Oper} {a : Act} {Q : Exit → Act → World → Prop} {W : World} (hgd : o.guard = none) (s x : Operand)
    (ho : o.op = .call { callee := .builtin .append, args := #[s, x], argTypes := #[22, 22] }) (B : Nat) (v : Value) (l m : List Pt) (ad : Option Addr) (c : Nat)
    (hs : a.eval s = v) (hv : OwnP W B v l) (hn : l.length + m.length ≤ 4398046511104) (hB : B ≤ W.heap.size) (hx : a.eval x = .slice ad m.length c) (hp : PtsAt W ad m)
    (h : ∀ ad' cap w', OwnP w' B (.slice ad' (l.length + m.length) cap) (l ++ m) → W.grownBy w' v.ownBlock → (Value.ownBlock (.slice ad' (l.length + m.length) cap) = v.ownBlock ∨ Value.ownBlock (.slice ad' (l.length + m.length) cap) = some W.heap.size) → wpList Tryd.prog ops Q rest (a.put o.dst (.slice ad' (l.length + m.length) cap)) w') : wpList Tryd.prog ops Q (o :: rest) a W :=
  wpList_plain hgd fun _ hK => wp_append_pts s x ho B v l m ad c hs hv hn hB hx hp (fun ad' cap w' h1 h2 h3 => hK _ _ (h ad' cap w' h1 h2 h3))
set_option maxRecDepth 100000 in
set_option maxHeartbeats 4000000 in
theorem clone_any (a : Option Addr) (l : List Pt) (c : Nat) (w : World) (hp : PtsAt w a l) (hl : l.length ≤ 1099511627776) :
    Calls Tryd.prog 27 #[.slice a l.length c] w fun r w' => ∃ v, r = .returned v ∧ OwnP w' w.heap.size v l ∧ Below w.heap.size w w' := by
  have HP := hide hp
  have HL := hide hl
  obtain ⟨n, hn⟩ : ∃ n, l.length = n := ⟨_, rfl⟩
  have HN := hide hn
  rw [hn]
  cases a with
  | none =>
    have hl0 : l = [] := by
      rcases hp with h | ⟨b, off, h, _⟩
      · exact h
      · cases h
    subst hl0
    obtain rfl : 0 = n := hn
    have hq := fun W => Go.run_eql_slice_nil (P := Tryd.prog) W 22 32 none 0 c Tryd.underlying22
    clear hp
    go_enter Tryd.func27, Tryd.ntmps27
    go_wp2_with fail
    go_ret
    exact ⟨_, rfl, OwnP.nil _ _, Below.refl _ _⟩
  | some b =>
    have hq := fun W => Go.run_eql_slice_nil (P := Tryd.prog) W 22 32 (some b) n c Tryd.underlying22
    clear hp hn hl
    have HOE := hide (own_empty w w.heap.size (Nat.le_refl _))
    have hbA : Below w.heap.size w (w.alloc (.cells #[] 32)) := (Below.refl _ _).alloc (Nat.le_refl _) _
    have HPA := hide ((unhide HP).call hbA)
    have HBA := hide hbA
    clear hbA
    go_enter Tryd.func27, Tryd.ntmps27
    go_wp2_with (at_builtin; refine wpList_append_pts rfl _ _ rfl w.heap.size _ [] l (some b) c rfl (unhide HOE) ?c0 ?c1 ?c2 (unhide HPA) (fun ad' cap w' hv hg hk => ?_))
    case c0 => have := unhide HL; simp only [List.length_nil]; omega
    case c1 => exact (unhide HBA).size
    case c2 => rw [unhide HN]; rfl
    have HV : Hid (OwnP w' w.heap.size (.slice ad' l.length cap) l) := hide (by simpa using hv)
    have HB2 := hide ((unhide HBA).trans ((grown_only hg).below (unhide HBA).size (fun k hk => ((unhide HOE).lt k hk).1)))
    clear hv hg hk
    go_wp2_with fail
    go_ret
    exact ⟨_, rfl, unhide HV, unhide HB2⟩
set_option maxRecDepth 100000 in
set_option maxHeartbeats 4000000 in
theorem equal_true (a b : Option Addr) (l : List Pt) (ca cb n : Nat) (w : World) (ha : PtsAt w a l) (hb : PtsAt w b l) (hn : l.length = n) (hc : n ≤ maxLen) :
    Calls Tryd.prog 31 #[.slice a n ca, .slice b n cb] w fun r w' => r = .returned (.bool true) ∧ Below w.heap.size w w' := by
  have HA := hide ha
  have HB := hide hb
  have HN := hide hn
  have nI : (n : Int) ≤ 9223372036854775807 := by unfold maxLen at hc; omega
  clear ha hb hn
  go_enter Tryd.func31, Tryd.ntmps31
  go_wp2_with fail
  go_loopw [13] (fun i wr => ∃ k : Nat, k ≤ n ∧ i = .int .i64 (k : Int) ∧ Hid (Below w.heap.size w wr)) (fun i _ => ((n : Int) - intOf i).toNat)
  case atStart => exact ⟨0, by omega, by simp, hide (Below.refl _ _)⟩
  case round =>
    obtain ⟨k, hk, rfl, HBW⟩ := hrel
    by_cases hlt : k < n
    · have kI : (k : Int) < (n : Int) := by omega
      obtain ⟨p, hpk⟩ : ∃ p, l[k]? = some p := ⟨_, List.getElem?_eq_getElem (by have := unhide HN; omega)⟩
      obtain ⟨b1, o1, rfl, e0, e1, e2⟩ := (unhide HA).at_ (unhide HBW) hpk
      obtain ⟨b2, o2, rfl, f0, f1, f2⟩ := (unhide HB).at_ (unhide HBW) hpk
      clear hpk
      go_wp2_with fail
      go_quiet (fail)
      have HBW2 := hide ((unhide HBW).trans ((Joins.below_draws _ _ nq).mono (unhide HBW).size))
      clear HBW
      go_wp2_with fail
      exact ⟨⟨k + 1, by omega, by simp, HBW2⟩, by simp [intOf]; omega⟩
    · obtain rfl : n = k := by omega
      have kI : ¬ (n : Int) < (n : Int) := by omega
      go_wp2_with fail
      go_ret
      exact ⟨rfl, unhide HBW⟩
theorem clone_at {w W : World} {a : Option Addr} {l : List Pt} {c n : Nat} (ha : Edit W a l c) (hn : l.length = n) (hl : n ≤ 1099511627776) (hb : Below w.heap.size w W) :
    Calls Tryd.prog 27 #[.slice a n c] W fun r w' => (∃ v, r = .returned v ∧ OwnP w' W.heap.size v l) ∧ Below w.heap.size w w' := by
  subst hn
  refine Calls.mono (clone_any a l c W ha.pts hl) ?_
  rintro r w' ⟨v, rfl, h, h2⟩
  exact ⟨⟨v, rfl, h⟩, hb.trans (h2.mono hb.size)⟩
theorem equal_at {w W : World} {a b : Option Addr} {l : List Pt} {ca cb na : Nat} (ha : Edit W a l ca) (hb' : Edit W b l cb) (hna : l.length = na) (hb : Below w.heap.size w W) :
    Calls Tryd.prog 31 #[.slice a na ca, .slice b na cb] W fun r w' => r = .returned (.bool true) ∧ Below w.heap.size w w' := by
  subst hna
  refine Calls.mono (equal_true a b l ca cb l.length W ha.pts hb'.pts rfl (Nat.le_trans ha.cap ha.max)) ?_
  rintro r w' ⟨rfl, h⟩
  exact ⟨rfl, hb.trans (h.mono hb.size)⟩
theorem edit_nil (w : World) : Edit w none [] 0 := ⟨.inl rfl, by first | exact AtB.none _ | (unfold AtB; simp), Nat.le_refl _, by unfold maxLen; omega, (fun p hp => by cases hp), by simp⟩
set_option maxRecDepth 100000 in
set_option maxHeartbeats 4000000 in
theorem rtransform_no {a b : Option Addr} {la lb : List Pt} {ca cb : Nat} {w : World} (ea : Edit w a la ca) (eb : Edit w b lb cb) (hn : traB la lb = false) :
    Calls Tryd.prog 47 #[.slice a la.length ca, .slice b lb.length cb] w fun r w' => r = .returned (.tuple #[.slice none 0 0, .slice none 0 0, .int .i64 30]) ∧ Below w.heap.size w w' := by
  have HSA := hide (rsize_at (w := w) ea rfl (Below.refl _ _))
  have HSB : Hid (∀ W, Below w.heap.size w W → Calls Tryd.prog 24 #[.slice b lb.length cb] W fun r w' => r = .returned (szVal lb) ∧ Below W.heap.size W w') := hide (fun W hW => rsize_at (w := W) (eb.call hW) rfl (Below.refl _ _))
  obtain ⟨na, hna⟩ : ∃ z, la.length = z := ⟨_, rfl⟩
  obtain ⟨nb, hnb⟩ : ∃ z, lb.length = z := ⟨_, rfl⟩
  rw [hna] at HSA ⊢
  rw [hnb] at HSB ⊢
  clear hna hnb ea eb
  unfold traB at hn
  unfold szVal at HSA HSB
  cases hza : sizeL la with
  | none =>
    rw [hza] at HSA
    dsimp only at HSA
    clear hn hza
    cases hzb : sizeL lb with
    | none =>
      rw [hzb] at HSB
      dsimp only at HSB
      clear hzb
      go_enter Tryd.func47, Tryd.ntmps47
      go_wp2_with fail
      refine Calls.mono (unhide HSA) ?_
      rintro r w1 ⟨rfl, hb1⟩
      have HB1 := hide hb1
      clear hb1 HSA
      go_wp2_with fail
      refine Calls.mono (unhide HSB _ (unhide HB1)) ?_
      rintro r w2 ⟨rfl, hb2⟩
      have HB2 := hide ((unhide HB1).trans (hb2.mono (unhide HB1).size))
      clear hb2 HSB HB1
      go_wp2_with fail
      go_ret3
      exact ⟨rfl, unhide HB2⟩
    | some z =>
      obtain ⟨f, t, k⟩ := z
      rw [hzb] at HSB
      dsimp only at HSB
      clear hzb
      go_enter Tryd.func47, Tryd.ntmps47
      go_wp2_with fail
      refine Calls.mono (unhide HSA) ?_
      rintro r w1 ⟨rfl, hb1⟩
      have HB1 := hide hb1
      clear hb1 HSA
      go_wp2_with fail
      refine Calls.mono (unhide HSB _ (unhide HB1)) ?_
      rintro r w2 ⟨rfl, hb2⟩
      have HB2 := hide ((unhide HB1).trans (hb2.mono (unhide HB1).size))
      clear hb2 HSB HB1
      go_wp2_with fail
      go_ret3
      exact ⟨rfl, unhide HB2⟩
  | some y =>
    obtain ⟨f, t, k⟩ := y
    rw [hza] at HSA hn
    dsimp only at HSA hn
    unfold checkE at hn
    clear hza
    cases hzb : sizeL lb with
    | none =>
      rw [hzb] at HSB
      dsimp only at HSB
      clear hzb hn
      go_enter Tryd.func47, Tryd.ntmps47
      go_wp2_with fail
      refine Calls.mono (unhide HSA) ?_
      rintro r w1 ⟨rfl, hb1⟩
      have HB1 := hide hb1
      clear hb1 HSA
      go_wp2_with fail
      refine Calls.mono (unhide HSB _ (unhide HB1)) ?_
      rintro r w2 ⟨rfl, hb2⟩
      have HB2 := hide ((unhide HB1).trans (hb2.mono (unhide HB1).size))
      clear hb2 HSB HB1
      go_wp2_with fail
      go_ret3
      exact ⟨rfl, unhide HB2⟩
    | some z =>
      obtain ⟨f2, t2, k2⟩ := z
      rw [hzb] at HSB hn
      dsimp only at HSB hn
      have hne : (f == f2) = false := by
        have h1 : ¬ f = f2 := fun e => by simp [e] at hn
        simpa using h1
      clear hzb hn
      go_enter Tryd.func47, Tryd.ntmps47
      go_wp2_with fail
      refine Calls.mono (unhide HSA) ?_
      rintro r w1 ⟨rfl, hb1⟩
      have HB1 := hide hb1
      clear hb1 HSA
      go_wp2_with fail
      refine Calls.mono (unhide HSB _ (unhide HB1)) ?_
      rintro r w2 ⟨rfl, hb2⟩
      have HB2 := hide ((unhide HB1).trans (hb2.mono (unhide HB1).size))
      clear hb2 HSB HB1
      go_wp2_with fail
      go_ret3
      exact ⟨rfl, unhide HB2⟩
set_option maxRecDepth 100000 in
set_option maxHeartbeats 4000000 in
theorem transforms_law (a : Option Addr) (la : List Pt) (ca : Nat) (b : Option Addr) (lb : List Pt) (cb : Nat) (w : World) (hT : UT w) (ea : Edit w a la ca) (eb : Edit w b lb cb) : Calls Tryd.prog 9 #[.slice a la.length ca, .slice b lb.length cb] w fun r w' => r = .returned (.bool true) ∧ Below w.heap.size w w' := by
  have HU : Hid (∀ W, Below w.heap.size w W → UT W) := hide (fun W h => hT.call h)
  have HB0 := hide (Below.refl w.heap.size w)
  have Ea : Hid (∀ W, Below w.heap.size w W → Edit W a la ca) := hide (fun W h => ea.call h)
  have Ta := hide (⟨ea.txt, ea.cap, ea.max, ea.num⟩ : _ ∧ _ ∧ _ ∧ _)
  have Eb : Hid (∀ W, Below w.heap.size w W → Edit W b lb cb) := hide (fun W h => eb.call h)
  have Tb := hide (⟨eb.txt, eb.cap, eb.max, eb.num⟩ : _ ∧ _ ∧ _ ∧ _)
  have hbL : Below w.heap.size w (w.alloc (.cells #[.slice a la.length ca, .slice b lb.length cb] 22)) := (Below.refl _ _).alloc (Nat.le_refl _) _
  have HLT := hide (narrow2_any w.heap.size [⟨a, la, ca⟩, ⟨b, lb, cb⟩] (w.alloc (.cells #[.slice a la.length ca, .slice b lb.length cb] 22)) (RowAt.new w 22 _) (by
    intro e he
    simp only [List.mem_cons, List.not_mem_nil, or_false] at he
    rcases he with rfl | rfl
    · exact (ea.call hbL).pts
    · exact (eb.call hbL).pts
    ) (by
    intro e he
    simp only [List.mem_cons, List.not_mem_nil, or_false] at he
    rcases he with rfl | rfl
    · exact Nat.le_trans ea.cap ea.max
    · exact Nat.le_trans eb.cap eb.max
    ) (by
    intro e he
    simp only [List.mem_cons, List.not_mem_nil, or_false] at he
    rcases he with rfl | rfl
    · exact ea.txt2
    · exact eb.txt2
    ) (by simp))
  have HBL := hide hbL
  obtain ⟨na, hna⟩ : ∃ z, la.length = z := ⟨_, rfl⟩
  obtain ⟨nb, hnb⟩ : ∃ z, lb.length = z := ⟨_, rfl⟩
  simp only [hna, hnb] at HLT HBL ⊢
  have Na := hide hna
  have Nb := hide hnb
  clear hT hbL ea hna eb hnb
  go_enter Tryd.func9, Tryd.ntmps9
  go_wp2_with fail
  refine Calls.mono (unhide HLT) ?_
  rintro r w1 ⟨⟨lb_, rfl, hlb⟩, hb1⟩
  have HB1 := hide ((unhide HBL).trans (hb1.mono (unhide HBL).size))
  have HLB := hide hlb
  clear hb1 HLT hlb HBL
  cases lb_ with
  | false =>
    go_wp2_with fail
    refine Calls.mono (awake_any _ (unhide HU _ (unhide HB1))) ?_
    rintro r wa ⟨rfl, hba⟩
    have HBa := hide ((unhide HB1).trans (hba.mono (unhide HB1).size))
    clear hba
    go_wp2_with fail
    go_ret
    exact ⟨rfl, unhide HBa⟩
  | true =>
    have qa : Hid (na ≤ 200) := hide (by have h := (unhide HLB rfl).1 ⟨a, la, ca⟩ (by simp); rw [← unhide Na]; exact h)
    have qb : Hid (nb ≤ 200) := hide (by have h := (unhide HLB rfl).1 ⟨b, lb, cb⟩ (by simp); rw [← unhide Nb]; exact h)
    have HNS := hide (unhide HLB rfl).2.2
    clear HLB
    go_wp2_with fail
    refine Calls.mono (clone_at (w := w1) (unhide Ea _ (unhide HB1)) (unhide Na) (by have := unhide qa; omega) (Below.refl w1.heap.size w1)) ?_
    rintro r w2 ⟨⟨v, rfl, ov⟩, hb_⟩
    have HB2 := hide ((unhide HB1).trans (hb_.mono (unhide HB1).size))
    clear hb_
    obtain ⟨g, cg, hvg, hEg⟩ := ov.edit (unhide Ta).1 (by have h1 := unhide qa; have h2 := unhide Na; omega)
    rw [unhide Na] at hvg
    subst hvg
    have Og2 := hide hEg
    clear hEg ov
    go_wp2_with fail
    refine Calls.mono (clone_at (w := w2) (unhide Eb _ (unhide HB2)) (unhide Nb) (by have := unhide qb; omega) (Below.refl w2.heap.size w2)) ?_
    rintro r w3 ⟨⟨v, rfl, ov⟩, hb_⟩
    have HB3 := hide ((unhide HB2).trans (hb_.mono (unhide HB2).size))
    have Og3 := hide ((unhide Og2).call hb_)
    clear Og2
    clear hb_
    obtain ⟨h, ch, hvh, hEh⟩ := ov.edit (unhide Tb).1 (by have h1 := unhide qb; have h2 := unhide Nb; omega)
    rw [unhide Nb] at hvh
    subst hvh
    have Oh3 := hide hEh
    clear hEh ov
    go_wp2_with fail
    refine Calls.mono (transform_at (w := w3) (unhide HU _ (unhide HB3)) (unhide Og3) (unhide Oh3) (unhide Na) (unhide Nb) (by have h1 := unhide qa; have h2 := unhide qb; omega) (Below.refl w3.heap.size w3)) ?_
    rintro r w4 ⟨h_, hb_⟩
    have HB4 := hide ((unhide HB3).trans (hb_.mono (unhide HB3).size))
    have Og4 := hide ((unhide Og3).call hb_)
    clear Og3
    have Oh4 := hide ((unhide Oh3).call hb_)
    clear Oh3
    clear hb_
    cases ht : traB la lb with
    | false =>
      rcases h_ with ⟨⟨_, rfl⟩ | ⟨h_, _⟩, _⟩
      rotate_left
      · rw [ht] at h_; cases h_
      have HNO := hide ht
      clear ht
      have HRC := hide (fun W hW => rtransform_no (unhide Ea W hW) (unhide Eb W hW) (unhide HNO))
      rw [unhide Na, unhide Nb] at HRC
      go_wp2_with fail
      refine Calls.mono (unhide HRC _ (unhide HB4)) ?_
      rintro r w5 ⟨rfl, hb_⟩
      have HB5 := hide ((unhide HB4).trans (hb_.mono (unhide HB4).size))
      have Og5 := hide ((unhide Og4).call hb_)
      clear Og4
      have Oh5 := hide ((unhide Oh4).call hb_)
      clear Oh4
      clear hb_
      go_wp2_with fail
      refine Calls.mono (rsame_at (w := w5) (edit_nil _) (edit_nil _) rfl rfl rfl (Below.refl w5.heap.size w5)) ?_
      rintro r w6 ⟨rfl, hb_⟩
      have HB6 := hide ((unhide HB5).trans (hb_.mono (unhide HB5).size))
      have Og6 := hide ((unhide Og5).call hb_)
      clear Og5
      have Oh6 := hide ((unhide Oh5).call hb_)
      clear Oh5
      clear hb_
      go_wp2_with fail
      refine Calls.mono (rsame_at (w := w6) (edit_nil _) (edit_nil _) rfl rfl rfl (Below.refl w6.heap.size w6)) ?_
      rintro r w7 ⟨rfl, hb_⟩
      have HB7 := hide ((unhide HB6).trans (hb_.mono (unhide HB6).size))
      have Og7 := hide ((unhide Og6).call hb_)
      clear Og6
      have Oh7 := hide ((unhide Oh6).call hb_)
      clear Oh6
      clear hb_
      go_wp2_with fail
      refine Calls.mono (equal_at (w := w7) (unhide Og7) (unhide Ea _ (unhide HB7)) (unhide Na) (Below.refl w7.heap.size w7)) ?_
      rintro r w8 ⟨rfl, hb_⟩
      have HB8 := hide ((unhide HB7).trans (hb_.mono (unhide HB7).size))
      have Og8 := hide ((unhide Og7).call hb_)
      clear Og7
      have Oh8 := hide ((unhide Oh7).call hb_)
      clear Oh7
      clear hb_
      go_wp2_with fail
      refine Calls.mono (equal_at (w := w8) (unhide Oh8) (unhide Eb _ (unhide HB8)) (unhide Nb) (Below.refl w8.heap.size w8)) ?_
      rintro r w9 ⟨rfl, hb_⟩
      have HB9 := hide ((unhide HB8).trans (hb_.mono (unhide HB8).size))
      have Og9 := hide ((unhide Og8).call hb_)
      clear Og8
      have Oh9 := hide ((unhide Oh8).call hb_)
      clear Oh8
      clear hb_
      go_wp2_with fail
      refine Calls.mono (awake_any _ (unhide HU _ (unhide HB9))) ?_
      rintro r wa ⟨rfl, hba⟩
      have HBa := hide ((unhide HB9).trans (hba.mono (unhide HB9).size))
      clear hba
      go_wp2_with fail
      go_ret
      exact ⟨rfl, unhide HBa⟩
    | true =>
      obtain ⟨nn, ta, tb, hEa, hEb⟩ := traB_ed ht
      have Da := hide hEa
      have Db := hide hEb
      have hna := unhide HNS ⟨a, la, ca⟩ (by simp) _ _ _ (ed_size hEa)
      have hnb := unhide HNS ⟨b, lb, cb⟩ (by simp) _ _ _ (ed_size hEb)
      obtain ⟨lx, ly, n1, n2, e1, e2, m1, m2, f1, f2, t12, h_⟩ := tra_ok h_ hEa hEb
      have hlong := (mt_long (x := atomsL la) (y := atomsL lb) (by rw [hEa.2.1, hEb.2.1]) (by rw [hEa.2.2.1]; omega) (by rw [hEb.2.2.1]; omega)).2.2.1
      rcases h_ with ⟨h_, _⟩ | ⟨d1, d2, v1, v2, rfl, o1, o2⟩
      · exfalso
        rw [e1, ← At.toN_sw (At.can_sw _)] at h_
        omega
      have HLX : Hid (lx.length ≤ 803 ∧ ly.length ≤ 803) := hide (by have h1 := unhide qa; have h2 := unhide qb; have h3 := unhide Na; have h4 := unhide Nb; omega)
      have Ax := hide (And.intro n1 e1)
      have Ay := hide (And.intro n2 e2)
      have HRC := hide (fun W hW => rtransform_ed a b la lb ca cb nn ta tb W (unhide Ea W hW) (unhide Eb W hW) (unhide Da) (unhide Db) (by omega) (by omega) (by omega) (by have := unhide qa; have := unhide Na; omega) (by have := unhide qb; have := unhide Nb; omega))
      rw [unhide Na, unhide Nb] at HRC
      have Dx := hide d1
      have Dy := hide d2
      clear ht hEa hEb hna hnb n1 n2 e1 e2 m1 m2 f1 f2 t12 hlong
      obtain ⟨x, cx, hvx, hEx⟩ := o1.edit (ed_txt d1) (by have := (unhide HLX).1; omega)
      subst hvx
      have Ox4 := hide hEx
      obtain ⟨nx, hnx⟩ : ∃ z, lx.length = z := ⟨_, rfl⟩
      rw [hnx]
      have Nx := hide hnx
      clear hEx hnx o1
      obtain ⟨y, cy, hvy, hEy⟩ := o2.edit (ed_txt d2) (by have := (unhide HLX).2; omega)
      subst hvy
      have Oy4 := hide hEy
      obtain ⟨ny, hny⟩ : ∃ z, ly.length = z := ⟨_, rfl⟩
      rw [hny]
      have Ny := hide hny
      clear hEy hny o2
      clear d1 d2
      go_wp2_with fail
      refine Calls.mono (unhide HRC _ (unhide HB4)) ?_
      rintro r w5 ⟨u1, u2, L1, L2, rfl, p1, p2, n1, n2, a1, a2, hb_⟩
      have HB5 := hide ((unhide HB4).trans (hb_.mono (unhide HB4).size))
      have Og5 := hide ((unhide Og4).call hb_)
      clear Og4
      have Oh5 := hide ((unhide Oh4).call hb_)
      clear Oh4
      have Ox5 := hide ((unhide Ox4).call hb_)
      clear Ox4
      have Oy5 := hide ((unhide Oy4).call hb_)
      clear Oy4
      clear hb_
      obtain rfl : L1 = lx := nf_unique _ _ _ _ n1 (unhide Ax).1 (by rw [a1, (unhide Ax).2])
      obtain ⟨z, cz, hvz, hEz⟩ := OwnP.edit p1 (ed_txt (unhide Dx)) (by have := (unhide HLX).1; omega)
      rw [unhide Nx] at hvz
      subst hvz
      have Oz5 := hide hEz
      clear hEz p1
      obtain rfl : L2 = ly := nf_unique _ _ _ _ n2 (unhide Ay).1 (by rw [a2, (unhide Ay).2])
      obtain ⟨t, ct, hvt, hEt⟩ := OwnP.edit p2 (ed_txt (unhide Dy)) (by have := (unhide HLX).2; omega)
      rw [unhide Ny] at hvt
      subst hvt
      have Ot5 := hide hEt
      clear hEt p2
      clear n1 n2 a1 a2
      go_wp2_with fail
      refine Calls.mono (rsame_at (w := w5) (unhide Ox5) (unhide Oz5) rfl (unhide Nx) (unhide Nx) (Below.refl w5.heap.size w5)) ?_
      rintro r w6 ⟨rfl, hb_⟩
      have HB6 := hide ((unhide HB5).trans (hb_.mono (unhide HB5).size))
      have Og6 := hide ((unhide Og5).call hb_)
      clear Og5
      have Oh6 := hide ((unhide Oh5).call hb_)
      clear Oh5
      have Ox6 := hide ((unhide Ox5).call hb_)
      clear Ox5
      have Oy6 := hide ((unhide Oy5).call hb_)
      clear Oy5
      have Oz6 := hide ((unhide Oz5).call hb_)
      clear Oz5
      have Ot6 := hide ((unhide Ot5).call hb_)
      clear Ot5
      clear hb_
      go_wp2_with fail
      refine Calls.mono (rsame_at (w := w6) (unhide Oy6) (unhide Ot6) rfl (unhide Ny) (unhide Ny) (Below.refl w6.heap.size w6)) ?_
      rintro r w7 ⟨rfl, hb_⟩
      have HB7 := hide ((unhide HB6).trans (hb_.mono (unhide HB6).size))
      have Og7 := hide ((unhide Og6).call hb_)
      clear Og6
      have Oh7 := hide ((unhide Oh6).call hb_)
      clear Oh6
      have Ox7 := hide ((unhide Ox6).call hb_)
      clear Ox6
      have Oy7 := hide ((unhide Oy6).call hb_)
      clear Oy6
      have Oz7 := hide ((unhide Oz6).call hb_)
      clear Oz6
      have Ot7 := hide ((unhide Ot6).call hb_)
      clear Ot6
      clear hb_
      go_wp2_with fail
      refine Calls.mono (equal_at (w := w7) (unhide Og7) (unhide Ea _ (unhide HB7)) (unhide Na) (Below.refl w7.heap.size w7)) ?_
      rintro r w8 ⟨rfl, hb_⟩
      have HB8 := hide ((unhide HB7).trans (hb_.mono (unhide HB7).size))
      have Og8 := hide ((unhide Og7).call hb_)
      clear Og7
      have Oh8 := hide ((unhide Oh7).call hb_)
      clear Oh7
      have Ox8 := hide ((unhide Ox7).call hb_)
      clear Ox7
      have Oy8 := hide ((unhide Oy7).call hb_)
      clear Oy7
      have Oz8 := hide ((unhide Oz7).call hb_)
      clear Oz7
      have Ot8 := hide ((unhide Ot7).call hb_)
      clear Ot7
      clear hb_
      go_wp2_with fail
      refine Calls.mono (equal_at (w := w8) (unhide Oh8) (unhide Eb _ (unhide HB8)) (unhide Nb) (Below.refl w8.heap.size w8)) ?_
      rintro r w9 ⟨rfl, hb_⟩
      have HB9 := hide ((unhide HB8).trans (hb_.mono (unhide HB8).size))
      have Og9 := hide ((unhide Og8).call hb_)
      clear Og8
      have Oh9 := hide ((unhide Oh8).call hb_)
      clear Oh8
      have Ox9 := hide ((unhide Ox8).call hb_)
      clear Ox8
      have Oy9 := hide ((unhide Oy8).call hb_)
      clear Oy8
      have Oz9 := hide ((unhide Oz8).call hb_)
      clear Oz8
      have Ot9 := hide ((unhide Ot8).call hb_)
      clear Ot8
      clear hb_
      go_wp2_with fail
      refine Calls.mono (awake_any _ (unhide HU _ (unhide HB9))) ?_
      rintro r wa ⟨rfl, hba⟩
      have HBa := hide ((unhide HB9).trans (hba.mono (unhide HB9).size))
      clear hba
      go_wp2_with fail
      go_ret
      exact ⟨rfl, unhide HBa⟩
end Go.Proofs.YtidblnjohkadhaaDoor
