/- A sheet: parts in their one form, and what comes behind them that may still grow. -/
import Derived.Test.YtonabfpgdgnpnaaDoorBld
import Derived.Test.YtonabfpgdgnpnaaDoorATl
namespace Go.Proofs.YtonabfpgdgnpnaaDoor
set_option linter.unusedVariables false
set_option linter.unusedSimpArgs false
open Go.ChangeShapes Go.WideShapes Go.ChangeAt Go.RowKit Go.Joins Go.Deep

/-- the cells of parts, one behind the other -/
def ptc (l : List Pt) : List Value := l.flatMap pcs
theorem ptc_len (l : List Pt) : (ptc l).length = l.length * 3 := by
  induction l with
  | nil => rfl
  | cons p l ih => simp only [ptc, List.flatMap_cons, List.length_append, List.length_cons] at ih ⊢; rw [ih]; simp [pcs]; omega
theorem ptc_snoc (l : List Pt) (p : Pt) : ptc (l ++ [p]) = ptc l ++ pcs p := by simp [ptc]
theorem ptc_at : ∀ (l : List Pt) (i : Nat) (p : Pt), l[i]? = some p → (ptc l)[i * 3]? = some (.int .i64 p.kind) ∧ (ptc l)[i * 3 + 1]? = some (.int .i64 p.n) ∧ (ptc l)[i * 3 + 2]? = some (.string p.text)
  | [], i, p, h => by simp at h
  | q :: l, 0, p, h => by
    obtain rfl : q = p := by simpa using h
    exact ⟨rfl, rfl, rfl⟩
  | q :: l, i + 1, p, h => by
    have ih := ptc_at l i p (by simpa using h)
    have e : ∀ j, (ptc (q :: l))[(i + 1) * 3 + j]? = (ptc l)[i * 3 + j]? := fun j => by
      show (pcs q ++ ptc l)[(i + 1) * 3 + j]? = _
      rw [List.getElem?_append_right (by simp [pcs]; omega)]
      congr 1
      simp [pcs]
      omega
    have e0 := e 0
    simp only [Nat.add_zero] at e0
    rw [e0, e 1, e 2]
    exact ih
theorem infoPart : ∃ i, Tryd.prog.info? 39 = some i ∧ i.zero = some (.agg #[.int .i64 0, .int .i64 0, .string ⟨#[]⟩]) ∧ i.size = 3 ∧ i.bytes = 32 := info_parts (by kernel_rfl)
/-- a part behind those of an own row -/
theorem wp_append_part {o : Oper} {a : Act} {K : Act → World → Prop} {Q : Exit → Act → World → Prop} {W : World} (s x : Operand)
    (ho : o.op = .call { callee := .builtin .append, args := #[s, x], argTypes := #[24, 24] }) (B : Nat) (v : Value) (n : Nat) (xs : List Value) (p : Pt) (q c : Nat)
    (hs : a.eval s = v) (hv : W.ownsRow B 39 3 v n xs) (hn : n < 4398046511104) (hB : B ≤ W.heap.size) (hx : a.eval x = .slice (some ⟨q, 0, none⟩) 1 c) (hq : ∀ j u, (pcs p)[j]? = some u → W.cell? ⟨q, j, none⟩ = some u)
    (h : ∀ g cap w', w'.ownsRow B 39 3 (.slice (some ⟨g, 0, none⟩) (n + 1) cap) (n + 1) (xs ++ pcs p) → Only (fun k => v.ownBlock = some k) W w' → (v.ownBlock = some g ∨ g = W.heap.size) → K (a.put o.dst (.slice (some ⟨g, 0, none⟩) (n + 1) cap)) w') : o.wp Tryd.prog a W K Q := by
  obtain ⟨i0, hi, hz, hsz, hb⟩ := infoPart
  refine wp_append_lies _ s x 24 ho B 39 i0 _ 3 32 Tryd.underlying24 hi hz hsz hb (by simp [Value.cells]) (by decide) v n xs hs hv ⟨q, 0, none⟩ 1 c (pcs p) hx rfl (fun j u hu => ?_) (fun u hu => ?_) (by decide) (by unfold maxLen; omega) (by omega) hB W.heap.size rfl ?_
  · have := hq j u hu
    rw [Addr.add_lit, Nat.zero_add]
    exact this
  · simp only [pcs, List.mem_cons, List.not_mem_nil, or_false] at hu
    rcases hu with rfl | rfl | rfl <;> rfl
  · intro g cap w' h1 h2 h3 _
    exact h g cap w' h1 (grown_only h2) h3
theorem wpList_append_part {ops : Array Oper} {rest : List Oper} {o : Oper} {a : Act} {Q : Exit → Act → World → Prop} {W : World} (hgd : o.guard = none) (s x : Operand)
    (ho : o.op = .call { callee := .builtin .append, args := #[s, x], argTypes := #[24, 24] }) (B : Nat) (v : Value) (n : Nat) (xs : List Value) (p : Pt) (q c : Nat)
    (hs : a.eval s = v) (hv : W.ownsRow B 39 3 v n xs) (hn : n < 4398046511104) (hB : B ≤ W.heap.size) (hx : a.eval x = .slice (some ⟨q, 0, none⟩) 1 c) (hq : ∀ j u, (pcs p)[j]? = some u → W.cell? ⟨q, j, none⟩ = some u)
    (h : ∀ g cap w', w'.ownsRow B 39 3 (.slice (some ⟨g, 0, none⟩) (n + 1) cap) (n + 1) (xs ++ pcs p) → Only (fun k => v.ownBlock = some k) W w' → (v.ownBlock = some g ∨ g = W.heap.size) → wpList Tryd.prog ops Q rest (a.put o.dst (.slice (some ⟨g, 0, none⟩) (n + 1) cap)) w') : wpList Tryd.prog ops Q (o :: rest) a W :=
  wpList_plain hgd fun _ hK => wp_append_part s x ho B v n xs p q c hs hv hn hB hx hq (fun g cap w' h1 h2 h3 => hK _ _ (h g cap w' h1 h2 h3))

/-- what a sheet holds -/
structure St where
  done : List Pt
  kept : Int
  drops : Int
  puts : Int
  text : List UInt8
theorem own_ne {w : World} {B1 B2 s1 s2 n1 n2 : Nat} {e1 e2 : TypeId} {v1 v2 : Value} {x1 x2 : List Value} (h1 : w.ownsRow B1 e1 s1 v1 n1 x1) (h2 : w.ownsRow B2 e2 s2 v2 n2 x2) (hne : e1 ≠ e2) : ∀ k, v1.ownBlock = some k → v2.ownBlock ≠ some k := by
  intro k hk hk2
  rcases h1.2 with ⟨rfl, _⟩ | ⟨g, c, cur, rfl, _, e', _⟩
  · cases hk
  rcases h2.2 with ⟨rfl, _⟩ | ⟨g', c', cur', rfl, _, e'', _⟩
  · cases hk2
  obtain rfl : g = k := by simpa [Value.ownBlock] using hk
  obtain rfl : g' = g := by simpa [Value.ownBlock] using hk2
  rw [e'] at e''
  simp at e''
  exact hne e''.2
theorem own_lit {kk n cap s : Nat} {dv : Value} (h : dv.ownBlock = some kk ∨ kk = s) : ∀ q, (Value.slice (some ⟨kk, 0, none⟩) n cap).ownBlock = some q → dv.ownBlock = some q ∨ q = s := by
  intro q hq
  obtain rfl : kk = q := by simpa [Value.ownBlock] using hq
  exact h
/-- a sheet's block, parts and, where they are known, bytes; nothing below B has turned -/
structure Rw (w0 w : World) (B g : Nat) (dv : Value) (k d u : Int) (av bv : Value) (done : List Pt) (bb : Option (List UInt8)) (bx : Option (Nat × List Value)) : Prop where
  row : RowAt w g 119 [dv, .int .i64 k, .int .i64 d, .int .i64 u, av, bv]
  parts : w.ownsRow B 39 3 dv done.length (ptc done)
  bytes : ∀ x, bb = some x → w.ownsRow B 5 1 bv x.length (Lib.byteCells x)
  bel : Below B w0 w
  sz : B ≤ w.heap.size
  le : B ≤ g
  box : ∀ q cs, bx = some (q, cs) → RowAt w q 39 cs ∧ dv.ownBlock ≠ some q
theorem Rw.call {w0 w w' : World} {B g : Nat} {dv : Value} {k d u : Int} {av bv : Value} {done : List Pt} {bb : Option (List UInt8)} {bx : Option (Nat × List Value)} (h : Rw w0 w B g dv k d u av bv done bb bx) (hb : Below w.heap.size w w') : Rw w0 w' B g dv k d u av bv done bb bx :=
  ⟨h.row.below hb h.row.lt, own_call h.parts hb, fun x e => own_call (h.bytes x e) hb, h.bel.trans (hb.mono h.sz), Nat.le_trans h.sz hb.size, h.le, fun q cs e => ⟨(h.box q cs e).1.below hb (h.box q cs e).1.lt, (h.box q cs e).2⟩⟩
theorem Rw.dne {w0 w : World} {B g : Nat} {dv : Value} {k d u : Int} {av bv : Value} {done : List Pt} {bb : Option (List UInt8)} {bx : Option (Nat × List Value)} (h : Rw w0 w B g dv k d u av bv done bb bx) : dv.ownBlock ≠ some g := tag_ne h.parts h.row (by decide)
/-- the bytes may have turned -/
theorem Rw.lose {w0 w w' : World} {B g : Nat} {dv : Value} {k d u : Int} {av bv : Value} {done : List Pt} {x : List UInt8} {bx : Option (Nat × List Value)} (h : Rw w0 w B g dv k d u av bv done (some x) bx) (ho : Only (fun k => bv.ownBlock = some k) w w') : Rw w0 w' B g dv k d u av bv done none bx := by
  have hb := h.bytes x rfl
  refine ⟨h.row.only ho (fun e => tag_ne hb h.row (by decide) e), own_only h.parts ho (fun k hk e => own_ne h.parts hb (by decide) k hk e), fun x e => (by cases e), h.bel.trans (ho.below h.sz (fun k hk => (hb.lt k hk).1)), Nat.le_trans h.sz ho.size, h.le, fun q cs e => ⟨(h.box q cs e).1.only ho (fun e' => tag_ne hb (h.box q cs e).1 (by decide) e'), (h.box q cs e).2⟩⟩
/-- parts are put behind: they are own already, not yet the sheet's -/
theorem Rw.grow {w0 w w' : World} {B g : Nat} {dv v' : Value} {k d u : Int} {av bv : Value} {done : List Pt} {bb : Option (List UInt8)} {p : Pt} {bx : Option (Nat × List Value)} (h : Rw w0 w B g dv k d u av bv done bb bx) (hv : w'.ownsRow B 39 3 v' (done.length + 1) (ptc done ++ pcs p)) (ho : Only (fun k => dv.ownBlock = some k) w w') (hk : ∀ q, v'.ownBlock = some q → dv.ownBlock = some q ∨ q = w.heap.size) :
    RowAt w' g 119 [dv, .int .i64 k, .int .i64 d, .int .i64 u, av, bv] ∧ Rw w0 (w'.setCell ⟨g, 0, none⟩ v') B g v' k d u av bv (done ++ [p]) bb bx := by
  have hr := h.row.only ho (fun e => h.dne e)
  have o2 : Only (· = g) w' (w'.setCell ⟨g, 0, none⟩ v') := (Only.refl (· = g) w').set g 0 _ rfl
  refine ⟨hr, hr.set 0 v', ?_, ?_, ?_, Nat.le_trans (Nat.le_trans h.sz ho.size) o2.size, h.le, fun q cs e => ?_⟩
  · rw [List.length_append, List.length_singleton, ptc_snoc]
    exact own_only hv o2 (fun k hk e => tag_ne hv hr (by decide) (e ▸ hk))
  · intro x e
    have hb := h.bytes x e
    have hb1 := own_only hb ho (fun k hk e => own_ne h.parts hb (by decide) k e hk)
    exact own_only hb1 o2 (fun k hk e => tag_ne hb1 hr (by decide) (e ▸ hk))
  · exact (h.bel.trans (ho.below h.sz (fun k hk => (h.parts.lt k hk).1))).trans (o2.below (Nat.le_trans h.sz ho.size) (fun k hk => by rw [hk]; exact h.le))
  · obtain ⟨b1, b2⟩ := h.box q cs e
    refine ⟨(b1.only ho (fun e' => b2 e')).only o2 (fun e' => rtag b1 h.row (by decide) e'), fun e' => ?_⟩
    rcases hk q e' with h1 | h1
    · exact b2 h1
    · have := b1.lt; omega
/-- numbers are set -/
theorem Rw.nums {w0 w w' : World} {B g : Nat} {dv : Value} {k d u k' d' u' : Int} {av bv : Value} {done : List Pt} {bb : Option (List UInt8)} {bx : Option (Nat × List Value)} (h : Rw w0 w B g dv k d u av bv done bb bx) (hr : RowAt w' g 119 [dv, .int .i64 k', .int .i64 d', .int .i64 u', av, bv]) (ho : Only (· = g) w w') : Rw w0 w' B g dv k' d' u' av bv done bb bx :=
  ⟨hr, own_only h.parts ho (fun k hk e => h.dne (e ▸ hk)), fun x e => own_only (h.bytes x e) ho (fun k hk e' => tag_ne (h.bytes x e) h.row (by decide) (e' ▸ hk)), h.bel.trans (ho.below h.sz (fun k hk => by rw [hk]; exact h.le)), Nat.le_trans h.sz ho.size, h.le, fun q cs e => ⟨(h.box q cs e).1.only ho (fun e' => rtag (h.box q cs e).1 h.row (by decide) e'), (h.box q cs e).2⟩⟩
/-- a sheet lies there, and nothing below B has turned since w0 -/
def Sh (w0 w : World) (B g : Nat) (st : St) (bx : Option (Nat × List Value)) : Prop := ∃ dv av bv, ownPtr g av ∧ Rw w0 w B g dv st.kept st.drops st.puts av bv st.done (some st.text) bx
theorem Sh.call {w0 w w' : World} {B g : Nat} {st : St} {bx : Option (Nat × List Value)} (h : Sh w0 w B g st bx) (hb : Below w.heap.size w w') : Sh w0 w' B g st bx := by
  obtain ⟨dv, av, bv, h1, h2⟩ := h
  exact ⟨dv, av, bv, h1, h2.call hb⟩
def endK (st : St) : St := ⟨if 0 < st.kept then st.done ++ [⟨1, st.kept, ByteArray.empty⟩] else st.done, 0, st.drops, st.puts, st.text⟩
def endC (st : St) : St := ⟨(if 0 < st.puts then st.done ++ [⟨2, st.puts, ⟨st.text.toArray⟩⟩] else st.done) ++ (if 0 < st.drops then [⟨3, st.drops, ByteArray.empty⟩] else []), st.kept, 0, 0, []⟩
set_option maxRecDepth 100000 in
set_option maxHeartbeats 4000000 in
theorem endKeep_ok (w0 : World) (B g : Nat) (st : St) (bx : Option (Nat × List Value)) (w : World) (h : Sh w0 w B g st bx) (hl : st.done.length < 4398046511104) : Calls Tryd.prog 88 #[.pointer (some ⟨g, 0, none⟩)] w fun r w' => r = .returned (.tuple #[]) ∧ Sh w0 w' B g (endK st) bx := by
  obtain ⟨dv, av, bv, HP, h⟩ := h
  have HP := hide HP
  have c0 : w.cell? ⟨g, 0, none⟩ = some dv := h.row.cell 0
  have c1 : w.cell? ⟨g, 1, none⟩ = some (.int .i64 st.kept) := h.row.cell 1
  have z1 : w.frozen? ⟨g, 1, none⟩ = false := h.row.frozen 1
  have HR := hide h
  unfold endK
  clear h
  by_cases hk : 0 < st.kept
  · rw [if_pos hk]
    clear z1
    go_enter Tryd.func88, Tryd.ntmps88
    go_wp2_with fail
    clear c0 c1
    have HR0 := hide ((unhide HR).call (Below.drew (Below.refl _ w)))
    refine wp_region_T (S := fun W => W.cell? ⟨g, 0, none⟩ = some dv ∧ W.cell? ⟨g, 1, none⟩ = some (.int .i64 st.kept)) (fun i => decide (i < 12)) (by kernel_rfl) ⟨(unhide HR0).row.cell 0, (unhide HR0).row.cell 1⟩ (fun hHeld => ?_)
    clear HR
    refine wpAnyT_take (i := 0) (oi := { dst := some 7, op := Op.move (Operand.tmp 0), type := 133, pos := "sheet.go:41", after := #[], guard := none }) (v := .pointer (some ⟨g, 0, none⟩)) rfl (by kernel_rfl) (by kernel_rfl) (by kernel_rfl) (by kernel_rfl) (fun _ _ _ h => h) (Or.inl ⟨by rfl, ?_⟩) hHeld ?_
    · intro w hSw
      obtain ⟨h0, h1⟩ := hSw
      first
        | rfl
        | (go_simp; done)
    try simp only [Act.put, List.setIfInBounds_toArray, List.set_cons_zero, List.set_cons_succ]
    refine wpAnyT_take (i := 1) (oi := { dst := some 8, op := Op.move (Operand.tmp 0), type := 133, pos := "sheet.go:41", after := #[], guard := none }) (v := .pointer (some ⟨g, 0, none⟩)) rfl (by kernel_rfl) (by kernel_rfl) (by kernel_rfl) (by kernel_rfl) (fun _ _ _ h => h) (Or.inl ⟨by rfl, ?_⟩) hHeld ?_
    · intro w hSw
      obtain ⟨h0, h1⟩ := hSw
      first
        | rfl
        | (go_simp; done)
    try simp only [Act.put, List.setIfInBounds_toArray, List.set_cons_zero, List.set_cons_succ]
    refine wpAnyT_take (i := 2) (oi := { dst := some 9, op := Op.nilCheck (Operand.tmp 8), type := 0, pos := "sheet.go:41", after := #[{ on := 1, ground := Ground.data }], guard := none }) (v := .pointer (some ⟨g, 0, none⟩)) rfl (by kernel_rfl) (by kernel_rfl) (by kernel_rfl) (by kernel_rfl) (fun _ _ _ h => h) (Or.inl ⟨by rfl, ?_⟩) hHeld ?_
    · intro w hSw
      obtain ⟨h0, h1⟩ := hSw
      first
        | rfl
        | (go_simp; done)
    try simp only [Act.put, List.setIfInBounds_toArray, List.set_cons_zero, List.set_cons_succ]
    refine wpAnyT_take (i := 3) (oi := { dst := some 10, op := Op.fieldAddr 119 (Operand.tmp 9) 0, type := 0, pos := "sheet.go:41", after := #[{ on := 2, ground := Ground.data }], guard := none }) (v := .pointer (some ⟨g, 0, none⟩)) rfl (by kernel_rfl) (by kernel_rfl) (by kernel_rfl) (by kernel_rfl) (fun _ _ _ h => h) (Or.inl ⟨by rfl, ?_⟩) hHeld ?_
    · intro w hSw
      obtain ⟨h0, h1⟩ := hSw
      first
        | rfl
        | (go_simp; done)
    try simp only [Act.put, List.setIfInBounds_toArray, List.set_cons_zero, List.set_cons_succ]
    refine wpAnyT_take (i := 4) (oi := { dst := some 11, op := Op.load 24 (Operand.tmp 10), type := 24, pos := "sheet.go:41", after := #[{ on := 3, ground := Ground.data }], guard := none }) (v := dv) rfl (by kernel_rfl) (by kernel_rfl) (by kernel_rfl) (by kernel_rfl) (fun _ _ _ h => h) (Or.inl ⟨by rfl, ?_⟩) hHeld ?_
    · intro w hSw
      obtain ⟨h0, h1⟩ := hSw
      first
        | rfl
        | (go_simp; done)
    try simp only [Act.put, List.setIfInBounds_toArray, List.set_cons_zero, List.set_cons_succ]
    refine wpAnyT_take (i := 5) (oi := { dst := some 12, op := Op.move (Operand.tmp 0), type := 133, pos := "sheet.go:41", after := #[], guard := none }) (v := .pointer (some ⟨g, 0, none⟩)) rfl (by kernel_rfl) (by kernel_rfl) (by kernel_rfl) (by kernel_rfl) (fun _ _ _ h => h) (Or.inl ⟨by rfl, ?_⟩) hHeld ?_
    · intro w hSw
      obtain ⟨h0, h1⟩ := hSw
      first
        | rfl
        | (go_simp; done)
    try simp only [Act.put, List.setIfInBounds_toArray, List.set_cons_zero, List.set_cons_succ]
    refine wpAnyT_take (i := 6) (oi := { dst := some 13, op := Op.nilCheck (Operand.tmp 12), type := 0, pos := "sheet.go:41", after := #[{ on := 5, ground := Ground.data }], guard := none }) (v := .pointer (some ⟨g, 0, none⟩)) rfl (by kernel_rfl) (by kernel_rfl) (by kernel_rfl) (by kernel_rfl) (fun _ _ _ h => h) (Or.inl ⟨by rfl, ?_⟩) hHeld ?_
    · intro w hSw
      obtain ⟨h0, h1⟩ := hSw
      first
        | rfl
        | (go_simp; done)
    try simp only [Act.put, List.setIfInBounds_toArray, List.set_cons_zero, List.set_cons_succ]
    refine wpAnyT_take (i := 7) (oi := { dst := some 14, op := Op.fieldAddr 119 (Operand.tmp 13) 1, type := 0, pos := "sheet.go:41", after := #[{ on := 6, ground := Ground.data }], guard := none }) (v := .pointer (some ⟨g, 1, none⟩)) rfl (by kernel_rfl) (by kernel_rfl) (by kernel_rfl) (by kernel_rfl) (fun _ _ _ h => h) (Or.inl ⟨by rfl, ?_⟩) hHeld ?_
    · intro w hSw
      obtain ⟨h0, h1⟩ := hSw
      first
        | rfl
        | (go_simp; done)
    try simp only [Act.put, List.setIfInBounds_toArray, List.set_cons_zero, List.set_cons_succ]
    refine wpAnyT_take (i := 8) (oi := { dst := some 15, op := Op.load 3 (Operand.tmp 14), type := 3, pos := "sheet.go:41", after := #[{ on := 7, ground := Ground.data }], guard := none }) (v := .int .i64 st.kept) rfl (by kernel_rfl) (by kernel_rfl) (by kernel_rfl) (by kernel_rfl) (fun _ _ _ h => h) (Or.inl ⟨by rfl, ?_⟩) hHeld ?_
    · intro w hSw
      obtain ⟨h0, h1⟩ := hSw
      first
        | rfl
        | (go_simp; done)
    try simp only [Act.put, List.setIfInBounds_toArray, List.set_cons_zero, List.set_cons_succ]
    refine wpAnyT_one (i := 9) (o := { dst := some 16, op := Op.call { callee := Callee.value (Operand.func 66), args := #[Operand.tmp 15], argTypes := #[3] }, type := 39, pos := "sheet.go:41", after := #[{ on := 8, ground := Ground.data }], guard := none }) (by kernel_rfl) rfl (fun K hK => ?_)
    go_simp
    refine Calls.mono (keep_any st.kept _) ?_
    rintro e w1 ⟨rfl, hb1⟩
    have HR1 := hide ((unhide HR0).call hb1)
    have hS1 : w1.cell? ⟨g, 0, none⟩ = some dv ∧ w1.cell? ⟨g, 1, none⟩ = some (.int .i64 st.kept) := ⟨(unhide HR1).row.cell 0, (unhide HR1).row.cell 1⟩
    clear hb1 HR0
    go_wp2_with fail
    refine hK.out _ _ (fun _ => hS1) ?_
    clear hK K
    clear hS1
    try simp only [Act.put, List.setIfInBounds_toArray, List.set_cons_zero, List.set_cons_succ]
    refine wpAnyT_one (i := 10) (o := { dst := some 17, op := Op.buildSlice 24 1 #[(0, Operand.tmp 16)], type := 24, pos := "sheet.go:41", after := #[{ on := 9, ground := Ground.data }], guard := none }) (by kernel_rfl) rfl (fun K hK => ?_)
    simp only [pv]
    go_simp
    have HR2 := hide ((unhide HR1).call (w' := w1.alloc (.cells #[.int .i64 1, .int .i64 st.kept, .string ByteArray.empty] 39)) ((Below.refl _ _).alloc (Nat.le_refl _) _))
    have HQ := hide (RowAt.new w1 39 [.int .i64 1, .int .i64 st.kept, .string ByteArray.empty])
    clear HR1
    obtain ⟨w2, hw2⟩ : ∃ w2, w1.alloc (.cells #[.int .i64 1, .int .i64 st.kept, .string ByteArray.empty] 39) = w2 := ⟨_, rfl⟩
    obtain ⟨q, hq⟩ : ∃ q, w1.heap.size = q := ⟨_, rfl⟩
    rw [hw2] at HR2 HQ ⊢
    rw [hq] at HQ ⊢
    clear hw2 hq
    have hS2 : w2.cell? ⟨g, 0, none⟩ = some dv ∧ w2.cell? ⟨g, 1, none⟩ = some (.int .i64 st.kept) := ⟨(unhide HR2).row.cell 0, (unhide HR2).row.cell 1⟩
    refine hK.out _ _ (fun _ => hS2) ?_
    clear hK K
    clear hS2
    try simp only [Act.put, List.setIfInBounds_toArray, List.set_cons_zero, List.set_cons_succ]
    refine wpAnyT_one (i := 11) (o := { dst := some 18, op := Op.call { callee := Callee.builtin Builtin.append, args := #[Operand.tmp 11, Operand.tmp 17], argTypes := #[24, 24] }, type := 24, pos := "sheet.go:41", after := #[{ on := 4, ground := Ground.data }, { on := 10, ground := Ground.data }, { on := 9, ground := Ground.chain }], guard := none }) (by kernel_rfl) rfl (fun K hK => ?_)
    refine wp_append_part (Operand.tmp 11) (Operand.tmp 17) rfl B dv (st.done).length (ptc (st.done)) ⟨1, st.kept, ByteArray.empty⟩ q 1 rfl (unhide HR2).parts hl (unhide HR2).sz rfl (fun j u hu => by rw [(unhide HQ).cell]; exact hu) (fun kk cap w3 hv3 ho3 hk3 => ?_)
    have hgr := (unhide HR2).grow hv3 ho3 (own_lit hk3)
    have HR3 := hide hgr.2
    have HW3 := hide hgr.1
    clear hv3 ho3 hk3 hgr HR2 HQ
    have hS3 : w3.cell? ⟨g, 0, none⟩ = some dv ∧ w3.cell? ⟨g, 1, none⟩ = some (.int .i64 st.kept) := ⟨(unhide HW3).cell 0, (unhide HW3).cell 1⟩
    refine hK.out _ _ (fun _ => hS3) ?_
    clear hK K
    clear hS3
    try simp only [Act.put, List.setIfInBounds_toArray, List.set_cons_zero, List.set_cons_succ]
    refine wpAnyT_pure (i := 12) (oi := { dst := some 19, op := Op.nilCheck (Operand.tmp 7), type := 0, pos := "sheet.go:41", after := #[{ on := 0, ground := Ground.data }, { on := 0, ground := Ground.phase }, { on := 1, ground := Ground.phase }, { on := 2, ground := Ground.phase }, { on := 3, ground := Ground.phase }, { on := 4, ground := Ground.phase }, { on := 5, ground := Ground.phase }, { on := 6, ground := Ground.phase }, { on := 7, ground := Ground.phase }, { on := 8, ground := Ground.phase }, { on := 9, ground := Ground.phase }, { on := 10, ground := Ground.phase }, { on := 11, ground := Ground.phase }], guard := none }) (v := .pointer (some ⟨g, 0, none⟩)) rfl (by kernel_rfl) (by kernel_rfl) (by kernel_rfl) rfl (fun _ _ _ h => h) (Or.inl ⟨by rfl, ?_⟩) ?_
    · intro w hSw
      first
        | rfl
        | (go_simp; done)
    try simp only [Act.put, List.setIfInBounds_toArray, List.set_cons_zero, List.set_cons_succ]
    refine wpAnyT_pure (i := 13) (oi := { dst := some 20, op := Op.fieldAddr 119 (Operand.tmp 19) 0, type := 0, pos := "sheet.go:41", after := #[{ on := 12, ground := Ground.data }, { on := 0, ground := Ground.phase }, { on := 1, ground := Ground.phase }, { on := 2, ground := Ground.phase }, { on := 3, ground := Ground.phase }, { on := 4, ground := Ground.phase }, { on := 5, ground := Ground.phase }, { on := 6, ground := Ground.phase }, { on := 7, ground := Ground.phase }, { on := 8, ground := Ground.phase }, { on := 9, ground := Ground.phase }, { on := 10, ground := Ground.phase }, { on := 11, ground := Ground.phase }], guard := none }) (v := .pointer (some ⟨g, 0, none⟩)) rfl (by kernel_rfl) (by kernel_rfl) (by kernel_rfl) rfl (fun _ _ _ h => h) (Or.inl ⟨by rfl, ?_⟩) ?_
    · intro w hSw
      first
        | rfl
        | (go_simp; done)
    try simp only [Act.put, List.setIfInBounds_toArray, List.set_cons_zero, List.set_cons_succ]
    have e0 : w3.cell? ⟨g, 0, none⟩ = some dv := (unhide HW3).cell 0
    have y0 : w3.frozen? ⟨g, 0, none⟩ = false := (unhide HW3).frozen 0
    refine wpAnyT_one (i := 14) (o := { dst := none, op := Op.store 24 (Operand.tmp 20) (Operand.tmp 18), type := 0, pos := "sheet.go:41", after := #[{ on := 13, ground := Ground.data }, { on := 11, ground := Ground.data }, { on := 11, ground := Ground.chain }, { on := 0, ground := Ground.phase }, { on := 1, ground := Ground.phase }, { on := 2, ground := Ground.phase }, { on := 3, ground := Ground.phase }, { on := 4, ground := Ground.phase }, { on := 5, ground := Ground.phase }, { on := 6, ground := Ground.phase }, { on := 7, ground := Ground.phase }, { on := 8, ground := Ground.phase }, { on := 9, ground := Ground.phase }, { on := 10, ground := Ground.phase }, { on := 11, ground := Ground.phase }], guard := none }) (by kernel_rfl) rfl (fun K hK => ?_)
    go_simp
    refine hK.out _ _ (fun h => by cases h) ?_
    clear hK K
    try simp only [Act.put, List.setIfInBounds_toArray, List.set_cons_zero, List.set_cons_succ]
    refine wpAnyT_done (by kernel_rfl) ?_ _
    clear e0 y0 HW3
    obtain ⟨w5, hw5⟩ : ∃ z, (w3.setCell ⟨g, 0, none⟩ (.slice (some ⟨kk, 0, none⟩) ((st.done).length + 1) cap)) = z := ⟨_, rfl⟩
    obtain ⟨vw5, hvw5⟩ : ∃ z, Value.slice (some ⟨kk, 0, none⟩) ((st.done).length + 1) cap = z := ⟨_, rfl⟩
    rw [hw5] at HR3 ⊢
    rw [hvw5] at HR3
    have HRw5 := HR3
    clear HR3 hw5 hvw5
    have c1 : w5.cell? ⟨g, 1, none⟩ = some (.int .i64 st.kept) := (unhide HRw5).row.cell 1
    have z1 : w5.frozen? ⟨g, 1, none⟩ = false := (unhide HRw5).row.frozen 1
    go_wp2_with fail
    go_end0
    exact ⟨rfl, _, _, _, unhide HP, (unhide HRw5).nums ((unhide HRw5).row.set 1 (.int .i64 0)) ((Only.refl (· = g) w5).set g 1 _ rfl)⟩
  · rw [if_neg hk]
    go_enter Tryd.func88, Tryd.ntmps88
    go_wp2_with fail
    go_end0
    exact ⟨rfl, _, _, _, unhide HP, (unhide HR).nums ((unhide HR).row.set 1 (.int .i64 0)) ((Only.refl (· = g) w).set g 1 _ rfl)⟩
/-- the builder is reset -/
theorem Rw.blank {w0 w w' : World} {B g : Nat} {dv : Value} {k d u : Int} {av bv : Value} {done : List Pt} {bb : Option (List UInt8)} {bx : Option (Nat × List Value)} (h : Rw w0 w B g dv k d u av bv done bb bx) (hr : RowAt w' g 119 [dv, .int .i64 k, .int .i64 d, .int .i64 u, .pointer none, .slice none 0 0]) (ho : Only (· = g) w w') : Rw w0 w' B g dv k d u (.pointer none) (.slice none 0 0) done (some []) bx :=
  ⟨hr, own_only h.parts ho (fun k hk e => h.dne (e ▸ hk)), fun x e => (by
    obtain rfl : [] = x := by simpa using e
    exact World.ownsRow_nil _ _ _ _), h.bel.trans (ho.below h.sz (fun k hk => by rw [hk]; exact h.le)), Nat.le_trans h.sz ho.size, h.le, fun q cs e => ⟨(h.box q cs e).1.only ho (fun e' => rtag (h.box q cs e).1 h.row (by decide) e'), (h.box q cs e).2⟩⟩
set_option maxRecDepth 100000 in
set_option maxHeartbeats 4000000 in
theorem endChange_ok (w0 : World) (B g : Nat) (st : St) (bx : Option (Nat × List Value)) (w : World) (h : Sh w0 w B g st bx) (hl : st.done.length + 1 < 4398046511104) (ht : 0 < st.puts → st.text ≠ []) : Calls Tryd.prog 87 #[.pointer (some ⟨g, 0, none⟩)] w fun r w' => r = .returned (.tuple #[]) ∧ Sh w0 w' B g (endC st) bx := by
  obtain ⟨dv, av, bv, HP, h⟩ := h
  have hl0 : st.done.length < 4398046511104 := by omega
  have c3 : w.cell? ⟨g, 3, none⟩ = some (.int .i64 st.puts) := h.row.cell 3
  have c2 : w.cell? ⟨g, 2, none⟩ = some (.int .i64 st.drops) := h.row.cell 2
  have HR := hide h
  unfold endC
  obtain ⟨DL, hDL⟩ : ∃ z : List Pt, (if 0 < st.drops then [⟨3, st.drops, ByteArray.empty⟩] else []) = z := ⟨_, rfl⟩
  rw [hDL]
  have HDL := hide hDL
  clear h HP hDL
  by_cases hu : 0 < st.puts
  · rw [if_pos hu]
    clear c2
    go_enter Tryd.func87, Tryd.ntmps87
    go_wp2_with fail
    clear c3
    have HR0 := hide ((unhide HR).call (Below.drew (Below.refl _ w)))
    refine wp_region_T (S := fun W => W.cell? ⟨g, 0, none⟩ = some dv ∧ W.cell? ⟨g, 3, none⟩ = some (.int .i64 st.puts)) (fun i => decide (i < 16)) (by kernel_rfl) ⟨(unhide HR0).row.cell 0, (unhide HR0).row.cell 3⟩ (fun hHeld => ?_)
    clear HR
    refine wpAnyT_take (i := 0) (oi := { dst := some 7, op := Op.move (Operand.tmp 0), type := 133, pos := "sheet.go:48", after := #[], guard := none }) (v := .pointer (some ⟨g, 0, none⟩)) rfl (by kernel_rfl) (by kernel_rfl) (by kernel_rfl) (by kernel_rfl) (fun _ _ _ h => h) (Or.inl ⟨by rfl, ?_⟩) hHeld ?_
    · intro w hSw
      obtain ⟨h0, h1⟩ := hSw
      first
        | rfl
        | (go_simp; done)
    try simp only [Act.put, List.setIfInBounds_toArray, List.set_cons_zero, List.set_cons_succ]
    refine wpAnyT_take (i := 1) (oi := { dst := some 8, op := Op.move (Operand.tmp 0), type := 133, pos := "sheet.go:48", after := #[], guard := none }) (v := .pointer (some ⟨g, 0, none⟩)) rfl (by kernel_rfl) (by kernel_rfl) (by kernel_rfl) (by kernel_rfl) (fun _ _ _ h => h) (Or.inl ⟨by rfl, ?_⟩) hHeld ?_
    · intro w hSw
      obtain ⟨h0, h1⟩ := hSw
      first
        | rfl
        | (go_simp; done)
    try simp only [Act.put, List.setIfInBounds_toArray, List.set_cons_zero, List.set_cons_succ]
    refine wpAnyT_take (i := 2) (oi := { dst := some 9, op := Op.nilCheck (Operand.tmp 8), type := 0, pos := "sheet.go:48", after := #[{ on := 1, ground := Ground.data }], guard := none }) (v := .pointer (some ⟨g, 0, none⟩)) rfl (by kernel_rfl) (by kernel_rfl) (by kernel_rfl) (by kernel_rfl) (fun _ _ _ h => h) (Or.inl ⟨by rfl, ?_⟩) hHeld ?_
    · intro w hSw
      obtain ⟨h0, h1⟩ := hSw
      first
        | rfl
        | (go_simp; done)
    try simp only [Act.put, List.setIfInBounds_toArray, List.set_cons_zero, List.set_cons_succ]
    refine wpAnyT_take (i := 3) (oi := { dst := some 10, op := Op.fieldAddr 119 (Operand.tmp 9) 0, type := 0, pos := "sheet.go:48", after := #[{ on := 2, ground := Ground.data }], guard := none }) (v := .pointer (some ⟨g, 0, none⟩)) rfl (by kernel_rfl) (by kernel_rfl) (by kernel_rfl) (by kernel_rfl) (fun _ _ _ h => h) (Or.inl ⟨by rfl, ?_⟩) hHeld ?_
    · intro w hSw
      obtain ⟨h0, h1⟩ := hSw
      first
        | rfl
        | (go_simp; done)
    try simp only [Act.put, List.setIfInBounds_toArray, List.set_cons_zero, List.set_cons_succ]
    refine wpAnyT_take (i := 4) (oi := { dst := some 11, op := Op.load 24 (Operand.tmp 10), type := 24, pos := "sheet.go:48", after := #[{ on := 3, ground := Ground.data }], guard := none }) (v := dv) rfl (by kernel_rfl) (by kernel_rfl) (by kernel_rfl) (by kernel_rfl) (fun _ _ _ h => h) (Or.inl ⟨by rfl, ?_⟩) hHeld ?_
    · intro w hSw
      obtain ⟨h0, h1⟩ := hSw
      first
        | rfl
        | (go_simp; done)
    try simp only [Act.put, List.setIfInBounds_toArray, List.set_cons_zero, List.set_cons_succ]
    refine wpAnyT_take (i := 5) (oi := { dst := some 12, op := Op.move (Operand.tmp 0), type := 133, pos := "sheet.go:48", after := #[], guard := none }) (v := .pointer (some ⟨g, 0, none⟩)) rfl (by kernel_rfl) (by kernel_rfl) (by kernel_rfl) (by kernel_rfl) (fun _ _ _ h => h) (Or.inl ⟨by rfl, ?_⟩) hHeld ?_
    · intro w hSw
      obtain ⟨h0, h1⟩ := hSw
      first
        | rfl
        | (go_simp; done)
    try simp only [Act.put, List.setIfInBounds_toArray, List.set_cons_zero, List.set_cons_succ]
    refine wpAnyT_take (i := 6) (oi := { dst := some 13, op := Op.nilCheck (Operand.tmp 12), type := 0, pos := "sheet.go:48", after := #[{ on := 5, ground := Ground.data }], guard := none }) (v := .pointer (some ⟨g, 0, none⟩)) rfl (by kernel_rfl) (by kernel_rfl) (by kernel_rfl) (by kernel_rfl) (fun _ _ _ h => h) (Or.inl ⟨by rfl, ?_⟩) hHeld ?_
    · intro w hSw
      obtain ⟨h0, h1⟩ := hSw
      first
        | rfl
        | (go_simp; done)
    try simp only [Act.put, List.setIfInBounds_toArray, List.set_cons_zero, List.set_cons_succ]
    refine wpAnyT_take (i := 7) (oi := { dst := some 14, op := Op.fieldAddr 119 (Operand.tmp 13) 3, type := 0, pos := "sheet.go:48", after := #[{ on := 6, ground := Ground.data }], guard := none }) (v := .pointer (some ⟨g, 3, none⟩)) rfl (by kernel_rfl) (by kernel_rfl) (by kernel_rfl) (by kernel_rfl) (fun _ _ _ h => h) (Or.inl ⟨by rfl, ?_⟩) hHeld ?_
    · intro w hSw
      obtain ⟨h0, h1⟩ := hSw
      first
        | rfl
        | (go_simp; done)
    try simp only [Act.put, List.setIfInBounds_toArray, List.set_cons_zero, List.set_cons_succ]
    refine wpAnyT_take (i := 8) (oi := { dst := some 15, op := Op.load 3 (Operand.tmp 14), type := 3, pos := "sheet.go:48", after := #[{ on := 7, ground := Ground.data }], guard := none }) (v := .int .i64 st.puts) rfl (by kernel_rfl) (by kernel_rfl) (by kernel_rfl) (by kernel_rfl) (fun _ _ _ h => h) (Or.inl ⟨by rfl, ?_⟩) hHeld ?_
    · intro w hSw
      obtain ⟨h0, h1⟩ := hSw
      first
        | rfl
        | (go_simp; done)
    try simp only [Act.put, List.setIfInBounds_toArray, List.set_cons_zero, List.set_cons_succ]
    refine wpAnyT_take (i := 9) (oi := { dst := some 16, op := Op.move (Operand.tmp 0), type := 133, pos := "sheet.go:48", after := #[], guard := none }) (v := .pointer (some ⟨g, 0, none⟩)) rfl (by kernel_rfl) (by kernel_rfl) (by kernel_rfl) (by kernel_rfl) (fun _ _ _ h => h) (Or.inl ⟨by rfl, ?_⟩) hHeld ?_
    · intro w hSw
      obtain ⟨h0, h1⟩ := hSw
      first
        | rfl
        | (go_simp; done)
    try simp only [Act.put, List.setIfInBounds_toArray, List.set_cons_zero, List.set_cons_succ]
    refine wpAnyT_take (i := 10) (oi := { dst := some 17, op := Op.nilCheck (Operand.tmp 16), type := 0, pos := "sheet.go:48", after := #[{ on := 9, ground := Ground.data }], guard := none }) (v := .pointer (some ⟨g, 0, none⟩)) rfl (by kernel_rfl) (by kernel_rfl) (by kernel_rfl) (by kernel_rfl) (fun _ _ _ h => h) (Or.inl ⟨by rfl, ?_⟩) hHeld ?_
    · intro w hSw
      obtain ⟨h0, h1⟩ := hSw
      first
        | rfl
        | (go_simp; done)
    try simp only [Act.put, List.setIfInBounds_toArray, List.set_cons_zero, List.set_cons_succ]
    refine wpAnyT_take (i := 11) (oi := { dst := some 18, op := Op.fieldAddr 119 (Operand.tmp 17) 4, type := 0, pos := "sheet.go:48", after := #[{ on := 10, ground := Ground.data }], guard := none }) (v := .pointer (some ⟨g, 4, none⟩)) rfl (by kernel_rfl) (by kernel_rfl) (by kernel_rfl) (by kernel_rfl) (fun _ _ _ h => h) (Or.inl ⟨by rfl, ?_⟩) hHeld ?_
    · intro w hSw
      obtain ⟨h0, h1⟩ := hSw
      first
        | rfl
        | (go_simp; done)
    try simp only [Act.put, List.setIfInBounds_toArray, List.set_cons_zero, List.set_cons_succ]
    refine wpAnyT_one (i := 12) (o := { dst := some 19, op := Op.call { callee := Callee.value (Operand.func 42), args := #[Operand.tmp 18], argTypes := #[71] }, type := 9, pos := "sheet.go:48", after := #[{ on := 11, ground := Ground.data }], guard := none }) (by kernel_rfl) rfl (fun K hK => ?_)
    go_simp
    refine Calls.mono (string_ok g _ B dv _ _ _ av bv st.text (unhide HR0).row ((unhide HR0).bytes _ rfl) (ht hu)) ?_
    rintro e w9 ⟨rfl, ho9⟩
    have HR9 := hide ((unhide HR0).lose ho9)
    clear ho9 HR0
    have hS9 : w9.cell? ⟨g, 0, none⟩ = some dv ∧ w9.cell? ⟨g, 3, none⟩ = some (.int .i64 st.puts) := ⟨(unhide HR9).row.cell 0, (unhide HR9).row.cell 3⟩
    go_wp2_with fail
    refine hK.out _ _ (fun _ => hS9) ?_
    clear hK K
    clear hS9
    try simp only [Act.put, List.setIfInBounds_toArray, List.set_cons_zero, List.set_cons_succ]
    refine wpAnyT_one (i := 13) (o := { dst := some 20, op := Op.call { callee := Callee.value (Operand.func 90), args := #[Operand.tmp 15, Operand.tmp 19], argTypes := #[3, 9] }, type := 39, pos := "sheet.go:48", after := #[{ on := 8, ground := Ground.data }, { on := 12, ground := Ground.data }, { on := 12, ground := Ground.chain }], guard := none }) (by kernel_rfl) rfl (fun K hK => ?_)
    go_simp
    refine Calls.mono (put_any st.puts ⟨st.text.toArray⟩ _) ?_
    rintro e w1 ⟨rfl, hb1⟩
    have HR1 := hide ((unhide HR9).call hb1)
    have hS1 : w1.cell? ⟨g, 0, none⟩ = some dv ∧ w1.cell? ⟨g, 3, none⟩ = some (.int .i64 st.puts) := ⟨(unhide HR1).row.cell 0, (unhide HR1).row.cell 3⟩
    clear hb1 HR9
    go_wp2_with fail
    refine hK.out _ _ (fun _ => hS1) ?_
    clear hK K
    clear hS1
    try simp only [Act.put, List.setIfInBounds_toArray, List.set_cons_zero, List.set_cons_succ]
    refine wpAnyT_one (i := 14) (o := { dst := some 21, op := Op.buildSlice 24 1 #[(0, Operand.tmp 20)], type := 24, pos := "sheet.go:48", after := #[{ on := 13, ground := Ground.data }], guard := none }) (by kernel_rfl) rfl (fun K hK => ?_)
    simp only [pv]
    go_simp
    have HR2 := hide ((unhide HR1).call (w' := w1.alloc (.cells #[.int .i64 2, .int .i64 st.puts, .string ⟨st.text.toArray⟩] 39)) ((Below.refl _ _).alloc (Nat.le_refl _) _))
    have HQ := hide (RowAt.new w1 39 [.int .i64 2, .int .i64 st.puts, .string ⟨st.text.toArray⟩])
    clear HR1
    obtain ⟨w2, hw2⟩ : ∃ w2, w1.alloc (.cells #[.int .i64 2, .int .i64 st.puts, .string ⟨st.text.toArray⟩] 39) = w2 := ⟨_, rfl⟩
    obtain ⟨q, hq⟩ : ∃ q, w1.heap.size = q := ⟨_, rfl⟩
    rw [hw2] at HR2 HQ ⊢
    rw [hq] at HQ ⊢
    clear hw2 hq
    have hS2 : w2.cell? ⟨g, 0, none⟩ = some dv ∧ w2.cell? ⟨g, 3, none⟩ = some (.int .i64 st.puts) := ⟨(unhide HR2).row.cell 0, (unhide HR2).row.cell 3⟩
    refine hK.out _ _ (fun _ => hS2) ?_
    clear hK K
    clear hS2
    try simp only [Act.put, List.setIfInBounds_toArray, List.set_cons_zero, List.set_cons_succ]
    refine wpAnyT_one (i := 15) (o := { dst := some 22, op := Op.call { callee := Callee.builtin Builtin.append, args := #[Operand.tmp 11, Operand.tmp 21], argTypes := #[24, 24] }, type := 24, pos := "sheet.go:48", after := #[{ on := 4, ground := Ground.data }, { on := 14, ground := Ground.data }, { on := 13, ground := Ground.chain }], guard := none }) (by kernel_rfl) rfl (fun K hK => ?_)
    refine wp_append_part (Operand.tmp 11) (Operand.tmp 21) rfl B dv (st.done).length (ptc (st.done)) ⟨2, st.puts, ⟨st.text.toArray⟩⟩ q 1 rfl (unhide HR2).parts hl0 (unhide HR2).sz rfl (fun j u hu => by rw [(unhide HQ).cell]; exact hu) (fun kk cap w3 hv3 ho3 hk3 => ?_)
    have hgr := (unhide HR2).grow hv3 ho3 (own_lit hk3)
    have HR3 := hide hgr.2
    have HW3 := hide hgr.1
    clear hv3 ho3 hk3 hgr HR2 HQ
    have hS3 : w3.cell? ⟨g, 0, none⟩ = some dv ∧ w3.cell? ⟨g, 3, none⟩ = some (.int .i64 st.puts) := ⟨(unhide HW3).cell 0, (unhide HW3).cell 3⟩
    refine hK.out _ _ (fun _ => hS3) ?_
    clear hK K
    clear hS3
    try simp only [Act.put, List.setIfInBounds_toArray, List.set_cons_zero, List.set_cons_succ]
    refine wpAnyT_pure (i := 16) (oi := { dst := some 23, op := Op.nilCheck (Operand.tmp 7), type := 0, pos := "sheet.go:48", after := #[{ on := 0, ground := Ground.data }, { on := 0, ground := Ground.phase }, { on := 1, ground := Ground.phase }, { on := 2, ground := Ground.phase }, { on := 3, ground := Ground.phase }, { on := 4, ground := Ground.phase }, { on := 5, ground := Ground.phase }, { on := 6, ground := Ground.phase }, { on := 7, ground := Ground.phase }, { on := 8, ground := Ground.phase }, { on := 9, ground := Ground.phase }, { on := 10, ground := Ground.phase }, { on := 11, ground := Ground.phase }, { on := 12, ground := Ground.phase }, { on := 13, ground := Ground.phase }, { on := 14, ground := Ground.phase }, { on := 15, ground := Ground.phase }], guard := none }) (v := .pointer (some ⟨g, 0, none⟩)) rfl (by kernel_rfl) (by kernel_rfl) (by kernel_rfl) rfl (fun _ _ _ h => h) (Or.inl ⟨by rfl, ?_⟩) ?_
    · intro w hSw
      first
        | rfl
        | (go_simp; done)
    try simp only [Act.put, List.setIfInBounds_toArray, List.set_cons_zero, List.set_cons_succ]
    refine wpAnyT_pure (i := 17) (oi := { dst := some 24, op := Op.fieldAddr 119 (Operand.tmp 23) 0, type := 0, pos := "sheet.go:48", after := #[{ on := 16, ground := Ground.data }, { on := 0, ground := Ground.phase }, { on := 1, ground := Ground.phase }, { on := 2, ground := Ground.phase }, { on := 3, ground := Ground.phase }, { on := 4, ground := Ground.phase }, { on := 5, ground := Ground.phase }, { on := 6, ground := Ground.phase }, { on := 7, ground := Ground.phase }, { on := 8, ground := Ground.phase }, { on := 9, ground := Ground.phase }, { on := 10, ground := Ground.phase }, { on := 11, ground := Ground.phase }, { on := 12, ground := Ground.phase }, { on := 13, ground := Ground.phase }, { on := 14, ground := Ground.phase }, { on := 15, ground := Ground.phase }], guard := none }) (v := .pointer (some ⟨g, 0, none⟩)) rfl (by kernel_rfl) (by kernel_rfl) (by kernel_rfl) rfl (fun _ _ _ h => h) (Or.inl ⟨by rfl, ?_⟩) ?_
    · intro w hSw
      first
        | rfl
        | (go_simp; done)
    try simp only [Act.put, List.setIfInBounds_toArray, List.set_cons_zero, List.set_cons_succ]
    have e0 : w3.cell? ⟨g, 0, none⟩ = some dv := (unhide HW3).cell 0
    have y0 : w3.frozen? ⟨g, 0, none⟩ = false := (unhide HW3).frozen 0
    refine wpAnyT_one (i := 18) (o := { dst := none, op := Op.store 24 (Operand.tmp 24) (Operand.tmp 22), type := 0, pos := "sheet.go:48", after := #[{ on := 17, ground := Ground.data }, { on := 15, ground := Ground.data }, { on := 15, ground := Ground.chain }, { on := 0, ground := Ground.phase }, { on := 1, ground := Ground.phase }, { on := 2, ground := Ground.phase }, { on := 3, ground := Ground.phase }, { on := 4, ground := Ground.phase }, { on := 5, ground := Ground.phase }, { on := 6, ground := Ground.phase }, { on := 7, ground := Ground.phase }, { on := 8, ground := Ground.phase }, { on := 9, ground := Ground.phase }, { on := 10, ground := Ground.phase }, { on := 11, ground := Ground.phase }, { on := 12, ground := Ground.phase }, { on := 13, ground := Ground.phase }, { on := 14, ground := Ground.phase }, { on := 15, ground := Ground.phase }], guard := none }) (by kernel_rfl) rfl (fun K hK => ?_)
    go_simp
    refine hK.out _ _ (fun h => by cases h) ?_
    clear hK K
    try simp only [Act.put, List.setIfInBounds_toArray, List.set_cons_zero, List.set_cons_succ]
    refine wpAnyT_done (by kernel_rfl) ?_ _
    clear e0 y0 HW3
    obtain ⟨w5, hw5⟩ : ∃ z, (w3.setCell ⟨g, 0, none⟩ (.slice (some ⟨kk, 0, none⟩) ((st.done).length + 1) cap)) = z := ⟨_, rfl⟩
    obtain ⟨vw5, hvw5⟩ : ∃ z, Value.slice (some ⟨kk, 0, none⟩) ((st.done).length + 1) cap = z := ⟨_, rfl⟩
    rw [hw5] at HR3 ⊢
    rw [hvw5] at HR3
    have HRw5 := HR3
    clear HR3 hw5 hvw5
    have c2 : w5.cell? ⟨g, 2, none⟩ = some (.int .i64 st.drops) := (unhide HRw5).row.cell 2
    by_cases hd : 0 < st.drops
    · obtain ⟨dn, hdn⟩ : ∃ z : List Pt, st.done ++ [⟨2, st.puts, ⟨st.text.toArray⟩⟩] = z := ⟨_, rfl⟩
      have hln : dn.length < 4398046511104 := by rw [← hdn, List.length_append, List.length_singleton]; exact hl
      rw [hdn] at HRw5
      have HDN := hide hdn
      clear hdn
      go_wp2_with fail
      clear c2
      have HR0 := hide ((unhide HRw5).call (Below.drew (Below.refl _ w5)))
      refine wp_region_T (S := fun W => W.cell? ⟨g, 0, none⟩ = some vw5 ∧ W.cell? ⟨g, 2, none⟩ = some (.int .i64 st.drops)) (fun i => decide (i < 12)) (by kernel_rfl) ⟨(unhide HR0).row.cell 0, (unhide HR0).row.cell 2⟩ (fun hHeld => ?_)
      clear HRw5
      refine wpAnyT_take (i := 0) (oi := { dst := some 30, op := Op.move (Operand.tmp 0), type := 133, pos := "sheet.go:51", after := #[], guard := none }) (v := .pointer (some ⟨g, 0, none⟩)) rfl (by kernel_rfl) (by kernel_rfl) (by kernel_rfl) (by kernel_rfl) (fun _ _ _ h => h) (Or.inl ⟨by rfl, ?_⟩) hHeld ?_
      · intro w hSw
        obtain ⟨h0, h1⟩ := hSw
        first
          | rfl
          | (go_simp; done)
      try simp only [Act.put, List.setIfInBounds_toArray, List.set_cons_zero, List.set_cons_succ]
      refine wpAnyT_take (i := 1) (oi := { dst := some 31, op := Op.move (Operand.tmp 0), type := 133, pos := "sheet.go:51", after := #[], guard := none }) (v := .pointer (some ⟨g, 0, none⟩)) rfl (by kernel_rfl) (by kernel_rfl) (by kernel_rfl) (by kernel_rfl) (fun _ _ _ h => h) (Or.inl ⟨by rfl, ?_⟩) hHeld ?_
      · intro w hSw
        obtain ⟨h0, h1⟩ := hSw
        first
          | rfl
          | (go_simp; done)
      try simp only [Act.put, List.setIfInBounds_toArray, List.set_cons_zero, List.set_cons_succ]
      refine wpAnyT_take (i := 2) (oi := { dst := some 32, op := Op.nilCheck (Operand.tmp 31), type := 0, pos := "sheet.go:51", after := #[{ on := 1, ground := Ground.data }], guard := none }) (v := .pointer (some ⟨g, 0, none⟩)) rfl (by kernel_rfl) (by kernel_rfl) (by kernel_rfl) (by kernel_rfl) (fun _ _ _ h => h) (Or.inl ⟨by rfl, ?_⟩) hHeld ?_
      · intro w hSw
        obtain ⟨h0, h1⟩ := hSw
        first
          | rfl
          | (go_simp; done)
      try simp only [Act.put, List.setIfInBounds_toArray, List.set_cons_zero, List.set_cons_succ]
      refine wpAnyT_take (i := 3) (oi := { dst := some 33, op := Op.fieldAddr 119 (Operand.tmp 32) 0, type := 0, pos := "sheet.go:51", after := #[{ on := 2, ground := Ground.data }], guard := none }) (v := .pointer (some ⟨g, 0, none⟩)) rfl (by kernel_rfl) (by kernel_rfl) (by kernel_rfl) (by kernel_rfl) (fun _ _ _ h => h) (Or.inl ⟨by rfl, ?_⟩) hHeld ?_
      · intro w hSw
        obtain ⟨h0, h1⟩ := hSw
        first
          | rfl
          | (go_simp; done)
      try simp only [Act.put, List.setIfInBounds_toArray, List.set_cons_zero, List.set_cons_succ]
      refine wpAnyT_take (i := 4) (oi := { dst := some 34, op := Op.load 24 (Operand.tmp 33), type := 24, pos := "sheet.go:51", after := #[{ on := 3, ground := Ground.data }], guard := none }) (v := vw5) rfl (by kernel_rfl) (by kernel_rfl) (by kernel_rfl) (by kernel_rfl) (fun _ _ _ h => h) (Or.inl ⟨by rfl, ?_⟩) hHeld ?_
      · intro w hSw
        obtain ⟨h0, h1⟩ := hSw
        first
          | rfl
          | (go_simp; done)
      try simp only [Act.put, List.setIfInBounds_toArray, List.set_cons_zero, List.set_cons_succ]
      refine wpAnyT_take (i := 5) (oi := { dst := some 35, op := Op.move (Operand.tmp 0), type := 133, pos := "sheet.go:51", after := #[], guard := none }) (v := .pointer (some ⟨g, 0, none⟩)) rfl (by kernel_rfl) (by kernel_rfl) (by kernel_rfl) (by kernel_rfl) (fun _ _ _ h => h) (Or.inl ⟨by rfl, ?_⟩) hHeld ?_
      · intro w hSw
        obtain ⟨h0, h1⟩ := hSw
        first
          | rfl
          | (go_simp; done)
      try simp only [Act.put, List.setIfInBounds_toArray, List.set_cons_zero, List.set_cons_succ]
      refine wpAnyT_take (i := 6) (oi := { dst := some 36, op := Op.nilCheck (Operand.tmp 35), type := 0, pos := "sheet.go:51", after := #[{ on := 5, ground := Ground.data }], guard := none }) (v := .pointer (some ⟨g, 0, none⟩)) rfl (by kernel_rfl) (by kernel_rfl) (by kernel_rfl) (by kernel_rfl) (fun _ _ _ h => h) (Or.inl ⟨by rfl, ?_⟩) hHeld ?_
      · intro w hSw
        obtain ⟨h0, h1⟩ := hSw
        first
          | rfl
          | (go_simp; done)
      try simp only [Act.put, List.setIfInBounds_toArray, List.set_cons_zero, List.set_cons_succ]
      refine wpAnyT_take (i := 7) (oi := { dst := some 37, op := Op.fieldAddr 119 (Operand.tmp 36) 2, type := 0, pos := "sheet.go:51", after := #[{ on := 6, ground := Ground.data }], guard := none }) (v := .pointer (some ⟨g, 2, none⟩)) rfl (by kernel_rfl) (by kernel_rfl) (by kernel_rfl) (by kernel_rfl) (fun _ _ _ h => h) (Or.inl ⟨by rfl, ?_⟩) hHeld ?_
      · intro w hSw
        obtain ⟨h0, h1⟩ := hSw
        first
          | rfl
          | (go_simp; done)
      try simp only [Act.put, List.setIfInBounds_toArray, List.set_cons_zero, List.set_cons_succ]
      refine wpAnyT_take (i := 8) (oi := { dst := some 38, op := Op.load 3 (Operand.tmp 37), type := 3, pos := "sheet.go:51", after := #[{ on := 7, ground := Ground.data }], guard := none }) (v := .int .i64 st.drops) rfl (by kernel_rfl) (by kernel_rfl) (by kernel_rfl) (by kernel_rfl) (fun _ _ _ h => h) (Or.inl ⟨by rfl, ?_⟩) hHeld ?_
      · intro w hSw
        obtain ⟨h0, h1⟩ := hSw
        first
          | rfl
          | (go_simp; done)
      try simp only [Act.put, List.setIfInBounds_toArray, List.set_cons_zero, List.set_cons_succ]
      refine wpAnyT_one (i := 9) (o := { dst := some 39, op := Op.call { callee := Callee.value (Operand.func 91), args := #[Operand.tmp 38], argTypes := #[3] }, type := 39, pos := "sheet.go:51", after := #[{ on := 8, ground := Ground.data }], guard := none }) (by kernel_rfl) rfl (fun K hK => ?_)
      go_simp
      refine Calls.mono (drop_any st.drops _) ?_
      rintro e w1 ⟨rfl, hb1⟩
      have HR1 := hide ((unhide HR0).call hb1)
      have hS1 : w1.cell? ⟨g, 0, none⟩ = some vw5 ∧ w1.cell? ⟨g, 2, none⟩ = some (.int .i64 st.drops) := ⟨(unhide HR1).row.cell 0, (unhide HR1).row.cell 2⟩
      clear hb1 HR0
      go_wp2_with fail
      refine hK.out _ _ (fun _ => hS1) ?_
      clear hK K
      clear hS1
      try simp only [Act.put, List.setIfInBounds_toArray, List.set_cons_zero, List.set_cons_succ]
      refine wpAnyT_one (i := 10) (o := { dst := some 40, op := Op.buildSlice 24 1 #[(0, Operand.tmp 39)], type := 24, pos := "sheet.go:51", after := #[{ on := 9, ground := Ground.data }], guard := none }) (by kernel_rfl) rfl (fun K hK => ?_)
      simp only [pv]
      go_simp
      have HR2 := hide ((unhide HR1).call (w' := w1.alloc (.cells #[.int .i64 3, .int .i64 st.drops, .string ByteArray.empty] 39)) ((Below.refl _ _).alloc (Nat.le_refl _) _))
      have HQ := hide (RowAt.new w1 39 [.int .i64 3, .int .i64 st.drops, .string ByteArray.empty])
      clear HR1
      obtain ⟨w2, hw2⟩ : ∃ w2, w1.alloc (.cells #[.int .i64 3, .int .i64 st.drops, .string ByteArray.empty] 39) = w2 := ⟨_, rfl⟩
      obtain ⟨q, hq⟩ : ∃ q, w1.heap.size = q := ⟨_, rfl⟩
      rw [hw2] at HR2 HQ ⊢
      rw [hq] at HQ ⊢
      clear hw2 hq
      have hS2 : w2.cell? ⟨g, 0, none⟩ = some vw5 ∧ w2.cell? ⟨g, 2, none⟩ = some (.int .i64 st.drops) := ⟨(unhide HR2).row.cell 0, (unhide HR2).row.cell 2⟩
      refine hK.out _ _ (fun _ => hS2) ?_
      clear hK K
      clear hS2
      try simp only [Act.put, List.setIfInBounds_toArray, List.set_cons_zero, List.set_cons_succ]
      refine wpAnyT_one (i := 11) (o := { dst := some 41, op := Op.call { callee := Callee.builtin Builtin.append, args := #[Operand.tmp 34, Operand.tmp 40], argTypes := #[24, 24] }, type := 24, pos := "sheet.go:51", after := #[{ on := 4, ground := Ground.data }, { on := 10, ground := Ground.data }, { on := 9, ground := Ground.chain }], guard := none }) (by kernel_rfl) rfl (fun K hK => ?_)
      refine wp_append_part (Operand.tmp 34) (Operand.tmp 40) rfl B vw5 (dn).length (ptc (dn)) ⟨3, st.drops, ByteArray.empty⟩ q 1 rfl (unhide HR2).parts hln (unhide HR2).sz rfl (fun j u hu => by rw [(unhide HQ).cell]; exact hu) (fun kk cap w3 hv3 ho3 hk3 => ?_)
      have hgr := (unhide HR2).grow hv3 ho3 (own_lit hk3)
      have HR3 := hide hgr.2
      have HW3 := hide hgr.1
      clear hv3 ho3 hk3 hgr HR2 HQ
      have hS3 : w3.cell? ⟨g, 0, none⟩ = some vw5 ∧ w3.cell? ⟨g, 2, none⟩ = some (.int .i64 st.drops) := ⟨(unhide HW3).cell 0, (unhide HW3).cell 2⟩
      refine hK.out _ _ (fun _ => hS3) ?_
      clear hK K
      clear hS3
      try simp only [Act.put, List.setIfInBounds_toArray, List.set_cons_zero, List.set_cons_succ]
      refine wpAnyT_pure (i := 12) (oi := { dst := some 42, op := Op.nilCheck (Operand.tmp 30), type := 0, pos := "sheet.go:51", after := #[{ on := 0, ground := Ground.data }, { on := 0, ground := Ground.phase }, { on := 1, ground := Ground.phase }, { on := 2, ground := Ground.phase }, { on := 3, ground := Ground.phase }, { on := 4, ground := Ground.phase }, { on := 5, ground := Ground.phase }, { on := 6, ground := Ground.phase }, { on := 7, ground := Ground.phase }, { on := 8, ground := Ground.phase }, { on := 9, ground := Ground.phase }, { on := 10, ground := Ground.phase }, { on := 11, ground := Ground.phase }], guard := none }) (v := .pointer (some ⟨g, 0, none⟩)) rfl (by kernel_rfl) (by kernel_rfl) (by kernel_rfl) rfl (fun _ _ _ h => h) (Or.inl ⟨by rfl, ?_⟩) ?_
      · intro w hSw
        first
          | rfl
          | (go_simp; done)
      try simp only [Act.put, List.setIfInBounds_toArray, List.set_cons_zero, List.set_cons_succ]
      refine wpAnyT_pure (i := 13) (oi := { dst := some 43, op := Op.fieldAddr 119 (Operand.tmp 42) 0, type := 0, pos := "sheet.go:51", after := #[{ on := 12, ground := Ground.data }, { on := 0, ground := Ground.phase }, { on := 1, ground := Ground.phase }, { on := 2, ground := Ground.phase }, { on := 3, ground := Ground.phase }, { on := 4, ground := Ground.phase }, { on := 5, ground := Ground.phase }, { on := 6, ground := Ground.phase }, { on := 7, ground := Ground.phase }, { on := 8, ground := Ground.phase }, { on := 9, ground := Ground.phase }, { on := 10, ground := Ground.phase }, { on := 11, ground := Ground.phase }], guard := none }) (v := .pointer (some ⟨g, 0, none⟩)) rfl (by kernel_rfl) (by kernel_rfl) (by kernel_rfl) rfl (fun _ _ _ h => h) (Or.inl ⟨by rfl, ?_⟩) ?_
      · intro w hSw
        first
          | rfl
          | (go_simp; done)
      try simp only [Act.put, List.setIfInBounds_toArray, List.set_cons_zero, List.set_cons_succ]
      have e0 : w3.cell? ⟨g, 0, none⟩ = some vw5 := (unhide HW3).cell 0
      have y0 : w3.frozen? ⟨g, 0, none⟩ = false := (unhide HW3).frozen 0
      refine wpAnyT_one (i := 14) (o := { dst := none, op := Op.store 24 (Operand.tmp 43) (Operand.tmp 41), type := 0, pos := "sheet.go:51", after := #[{ on := 13, ground := Ground.data }, { on := 11, ground := Ground.data }, { on := 11, ground := Ground.chain }, { on := 0, ground := Ground.phase }, { on := 1, ground := Ground.phase }, { on := 2, ground := Ground.phase }, { on := 3, ground := Ground.phase }, { on := 4, ground := Ground.phase }, { on := 5, ground := Ground.phase }, { on := 6, ground := Ground.phase }, { on := 7, ground := Ground.phase }, { on := 8, ground := Ground.phase }, { on := 9, ground := Ground.phase }, { on := 10, ground := Ground.phase }, { on := 11, ground := Ground.phase }], guard := none }) (by kernel_rfl) rfl (fun K hK => ?_)
      go_simp
      refine hK.out _ _ (fun h => by cases h) ?_
      clear hK K
      try simp only [Act.put, List.setIfInBounds_toArray, List.set_cons_zero, List.set_cons_succ]
      refine wpAnyT_done (by kernel_rfl) ?_ _
      clear e0 y0 HW3
      obtain ⟨w6, hw6⟩ : ∃ z, (w3.setCell ⟨g, 0, none⟩ (.slice (some ⟨kk, 0, none⟩) ((dn).length + 1) cap)) = z := ⟨_, rfl⟩
      obtain ⟨vw6, hvw6⟩ : ∃ z, Value.slice (some ⟨kk, 0, none⟩) ((dn).length + 1) cap = z := ⟨_, rfl⟩
      rw [hw6] at HR3 ⊢
      rw [hvw6] at HR3
      have HRw6 := HR3
      clear HR3 hw6 hvw6
      have a3 : w6.cell? ⟨g, 3, none⟩ = some (.int .i64 st.puts) := (unhide HRw6).row.cell 3
      have a2 : w6.cell? ⟨g, 2, none⟩ = some (.int .i64 st.drops) := (unhide HRw6).row.cell 2
      have b3 : w6.frozen? ⟨g, 3, none⟩ = false := (unhide HRw6).row.frozen 3
      have b2 : w6.frozen? ⟨g, 2, none⟩ = false := (unhide HRw6).row.frozen 2
      go_wp2_with fail
      have HT := hide ((unhide HRw6).nums (((unhide HRw6).row.set 3 (.int .i64 0)).set 2 (.int .i64 0)) (((Only.refl (· = g) w6).set g 3 _ rfl).set g 2 _ rfl))
      obtain ⟨w7, hw7⟩ : ∃ z, (w6.setCell ⟨g, 3, none⟩ (.int .i64 0)).setCell ⟨g, 2, none⟩ (.int .i64 0) = z := ⟨_, rfl⟩
      rw [hw7] at HT ⊢
      clear hw7 a2 a3 b2 b3 HRw6
      refine Calls.mono (reset_ok g w7 _ _ _ _ _ _ (unhide HT).row) ?_
      rintro e w8 ⟨rfl, hr8, ho8⟩
      have HT8 := hide ((unhide HT).blank hr8 ho8)
      clear hr8 ho8 HT
      go_wp2_with fail
      go_end0
      rw [unhide HDN]
      have hDL := unhide HDL
      rw [if_pos hd] at hDL
      rw [← hDL]
      skip
      exact ⟨rfl, _, _, _, .inl rfl, unhide HT8⟩
    · skip
      clear c2
      have c2 : w5.cell? ⟨g, 2, none⟩ = some (.int .i64 st.drops) := (unhide HRw5).row.cell 2
      have a3 : w5.cell? ⟨g, 3, none⟩ = some (.int .i64 st.puts) := (unhide HRw5).row.cell 3
      have a2 : w5.cell? ⟨g, 2, none⟩ = some (.int .i64 st.drops) := (unhide HRw5).row.cell 2
      have b3 : w5.frozen? ⟨g, 3, none⟩ = false := (unhide HRw5).row.frozen 3
      have b2 : w5.frozen? ⟨g, 2, none⟩ = false := (unhide HRw5).row.frozen 2
      go_wp2_with fail
      have HT := hide ((unhide HRw5).nums (((unhide HRw5).row.set 3 (.int .i64 0)).set 2 (.int .i64 0)) (((Only.refl (· = g) w5).set g 3 _ rfl).set g 2 _ rfl))
      obtain ⟨w7, hw7⟩ : ∃ z, (w5.setCell ⟨g, 3, none⟩ (.int .i64 0)).setCell ⟨g, 2, none⟩ (.int .i64 0) = z := ⟨_, rfl⟩
      rw [hw7] at HT ⊢
      clear hw7 a2 a3 b2 b3 HRw5
      refine Calls.mono (reset_ok g w7 _ _ _ _ _ _ (unhide HT).row) ?_
      rintro e w8 ⟨rfl, hr8, ho8⟩
      have HT8 := hide ((unhide HT).blank hr8 ho8)
      clear hr8 ho8 HT
      go_wp2_with fail
      go_end0
      skip
      have hDL := unhide HDL
      rw [if_neg (by omega)] at hDL
      rw [← hDL]
      try rw [List.append_nil]
      exact ⟨rfl, _, _, _, .inl rfl, unhide HT8⟩
  · rw [if_neg hu]
    by_cases hd : 0 < st.drops
    · skip
      go_enter Tryd.func87, Tryd.ntmps87
      go_wp2_with fail
      clear c2 c3
      have HR0 := hide ((unhide HR).call (Below.drew (Below.refl _ w)))
      refine wp_region_T (S := fun W => W.cell? ⟨g, 0, none⟩ = some dv ∧ W.cell? ⟨g, 2, none⟩ = some (.int .i64 st.drops)) (fun i => decide (i < 12)) (by kernel_rfl) ⟨(unhide HR0).row.cell 0, (unhide HR0).row.cell 2⟩ (fun hHeld => ?_)
      clear HR
      refine wpAnyT_take (i := 0) (oi := { dst := some 30, op := Op.move (Operand.tmp 0), type := 133, pos := "sheet.go:51", after := #[], guard := none }) (v := .pointer (some ⟨g, 0, none⟩)) rfl (by kernel_rfl) (by kernel_rfl) (by kernel_rfl) (by kernel_rfl) (fun _ _ _ h => h) (Or.inl ⟨by rfl, ?_⟩) hHeld ?_
      · intro w hSw
        obtain ⟨h0, h1⟩ := hSw
        first
          | rfl
          | (go_simp; done)
      try simp only [Act.put, List.setIfInBounds_toArray, List.set_cons_zero, List.set_cons_succ]
      refine wpAnyT_take (i := 1) (oi := { dst := some 31, op := Op.move (Operand.tmp 0), type := 133, pos := "sheet.go:51", after := #[], guard := none }) (v := .pointer (some ⟨g, 0, none⟩)) rfl (by kernel_rfl) (by kernel_rfl) (by kernel_rfl) (by kernel_rfl) (fun _ _ _ h => h) (Or.inl ⟨by rfl, ?_⟩) hHeld ?_
      · intro w hSw
        obtain ⟨h0, h1⟩ := hSw
        first
          | rfl
          | (go_simp; done)
      try simp only [Act.put, List.setIfInBounds_toArray, List.set_cons_zero, List.set_cons_succ]
      refine wpAnyT_take (i := 2) (oi := { dst := some 32, op := Op.nilCheck (Operand.tmp 31), type := 0, pos := "sheet.go:51", after := #[{ on := 1, ground := Ground.data }], guard := none }) (v := .pointer (some ⟨g, 0, none⟩)) rfl (by kernel_rfl) (by kernel_rfl) (by kernel_rfl) (by kernel_rfl) (fun _ _ _ h => h) (Or.inl ⟨by rfl, ?_⟩) hHeld ?_
      · intro w hSw
        obtain ⟨h0, h1⟩ := hSw
        first
          | rfl
          | (go_simp; done)
      try simp only [Act.put, List.setIfInBounds_toArray, List.set_cons_zero, List.set_cons_succ]
      refine wpAnyT_take (i := 3) (oi := { dst := some 33, op := Op.fieldAddr 119 (Operand.tmp 32) 0, type := 0, pos := "sheet.go:51", after := #[{ on := 2, ground := Ground.data }], guard := none }) (v := .pointer (some ⟨g, 0, none⟩)) rfl (by kernel_rfl) (by kernel_rfl) (by kernel_rfl) (by kernel_rfl) (fun _ _ _ h => h) (Or.inl ⟨by rfl, ?_⟩) hHeld ?_
      · intro w hSw
        obtain ⟨h0, h1⟩ := hSw
        first
          | rfl
          | (go_simp; done)
      try simp only [Act.put, List.setIfInBounds_toArray, List.set_cons_zero, List.set_cons_succ]
      refine wpAnyT_take (i := 4) (oi := { dst := some 34, op := Op.load 24 (Operand.tmp 33), type := 24, pos := "sheet.go:51", after := #[{ on := 3, ground := Ground.data }], guard := none }) (v := dv) rfl (by kernel_rfl) (by kernel_rfl) (by kernel_rfl) (by kernel_rfl) (fun _ _ _ h => h) (Or.inl ⟨by rfl, ?_⟩) hHeld ?_
      · intro w hSw
        obtain ⟨h0, h1⟩ := hSw
        first
          | rfl
          | (go_simp; done)
      try simp only [Act.put, List.setIfInBounds_toArray, List.set_cons_zero, List.set_cons_succ]
      refine wpAnyT_take (i := 5) (oi := { dst := some 35, op := Op.move (Operand.tmp 0), type := 133, pos := "sheet.go:51", after := #[], guard := none }) (v := .pointer (some ⟨g, 0, none⟩)) rfl (by kernel_rfl) (by kernel_rfl) (by kernel_rfl) (by kernel_rfl) (fun _ _ _ h => h) (Or.inl ⟨by rfl, ?_⟩) hHeld ?_
      · intro w hSw
        obtain ⟨h0, h1⟩ := hSw
        first
          | rfl
          | (go_simp; done)
      try simp only [Act.put, List.setIfInBounds_toArray, List.set_cons_zero, List.set_cons_succ]
      refine wpAnyT_take (i := 6) (oi := { dst := some 36, op := Op.nilCheck (Operand.tmp 35), type := 0, pos := "sheet.go:51", after := #[{ on := 5, ground := Ground.data }], guard := none }) (v := .pointer (some ⟨g, 0, none⟩)) rfl (by kernel_rfl) (by kernel_rfl) (by kernel_rfl) (by kernel_rfl) (fun _ _ _ h => h) (Or.inl ⟨by rfl, ?_⟩) hHeld ?_
      · intro w hSw
        obtain ⟨h0, h1⟩ := hSw
        first
          | rfl
          | (go_simp; done)
      try simp only [Act.put, List.setIfInBounds_toArray, List.set_cons_zero, List.set_cons_succ]
      refine wpAnyT_take (i := 7) (oi := { dst := some 37, op := Op.fieldAddr 119 (Operand.tmp 36) 2, type := 0, pos := "sheet.go:51", after := #[{ on := 6, ground := Ground.data }], guard := none }) (v := .pointer (some ⟨g, 2, none⟩)) rfl (by kernel_rfl) (by kernel_rfl) (by kernel_rfl) (by kernel_rfl) (fun _ _ _ h => h) (Or.inl ⟨by rfl, ?_⟩) hHeld ?_
      · intro w hSw
        obtain ⟨h0, h1⟩ := hSw
        first
          | rfl
          | (go_simp; done)
      try simp only [Act.put, List.setIfInBounds_toArray, List.set_cons_zero, List.set_cons_succ]
      refine wpAnyT_take (i := 8) (oi := { dst := some 38, op := Op.load 3 (Operand.tmp 37), type := 3, pos := "sheet.go:51", after := #[{ on := 7, ground := Ground.data }], guard := none }) (v := .int .i64 st.drops) rfl (by kernel_rfl) (by kernel_rfl) (by kernel_rfl) (by kernel_rfl) (fun _ _ _ h => h) (Or.inl ⟨by rfl, ?_⟩) hHeld ?_
      · intro w hSw
        obtain ⟨h0, h1⟩ := hSw
        first
          | rfl
          | (go_simp; done)
      try simp only [Act.put, List.setIfInBounds_toArray, List.set_cons_zero, List.set_cons_succ]
      refine wpAnyT_one (i := 9) (o := { dst := some 39, op := Op.call { callee := Callee.value (Operand.func 91), args := #[Operand.tmp 38], argTypes := #[3] }, type := 39, pos := "sheet.go:51", after := #[{ on := 8, ground := Ground.data }], guard := none }) (by kernel_rfl) rfl (fun K hK => ?_)
      go_simp
      refine Calls.mono (drop_any st.drops _) ?_
      rintro e w1 ⟨rfl, hb1⟩
      have HR1 := hide ((unhide HR0).call hb1)
      have hS1 : w1.cell? ⟨g, 0, none⟩ = some dv ∧ w1.cell? ⟨g, 2, none⟩ = some (.int .i64 st.drops) := ⟨(unhide HR1).row.cell 0, (unhide HR1).row.cell 2⟩
      clear hb1 HR0
      go_wp2_with fail
      refine hK.out _ _ (fun _ => hS1) ?_
      clear hK K
      clear hS1
      try simp only [Act.put, List.setIfInBounds_toArray, List.set_cons_zero, List.set_cons_succ]
      refine wpAnyT_one (i := 10) (o := { dst := some 40, op := Op.buildSlice 24 1 #[(0, Operand.tmp 39)], type := 24, pos := "sheet.go:51", after := #[{ on := 9, ground := Ground.data }], guard := none }) (by kernel_rfl) rfl (fun K hK => ?_)
      simp only [pv]
      go_simp
      have HR2 := hide ((unhide HR1).call (w' := w1.alloc (.cells #[.int .i64 3, .int .i64 st.drops, .string ByteArray.empty] 39)) ((Below.refl _ _).alloc (Nat.le_refl _) _))
      have HQ := hide (RowAt.new w1 39 [.int .i64 3, .int .i64 st.drops, .string ByteArray.empty])
      clear HR1
      obtain ⟨w2, hw2⟩ : ∃ w2, w1.alloc (.cells #[.int .i64 3, .int .i64 st.drops, .string ByteArray.empty] 39) = w2 := ⟨_, rfl⟩
      obtain ⟨q, hq⟩ : ∃ q, w1.heap.size = q := ⟨_, rfl⟩
      rw [hw2] at HR2 HQ ⊢
      rw [hq] at HQ ⊢
      clear hw2 hq
      have hS2 : w2.cell? ⟨g, 0, none⟩ = some dv ∧ w2.cell? ⟨g, 2, none⟩ = some (.int .i64 st.drops) := ⟨(unhide HR2).row.cell 0, (unhide HR2).row.cell 2⟩
      refine hK.out _ _ (fun _ => hS2) ?_
      clear hK K
      clear hS2
      try simp only [Act.put, List.setIfInBounds_toArray, List.set_cons_zero, List.set_cons_succ]
      refine wpAnyT_one (i := 11) (o := { dst := some 41, op := Op.call { callee := Callee.builtin Builtin.append, args := #[Operand.tmp 34, Operand.tmp 40], argTypes := #[24, 24] }, type := 24, pos := "sheet.go:51", after := #[{ on := 4, ground := Ground.data }, { on := 10, ground := Ground.data }, { on := 9, ground := Ground.chain }], guard := none }) (by kernel_rfl) rfl (fun K hK => ?_)
      refine wp_append_part (Operand.tmp 34) (Operand.tmp 40) rfl B dv (st.done).length (ptc (st.done)) ⟨3, st.drops, ByteArray.empty⟩ q 1 rfl (unhide HR2).parts hl0 (unhide HR2).sz rfl (fun j u hu => by rw [(unhide HQ).cell]; exact hu) (fun kk cap w3 hv3 ho3 hk3 => ?_)
      have hgr := (unhide HR2).grow hv3 ho3 (own_lit hk3)
      have HR3 := hide hgr.2
      have HW3 := hide hgr.1
      clear hv3 ho3 hk3 hgr HR2 HQ
      have hS3 : w3.cell? ⟨g, 0, none⟩ = some dv ∧ w3.cell? ⟨g, 2, none⟩ = some (.int .i64 st.drops) := ⟨(unhide HW3).cell 0, (unhide HW3).cell 2⟩
      refine hK.out _ _ (fun _ => hS3) ?_
      clear hK K
      clear hS3
      try simp only [Act.put, List.setIfInBounds_toArray, List.set_cons_zero, List.set_cons_succ]
      refine wpAnyT_pure (i := 12) (oi := { dst := some 42, op := Op.nilCheck (Operand.tmp 30), type := 0, pos := "sheet.go:51", after := #[{ on := 0, ground := Ground.data }, { on := 0, ground := Ground.phase }, { on := 1, ground := Ground.phase }, { on := 2, ground := Ground.phase }, { on := 3, ground := Ground.phase }, { on := 4, ground := Ground.phase }, { on := 5, ground := Ground.phase }, { on := 6, ground := Ground.phase }, { on := 7, ground := Ground.phase }, { on := 8, ground := Ground.phase }, { on := 9, ground := Ground.phase }, { on := 10, ground := Ground.phase }, { on := 11, ground := Ground.phase }], guard := none }) (v := .pointer (some ⟨g, 0, none⟩)) rfl (by kernel_rfl) (by kernel_rfl) (by kernel_rfl) rfl (fun _ _ _ h => h) (Or.inl ⟨by rfl, ?_⟩) ?_
      · intro w hSw
        first
          | rfl
          | (go_simp; done)
      try simp only [Act.put, List.setIfInBounds_toArray, List.set_cons_zero, List.set_cons_succ]
      refine wpAnyT_pure (i := 13) (oi := { dst := some 43, op := Op.fieldAddr 119 (Operand.tmp 42) 0, type := 0, pos := "sheet.go:51", after := #[{ on := 12, ground := Ground.data }, { on := 0, ground := Ground.phase }, { on := 1, ground := Ground.phase }, { on := 2, ground := Ground.phase }, { on := 3, ground := Ground.phase }, { on := 4, ground := Ground.phase }, { on := 5, ground := Ground.phase }, { on := 6, ground := Ground.phase }, { on := 7, ground := Ground.phase }, { on := 8, ground := Ground.phase }, { on := 9, ground := Ground.phase }, { on := 10, ground := Ground.phase }, { on := 11, ground := Ground.phase }], guard := none }) (v := .pointer (some ⟨g, 0, none⟩)) rfl (by kernel_rfl) (by kernel_rfl) (by kernel_rfl) rfl (fun _ _ _ h => h) (Or.inl ⟨by rfl, ?_⟩) ?_
      · intro w hSw
        first
          | rfl
          | (go_simp; done)
      try simp only [Act.put, List.setIfInBounds_toArray, List.set_cons_zero, List.set_cons_succ]
      have e0 : w3.cell? ⟨g, 0, none⟩ = some dv := (unhide HW3).cell 0
      have y0 : w3.frozen? ⟨g, 0, none⟩ = false := (unhide HW3).frozen 0
      refine wpAnyT_one (i := 14) (o := { dst := none, op := Op.store 24 (Operand.tmp 43) (Operand.tmp 41), type := 0, pos := "sheet.go:51", after := #[{ on := 13, ground := Ground.data }, { on := 11, ground := Ground.data }, { on := 11, ground := Ground.chain }, { on := 0, ground := Ground.phase }, { on := 1, ground := Ground.phase }, { on := 2, ground := Ground.phase }, { on := 3, ground := Ground.phase }, { on := 4, ground := Ground.phase }, { on := 5, ground := Ground.phase }, { on := 6, ground := Ground.phase }, { on := 7, ground := Ground.phase }, { on := 8, ground := Ground.phase }, { on := 9, ground := Ground.phase }, { on := 10, ground := Ground.phase }, { on := 11, ground := Ground.phase }], guard := none }) (by kernel_rfl) rfl (fun K hK => ?_)
      go_simp
      refine hK.out _ _ (fun h => by cases h) ?_
      clear hK K
      try simp only [Act.put, List.setIfInBounds_toArray, List.set_cons_zero, List.set_cons_succ]
      refine wpAnyT_done (by kernel_rfl) ?_ _
      clear e0 y0 HW3
      obtain ⟨w6, hw6⟩ : ∃ z, (w3.setCell ⟨g, 0, none⟩ (.slice (some ⟨kk, 0, none⟩) ((st.done).length + 1) cap)) = z := ⟨_, rfl⟩
      obtain ⟨vw6, hvw6⟩ : ∃ z, Value.slice (some ⟨kk, 0, none⟩) ((st.done).length + 1) cap = z := ⟨_, rfl⟩
      rw [hw6] at HR3 ⊢
      rw [hvw6] at HR3
      have HRw6 := HR3
      clear HR3 hw6 hvw6
      have a3 : w6.cell? ⟨g, 3, none⟩ = some (.int .i64 st.puts) := (unhide HRw6).row.cell 3
      have a2 : w6.cell? ⟨g, 2, none⟩ = some (.int .i64 st.drops) := (unhide HRw6).row.cell 2
      have b3 : w6.frozen? ⟨g, 3, none⟩ = false := (unhide HRw6).row.frozen 3
      have b2 : w6.frozen? ⟨g, 2, none⟩ = false := (unhide HRw6).row.frozen 2
      go_wp2_with fail
      have HT := hide ((unhide HRw6).nums (((unhide HRw6).row.set 3 (.int .i64 0)).set 2 (.int .i64 0)) (((Only.refl (· = g) w6).set g 3 _ rfl).set g 2 _ rfl))
      obtain ⟨w7, hw7⟩ : ∃ z, (w6.setCell ⟨g, 3, none⟩ (.int .i64 0)).setCell ⟨g, 2, none⟩ (.int .i64 0) = z := ⟨_, rfl⟩
      rw [hw7] at HT ⊢
      clear hw7 a2 a3 b2 b3 HRw6
      refine Calls.mono (reset_ok g w7 _ _ _ _ _ _ (unhide HT).row) ?_
      rintro e w8 ⟨rfl, hr8, ho8⟩
      have HT8 := hide ((unhide HT).blank hr8 ho8)
      clear hr8 ho8 HT
      go_wp2_with fail
      go_end0
      skip
      have hDL := unhide HDL
      rw [if_pos hd] at hDL
      rw [← hDL]
      skip
      exact ⟨rfl, _, _, _, .inl rfl, unhide HT8⟩
    · skip
      go_enter Tryd.func87, Tryd.ntmps87
      have a3 : w.cell? ⟨g, 3, none⟩ = some (.int .i64 st.puts) := (unhide HR).row.cell 3
      have a2 : w.cell? ⟨g, 2, none⟩ = some (.int .i64 st.drops) := (unhide HR).row.cell 2
      have b3 : w.frozen? ⟨g, 3, none⟩ = false := (unhide HR).row.frozen 3
      have b2 : w.frozen? ⟨g, 2, none⟩ = false := (unhide HR).row.frozen 2
      go_wp2_with fail
      have HT := hide ((unhide HR).nums (((unhide HR).row.set 3 (.int .i64 0)).set 2 (.int .i64 0)) (((Only.refl (· = g) w).set g 3 _ rfl).set g 2 _ rfl))
      obtain ⟨w7, hw7⟩ : ∃ z, (w.setCell ⟨g, 3, none⟩ (.int .i64 0)).setCell ⟨g, 2, none⟩ (.int .i64 0) = z := ⟨_, rfl⟩
      rw [hw7] at HT ⊢
      clear hw7 a2 a3 b2 b3 HR
      refine Calls.mono (reset_ok g w7 _ _ _ _ _ _ (unhide HT).row) ?_
      rintro e w8 ⟨rfl, hr8, ho8⟩
      have HT8 := hide ((unhide HT).blank hr8 ho8)
      clear hr8 ho8 HT
      go_wp2_with fail
      go_end0
      skip
      have hDL := unhide HDL
      rw [if_neg (by omega)] at hDL
      rw [← hDL]
      try rw [List.append_nil]
      exact ⟨rfl, _, _, _, .inl rfl, unhide HT8⟩
end Go.Proofs.YtonabfpgdgnpnaaDoor
