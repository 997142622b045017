/- Parts of the walk: Sht, Add, Fit, Nrm. -/
import Derived.Test.YtonabfpgdgnpnaaDoorMz00
import Derived.Shelf.Unicode.ValidAny
namespace Go.Proofs.YtonabfpgdgnpnaaDoor
set_option linter.unusedVariables false
set_option linter.unusedSimpArgs false
open Go.ChangeShapes Go.WideShapes Go.ChangeAt Go.RowKit Go.Joins Go.Deep

/-- the cells of parts, one behind the other -/
def ptc (l : List Pt) : List Value := l.flatMap pcs
theorem ptc_len (l : List Pt) : (ptc l).length = l.length * 3 := by
  induction l with
  | nil => rfl
  | cons p l ih => simp only [ptc, List.flatMap_cons, List.length_append, List.length_cons] at ih ⊢; rw [ih]; simp [pcs]; omega
theorem ptc_snoc (l : List Pt) (p : Pt) : ptc (l ++ [p]) = ptc l ++ pcs p := by simp [ptc]
theorem ptc_at : ∀ (l : List Pt) (i : Nat) (p : Pt), l[i]? = some p → (ptc l)[i * 3]? = some (.int .i64 p.kind) ∧ (ptc l)[i * 3 + 1]? = some (.int .i64 p.n) ∧ (ptc l)[i * 3 + 2]? = some (.string p.text)
  | [], i, p, h => by simp at h
  | q :: l, 0, p, h => by
    obtain rfl : q = p := by simpa using h
    exact ⟨rfl, rfl, rfl⟩
  | q :: l, i + 1, p, h => by
    have ih := ptc_at l i p (by simpa using h)
    have e : ∀ j, (ptc (q :: l))[(i + 1) * 3 + j]? = (ptc l)[i * 3 + j]? := fun j => by
      show (pcs q ++ ptc l)[(i + 1) * 3 + j]? = _
      rw [List.getElem?_append_right (by simp [pcs]; omega)]
      congr 1
      simp [pcs]
      omega
    have e0 := e 0
    simp only [Nat.add_zero] at e0
    rw [e0, e 1, e 2]
    exact ih
theorem infoPart : ∃ i, Tryd.prog.info? 39 = some i ∧ i.zero = some (.agg #[.int .i64 0, .int .i64 0, .string ⟨#[]⟩]) ∧ i.size = 3 ∧ i.bytes = 32 := info_parts (by kernel_rfl)
/-- a part behind those of an own row -/
theorem wp_append_part {o : Oper} {a : Act} {K : Act → World → Prop} {Q : Exit → Act → World → Prop} {W : World} (s x : Operand)
    (ho : o.op = .call { callee := .builtin .append, args := #[s, x], argTypes := #[24, 24] }) (B : Nat) (v : Value) (n : Nat) (xs : List Value) (p : Pt) (q c : Nat)
    (hs : a.eval s = v) (hv : W.ownsRow B 39 3 v n xs) (hn : n < 4398046511104) (hB : B ≤ W.heap.size) (hx : a.eval x = .slice (some ⟨q, 0, none⟩) 1 c) (hq : ∀ j u, (pcs p)[j]? = some u → W.cell? ⟨q, j, none⟩ = some u)
    (h : ∀ g cap w', w'.ownsRow B 39 3 (.slice (some ⟨g, 0, none⟩) (n + 1) cap) (n + 1) (xs ++ pcs p) → Only (fun k => v.ownBlock = some k) W w' → (v.ownBlock = some g ∨ g = W.heap.size) → K (a.put o.dst (.slice (some ⟨g, 0, none⟩) (n + 1) cap)) w') : o.wp Tryd.prog a W K Q := by
  obtain ⟨i0, hi, hz, hsz, hb⟩ := infoPart
  refine wp_append_lies _ s x 24 ho B 39 i0 _ 3 32 Tryd.underlying24 hi hz hsz hb (by simp [Value.cells]) (by decide) v n xs hs hv ⟨q, 0, none⟩ 1 c (pcs p) hx rfl (fun j u hu => ?_) (fun u hu => ?_) (by decide) (by unfold maxLen; omega) (by omega) hB W.heap.size rfl ?_
  · have := hq j u hu
    rw [Addr.add_lit, Nat.zero_add]
    exact this
  · simp only [pcs, List.mem_cons, List.not_mem_nil, or_false] at hu
    rcases hu with rfl | rfl | rfl <;> rfl
  · intro g cap w' h1 h2 h3 _
    exact h g cap w' h1 (grown_only h2) h3
/-- what a sheet holds -/
structure St where
  done : List Pt
  kept : Int
  drops : Int
  puts : Int
  text : List UInt8
theorem own_ne {w : World} {B1 B2 s1 s2 n1 n2 : Nat} {e1 e2 : TypeId} {v1 v2 : Value} {x1 x2 : List Value} (h1 : w.ownsRow B1 e1 s1 v1 n1 x1) (h2 : w.ownsRow B2 e2 s2 v2 n2 x2) (hne : e1 ≠ e2) : ∀ k, v1.ownBlock = some k → v2.ownBlock ≠ some k := by
  intro k hk hk2
  rcases h1.2 with ⟨rfl, _⟩ | ⟨g, c, cur, rfl, _, e', _⟩
  · cases hk
  rcases h2.2 with ⟨rfl, _⟩ | ⟨g', c', cur', rfl, _, e'', _⟩
  · cases hk2
  obtain rfl : g = k := by simpa [Value.ownBlock] using hk
  obtain rfl : g' = g := by simpa [Value.ownBlock] using hk2
  rw [e'] at e''
  simp at e''
  exact hne e''.2
theorem own_lit {kk n cap s : Nat} {dv : Value} (h : dv.ownBlock = some kk ∨ kk = s) : ∀ q, (Value.slice (some ⟨kk, 0, none⟩) n cap).ownBlock = some q → dv.ownBlock = some q ∨ q = s := by
  intro q hq
  obtain rfl : kk = q := by simpa [Value.ownBlock] using hq
  exact h
/-- a sheet's block, parts and, where they are known, bytes; nothing below B has turned -/
structure Rw (w0 w : World) (B g : Nat) (dv : Value) (k d u : Int) (av bv : Value) (done : List Pt) (bb : Option (List UInt8)) (bx : Option (Nat × List Value)) : Prop where
  row : RowAt w g 119 [dv, .int .i64 k, .int .i64 d, .int .i64 u, av, bv]
  parts : w.ownsRow B 39 3 dv done.length (ptc done)
  bytes : ∀ x, bb = some x → w.ownsRow B 5 1 bv x.length (Lib.byteCells x)
  bel : Below B w0 w
  sz : B ≤ w.heap.size
  le : B ≤ g
  box : ∀ q cs, bx = some (q, cs) → RowAt w q 39 cs ∧ dv.ownBlock ≠ some q
theorem Rw.call {w0 w w' : World} {B g : Nat} {dv : Value} {k d u : Int} {av bv : Value} {done : List Pt} {bb : Option (List UInt8)} {bx : Option (Nat × List Value)} (h : Rw w0 w B g dv k d u av bv done bb bx) (hb : Below w.heap.size w w') : Rw w0 w' B g dv k d u av bv done bb bx :=
  ⟨h.row.below hb h.row.lt, own_call h.parts hb, fun x e => own_call (h.bytes x e) hb, h.bel.trans (hb.mono h.sz), Nat.le_trans h.sz hb.size, h.le, fun q cs e => ⟨(h.box q cs e).1.below hb (h.box q cs e).1.lt, (h.box q cs e).2⟩⟩
theorem Rw.dne {w0 w : World} {B g : Nat} {dv : Value} {k d u : Int} {av bv : Value} {done : List Pt} {bb : Option (List UInt8)} {bx : Option (Nat × List Value)} (h : Rw w0 w B g dv k d u av bv done bb bx) : dv.ownBlock ≠ some g := tag_ne h.parts h.row (by decide)
/-- the bytes may have turned -/
theorem Rw.lose {w0 w w' : World} {B g : Nat} {dv : Value} {k d u : Int} {av bv : Value} {done : List Pt} {x : List UInt8} {bx : Option (Nat × List Value)} (h : Rw w0 w B g dv k d u av bv done (some x) bx) (ho : Only (fun k => bv.ownBlock = some k) w w') : Rw w0 w' B g dv k d u av bv done none bx := by
  have hb := h.bytes x rfl
  refine ⟨h.row.only ho (fun e => tag_ne hb h.row (by decide) e), own_only h.parts ho (fun k hk e => own_ne h.parts hb (by decide) k hk e), fun x e => (by cases e), h.bel.trans (ho.below h.sz (fun k hk => (hb.lt k hk).1)), Nat.le_trans h.sz ho.size, h.le, fun q cs e => ⟨(h.box q cs e).1.only ho (fun e' => tag_ne hb (h.box q cs e).1 (by decide) e'), (h.box q cs e).2⟩⟩
/-- parts are put behind: they are own already, not yet the sheet's -/
theorem Rw.grow {w0 w w' : World} {B g : Nat} {dv v' : Value} {k d u : Int} {av bv : Value} {done : List Pt} {bb : Option (List UInt8)} {p : Pt} {bx : Option (Nat × List Value)} (h : Rw w0 w B g dv k d u av bv done bb bx) (hv : w'.ownsRow B 39 3 v' (done.length + 1) (ptc done ++ pcs p)) (ho : Only (fun k => dv.ownBlock = some k) w w') (hk : ∀ q, v'.ownBlock = some q → dv.ownBlock = some q ∨ q = w.heap.size) :
    RowAt w' g 119 [dv, .int .i64 k, .int .i64 d, .int .i64 u, av, bv] ∧ Rw w0 (w'.setCell ⟨g, 0, none⟩ v') B g v' k d u av bv (done ++ [p]) bb bx := by
  have hr := h.row.only ho (fun e => h.dne e)
  have o2 : Only (· = g) w' (w'.setCell ⟨g, 0, none⟩ v') := (Only.refl (· = g) w').set g 0 _ rfl
  refine ⟨hr, hr.set 0 v', ?_, ?_, ?_, Nat.le_trans (Nat.le_trans h.sz ho.size) o2.size, h.le, fun q cs e => ?_⟩
  · rw [List.length_append, List.length_singleton, ptc_snoc]
    exact own_only hv o2 (fun k hk e => tag_ne hv hr (by decide) (e ▸ hk))
  · intro x e
    have hb := h.bytes x e
    have hb1 := own_only hb ho (fun k hk e => own_ne h.parts hb (by decide) k e hk)
    exact own_only hb1 o2 (fun k hk e => tag_ne hb1 hr (by decide) (e ▸ hk))
  · exact (h.bel.trans (ho.below h.sz (fun k hk => (h.parts.lt k hk).1))).trans (o2.below (Nat.le_trans h.sz ho.size) (fun k hk => by rw [hk]; exact h.le))
  · obtain ⟨b1, b2⟩ := h.box q cs e
    refine ⟨(b1.only ho (fun e' => b2 e')).only o2 (fun e' => rtag b1 h.row (by decide) e'), fun e' => ?_⟩
    rcases hk q e' with h1 | h1
    · exact b2 h1
    · have := b1.lt; omega
/-- numbers are set -/
theorem Rw.nums {w0 w w' : World} {B g : Nat} {dv : Value} {k d u k' d' u' : Int} {av bv : Value} {done : List Pt} {bb : Option (List UInt8)} {bx : Option (Nat × List Value)} (h : Rw w0 w B g dv k d u av bv done bb bx) (hr : RowAt w' g 119 [dv, .int .i64 k', .int .i64 d', .int .i64 u', av, bv]) (ho : Only (· = g) w w') : Rw w0 w' B g dv k' d' u' av bv done bb bx :=
  ⟨hr, own_only h.parts ho (fun k hk e => h.dne (e ▸ hk)), fun x e => own_only (h.bytes x e) ho (fun k hk e' => tag_ne (h.bytes x e) h.row (by decide) (e' ▸ hk)), h.bel.trans (ho.below h.sz (fun k hk => by rw [hk]; exact h.le)), Nat.le_trans h.sz ho.size, h.le, fun q cs e => ⟨(h.box q cs e).1.only ho (fun e' => rtag (h.box q cs e).1 h.row (by decide) e'), (h.box q cs e).2⟩⟩
/-- a sheet lies there, and nothing below B has turned since w0 -/
def Sh (w0 w : World) (B g : Nat) (st : St) (bx : Option (Nat × List Value)) : Prop := ∃ dv av bv, ownPtr g av ∧ Rw w0 w B g dv st.kept st.drops st.puts av bv st.done (some st.text) bx
theorem Sh.call {w0 w w' : World} {B g : Nat} {st : St} {bx : Option (Nat × List Value)} (h : Sh w0 w B g st bx) (hb : Below w.heap.size w w') : Sh w0 w' B g st bx := by
  obtain ⟨dv, av, bv, h1, h2⟩ := h
  exact ⟨dv, av, bv, h1, h2.call hb⟩
def endK (st : St) : St := ⟨if 0 < st.kept then st.done ++ [⟨1, st.kept, ByteArray.empty⟩] else st.done, 0, st.drops, st.puts, st.text⟩
def endC (st : St) : St := ⟨(if 0 < st.puts then st.done ++ [⟨2, st.puts, ⟨st.text.toArray⟩⟩] else st.done) ++ (if 0 < st.drops then [⟨3, st.drops, ByteArray.empty⟩] else []), st.kept, 0, 0, []⟩
set_option maxRecDepth 100000 in
set_option maxHeartbeats 4000000 in
theorem endKeep_ok (w0 : World) (B g : Nat) (st : St) (bx : Option (Nat × List Value)) (w : World) (h : Sh w0 w B g st bx) (hl : st.done.length < 4398046511104) : Calls Tryd.prog 88 #[.pointer (some ⟨g, 0, none⟩)] w fun r w' => r = .returned (.tuple #[]) ∧ Sh w0 w' B g (endK st) bx := by
  obtain ⟨dv, av, bv, HP, h⟩ := h
  have HP := hide HP
  have c0 : w.cell? ⟨g, 0, none⟩ = some dv := h.row.cell 0
  have c1 : w.cell? ⟨g, 1, none⟩ = some (.int .i64 st.kept) := h.row.cell 1
  have z1 : w.frozen? ⟨g, 1, none⟩ = false := h.row.frozen 1
  have HR := hide h
  unfold endK
  clear h
  by_cases hk : 0 < st.kept
  · rw [if_pos hk]
    clear z1
    go_enter Tryd.func88, Tryd.ntmps88
    go_wp2_with fail
    clear c0 c1
    have HR0 := hide ((unhide HR).call (Below.drew (Below.refl _ w)))
    refine wp_region_T (S := fun W => W.cell? ⟨g, 0, none⟩ = some dv ∧ W.cell? ⟨g, 1, none⟩ = some (.int .i64 st.kept)) (fun i => decide (i < 12)) (by kernel_rfl) ⟨(unhide HR0).row.cell 0, (unhide HR0).row.cell 1⟩ (fun hHeld => ?_)
    clear HR
    refine tk 0 (v := .pointer (some ⟨g, 0, none⟩)) rfl (Or.inl ⟨by rfl, ?_⟩) hHeld ?_
    · intro w hSw
      obtain ⟨h0, h1⟩ := hSw
      first
        | rfl
        | (go_simp; done)
    try go_frame
    refine tk 1 (v := .pointer (some ⟨g, 0, none⟩)) rfl (Or.inl ⟨by rfl, ?_⟩) hHeld ?_
    · intro w hSw
      obtain ⟨h0, h1⟩ := hSw
      first
        | rfl
        | (go_simp; done)
    try go_frame
    refine tk 2 (v := .pointer (some ⟨g, 0, none⟩)) rfl (Or.inl ⟨by rfl, ?_⟩) hHeld ?_
    · intro w hSw
      obtain ⟨h0, h1⟩ := hSw
      first
        | rfl
        | (go_simp; done)
    try go_frame
    refine tk 3 (v := .pointer (some ⟨g, 0, none⟩)) rfl (Or.inl ⟨by rfl, ?_⟩) hHeld ?_
    · intro w hSw
      obtain ⟨h0, h1⟩ := hSw
      first
        | rfl
        | (go_simp; done)
    try go_frame
    refine tk 4 (v := dv) rfl (Or.inl ⟨by rfl, ?_⟩) hHeld ?_
    · intro w hSw
      obtain ⟨h0, h1⟩ := hSw
      first
        | rfl
        | (go_simp; done)
    try go_frame
    refine tk 5 (v := .pointer (some ⟨g, 0, none⟩)) rfl (Or.inl ⟨by rfl, ?_⟩) hHeld ?_
    · intro w hSw
      obtain ⟨h0, h1⟩ := hSw
      first
        | rfl
        | (go_simp; done)
    try go_frame
    refine tk 6 (v := .pointer (some ⟨g, 0, none⟩)) rfl (Or.inl ⟨by rfl, ?_⟩) hHeld ?_
    · intro w hSw
      obtain ⟨h0, h1⟩ := hSw
      first
        | rfl
        | (go_simp; done)
    try go_frame
    refine tk 7 (v := .pointer (some ⟨g, 1, none⟩)) rfl (Or.inl ⟨by rfl, ?_⟩) hHeld ?_
    · intro w hSw
      obtain ⟨h0, h1⟩ := hSw
      first
        | rfl
        | (go_simp; done)
    try go_frame
    refine tk 8 (v := .int .i64 st.kept) rfl (Or.inl ⟨by rfl, ?_⟩) hHeld ?_
    · intro w hSw
      obtain ⟨h0, h1⟩ := hSw
      first
        | rfl
        | (go_simp; done)
    try go_frame
    refine wpAnyT_one (i := 9) (o := { dst := some 16, op := Op.call { callee := Callee.value (Operand.func 66), args := #[Operand.tmp 15], argTypes := #[3] }, type := 39, pos := "sheet.go:41", after := #[{ on := 8, ground := Ground.data }], guard := none }) (by kernel_rfl) rfl (fun K hK => ?_)
    go_simp
    refine Calls.mono (keep_any st.kept _) ?_
    rintro e w1 ⟨rfl, hb1⟩
    have HR1 := hide ((unhide HR0).call hb1)
    have hS1 : w1.cell? ⟨g, 0, none⟩ = some dv ∧ w1.cell? ⟨g, 1, none⟩ = some (.int .i64 st.kept) := ⟨(unhide HR1).row.cell 0, (unhide HR1).row.cell 1⟩
    clear hb1 HR0
    go_wp2_with fail
    refine hK.out _ _ (fun _ => hS1) ?_
    clear hK K
    clear hS1
    try go_frame
    refine wpAnyT_one (i := 10) (o := { dst := some 17, op := Op.buildSlice 24 1 #[(0, Operand.tmp 16)], type := 24, pos := "sheet.go:41", after := #[{ on := 9, ground := Ground.data }], guard := none }) (by kernel_rfl) rfl (fun K hK => ?_)
    simp only [pv]
    go_simp
    have HR2 := hide ((unhide HR1).call (w' := w1.alloc (.cells #[.int .i64 1, .int .i64 st.kept, .string ByteArray.empty] 39)) ((Below.refl _ _).alloc (Nat.le_refl _) _))
    have HQ := hide (RowAt.new w1 39 [.int .i64 1, .int .i64 st.kept, .string ByteArray.empty])
    clear HR1
    obtain ⟨w2, hw2⟩ : ∃ w2, w1.alloc (.cells #[.int .i64 1, .int .i64 st.kept, .string ByteArray.empty] 39) = w2 := ⟨_, rfl⟩
    obtain ⟨q, hq⟩ : ∃ q, w1.heap.size = q := ⟨_, rfl⟩
    rw [hw2] at HR2 HQ ⊢
    rw [hq] at HQ ⊢
    clear hw2 hq
    have hS2 : w2.cell? ⟨g, 0, none⟩ = some dv ∧ w2.cell? ⟨g, 1, none⟩ = some (.int .i64 st.kept) := ⟨(unhide HR2).row.cell 0, (unhide HR2).row.cell 1⟩
    refine hK.out _ _ (fun _ => hS2) ?_
    clear hK K
    clear hS2
    try go_frame
    refine wpAnyT_one (i := 11) (o := { dst := some 18, op := Op.call { callee := Callee.builtin Builtin.append, args := #[Operand.tmp 11, Operand.tmp 17], argTypes := #[24, 24] }, type := 24, pos := "sheet.go:41", after := #[{ on := 4, ground := Ground.data }, { on := 10, ground := Ground.data }, { on := 9, ground := Ground.chain }], guard := none }) (by kernel_rfl) rfl (fun K hK => ?_)
    refine wp_append_part (Operand.tmp 11) (Operand.tmp 17) rfl B dv (st.done).length (ptc (st.done)) ⟨1, st.kept, ByteArray.empty⟩ q 1 rfl (unhide HR2).parts hl (unhide HR2).sz rfl (fun j u hu => by rw [(unhide HQ).cell]; exact hu) (fun kk cap w3 hv3 ho3 hk3 => ?_)
    have hgr := (unhide HR2).grow hv3 ho3 (own_lit hk3)
    have HR3 := hide hgr.2
    have HW3 := hide hgr.1
    clear hv3 ho3 hk3 hgr HR2 HQ
    have hS3 : w3.cell? ⟨g, 0, none⟩ = some dv ∧ w3.cell? ⟨g, 1, none⟩ = some (.int .i64 st.kept) := ⟨(unhide HW3).cell 0, (unhide HW3).cell 1⟩
    refine hK.out _ _ (fun _ => hS3) ?_
    clear hK K
    clear hS3
    try go_frame
    refine wpAnyT_pure (i := 12) (oi := { dst := some 19, op := Op.nilCheck (Operand.tmp 7), type := 0, pos := "sheet.go:41", after := #[{ on := 0, ground := Ground.data }, { on := 0, ground := Ground.phase }, { on := 1, ground := Ground.phase }, { on := 2, ground := Ground.phase }, { on := 3, ground := Ground.phase }, { on := 4, ground := Ground.phase }, { on := 5, ground := Ground.phase }, { on := 6, ground := Ground.phase }, { on := 7, ground := Ground.phase }, { on := 8, ground := Ground.phase }, { on := 9, ground := Ground.phase }, { on := 10, ground := Ground.phase }, { on := 11, ground := Ground.phase }], guard := none }) (v := .pointer (some ⟨g, 0, none⟩)) rfl (by kernel_rfl) (by kernel_rfl) (by kernel_rfl) rfl (fun _ _ _ h => h) (Or.inl ⟨by rfl, ?_⟩) ?_
    · intro w hSw
      first
        | rfl
        | (go_simp; done)
    try go_frame
    refine wpAnyT_pure (i := 13) (oi := { dst := some 20, op := Op.fieldAddr 119 (Operand.tmp 19) 0, type := 0, pos := "sheet.go:41", after := #[{ on := 12, ground := Ground.data }, { on := 0, ground := Ground.phase }, { on := 1, ground := Ground.phase }, { on := 2, ground := Ground.phase }, { on := 3, ground := Ground.phase }, { on := 4, ground := Ground.phase }, { on := 5, ground := Ground.phase }, { on := 6, ground := Ground.phase }, { on := 7, ground := Ground.phase }, { on := 8, ground := Ground.phase }, { on := 9, ground := Ground.phase }, { on := 10, ground := Ground.phase }, { on := 11, ground := Ground.phase }], guard := none }) (v := .pointer (some ⟨g, 0, none⟩)) rfl (by kernel_rfl) (by kernel_rfl) (by kernel_rfl) rfl (fun _ _ _ h => h) (Or.inl ⟨by rfl, ?_⟩) ?_
    · intro w hSw
      first
        | rfl
        | (go_simp; done)
    try go_frame
    have e0 : w3.cell? ⟨g, 0, none⟩ = some dv := (unhide HW3).cell 0
    have y0 : w3.frozen? ⟨g, 0, none⟩ = false := (unhide HW3).frozen 0
    refine wpAnyT_one (i := 14) (o := { dst := none, op := Op.store 24 (Operand.tmp 20) (Operand.tmp 18), type := 0, pos := "sheet.go:41", after := #[{ on := 13, ground := Ground.data }, { on := 11, ground := Ground.data }, { on := 11, ground := Ground.chain }, { on := 0, ground := Ground.phase }, { on := 1, ground := Ground.phase }, { on := 2, ground := Ground.phase }, { on := 3, ground := Ground.phase }, { on := 4, ground := Ground.phase }, { on := 5, ground := Ground.phase }, { on := 6, ground := Ground.phase }, { on := 7, ground := Ground.phase }, { on := 8, ground := Ground.phase }, { on := 9, ground := Ground.phase }, { on := 10, ground := Ground.phase }, { on := 11, ground := Ground.phase }], guard := none }) (by kernel_rfl) rfl (fun K hK => ?_)
    go_simp
    refine hK.out _ _ (fun h => by cases h) ?_
    clear hK K
    try go_frame
    refine wpAnyT_done (by kernel_rfl) ?_ _
    clear e0 y0 HW3
    obtain ⟨w5, hw5⟩ : ∃ z, (w3.setCell ⟨g, 0, none⟩ (.slice (some ⟨kk, 0, none⟩) ((st.done).length + 1) cap)) = z := ⟨_, rfl⟩
    obtain ⟨vw5, hvw5⟩ : ∃ z, Value.slice (some ⟨kk, 0, none⟩) ((st.done).length + 1) cap = z := ⟨_, rfl⟩
    rw [hw5] at HR3 ⊢
    rw [hvw5] at HR3
    have HRw5 := HR3
    clear HR3 hw5 hvw5
    have c1 : w5.cell? ⟨g, 1, none⟩ = some (.int .i64 st.kept) := (unhide HRw5).row.cell 1
    have z1 : w5.frozen? ⟨g, 1, none⟩ = false := (unhide HRw5).row.frozen 1
    go_wp2_with fail
    go_end0
    exact ⟨rfl, _, _, _, unhide HP, (unhide HRw5).nums ((unhide HRw5).row.set 1 (.int .i64 0)) ((Only.refl (· = g) w5).set g 1 _ rfl)⟩
  · rw [if_neg hk]
    go_enter Tryd.func88, Tryd.ntmps88
    go_wp2_with fail
    go_end0
    exact ⟨rfl, _, _, _, unhide HP, (unhide HR).nums ((unhide HR).row.set 1 (.int .i64 0)) ((Only.refl (· = g) w).set g 1 _ rfl)⟩
/-- the builder is reset -/
theorem Rw.blank {w0 w w' : World} {B g : Nat} {dv : Value} {k d u : Int} {av bv : Value} {done : List Pt} {bb : Option (List UInt8)} {bx : Option (Nat × List Value)} (h : Rw w0 w B g dv k d u av bv done bb bx) (hr : RowAt w' g 119 [dv, .int .i64 k, .int .i64 d, .int .i64 u, .pointer none, .slice none 0 0]) (ho : Only (· = g) w w') : Rw w0 w' B g dv k d u (.pointer none) (.slice none 0 0) done (some []) bx :=
  ⟨hr, own_only h.parts ho (fun k hk e => h.dne (e ▸ hk)), fun x e => (by
    obtain rfl : [] = x := by simpa using e
    exact World.ownsRow_nil _ _ _ _), h.bel.trans (ho.below h.sz (fun k hk => by rw [hk]; exact h.le)), Nat.le_trans h.sz ho.size, h.le, fun q cs e => ⟨(h.box q cs e).1.only ho (fun e' => rtag (h.box q cs e).1 h.row (by decide) e'), (h.box q cs e).2⟩⟩
set_option maxRecDepth 100000 in
set_option maxHeartbeats 4000000 in
theorem endChange_ok (w0 : World) (B g : Nat) (st : St) (bx : Option (Nat × List Value)) (w : World) (h : Sh w0 w B g st bx) (hl : st.done.length + 1 < 4398046511104) (ht : 0 < st.puts → st.text ≠ []) : Calls Tryd.prog 87 #[.pointer (some ⟨g, 0, none⟩)] w fun r w' => r = .returned (.tuple #[]) ∧ Sh w0 w' B g (endC st) bx := by
  obtain ⟨dv, av, bv, HP, h⟩ := h
  have hl0 : st.done.length < 4398046511104 := by omega
  have c3 : w.cell? ⟨g, 3, none⟩ = some (.int .i64 st.puts) := h.row.cell 3
  have c2 : w.cell? ⟨g, 2, none⟩ = some (.int .i64 st.drops) := h.row.cell 2
  have HR := hide h
  unfold endC
  obtain ⟨DL, hDL⟩ : ∃ z : List Pt, (if 0 < st.drops then [⟨3, st.drops, ByteArray.empty⟩] else []) = z := ⟨_, rfl⟩
  rw [hDL]
  have HDL := hide hDL
  clear h HP hDL
  by_cases hu : 0 < st.puts
  · rw [if_pos hu]
    clear c2
    go_enter Tryd.func87, Tryd.ntmps87
    go_wp2_with fail
    clear c3
    have HR0 := hide ((unhide HR).call (Below.drew (Below.refl _ w)))
    refine wp_region_T (S := fun W => W.cell? ⟨g, 0, none⟩ = some dv ∧ W.cell? ⟨g, 3, none⟩ = some (.int .i64 st.puts)) (fun i => decide (i < 16)) (by kernel_rfl) ⟨(unhide HR0).row.cell 0, (unhide HR0).row.cell 3⟩ (fun hHeld => ?_)
    clear HR
    refine tk 0 (v := .pointer (some ⟨g, 0, none⟩)) rfl (Or.inl ⟨by rfl, ?_⟩) hHeld ?_
    · intro w hSw
      obtain ⟨h0, h1⟩ := hSw
      first
        | rfl
        | (go_simp; done)
    try go_frame
    refine tk 1 (v := .pointer (some ⟨g, 0, none⟩)) rfl (Or.inl ⟨by rfl, ?_⟩) hHeld ?_
    · intro w hSw
      obtain ⟨h0, h1⟩ := hSw
      first
        | rfl
        | (go_simp; done)
    try go_frame
    refine tk 2 (v := .pointer (some ⟨g, 0, none⟩)) rfl (Or.inl ⟨by rfl, ?_⟩) hHeld ?_
    · intro w hSw
      obtain ⟨h0, h1⟩ := hSw
      first
        | rfl
        | (go_simp; done)
    try go_frame
    refine tk 3 (v := .pointer (some ⟨g, 0, none⟩)) rfl (Or.inl ⟨by rfl, ?_⟩) hHeld ?_
    · intro w hSw
      obtain ⟨h0, h1⟩ := hSw
      first
        | rfl
        | (go_simp; done)
    try go_frame
    refine tk 4 (v := dv) rfl (Or.inl ⟨by rfl, ?_⟩) hHeld ?_
    · intro w hSw
      obtain ⟨h0, h1⟩ := hSw
      first
        | rfl
        | (go_simp; done)
    try go_frame
    refine tk 5 (v := .pointer (some ⟨g, 0, none⟩)) rfl (Or.inl ⟨by rfl, ?_⟩) hHeld ?_
    · intro w hSw
      obtain ⟨h0, h1⟩ := hSw
      first
        | rfl
        | (go_simp; done)
    try go_frame
    refine tk 6 (v := .pointer (some ⟨g, 0, none⟩)) rfl (Or.inl ⟨by rfl, ?_⟩) hHeld ?_
    · intro w hSw
      obtain ⟨h0, h1⟩ := hSw
      first
        | rfl
        | (go_simp; done)
    try go_frame
    refine tk 7 (v := .pointer (some ⟨g, 3, none⟩)) rfl (Or.inl ⟨by rfl, ?_⟩) hHeld ?_
    · intro w hSw
      obtain ⟨h0, h1⟩ := hSw
      first
        | rfl
        | (go_simp; done)
    try go_frame
    refine tk 8 (v := .int .i64 st.puts) rfl (Or.inl ⟨by rfl, ?_⟩) hHeld ?_
    · intro w hSw
      obtain ⟨h0, h1⟩ := hSw
      first
        | rfl
        | (go_simp; done)
    try go_frame
    refine tk 9 (v := .pointer (some ⟨g, 0, none⟩)) rfl (Or.inl ⟨by rfl, ?_⟩) hHeld ?_
    · intro w hSw
      obtain ⟨h0, h1⟩ := hSw
      first
        | rfl
        | (go_simp; done)
    try go_frame
    refine tk 10 (v := .pointer (some ⟨g, 0, none⟩)) rfl (Or.inl ⟨by rfl, ?_⟩) hHeld ?_
    · intro w hSw
      obtain ⟨h0, h1⟩ := hSw
      first
        | rfl
        | (go_simp; done)
    try go_frame
    refine tk 11 (v := .pointer (some ⟨g, 4, none⟩)) rfl (Or.inl ⟨by rfl, ?_⟩) hHeld ?_
    · intro w hSw
      obtain ⟨h0, h1⟩ := hSw
      first
        | rfl
        | (go_simp; done)
    try go_frame
    refine wpAnyT_one (i := 12) (o := { dst := some 19, op := Op.call { callee := Callee.value (Operand.func 42), args := #[Operand.tmp 18], argTypes := #[71] }, type := 9, pos := "sheet.go:48", after := #[{ on := 11, ground := Ground.data }], guard := none }) (by kernel_rfl) rfl (fun K hK => ?_)
    go_simp
    refine Calls.mono (string_ok g _ B dv _ _ _ av bv st.text (unhide HR0).row ((unhide HR0).bytes _ rfl) (ht hu)) ?_
    rintro e w9 ⟨rfl, ho9⟩
    have HR9 := hide ((unhide HR0).lose ho9)
    clear ho9 HR0
    have hS9 : w9.cell? ⟨g, 0, none⟩ = some dv ∧ w9.cell? ⟨g, 3, none⟩ = some (.int .i64 st.puts) := ⟨(unhide HR9).row.cell 0, (unhide HR9).row.cell 3⟩
    go_wp2_with fail
    refine hK.out _ _ (fun _ => hS9) ?_
    clear hK K
    clear hS9
    try go_frame
    refine wpAnyT_one (i := 13) (o := { dst := some 20, op := Op.call { callee := Callee.value (Operand.func 90), args := #[Operand.tmp 15, Operand.tmp 19], argTypes := #[3, 9] }, type := 39, pos := "sheet.go:48", after := #[{ on := 8, ground := Ground.data }, { on := 12, ground := Ground.data }, { on := 12, ground := Ground.chain }], guard := none }) (by kernel_rfl) rfl (fun K hK => ?_)
    go_simp
    refine Calls.mono (put_any st.puts ⟨st.text.toArray⟩ _) ?_
    rintro e w1 ⟨rfl, hb1⟩
    have HR1 := hide ((unhide HR9).call hb1)
    have hS1 : w1.cell? ⟨g, 0, none⟩ = some dv ∧ w1.cell? ⟨g, 3, none⟩ = some (.int .i64 st.puts) := ⟨(unhide HR1).row.cell 0, (unhide HR1).row.cell 3⟩
    clear hb1 HR9
    go_wp2_with fail
    refine hK.out _ _ (fun _ => hS1) ?_
    clear hK K
    clear hS1
    try go_frame
    refine wpAnyT_one (i := 14) (o := { dst := some 21, op := Op.buildSlice 24 1 #[(0, Operand.tmp 20)], type := 24, pos := "sheet.go:48", after := #[{ on := 13, ground := Ground.data }], guard := none }) (by kernel_rfl) rfl (fun K hK => ?_)
    simp only [pv]
    go_simp
    have HR2 := hide ((unhide HR1).call (w' := w1.alloc (.cells #[.int .i64 2, .int .i64 st.puts, .string ⟨st.text.toArray⟩] 39)) ((Below.refl _ _).alloc (Nat.le_refl _) _))
    have HQ := hide (RowAt.new w1 39 [.int .i64 2, .int .i64 st.puts, .string ⟨st.text.toArray⟩])
    clear HR1
    obtain ⟨w2, hw2⟩ : ∃ w2, w1.alloc (.cells #[.int .i64 2, .int .i64 st.puts, .string ⟨st.text.toArray⟩] 39) = w2 := ⟨_, rfl⟩
    obtain ⟨q, hq⟩ : ∃ q, w1.heap.size = q := ⟨_, rfl⟩
    rw [hw2] at HR2 HQ ⊢
    rw [hq] at HQ ⊢
    clear hw2 hq
    have hS2 : w2.cell? ⟨g, 0, none⟩ = some dv ∧ w2.cell? ⟨g, 3, none⟩ = some (.int .i64 st.puts) := ⟨(unhide HR2).row.cell 0, (unhide HR2).row.cell 3⟩
    refine hK.out _ _ (fun _ => hS2) ?_
    clear hK K
    clear hS2
    try go_frame
    refine wpAnyT_one (i := 15) (o := { dst := some 22, op := Op.call { callee := Callee.builtin Builtin.append, args := #[Operand.tmp 11, Operand.tmp 21], argTypes := #[24, 24] }, type := 24, pos := "sheet.go:48", after := #[{ on := 4, ground := Ground.data }, { on := 14, ground := Ground.data }, { on := 13, ground := Ground.chain }], guard := none }) (by kernel_rfl) rfl (fun K hK => ?_)
    refine wp_append_part (Operand.tmp 11) (Operand.tmp 21) rfl B dv (st.done).length (ptc (st.done)) ⟨2, st.puts, ⟨st.text.toArray⟩⟩ q 1 rfl (unhide HR2).parts hl0 (unhide HR2).sz rfl (fun j u hu => by rw [(unhide HQ).cell]; exact hu) (fun kk cap w3 hv3 ho3 hk3 => ?_)
    have hgr := (unhide HR2).grow hv3 ho3 (own_lit hk3)
    have HR3 := hide hgr.2
    have HW3 := hide hgr.1
    clear hv3 ho3 hk3 hgr HR2 HQ
    have hS3 : w3.cell? ⟨g, 0, none⟩ = some dv ∧ w3.cell? ⟨g, 3, none⟩ = some (.int .i64 st.puts) := ⟨(unhide HW3).cell 0, (unhide HW3).cell 3⟩
    refine hK.out _ _ (fun _ => hS3) ?_
    clear hK K
    clear hS3
    try go_frame
    refine wpAnyT_pure (i := 16) (oi := { dst := some 23, op := Op.nilCheck (Operand.tmp 7), type := 0, pos := "sheet.go:48", after := #[{ on := 0, ground := Ground.data }, { on := 0, ground := Ground.phase }, { on := 1, ground := Ground.phase }, { on := 2, ground := Ground.phase }, { on := 3, ground := Ground.phase }, { on := 4, ground := Ground.phase }, { on := 5, ground := Ground.phase }, { on := 6, ground := Ground.phase }, { on := 7, ground := Ground.phase }, { on := 8, ground := Ground.phase }, { on := 9, ground := Ground.phase }, { on := 10, ground := Ground.phase }, { on := 11, ground := Ground.phase }, { on := 12, ground := Ground.phase }, { on := 13, ground := Ground.phase }, { on := 14, ground := Ground.phase }, { on := 15, ground := Ground.phase }], guard := none }) (v := .pointer (some ⟨g, 0, none⟩)) rfl (by kernel_rfl) (by kernel_rfl) (by kernel_rfl) rfl (fun _ _ _ h => h) (Or.inl ⟨by rfl, ?_⟩) ?_
    · intro w hSw
      first
        | rfl
        | (go_simp; done)
    try go_frame
    refine wpAnyT_pure (i := 17) (oi := { dst := some 24, op := Op.fieldAddr 119 (Operand.tmp 23) 0, type := 0, pos := "sheet.go:48", after := #[{ on := 16, ground := Ground.data }, { on := 0, ground := Ground.phase }, { on := 1, ground := Ground.phase }, { on := 2, ground := Ground.phase }, { on := 3, ground := Ground.phase }, { on := 4, ground := Ground.phase }, { on := 5, ground := Ground.phase }, { on := 6, ground := Ground.phase }, { on := 7, ground := Ground.phase }, { on := 8, ground := Ground.phase }, { on := 9, ground := Ground.phase }, { on := 10, ground := Ground.phase }, { on := 11, ground := Ground.phase }, { on := 12, ground := Ground.phase }, { on := 13, ground := Ground.phase }, { on := 14, ground := Ground.phase }, { on := 15, ground := Ground.phase }], guard := none }) (v := .pointer (some ⟨g, 0, none⟩)) rfl (by kernel_rfl) (by kernel_rfl) (by kernel_rfl) rfl (fun _ _ _ h => h) (Or.inl ⟨by rfl, ?_⟩) ?_
    · intro w hSw
      first
        | rfl
        | (go_simp; done)
    try go_frame
    have e0 : w3.cell? ⟨g, 0, none⟩ = some dv := (unhide HW3).cell 0
    have y0 : w3.frozen? ⟨g, 0, none⟩ = false := (unhide HW3).frozen 0
    refine wpAnyT_one (i := 18) (o := { dst := none, op := Op.store 24 (Operand.tmp 24) (Operand.tmp 22), type := 0, pos := "sheet.go:48", after := #[{ on := 17, ground := Ground.data }, { on := 15, ground := Ground.data }, { on := 15, ground := Ground.chain }, { on := 0, ground := Ground.phase }, { on := 1, ground := Ground.phase }, { on := 2, ground := Ground.phase }, { on := 3, ground := Ground.phase }, { on := 4, ground := Ground.phase }, { on := 5, ground := Ground.phase }, { on := 6, ground := Ground.phase }, { on := 7, ground := Ground.phase }, { on := 8, ground := Ground.phase }, { on := 9, ground := Ground.phase }, { on := 10, ground := Ground.phase }, { on := 11, ground := Ground.phase }, { on := 12, ground := Ground.phase }, { on := 13, ground := Ground.phase }, { on := 14, ground := Ground.phase }, { on := 15, ground := Ground.phase }], guard := none }) (by kernel_rfl) rfl (fun K hK => ?_)
    go_simp
    refine hK.out _ _ (fun h => by cases h) ?_
    clear hK K
    try go_frame
    refine wpAnyT_done (by kernel_rfl) ?_ _
    clear e0 y0 HW3
    obtain ⟨w5, hw5⟩ : ∃ z, (w3.setCell ⟨g, 0, none⟩ (.slice (some ⟨kk, 0, none⟩) ((st.done).length + 1) cap)) = z := ⟨_, rfl⟩
    obtain ⟨vw5, hvw5⟩ : ∃ z, Value.slice (some ⟨kk, 0, none⟩) ((st.done).length + 1) cap = z := ⟨_, rfl⟩
    rw [hw5] at HR3 ⊢
    rw [hvw5] at HR3
    have HRw5 := HR3
    clear HR3 hw5 hvw5
    have c2 : w5.cell? ⟨g, 2, none⟩ = some (.int .i64 st.drops) := (unhide HRw5).row.cell 2
    by_cases hd : 0 < st.drops
    · obtain ⟨dn, hdn⟩ : ∃ z : List Pt, st.done ++ [⟨2, st.puts, ⟨st.text.toArray⟩⟩] = z := ⟨_, rfl⟩
      have hln : dn.length < 4398046511104 := by rw [← hdn, List.length_append, List.length_singleton]; exact hl
      rw [hdn] at HRw5
      have HDN := hide hdn
      clear hdn
      go_wp2_with fail
      clear c2
      have HR0 := hide ((unhide HRw5).call (Below.drew (Below.refl _ w5)))
      refine wp_region_T (S := fun W => W.cell? ⟨g, 0, none⟩ = some vw5 ∧ W.cell? ⟨g, 2, none⟩ = some (.int .i64 st.drops)) (fun i => decide (i < 12)) (by kernel_rfl) ⟨(unhide HR0).row.cell 0, (unhide HR0).row.cell 2⟩ (fun hHeld => ?_)
      clear HRw5
      refine tk 0 (v := .pointer (some ⟨g, 0, none⟩)) rfl (Or.inl ⟨by rfl, ?_⟩) hHeld ?_
      · intro w hSw
        obtain ⟨h0, h1⟩ := hSw
        first
          | rfl
          | (go_simp; done)
      try go_frame
      refine tk 1 (v := .pointer (some ⟨g, 0, none⟩)) rfl (Or.inl ⟨by rfl, ?_⟩) hHeld ?_
      · intro w hSw
        obtain ⟨h0, h1⟩ := hSw
        first
          | rfl
          | (go_simp; done)
      try go_frame
      refine tk 2 (v := .pointer (some ⟨g, 0, none⟩)) rfl (Or.inl ⟨by rfl, ?_⟩) hHeld ?_
      · intro w hSw
        obtain ⟨h0, h1⟩ := hSw
        first
          | rfl
          | (go_simp; done)
      try go_frame
      refine tk 3 (v := .pointer (some ⟨g, 0, none⟩)) rfl (Or.inl ⟨by rfl, ?_⟩) hHeld ?_
      · intro w hSw
        obtain ⟨h0, h1⟩ := hSw
        first
          | rfl
          | (go_simp; done)
      try go_frame
      refine tk 4 (v := vw5) rfl (Or.inl ⟨by rfl, ?_⟩) hHeld ?_
      · intro w hSw
        obtain ⟨h0, h1⟩ := hSw
        first
          | rfl
          | (go_simp; done)
      try go_frame
      refine tk 5 (v := .pointer (some ⟨g, 0, none⟩)) rfl (Or.inl ⟨by rfl, ?_⟩) hHeld ?_
      · intro w hSw
        obtain ⟨h0, h1⟩ := hSw
        first
          | rfl
          | (go_simp; done)
      try go_frame
      refine tk 6 (v := .pointer (some ⟨g, 0, none⟩)) rfl (Or.inl ⟨by rfl, ?_⟩) hHeld ?_
      · intro w hSw
        obtain ⟨h0, h1⟩ := hSw
        first
          | rfl
          | (go_simp; done)
      try go_frame
      refine tk 7 (v := .pointer (some ⟨g, 2, none⟩)) rfl (Or.inl ⟨by rfl, ?_⟩) hHeld ?_
      · intro w hSw
        obtain ⟨h0, h1⟩ := hSw
        first
          | rfl
          | (go_simp; done)
      try go_frame
      refine tk 8 (v := .int .i64 st.drops) rfl (Or.inl ⟨by rfl, ?_⟩) hHeld ?_
      · intro w hSw
        obtain ⟨h0, h1⟩ := hSw
        first
          | rfl
          | (go_simp; done)
      try go_frame
      refine wpAnyT_one (i := 9) (o := { dst := some 39, op := Op.call { callee := Callee.value (Operand.func 91), args := #[Operand.tmp 38], argTypes := #[3] }, type := 39, pos := "sheet.go:51", after := #[{ on := 8, ground := Ground.data }], guard := none }) (by kernel_rfl) rfl (fun K hK => ?_)
      go_simp
      refine Calls.mono (drop_any st.drops _) ?_
      rintro e w1 ⟨rfl, hb1⟩
      have HR1 := hide ((unhide HR0).call hb1)
      have hS1 : w1.cell? ⟨g, 0, none⟩ = some vw5 ∧ w1.cell? ⟨g, 2, none⟩ = some (.int .i64 st.drops) := ⟨(unhide HR1).row.cell 0, (unhide HR1).row.cell 2⟩
      clear hb1 HR0
      go_wp2_with fail
      refine hK.out _ _ (fun _ => hS1) ?_
      clear hK K
      clear hS1
      try go_frame
      refine wpAnyT_one (i := 10) (o := { dst := some 40, op := Op.buildSlice 24 1 #[(0, Operand.tmp 39)], type := 24, pos := "sheet.go:51", after := #[{ on := 9, ground := Ground.data }], guard := none }) (by kernel_rfl) rfl (fun K hK => ?_)
      simp only [pv]
      go_simp
      have HR2 := hide ((unhide HR1).call (w' := w1.alloc (.cells #[.int .i64 3, .int .i64 st.drops, .string ByteArray.empty] 39)) ((Below.refl _ _).alloc (Nat.le_refl _) _))
      have HQ := hide (RowAt.new w1 39 [.int .i64 3, .int .i64 st.drops, .string ByteArray.empty])
      clear HR1
      obtain ⟨w2, hw2⟩ : ∃ w2, w1.alloc (.cells #[.int .i64 3, .int .i64 st.drops, .string ByteArray.empty] 39) = w2 := ⟨_, rfl⟩
      obtain ⟨q, hq⟩ : ∃ q, w1.heap.size = q := ⟨_, rfl⟩
      rw [hw2] at HR2 HQ ⊢
      rw [hq] at HQ ⊢
      clear hw2 hq
      have hS2 : w2.cell? ⟨g, 0, none⟩ = some vw5 ∧ w2.cell? ⟨g, 2, none⟩ = some (.int .i64 st.drops) := ⟨(unhide HR2).row.cell 0, (unhide HR2).row.cell 2⟩
      refine hK.out _ _ (fun _ => hS2) ?_
      clear hK K
      clear hS2
      try go_frame
      refine wpAnyT_one (i := 11) (o := { dst := some 41, op := Op.call { callee := Callee.builtin Builtin.append, args := #[Operand.tmp 34, Operand.tmp 40], argTypes := #[24, 24] }, type := 24, pos := "sheet.go:51", after := #[{ on := 4, ground := Ground.data }, { on := 10, ground := Ground.data }, { on := 9, ground := Ground.chain }], guard := none }) (by kernel_rfl) rfl (fun K hK => ?_)
      refine wp_append_part (Operand.tmp 34) (Operand.tmp 40) rfl B vw5 (dn).length (ptc (dn)) ⟨3, st.drops, ByteArray.empty⟩ q 1 rfl (unhide HR2).parts hln (unhide HR2).sz rfl (fun j u hu => by rw [(unhide HQ).cell]; exact hu) (fun kk cap w3 hv3 ho3 hk3 => ?_)
      have hgr := (unhide HR2).grow hv3 ho3 (own_lit hk3)
      have HR3 := hide hgr.2
      have HW3 := hide hgr.1
      clear hv3 ho3 hk3 hgr HR2 HQ
      have hS3 : w3.cell? ⟨g, 0, none⟩ = some vw5 ∧ w3.cell? ⟨g, 2, none⟩ = some (.int .i64 st.drops) := ⟨(unhide HW3).cell 0, (unhide HW3).cell 2⟩
      refine hK.out _ _ (fun _ => hS3) ?_
      clear hK K
      clear hS3
      try go_frame
      refine wpAnyT_pure (i := 12) (oi := { dst := some 42, op := Op.nilCheck (Operand.tmp 30), type := 0, pos := "sheet.go:51", after := #[{ on := 0, ground := Ground.data }, { on := 0, ground := Ground.phase }, { on := 1, ground := Ground.phase }, { on := 2, ground := Ground.phase }, { on := 3, ground := Ground.phase }, { on := 4, ground := Ground.phase }, { on := 5, ground := Ground.phase }, { on := 6, ground := Ground.phase }, { on := 7, ground := Ground.phase }, { on := 8, ground := Ground.phase }, { on := 9, ground := Ground.phase }, { on := 10, ground := Ground.phase }, { on := 11, ground := Ground.phase }], guard := none }) (v := .pointer (some ⟨g, 0, none⟩)) rfl (by kernel_rfl) (by kernel_rfl) (by kernel_rfl) rfl (fun _ _ _ h => h) (Or.inl ⟨by rfl, ?_⟩) ?_
      · intro w hSw
        first
          | rfl
          | (go_simp; done)
      try go_frame
      refine wpAnyT_pure (i := 13) (oi := { dst := some 43, op := Op.fieldAddr 119 (Operand.tmp 42) 0, type := 0, pos := "sheet.go:51", after := #[{ on := 12, ground := Ground.data }, { on := 0, ground := Ground.phase }, { on := 1, ground := Ground.phase }, { on := 2, ground := Ground.phase }, { on := 3, ground := Ground.phase }, { on := 4, ground := Ground.phase }, { on := 5, ground := Ground.phase }, { on := 6, ground := Ground.phase }, { on := 7, ground := Ground.phase }, { on := 8, ground := Ground.phase }, { on := 9, ground := Ground.phase }, { on := 10, ground := Ground.phase }, { on := 11, ground := Ground.phase }], guard := none }) (v := .pointer (some ⟨g, 0, none⟩)) rfl (by kernel_rfl) (by kernel_rfl) (by kernel_rfl) rfl (fun _ _ _ h => h) (Or.inl ⟨by rfl, ?_⟩) ?_
      · intro w hSw
        first
          | rfl
          | (go_simp; done)
      try go_frame
      have e0 : w3.cell? ⟨g, 0, none⟩ = some vw5 := (unhide HW3).cell 0
      have y0 : w3.frozen? ⟨g, 0, none⟩ = false := (unhide HW3).frozen 0
      refine wpAnyT_one (i := 14) (o := { dst := none, op := Op.store 24 (Operand.tmp 43) (Operand.tmp 41), type := 0, pos := "sheet.go:51", after := #[{ on := 13, ground := Ground.data }, { on := 11, ground := Ground.data }, { on := 11, ground := Ground.chain }, { on := 0, ground := Ground.phase }, { on := 1, ground := Ground.phase }, { on := 2, ground := Ground.phase }, { on := 3, ground := Ground.phase }, { on := 4, ground := Ground.phase }, { on := 5, ground := Ground.phase }, { on := 6, ground := Ground.phase }, { on := 7, ground := Ground.phase }, { on := 8, ground := Ground.phase }, { on := 9, ground := Ground.phase }, { on := 10, ground := Ground.phase }, { on := 11, ground := Ground.phase }], guard := none }) (by kernel_rfl) rfl (fun K hK => ?_)
      go_simp
      refine hK.out _ _ (fun h => by cases h) ?_
      clear hK K
      try go_frame
      refine wpAnyT_done (by kernel_rfl) ?_ _
      clear e0 y0 HW3
      obtain ⟨w6, hw6⟩ : ∃ z, (w3.setCell ⟨g, 0, none⟩ (.slice (some ⟨kk, 0, none⟩) ((dn).length + 1) cap)) = z := ⟨_, rfl⟩
      obtain ⟨vw6, hvw6⟩ : ∃ z, Value.slice (some ⟨kk, 0, none⟩) ((dn).length + 1) cap = z := ⟨_, rfl⟩
      rw [hw6] at HR3 ⊢
      rw [hvw6] at HR3
      have HRw6 := HR3
      clear HR3 hw6 hvw6
      have a3 : w6.cell? ⟨g, 3, none⟩ = some (.int .i64 st.puts) := (unhide HRw6).row.cell 3
      have a2 : w6.cell? ⟨g, 2, none⟩ = some (.int .i64 st.drops) := (unhide HRw6).row.cell 2
      have b3 : w6.frozen? ⟨g, 3, none⟩ = false := (unhide HRw6).row.frozen 3
      have b2 : w6.frozen? ⟨g, 2, none⟩ = false := (unhide HRw6).row.frozen 2
      go_wp2_with fail
      have HT := hide ((unhide HRw6).nums (((unhide HRw6).row.set 3 (.int .i64 0)).set 2 (.int .i64 0)) (((Only.refl (· = g) w6).set g 3 _ rfl).set g 2 _ rfl))
      obtain ⟨w7, hw7⟩ : ∃ z, (w6.setCell ⟨g, 3, none⟩ (.int .i64 0)).setCell ⟨g, 2, none⟩ (.int .i64 0) = z := ⟨_, rfl⟩
      rw [hw7] at HT ⊢
      clear hw7 a2 a3 b2 b3 HRw6
      refine Calls.mono (reset_ok g w7 _ _ _ _ _ _ (unhide HT).row) ?_
      rintro e w8 ⟨rfl, hr8, ho8⟩
      have HT8 := hide ((unhide HT).blank hr8 ho8)
      clear hr8 ho8 HT
      go_wp2_with fail
      go_end0
      rw [unhide HDN]
      have hDL := unhide HDL
      rw [if_pos hd] at hDL
      rw [← hDL]
      skip
      exact ⟨rfl, _, _, _, .inl rfl, unhide HT8⟩
    · skip
      clear c2
      have c2 : w5.cell? ⟨g, 2, none⟩ = some (.int .i64 st.drops) := (unhide HRw5).row.cell 2
      have a3 : w5.cell? ⟨g, 3, none⟩ = some (.int .i64 st.puts) := (unhide HRw5).row.cell 3
      have a2 : w5.cell? ⟨g, 2, none⟩ = some (.int .i64 st.drops) := (unhide HRw5).row.cell 2
      have b3 : w5.frozen? ⟨g, 3, none⟩ = false := (unhide HRw5).row.frozen 3
      have b2 : w5.frozen? ⟨g, 2, none⟩ = false := (unhide HRw5).row.frozen 2
      go_wp2_with fail
      have HT := hide ((unhide HRw5).nums (((unhide HRw5).row.set 3 (.int .i64 0)).set 2 (.int .i64 0)) (((Only.refl (· = g) w5).set g 3 _ rfl).set g 2 _ rfl))
      obtain ⟨w7, hw7⟩ : ∃ z, (w5.setCell ⟨g, 3, none⟩ (.int .i64 0)).setCell ⟨g, 2, none⟩ (.int .i64 0) = z := ⟨_, rfl⟩
      rw [hw7] at HT ⊢
      clear hw7 a2 a3 b2 b3 HRw5
      refine Calls.mono (reset_ok g w7 _ _ _ _ _ _ (unhide HT).row) ?_
      rintro e w8 ⟨rfl, hr8, ho8⟩
      have HT8 := hide ((unhide HT).blank hr8 ho8)
      clear hr8 ho8 HT
      go_wp2_with fail
      go_end0
      skip
      have hDL := unhide HDL
      rw [if_neg (by omega)] at hDL
      rw [← hDL]
      try rw [List.append_nil]
      exact ⟨rfl, _, _, _, .inl rfl, unhide HT8⟩
  · rw [if_neg hu]
    by_cases hd : 0 < st.drops
    · skip
      go_enter Tryd.func87, Tryd.ntmps87
      go_wp2_with fail
      clear c2 c3
      have HR0 := hide ((unhide HR).call (Below.drew (Below.refl _ w)))
      refine wp_region_T (S := fun W => W.cell? ⟨g, 0, none⟩ = some dv ∧ W.cell? ⟨g, 2, none⟩ = some (.int .i64 st.drops)) (fun i => decide (i < 12)) (by kernel_rfl) ⟨(unhide HR0).row.cell 0, (unhide HR0).row.cell 2⟩ (fun hHeld => ?_)
      clear HR
      refine tk 0 (v := .pointer (some ⟨g, 0, none⟩)) rfl (Or.inl ⟨by rfl, ?_⟩) hHeld ?_
      · intro w hSw
        obtain ⟨h0, h1⟩ := hSw
        first
          | rfl
          | (go_simp; done)
      try go_frame
      refine tk 1 (v := .pointer (some ⟨g, 0, none⟩)) rfl (Or.inl ⟨by rfl, ?_⟩) hHeld ?_
      · intro w hSw
        obtain ⟨h0, h1⟩ := hSw
        first
          | rfl
          | (go_simp; done)
      try go_frame
      refine tk 2 (v := .pointer (some ⟨g, 0, none⟩)) rfl (Or.inl ⟨by rfl, ?_⟩) hHeld ?_
      · intro w hSw
        obtain ⟨h0, h1⟩ := hSw
        first
          | rfl
          | (go_simp; done)
      try go_frame
      refine tk 3 (v := .pointer (some ⟨g, 0, none⟩)) rfl (Or.inl ⟨by rfl, ?_⟩) hHeld ?_
      · intro w hSw
        obtain ⟨h0, h1⟩ := hSw
        first
          | rfl
          | (go_simp; done)
      try go_frame
      refine tk 4 (v := dv) rfl (Or.inl ⟨by rfl, ?_⟩) hHeld ?_
      · intro w hSw
        obtain ⟨h0, h1⟩ := hSw
        first
          | rfl
          | (go_simp; done)
      try go_frame
      refine tk 5 (v := .pointer (some ⟨g, 0, none⟩)) rfl (Or.inl ⟨by rfl, ?_⟩) hHeld ?_
      · intro w hSw
        obtain ⟨h0, h1⟩ := hSw
        first
          | rfl
          | (go_simp; done)
      try go_frame
      refine tk 6 (v := .pointer (some ⟨g, 0, none⟩)) rfl (Or.inl ⟨by rfl, ?_⟩) hHeld ?_
      · intro w hSw
        obtain ⟨h0, h1⟩ := hSw
        first
          | rfl
          | (go_simp; done)
      try go_frame
      refine tk 7 (v := .pointer (some ⟨g, 2, none⟩)) rfl (Or.inl ⟨by rfl, ?_⟩) hHeld ?_
      · intro w hSw
        obtain ⟨h0, h1⟩ := hSw
        first
          | rfl
          | (go_simp; done)
      try go_frame
      refine tk 8 (v := .int .i64 st.drops) rfl (Or.inl ⟨by rfl, ?_⟩) hHeld ?_
      · intro w hSw
        obtain ⟨h0, h1⟩ := hSw
        first
          | rfl
          | (go_simp; done)
      try go_frame
      refine wpAnyT_one (i := 9) (o := { dst := some 39, op := Op.call { callee := Callee.value (Operand.func 91), args := #[Operand.tmp 38], argTypes := #[3] }, type := 39, pos := "sheet.go:51", after := #[{ on := 8, ground := Ground.data }], guard := none }) (by kernel_rfl) rfl (fun K hK => ?_)
      go_simp
      refine Calls.mono (drop_any st.drops _) ?_
      rintro e w1 ⟨rfl, hb1⟩
      have HR1 := hide ((unhide HR0).call hb1)
      have hS1 : w1.cell? ⟨g, 0, none⟩ = some dv ∧ w1.cell? ⟨g, 2, none⟩ = some (.int .i64 st.drops) := ⟨(unhide HR1).row.cell 0, (unhide HR1).row.cell 2⟩
      clear hb1 HR0
      go_wp2_with fail
      refine hK.out _ _ (fun _ => hS1) ?_
      clear hK K
      clear hS1
      try go_frame
      refine wpAnyT_one (i := 10) (o := { dst := some 40, op := Op.buildSlice 24 1 #[(0, Operand.tmp 39)], type := 24, pos := "sheet.go:51", after := #[{ on := 9, ground := Ground.data }], guard := none }) (by kernel_rfl) rfl (fun K hK => ?_)
      simp only [pv]
      go_simp
      have HR2 := hide ((unhide HR1).call (w' := w1.alloc (.cells #[.int .i64 3, .int .i64 st.drops, .string ByteArray.empty] 39)) ((Below.refl _ _).alloc (Nat.le_refl _) _))
      have HQ := hide (RowAt.new w1 39 [.int .i64 3, .int .i64 st.drops, .string ByteArray.empty])
      clear HR1
      obtain ⟨w2, hw2⟩ : ∃ w2, w1.alloc (.cells #[.int .i64 3, .int .i64 st.drops, .string ByteArray.empty] 39) = w2 := ⟨_, rfl⟩
      obtain ⟨q, hq⟩ : ∃ q, w1.heap.size = q := ⟨_, rfl⟩
      rw [hw2] at HR2 HQ ⊢
      rw [hq] at HQ ⊢
      clear hw2 hq
      have hS2 : w2.cell? ⟨g, 0, none⟩ = some dv ∧ w2.cell? ⟨g, 2, none⟩ = some (.int .i64 st.drops) := ⟨(unhide HR2).row.cell 0, (unhide HR2).row.cell 2⟩
      refine hK.out _ _ (fun _ => hS2) ?_
      clear hK K
      clear hS2
      try go_frame
      refine wpAnyT_one (i := 11) (o := { dst := some 41, op := Op.call { callee := Callee.builtin Builtin.append, args := #[Operand.tmp 34, Operand.tmp 40], argTypes := #[24, 24] }, type := 24, pos := "sheet.go:51", after := #[{ on := 4, ground := Ground.data }, { on := 10, ground := Ground.data }, { on := 9, ground := Ground.chain }], guard := none }) (by kernel_rfl) rfl (fun K hK => ?_)
      refine wp_append_part (Operand.tmp 34) (Operand.tmp 40) rfl B dv (st.done).length (ptc (st.done)) ⟨3, st.drops, ByteArray.empty⟩ q 1 rfl (unhide HR2).parts hl0 (unhide HR2).sz rfl (fun j u hu => by rw [(unhide HQ).cell]; exact hu) (fun kk cap w3 hv3 ho3 hk3 => ?_)
      have hgr := (unhide HR2).grow hv3 ho3 (own_lit hk3)
      have HR3 := hide hgr.2
      have HW3 := hide hgr.1
      clear hv3 ho3 hk3 hgr HR2 HQ
      have hS3 : w3.cell? ⟨g, 0, none⟩ = some dv ∧ w3.cell? ⟨g, 2, none⟩ = some (.int .i64 st.drops) := ⟨(unhide HW3).cell 0, (unhide HW3).cell 2⟩
      refine hK.out _ _ (fun _ => hS3) ?_
      clear hK K
      clear hS3
      try go_frame
      refine wpAnyT_pure (i := 12) (oi := { dst := some 42, op := Op.nilCheck (Operand.tmp 30), type := 0, pos := "sheet.go:51", after := #[{ on := 0, ground := Ground.data }, { on := 0, ground := Ground.phase }, { on := 1, ground := Ground.phase }, { on := 2, ground := Ground.phase }, { on := 3, ground := Ground.phase }, { on := 4, ground := Ground.phase }, { on := 5, ground := Ground.phase }, { on := 6, ground := Ground.phase }, { on := 7, ground := Ground.phase }, { on := 8, ground := Ground.phase }, { on := 9, ground := Ground.phase }, { on := 10, ground := Ground.phase }, { on := 11, ground := Ground.phase }], guard := none }) (v := .pointer (some ⟨g, 0, none⟩)) rfl (by kernel_rfl) (by kernel_rfl) (by kernel_rfl) rfl (fun _ _ _ h => h) (Or.inl ⟨by rfl, ?_⟩) ?_
      · intro w hSw
        first
          | rfl
          | (go_simp; done)
      try go_frame
      refine wpAnyT_pure (i := 13) (oi := { dst := some 43, op := Op.fieldAddr 119 (Operand.tmp 42) 0, type := 0, pos := "sheet.go:51", after := #[{ on := 12, ground := Ground.data }, { on := 0, ground := Ground.phase }, { on := 1, ground := Ground.phase }, { on := 2, ground := Ground.phase }, { on := 3, ground := Ground.phase }, { on := 4, ground := Ground.phase }, { on := 5, ground := Ground.phase }, { on := 6, ground := Ground.phase }, { on := 7, ground := Ground.phase }, { on := 8, ground := Ground.phase }, { on := 9, ground := Ground.phase }, { on := 10, ground := Ground.phase }, { on := 11, ground := Ground.phase }], guard := none }) (v := .pointer (some ⟨g, 0, none⟩)) rfl (by kernel_rfl) (by kernel_rfl) (by kernel_rfl) rfl (fun _ _ _ h => h) (Or.inl ⟨by rfl, ?_⟩) ?_
      · intro w hSw
        first
          | rfl
          | (go_simp; done)
      try go_frame
      have e0 : w3.cell? ⟨g, 0, none⟩ = some dv := (unhide HW3).cell 0
      have y0 : w3.frozen? ⟨g, 0, none⟩ = false := (unhide HW3).frozen 0
      refine wpAnyT_one (i := 14) (o := { dst := none, op := Op.store 24 (Operand.tmp 43) (Operand.tmp 41), type := 0, pos := "sheet.go:51", after := #[{ on := 13, ground := Ground.data }, { on := 11, ground := Ground.data }, { on := 11, ground := Ground.chain }, { on := 0, ground := Ground.phase }, { on := 1, ground := Ground.phase }, { on := 2, ground := Ground.phase }, { on := 3, ground := Ground.phase }, { on := 4, ground := Ground.phase }, { on := 5, ground := Ground.phase }, { on := 6, ground := Ground.phase }, { on := 7, ground := Ground.phase }, { on := 8, ground := Ground.phase }, { on := 9, ground := Ground.phase }, { on := 10, ground := Ground.phase }, { on := 11, ground := Ground.phase }], guard := none }) (by kernel_rfl) rfl (fun K hK => ?_)
      go_simp
      refine hK.out _ _ (fun h => by cases h) ?_
      clear hK K
      try go_frame
      refine wpAnyT_done (by kernel_rfl) ?_ _
      clear e0 y0 HW3
      obtain ⟨w6, hw6⟩ : ∃ z, (w3.setCell ⟨g, 0, none⟩ (.slice (some ⟨kk, 0, none⟩) ((st.done).length + 1) cap)) = z := ⟨_, rfl⟩
      obtain ⟨vw6, hvw6⟩ : ∃ z, Value.slice (some ⟨kk, 0, none⟩) ((st.done).length + 1) cap = z := ⟨_, rfl⟩
      rw [hw6] at HR3 ⊢
      rw [hvw6] at HR3
      have HRw6 := HR3
      clear HR3 hw6 hvw6
      have a3 : w6.cell? ⟨g, 3, none⟩ = some (.int .i64 st.puts) := (unhide HRw6).row.cell 3
      have a2 : w6.cell? ⟨g, 2, none⟩ = some (.int .i64 st.drops) := (unhide HRw6).row.cell 2
      have b3 : w6.frozen? ⟨g, 3, none⟩ = false := (unhide HRw6).row.frozen 3
      have b2 : w6.frozen? ⟨g, 2, none⟩ = false := (unhide HRw6).row.frozen 2
      go_wp2_with fail
      have HT := hide ((unhide HRw6).nums (((unhide HRw6).row.set 3 (.int .i64 0)).set 2 (.int .i64 0)) (((Only.refl (· = g) w6).set g 3 _ rfl).set g 2 _ rfl))
      obtain ⟨w7, hw7⟩ : ∃ z, (w6.setCell ⟨g, 3, none⟩ (.int .i64 0)).setCell ⟨g, 2, none⟩ (.int .i64 0) = z := ⟨_, rfl⟩
      rw [hw7] at HT ⊢
      clear hw7 a2 a3 b2 b3 HRw6
      refine Calls.mono (reset_ok g w7 _ _ _ _ _ _ (unhide HT).row) ?_
      rintro e w8 ⟨rfl, hr8, ho8⟩
      have HT8 := hide ((unhide HT).blank hr8 ho8)
      clear hr8 ho8 HT
      go_wp2_with fail
      go_end0
      skip
      have hDL := unhide HDL
      rw [if_pos hd] at hDL
      rw [← hDL]
      skip
      exact ⟨rfl, _, _, _, .inl rfl, unhide HT8⟩
    · skip
      go_enter Tryd.func87, Tryd.ntmps87
      have a3 : w.cell? ⟨g, 3, none⟩ = some (.int .i64 st.puts) := (unhide HR).row.cell 3
      have a2 : w.cell? ⟨g, 2, none⟩ = some (.int .i64 st.drops) := (unhide HR).row.cell 2
      have b3 : w.frozen? ⟨g, 3, none⟩ = false := (unhide HR).row.frozen 3
      have b2 : w.frozen? ⟨g, 2, none⟩ = false := (unhide HR).row.frozen 2
      go_wp2_with fail
      have HT := hide ((unhide HR).nums (((unhide HR).row.set 3 (.int .i64 0)).set 2 (.int .i64 0)) (((Only.refl (· = g) w).set g 3 _ rfl).set g 2 _ rfl))
      obtain ⟨w7, hw7⟩ : ∃ z, (w.setCell ⟨g, 3, none⟩ (.int .i64 0)).setCell ⟨g, 2, none⟩ (.int .i64 0) = z := ⟨_, rfl⟩
      rw [hw7] at HT ⊢
      clear hw7 a2 a3 b2 b3 HR
      refine Calls.mono (reset_ok g w7 _ _ _ _ _ _ (unhide HT).row) ?_
      rintro e w8 ⟨rfl, hr8, ho8⟩
      have HT8 := hide ((unhide HT).blank hr8 ho8)
      clear hr8 ho8 HT
      go_wp2_with fail
      go_end0
      skip
      have hDL := unhide HDL
      rw [if_neg (by omega)] at hDL
      rw [← hDL]
      try rw [List.append_nil]
      exact ⟨rfl, _, _, _, .inl rfl, unhide HT8⟩
end Go.Proofs.YtonabfpgdgnpnaaDoor

namespace Go.Proofs.YtonabfpgdgnpnaaDoor
set_option linter.unusedVariables false
set_option linter.unusedSimpArgs false
open Go.ChangeShapes Go.WideShapes Go.ChangeAt Go.RowKit Go.Joins Go.Deep

def addS (st : St) (p : Pt) : St :=
  if p.kind = 1 then ⟨(endC st).done, plusN st.kept p.n, 0, 0, []⟩
  else if p.kind = 3 then ⟨(endK st).done, 0, plusN st.drops p.n, st.puts, st.text⟩
  else ⟨(endK st).done, 0, st.drops, plusN st.puts p.n, st.text ++ p.text.data.toList⟩
/-- a text is written -/
theorem Rw.wrote {w0 w w' : World} {B g : Nat} {dv : Value} {k d u : Int} {av bv bv' : Value} {done : List Pt} {x y : List UInt8} {bx : Option (Nat × List Value)} (h : Rw w0 w B g dv k d u av bv done (some x) bx) (hr : RowAt w' g 119 [dv, .int .i64 k, .int .i64 d, .int .i64 u, .pointer (some ⟨g, 4, none⟩), bv']) (hb : w'.ownsRow B 5 1 bv' y.length (Lib.byteCells y)) (ho : Only (fun k => k = g ∨ bv.ownBlock = some k) w w') : Rw w0 w' B g dv k d u (.pointer (some ⟨g, 4, none⟩)) bv' done (some y) bx := by
  have h0 := h.bytes x rfl
  refine ⟨hr, own_only h.parts ho (fun k hk e => ?_), fun z e => ?_, h.bel.trans (ho.below h.sz (fun k hk => ?_)), Nat.le_trans h.sz ho.size, h.le, fun q cs e => ⟨(h.box q cs e).1.only ho (fun e' => ?_), (h.box q cs e).2⟩⟩
  · rcases e with e | e
    · exact h.dne (e ▸ hk)
    · exact own_ne h.parts h0 (by decide) k hk e
  · obtain rfl : y = z := by simpa using e
    exact hb
  · rcases hk with hk | hk
    · rw [hk]; exact h.le
    · exact (h0.lt k hk).1
  · rcases e' with e' | e'
    · exact rtag (h.box q cs e).1 h.row (by decide) e'
    · exact tag_ne h0 (h.box q cs e).1 (by decide) e'
set_option maxRecDepth 100000 in
set_option maxHeartbeats 4000000 in
theorem add_ok (w0 : World) (B g : Nat) (st : St) (p : Pt) (w : World) (h : Sh w0 w B g st none) (hl : st.done.length + 2 < 4398046511104) (ht : 0 < st.puts → st.text ≠ [])
    (hk : p.kind = 1 ∨ p.kind = 2 ∨ p.kind = 3) (hp0 : 0 ≤ p.n) (hp1 : p.n ≤ 9223372036854775807) (a0 : 0 ≤ st.kept) (a1 : st.kept ≤ 9223372036854775807) (b0 : 0 ≤ st.drops) (b1 : st.drops ≤ 9223372036854775807) (c0 : 0 ≤ st.puts) (c1 : st.puts ≤ 9223372036854775807) (hs : st.text.length + p.text.size ≤ 140737488355328) :
    Calls Tryd.prog 76 #[.pointer (some ⟨g, 0, none⟩), pv p] w fun r w' => r = .returned (.tuple #[]) ∧ Sh w0 w' B g (addS st p) none := by
  have HA : Hid (Sh w0 (w.alloc (.cells #[.int .i64 p.kind, .int .i64 p.n, .string p.text] 39)) B g st (some (w.heap.size, pcs p))) := hide (by
    obtain ⟨dv, av, bv, h1, h2⟩ := h
    have h3 := h2.call (w' := (w.alloc (.cells #[.int .i64 p.kind, .int .i64 p.n, .string p.text] 39))) ((Below.refl _ _).alloc (Nat.le_refl _) _)
    refine ⟨dv, av, bv, h1, h3.row, h3.parts, h3.bytes, h3.bel, h3.sz, h3.le, fun q cs e => ?_⟩
    obtain ⟨rfl, rfl⟩ : w.heap.size = q ∧ pcs p = cs := by simpa using e
    refine ⟨RowAt.new w 39 (pcs p), fun e => ?_⟩
    have := (h2.parts.lt _ e).2
    omega)
  have HS := hide hs
  have k0 : (w.alloc (.cells #[.int .i64 p.kind, .int .i64 p.n, .string p.text] 39)).cell? ⟨w.heap.size, 0, none⟩ = some (.int .i64 p.kind) := (RowAt.new w 39 (pcs p)).cell 0
  obtain ⟨q, hq⟩ : ∃ q, w.heap.size = q := ⟨_, rfl⟩
  rw [hq] at HA k0
  unfold pv addS
  clear h hs
  rcases hk with hk | hk | hk
  · rw [if_pos hk]
    rw [hk] at HA k0 ⊢
    go_enter Tryd.func76, Tryd.ntmps76
    go_wp2_with fail
    refine Calls.mono (endChange_ok w0 B g st (some (q, pcs p)) _ (unhide HA) (by omega) ht) ?_
    rintro r w1 ⟨rfl, dv, av, bv, hp, hr⟩
    have HR := hide hr
    have HP := hide hp
    clear hr hp HA
    go_wp2_with fail
    have HR0 := hide ((unhide HR).call (Below.drew (Below.refl _ w1)))
    refine wp_region_T (S := fun W => W.cell? ⟨g, 1, none⟩ = some (.int .i64 st.kept) ∧ W.cell? ⟨q, 1, none⟩ = some (.int .i64 p.n)) (fun i => decide (i < 8)) (by kernel_rfl) ⟨(unhide HR0).row.cell 1, ((unhide HR0).box _ _ rfl).1.cell 1⟩ (fun hHeld => ?_)
    clear HR
    obtain ⟨wd, hwd⟩ : ∃ z, w1.drew = z := ⟨_, rfl⟩
    rw [hwd] at HR0 hHeld ⊢
    clear hwd
    have s0 : wd.cell? ⟨g, 1, none⟩ = some (.int .i64 st.kept) := (unhide HR0).row.cell 1
    have s1 : wd.cell? ⟨q, 1, none⟩ = some (.int .i64 p.n) := ((unhide HR0).box _ _ rfl).1.cell 1
    refine tk 0 (v := .pointer (some ⟨g, 0, none⟩)) rfl (Or.inl ⟨by rfl, ?_⟩) hHeld ?_
    · intro w hSw
      obtain ⟨h0, h1⟩ := hSw
      first
        | rfl
        | (go_simp; done)
    try go_frame
    refine tk 1 (v := .pointer (some ⟨g, 0, none⟩)) rfl (Or.inl ⟨by rfl, ?_⟩) hHeld ?_
    · intro w hSw
      obtain ⟨h0, h1⟩ := hSw
      first
        | rfl
        | (go_simp; done)
    try go_frame
    refine tk 2 (v := .pointer (some ⟨g, 0, none⟩)) rfl (Or.inl ⟨by rfl, ?_⟩) hHeld ?_
    · intro w hSw
      obtain ⟨h0, h1⟩ := hSw
      first
        | rfl
        | (go_simp; done)
    try go_frame
    refine tk 3 (v := .pointer (some ⟨g, 1, none⟩)) rfl (Or.inl ⟨by rfl, ?_⟩) hHeld ?_
    · intro w hSw
      obtain ⟨h0, h1⟩ := hSw
      first
        | rfl
        | (go_simp; done)
    try go_frame
    refine tk 4 (v := .int .i64 st.kept) rfl (Or.inl ⟨by rfl, ?_⟩) hHeld ?_
    · intro w hSw
      obtain ⟨h0, h1⟩ := hSw
      first
        | rfl
        | (go_simp; done)
    try go_frame
    refine tk 5 (v := .pointer (some ⟨q, 1, none⟩)) rfl (Or.inl ⟨by rfl, ?_⟩) hHeld ?_
    · intro w hSw
      obtain ⟨h0, h1⟩ := hSw
      first
        | rfl
        | (go_simp; done)
    try go_frame
    refine tk 6 (v := .int .i64 p.n) rfl (Or.inl ⟨by rfl, ?_⟩) hHeld ?_
    · intro w hSw
      obtain ⟨h0, h1⟩ := hSw
      first
        | rfl
        | (go_simp; done)
    try go_frame
    refine wpAnyT_one (i := 7) (o := { dst := some 17, op := Op.call { callee := Callee.value (Operand.func 38), args := #[Operand.tmp 14, Operand.tmp 16], argTypes := #[3, 3] }, type := 3, pos := "sheet.go:22", after := #[{ on := 4, ground := Ground.data }, { on := 6, ground := Ground.data }], guard := none }) (by kernel_rfl) rfl (fun K hK => ?_)
    go_simp
    refine Calls.mono (plus_any st.kept p.n _ a0 a1 hp0 hp1) ?_
    rintro e w9 ⟨rfl, rfl⟩
    go_wp2_with fail
    refine hK.out _ _ (fun _ => ⟨s0, s1⟩) ?_
    clear hK K
    clear s1
    try go_frame
    refine wpAnyT_pure (i := 8) (oi := { dst := some 18, op := Op.nilCheck (Operand.tmp 10), type := 0, pos := "sheet.go:22", after := #[{ on := 0, ground := Ground.data }, { on := 0, ground := Ground.phase }, { on := 1, ground := Ground.phase }, { on := 2, ground := Ground.phase }, { on := 3, ground := Ground.phase }, { on := 4, ground := Ground.phase }, { on := 5, ground := Ground.phase }, { on := 6, ground := Ground.phase }, { on := 7, ground := Ground.phase }], guard := none }) (v := .pointer (some ⟨g, 0, none⟩)) rfl (by kernel_rfl) (by kernel_rfl) (by kernel_rfl) rfl (fun _ _ _ h => h) (Or.inl ⟨by rfl, ?_⟩) ?_
    · intro w hSw
      first
        | rfl
        | (go_simp; done)
    try go_frame
    refine wpAnyT_pure (i := 9) (oi := { dst := some 19, op := Op.fieldAddr 119 (Operand.tmp 18) 1, type := 0, pos := "sheet.go:22", after := #[{ on := 8, ground := Ground.data }, { on := 0, ground := Ground.phase }, { on := 1, ground := Ground.phase }, { on := 2, ground := Ground.phase }, { on := 3, ground := Ground.phase }, { on := 4, ground := Ground.phase }, { on := 5, ground := Ground.phase }, { on := 6, ground := Ground.phase }, { on := 7, ground := Ground.phase }], guard := none }) (v := .pointer (some ⟨g, 1, none⟩)) rfl (by kernel_rfl) (by kernel_rfl) (by kernel_rfl) rfl (fun _ _ _ h => h) (Or.inl ⟨by rfl, ?_⟩) ?_
    · intro w hSw
      first
        | rfl
        | (go_simp; done)
    try go_frame
    have y0 : wd.frozen? ⟨g, 1, none⟩ = false := (unhide HR0).row.frozen 1
    refine wpAnyT_one (i := 10) (o := { dst := none, op := Op.store 3 (Operand.tmp 19) (Operand.tmp 17), type := 0, pos := "sheet.go:22", after := #[{ on := 9, ground := Ground.data }, { on := 7, ground := Ground.data }, { on := 7, ground := Ground.chain }, { on := 0, ground := Ground.phase }, { on := 1, ground := Ground.phase }, { on := 2, ground := Ground.phase }, { on := 3, ground := Ground.phase }, { on := 4, ground := Ground.phase }, { on := 5, ground := Ground.phase }, { on := 6, ground := Ground.phase }, { on := 7, ground := Ground.phase }], guard := none }) (by kernel_rfl) rfl (fun K hK => ?_)
    go_simp
    refine hK.out _ _ (fun h => by cases h) ?_
    clear hK K
    try go_frame
    refine wpAnyT_done (by kernel_rfl) ?_ _
    have HRN := hide ((unhide HR0).nums ((unhide HR0).row.set 1 (.int .i64 (plusN st.kept p.n))) ((Only.refl (· = g) _).set g 1 _ rfl))
    obtain ⟨w5, hw5⟩ : ∃ z, (wd.setCell ⟨g, 1, none⟩ (.int .i64 (plusN st.kept p.n))) = z := ⟨_, rfl⟩
    rw [hw5] at HRN ⊢
    clear hw5 y0 s0 HR0
    go_wp2_with fail
    go_end0
    obtain ⟨r1, r2, r3, r4, r5, r6, r7⟩ := unhide HRN
    exact ⟨rfl, dv, av, bv, unhide HP, r1, r2, r3, r4, r5, r6, fun q cs e => by cases e⟩
  · rw [if_neg (by omega), if_neg (by omega)]
    rw [hk] at HA k0 ⊢
    go_enter Tryd.func76, Tryd.ntmps76
    go_wp2_with fail
    refine Calls.mono (endKeep_ok w0 B g st (some (q, pcs p)) _ (unhide HA) (by omega)) ?_
    rintro r w1 ⟨rfl, dv, av, bv, hp, hr⟩
    have HR := hide hr
    have HP := hide hp
    clear hr hp HA
    go_wp2_with fail
    have HR0 := hide ((unhide HR).call (Below.drew (Below.refl _ w1)))
    refine wp_region_T (S := fun W => W.cell? ⟨g, 3, none⟩ = some (.int .i64 st.puts) ∧ W.cell? ⟨q, 1, none⟩ = some (.int .i64 p.n)) (fun i => decide (i < 8)) (by kernel_rfl) ⟨(unhide HR0).row.cell 3, ((unhide HR0).box _ _ rfl).1.cell 1⟩ (fun hHeld => ?_)
    clear HR
    obtain ⟨wd, hwd⟩ : ∃ z, w1.drew = z := ⟨_, rfl⟩
    rw [hwd] at HR0 hHeld ⊢
    clear hwd
    have s0 : wd.cell? ⟨g, 3, none⟩ = some (.int .i64 st.puts) := (unhide HR0).row.cell 3
    have s1 : wd.cell? ⟨q, 1, none⟩ = some (.int .i64 p.n) := ((unhide HR0).box _ _ rfl).1.cell 1
    refine tk 0 (v := .pointer (some ⟨g, 0, none⟩)) rfl (Or.inl ⟨by rfl, ?_⟩) hHeld ?_
    · intro w hSw
      obtain ⟨h0, h1⟩ := hSw
      first
        | rfl
        | (go_simp; done)
    try go_frame
    refine tk 1 (v := .pointer (some ⟨g, 0, none⟩)) rfl (Or.inl ⟨by rfl, ?_⟩) hHeld ?_
    · intro w hSw
      obtain ⟨h0, h1⟩ := hSw
      first
        | rfl
        | (go_simp; done)
    try go_frame
    refine tk 2 (v := .pointer (some ⟨g, 0, none⟩)) rfl (Or.inl ⟨by rfl, ?_⟩) hHeld ?_
    · intro w hSw
      obtain ⟨h0, h1⟩ := hSw
      first
        | rfl
        | (go_simp; done)
    try go_frame
    refine tk 3 (v := .pointer (some ⟨g, 3, none⟩)) rfl (Or.inl ⟨by rfl, ?_⟩) hHeld ?_
    · intro w hSw
      obtain ⟨h0, h1⟩ := hSw
      first
        | rfl
        | (go_simp; done)
    try go_frame
    refine tk 4 (v := .int .i64 st.puts) rfl (Or.inl ⟨by rfl, ?_⟩) hHeld ?_
    · intro w hSw
      obtain ⟨h0, h1⟩ := hSw
      first
        | rfl
        | (go_simp; done)
    try go_frame
    refine tk 5 (v := .pointer (some ⟨q, 1, none⟩)) rfl (Or.inl ⟨by rfl, ?_⟩) hHeld ?_
    · intro w hSw
      obtain ⟨h0, h1⟩ := hSw
      first
        | rfl
        | (go_simp; done)
    try go_frame
    refine tk 6 (v := .int .i64 p.n) rfl (Or.inl ⟨by rfl, ?_⟩) hHeld ?_
    · intro w hSw
      obtain ⟨h0, h1⟩ := hSw
      first
        | rfl
        | (go_simp; done)
    try go_frame
    refine wpAnyT_one (i := 7) (o := { dst := some 45, op := Op.call { callee := Callee.value (Operand.func 38), args := #[Operand.tmp 42, Operand.tmp 44], argTypes := #[3, 3] }, type := 3, pos := "sheet.go:28", after := #[{ on := 4, ground := Ground.data }, { on := 6, ground := Ground.data }], guard := none }) (by kernel_rfl) rfl (fun K hK => ?_)
    go_simp
    refine Calls.mono (plus_any st.puts p.n _ c0 c1 hp0 hp1) ?_
    rintro e w9 ⟨rfl, rfl⟩
    go_wp2_with fail
    refine hK.out _ _ (fun _ => ⟨s0, s1⟩) ?_
    clear hK K
    clear s1
    try go_frame
    refine wpAnyT_pure (i := 8) (oi := { dst := some 46, op := Op.nilCheck (Operand.tmp 38), type := 0, pos := "sheet.go:28", after := #[{ on := 0, ground := Ground.data }, { on := 0, ground := Ground.phase }, { on := 1, ground := Ground.phase }, { on := 2, ground := Ground.phase }, { on := 3, ground := Ground.phase }, { on := 4, ground := Ground.phase }, { on := 5, ground := Ground.phase }, { on := 6, ground := Ground.phase }, { on := 7, ground := Ground.phase }], guard := none }) (v := .pointer (some ⟨g, 0, none⟩)) rfl (by kernel_rfl) (by kernel_rfl) (by kernel_rfl) rfl (fun _ _ _ h => h) (Or.inl ⟨by rfl, ?_⟩) ?_
    · intro w hSw
      first
        | rfl
        | (go_simp; done)
    try go_frame
    refine wpAnyT_pure (i := 9) (oi := { dst := some 47, op := Op.fieldAddr 119 (Operand.tmp 46) 3, type := 0, pos := "sheet.go:28", after := #[{ on := 8, ground := Ground.data }, { on := 0, ground := Ground.phase }, { on := 1, ground := Ground.phase }, { on := 2, ground := Ground.phase }, { on := 3, ground := Ground.phase }, { on := 4, ground := Ground.phase }, { on := 5, ground := Ground.phase }, { on := 6, ground := Ground.phase }, { on := 7, ground := Ground.phase }], guard := none }) (v := .pointer (some ⟨g, 3, none⟩)) rfl (by kernel_rfl) (by kernel_rfl) (by kernel_rfl) rfl (fun _ _ _ h => h) (Or.inl ⟨by rfl, ?_⟩) ?_
    · intro w hSw
      first
        | rfl
        | (go_simp; done)
    try go_frame
    have y0 : wd.frozen? ⟨g, 3, none⟩ = false := (unhide HR0).row.frozen 3
    refine wpAnyT_one (i := 10) (o := { dst := none, op := Op.store 3 (Operand.tmp 47) (Operand.tmp 45), type := 0, pos := "sheet.go:28", after := #[{ on := 9, ground := Ground.data }, { on := 7, ground := Ground.data }, { on := 7, ground := Ground.chain }, { on := 0, ground := Ground.phase }, { on := 1, ground := Ground.phase }, { on := 2, ground := Ground.phase }, { on := 3, ground := Ground.phase }, { on := 4, ground := Ground.phase }, { on := 5, ground := Ground.phase }, { on := 6, ground := Ground.phase }, { on := 7, ground := Ground.phase }], guard := none }) (by kernel_rfl) rfl (fun K hK => ?_)
    go_simp
    refine hK.out _ _ (fun h => by cases h) ?_
    clear hK K
    try go_frame
    refine wpAnyT_done (by kernel_rfl) ?_ _
    have HRN := hide ((unhide HR0).nums ((unhide HR0).row.set 3 (.int .i64 (plusN st.puts p.n))) ((Only.refl (· = g) _).set g 3 _ rfl))
    obtain ⟨w5, hw5⟩ : ∃ z, (wd.setCell ⟨g, 3, none⟩ (.int .i64 (plusN st.puts p.n))) = z := ⟨_, rfl⟩
    rw [hw5] at HRN ⊢
    clear hw5 y0 s0 HR0
    go_wp2_with fail
    have HR0 := hide ((unhide HRN).call (Below.drew (Below.refl _ w5)))
    refine wp_region_T (S := fun W => W.cell? ⟨q, 2, none⟩ = some (.string p.text)) (fun i => decide (i < 6)) (by kernel_rfl) (((unhide HR0).box _ _ rfl).1.cell 2) (fun hHeld => ?_)
    clear HRN
    obtain ⟨wd, hwd⟩ : ∃ z, w5.drew = z := ⟨_, rfl⟩
    rw [hwd] at HR0 hHeld ⊢
    clear hwd
    refine tk 0 (v := .pointer (some ⟨g, 0, none⟩)) rfl (Or.inl ⟨by rfl, ?_⟩) hHeld ?_
    · intro w hSw
      first
        | rfl
        | (go_simp; done)
    try go_frame
    refine tk 1 (v := .pointer (some ⟨g, 0, none⟩)) rfl (Or.inl ⟨by rfl, ?_⟩) hHeld ?_
    · intro w hSw
      first
        | rfl
        | (go_simp; done)
    try go_frame
    refine tk 2 (v := .pointer (some ⟨g, 4, none⟩)) rfl (Or.inl ⟨by rfl, ?_⟩) hHeld ?_
    · intro w hSw
      first
        | rfl
        | (go_simp; done)
    try go_frame
    refine tk 3 (v := .pointer (some ⟨q, 2, none⟩)) rfl (Or.inl ⟨by rfl, ?_⟩) hHeld ?_
    · intro w hSw
      first
        | rfl
        | (go_simp; done)
    try go_frame
    refine tk 4 (v := .string p.text) rfl (Or.inl ⟨by rfl, ?_⟩) hHeld ?_
    · intro w hSw
      first
        | rfl
        | (go_simp; done)
    try go_frame
    refine wpAnyT_one (i := 5) (o := { dst := some 53, op := Op.call { callee := Callee.value (Operand.func 40), args := #[Operand.tmp 50, Operand.tmp 52], argTypes := #[71, 9] }, type := 74, pos := "sheet.go:29", after := #[{ on := 2, ground := Ground.data }, { on := 4, ground := Ground.data }], guard := none }) (by kernel_rfl) rfl (fun K hK => ?_)
    go_simp
    refine Calls.mono (write_str g _ B dv _ _ _ av bv (Lib.byteCells st.text) p.text (unhide HR0).row (unhide HP) (by rw [Lib.byteCells_length]; exact (unhide HR0).bytes _ rfl) (by rw [Lib.byteCells_length]; exact unhide HS) (unhide HR0).sz) ?_
    rintro e w9 ⟨rfl, bv2, hr9, hb9, ho9⟩
    rw [Lib.byteCells_length, Lib.strCells_eq, ← Lib.byteCells_append, Lib.size_eq, ← List.length_append] at hb9
    have HR9 := hide ((unhide HR0).wrote hr9 hb9 ho9)
    have s9 : w9.cell? ⟨q, 2, none⟩ = some (.string p.text) := ((unhide HR9).box _ _ rfl).1.cell 2
    clear hr9 hb9 ho9 HR0
    go_wp2_with fail
    refine hK.out _ _ (fun _ => s9) ?_
    clear hK K
    clear s9
    try go_frame
    refine wpAnyT_done (by kernel_rfl) ?_ _
    go_wp2_with fail
    go_end0
    obtain ⟨r1, r2, r3, r4, r5, r6, r7⟩ := unhide HR9
    exact ⟨rfl, dv, _, bv2, .inr rfl, r1, r2, r3, r4, r5, r6, fun q cs e => by cases e⟩
  · rw [if_neg (by omega), if_pos hk]
    rw [hk] at HA k0 ⊢
    go_enter Tryd.func76, Tryd.ntmps76
    go_wp2_with fail
    refine Calls.mono (endKeep_ok w0 B g st (some (q, pcs p)) _ (unhide HA) (by omega)) ?_
    rintro r w1 ⟨rfl, dv, av, bv, hp, hr⟩
    have HR := hide hr
    have HP := hide hp
    clear hr hp HA
    go_wp2_with fail
    have HR0 := hide ((unhide HR).call (Below.drew (Below.refl _ w1)))
    refine wp_region_T (S := fun W => W.cell? ⟨g, 2, none⟩ = some (.int .i64 st.drops) ∧ W.cell? ⟨q, 1, none⟩ = some (.int .i64 p.n)) (fun i => decide (i < 8)) (by kernel_rfl) ⟨(unhide HR0).row.cell 2, ((unhide HR0).box _ _ rfl).1.cell 1⟩ (fun hHeld => ?_)
    clear HR
    obtain ⟨wd, hwd⟩ : ∃ z, w1.drew = z := ⟨_, rfl⟩
    rw [hwd] at HR0 hHeld ⊢
    clear hwd
    have s0 : wd.cell? ⟨g, 2, none⟩ = some (.int .i64 st.drops) := (unhide HR0).row.cell 2
    have s1 : wd.cell? ⟨q, 1, none⟩ = some (.int .i64 p.n) := ((unhide HR0).box _ _ rfl).1.cell 1
    refine tk 0 (v := .pointer (some ⟨g, 0, none⟩)) rfl (Or.inl ⟨by rfl, ?_⟩) hHeld ?_
    · intro w hSw
      obtain ⟨h0, h1⟩ := hSw
      first
        | rfl
        | (go_simp; done)
    try go_frame
    refine tk 1 (v := .pointer (some ⟨g, 0, none⟩)) rfl (Or.inl ⟨by rfl, ?_⟩) hHeld ?_
    · intro w hSw
      obtain ⟨h0, h1⟩ := hSw
      first
        | rfl
        | (go_simp; done)
    try go_frame
    refine tk 2 (v := .pointer (some ⟨g, 0, none⟩)) rfl (Or.inl ⟨by rfl, ?_⟩) hHeld ?_
    · intro w hSw
      obtain ⟨h0, h1⟩ := hSw
      first
        | rfl
        | (go_simp; done)
    try go_frame
    refine tk 3 (v := .pointer (some ⟨g, 2, none⟩)) rfl (Or.inl ⟨by rfl, ?_⟩) hHeld ?_
    · intro w hSw
      obtain ⟨h0, h1⟩ := hSw
      first
        | rfl
        | (go_simp; done)
    try go_frame
    refine tk 4 (v := .int .i64 st.drops) rfl (Or.inl ⟨by rfl, ?_⟩) hHeld ?_
    · intro w hSw
      obtain ⟨h0, h1⟩ := hSw
      first
        | rfl
        | (go_simp; done)
    try go_frame
    refine tk 5 (v := .pointer (some ⟨q, 1, none⟩)) rfl (Or.inl ⟨by rfl, ?_⟩) hHeld ?_
    · intro w hSw
      obtain ⟨h0, h1⟩ := hSw
      first
        | rfl
        | (go_simp; done)
    try go_frame
    refine tk 6 (v := .int .i64 p.n) rfl (Or.inl ⟨by rfl, ?_⟩) hHeld ?_
    · intro w hSw
      obtain ⟨h0, h1⟩ := hSw
      first
        | rfl
        | (go_simp; done)
    try go_frame
    refine wpAnyT_one (i := 7) (o := { dst := some 31, op := Op.call { callee := Callee.value (Operand.func 38), args := #[Operand.tmp 28, Operand.tmp 30], argTypes := #[3, 3] }, type := 3, pos := "sheet.go:25", after := #[{ on := 4, ground := Ground.data }, { on := 6, ground := Ground.data }], guard := none }) (by kernel_rfl) rfl (fun K hK => ?_)
    go_simp
    refine Calls.mono (plus_any st.drops p.n _ b0 b1 hp0 hp1) ?_
    rintro e w9 ⟨rfl, rfl⟩
    go_wp2_with fail
    refine hK.out _ _ (fun _ => ⟨s0, s1⟩) ?_
    clear hK K
    clear s1
    try go_frame
    refine wpAnyT_pure (i := 8) (oi := { dst := some 32, op := Op.nilCheck (Operand.tmp 24), type := 0, pos := "sheet.go:25", after := #[{ on := 0, ground := Ground.data }, { on := 0, ground := Ground.phase }, { on := 1, ground := Ground.phase }, { on := 2, ground := Ground.phase }, { on := 3, ground := Ground.phase }, { on := 4, ground := Ground.phase }, { on := 5, ground := Ground.phase }, { on := 6, ground := Ground.phase }, { on := 7, ground := Ground.phase }], guard := none }) (v := .pointer (some ⟨g, 0, none⟩)) rfl (by kernel_rfl) (by kernel_rfl) (by kernel_rfl) rfl (fun _ _ _ h => h) (Or.inl ⟨by rfl, ?_⟩) ?_
    · intro w hSw
      first
        | rfl
        | (go_simp; done)
    try go_frame
    refine wpAnyT_pure (i := 9) (oi := { dst := some 33, op := Op.fieldAddr 119 (Operand.tmp 32) 2, type := 0, pos := "sheet.go:25", after := #[{ on := 8, ground := Ground.data }, { on := 0, ground := Ground.phase }, { on := 1, ground := Ground.phase }, { on := 2, ground := Ground.phase }, { on := 3, ground := Ground.phase }, { on := 4, ground := Ground.phase }, { on := 5, ground := Ground.phase }, { on := 6, ground := Ground.phase }, { on := 7, ground := Ground.phase }], guard := none }) (v := .pointer (some ⟨g, 2, none⟩)) rfl (by kernel_rfl) (by kernel_rfl) (by kernel_rfl) rfl (fun _ _ _ h => h) (Or.inl ⟨by rfl, ?_⟩) ?_
    · intro w hSw
      first
        | rfl
        | (go_simp; done)
    try go_frame
    have y0 : wd.frozen? ⟨g, 2, none⟩ = false := (unhide HR0).row.frozen 2
    refine wpAnyT_one (i := 10) (o := { dst := none, op := Op.store 3 (Operand.tmp 33) (Operand.tmp 31), type := 0, pos := "sheet.go:25", after := #[{ on := 9, ground := Ground.data }, { on := 7, ground := Ground.data }, { on := 7, ground := Ground.chain }, { on := 0, ground := Ground.phase }, { on := 1, ground := Ground.phase }, { on := 2, ground := Ground.phase }, { on := 3, ground := Ground.phase }, { on := 4, ground := Ground.phase }, { on := 5, ground := Ground.phase }, { on := 6, ground := Ground.phase }, { on := 7, ground := Ground.phase }], guard := none }) (by kernel_rfl) rfl (fun K hK => ?_)
    go_simp
    refine hK.out _ _ (fun h => by cases h) ?_
    clear hK K
    try go_frame
    refine wpAnyT_done (by kernel_rfl) ?_ _
    have HRN := hide ((unhide HR0).nums ((unhide HR0).row.set 2 (.int .i64 (plusN st.drops p.n))) ((Only.refl (· = g) _).set g 2 _ rfl))
    obtain ⟨w5, hw5⟩ : ∃ z, (wd.setCell ⟨g, 2, none⟩ (.int .i64 (plusN st.drops p.n))) = z := ⟨_, rfl⟩
    rw [hw5] at HRN ⊢
    clear hw5 y0 s0 HR0
    go_wp2_with fail
    go_end0
    obtain ⟨r1, r2, r3, r4, r5, r6, r7⟩ := unhide HRN
    exact ⟨rfl, dv, av, bv, unhide HP, r1, r2, r3, r4, r5, r6, fun q cs e => by cases e⟩
end Go.Proofs.YtonabfpgdgnpnaaDoor

namespace Go.Proofs.YtonabfpgdgnpnaaDoor
set_option linter.unusedVariables false
set_option linter.unusedSimpArgs false
open Go.ChangeShapes Go.WideShapes Go.ChangeAt Go.RowKit Go.Joins Go.Deep Go.Shelf

shelf_lay Lays.n196 Nm 196 at Tryd as Tryd.lays196
theorem fValid : Tryd.lays196_ren.f 196 = 58 := by kernel_rfl
theorem gValid : Tryd.lays196_ren.g 3 = Tryd.lays197_ren.g 3 ∧ Tryd.lays196_ren.g 4 = Tryd.lays197_ren.g 4 := ⟨by kernel_rfl, by kernel_rfl⟩
theorem valid_any (s : ByteArray) (w : World) (hT : UT w) (hs : s.size ≤ 9223372036854775807) : Calls Tryd.prog 58 #[.string s] w fun e w' => e = .returned (.bool (Lib.validD s.data.toList)) ∧ Below w.heap.size w w' := by
  have h := Any.utf8_ValidString Tryd.lays196 s w hs (by rw [gValid.1, gValid.2]; exact hT)
  rw [fValid] at h
  exact h
def fitsB (p : Pt) : Bool := decide (1 ≤ p.n) && decide (p.n ≤ 1099511627776) && ((decide (p.kind = 1) || decide (p.kind = 3)) && decide (p.text.size = 0) || decide (p.kind = 2) && (Lib.validD p.text.data.toList && decide ((Lib.runeCount p.text : Int) = p.n)))
theorem toList_empty (s : ByteArray) : s.toList.isEmpty = decide (s.size = 0) := by
  rw [ByteArray.toList_eq, Lib.size_eq]
  cases s.data.toList <;> rfl
set_option maxRecDepth 100000 in
set_option maxHeartbeats 4000000 in
theorem fits_any (p : Pt) (w : World) (hT : UT w) (hs : p.text.size ≤ 281474976710656) : Calls Tryd.prog 37 #[pv p] w fun r w' => r = .returned (.bool (fitsB p)) ∧ Below w.heap.size w w' := by
  obtain ⟨k, n, s⟩ := p
  have hb : Below w.heap.size w (w.alloc (.cells #[.int .i64 k, .int .i64 n, .string s] 39)) := (Below.refl _ _).alloc (Nat.le_refl _) _
  have HT := hide (hT.call hb)
  have HB := hide hb
  have hrow := RowAt.new w 39 [.int .i64 k, .int .i64 n, .string s]
  simp only at hs
  have HSB := hide hs
  clear hT hb hs
  unfold pv fitsB
  simp only
  by_cases h1 : n < 1
  · have hd : decide (1 ≤ n) = false := by simp; omega
    rw [hd]
    simp only [Bool.false_and]
    go_enter Tryd.func37, Tryd.ntmps37
    go_wp2_with fail
    go_ret
    exact ⟨rfl, unhide HB⟩
  have hd1 : decide (1 ≤ n) = true := by simp; omega
  rw [hd1]
  by_cases h2 : 1099511627776 < n
  · have hd : decide (n ≤ 1099511627776) = false := by simp; omega
    rw [hd]
    simp only [Bool.false_and, Bool.and_false]
    go_enter Tryd.func37, Tryd.ntmps37
    go_wp2_with fail
    go_ret
    exact ⟨rfl, unhide HB⟩
  have hd2 : decide (n ≤ 1099511627776) = true := by simp; omega
  rw [hd2]
  simp only [Bool.true_and]
  clear hd1 hd2
  by_cases k1 : k = 1
  · subst k1
    obtain ⟨q, hq⟩ : ∃ q, decide (s.size = 0) = q := ⟨_, rfl⟩
    have he := toList_empty s
    rw [hq] at he
    simp only [decide_true, Bool.true_or, Bool.true_and, show decide ((1 : Int) = 2) = false from rfl, Bool.false_and, Bool.or_false, hq]
    clear hq
    go_enter Tryd.func37, Tryd.ntmps37
    go_wp2_with fail
    go_ret
    exact ⟨by simp [he], unhide HB⟩
  by_cases k3 : k = 3
  · subst k3
    obtain ⟨q, hq⟩ : ∃ q, decide (s.size = 0) = q := ⟨_, rfl⟩
    have he := toList_empty s
    rw [hq] at he
    simp only [decide_true, Bool.or_true, Bool.true_and, show decide ((3 : Int) = 2) = false from rfl, Bool.false_and, Bool.or_false, hq]
    clear hq
    go_enter Tryd.func37, Tryd.ntmps37
    go_wp2_with fail
    go_ret
    exact ⟨by simp [he], unhide HB⟩
  by_cases k2 : k = 2
  · subst k2
    obtain ⟨q, hq⟩ : ∃ q, Lib.validD s.data.toList = q := ⟨_, rfl⟩
    obtain ⟨m, hm⟩ : ∃ m, Lib.runeCount s = m := ⟨_, rfl⟩
    simp only [show decide ((2 : Int) = 1) = false from rfl, show decide ((2 : Int) = 3) = false from rfl, Bool.or_self, Bool.false_and, Bool.false_or, decide_true, Bool.true_and, hq, hm]
    have HRW := hide hrow
    have HS : Hid (∀ W, Below (w.alloc (.cells #[.int .i64 2, .int .i64 n, .string s] 39)).heap.size (w.alloc (.cells #[.int .i64 2, .int .i64 n, .string s] 39)) W → (W.cell? ⟨w.heap.size, 1, none⟩ = some (.int .i64 n) ∧ W.cell? ⟨w.heap.size, 2, none⟩ = some (.string s))) := hide (fun W hW => ⟨((unhide HRW).below hW (unhide HRW).lt).cell 1, ((unhide HRW).below hW (unhide HRW).lt).cell 2⟩)
    have HCN : Hid (∀ W, Calls Tryd.prog 19 #[.string s] W fun e w' => e = .returned (.int .i64 (m : Int)) ∧ Below W.heap.size W w') := hide (fun W => by have h := counts_any s W (by have := unhide HSB; omega); rw [hm] at h; exact h)
    have HV : Hid (∀ W, Below (w.alloc (.cells #[.int .i64 2, .int .i64 n, .string s] 39)).heap.size (w.alloc (.cells #[.int .i64 2, .int .i64 n, .string s] 39)) W → Calls Tryd.prog 58 #[.string s] W fun e w' => e = .returned (.bool q) ∧ Below W.heap.size W w') := hide (fun W hW => by have h := valid_any s W ((unhide HT).call hW) (by have := unhide HSB; omega); rw [hq] at h; exact h)
    clear hrow hq hm
    cases q with
    | false =>
      simp only [Bool.false_and]
      go_enter Tryd.func37, Tryd.ntmps37
      go_wp2_with fail
      obtain ⟨wA, hA⟩ : ∃ wA, (w.alloc (.cells #[.int .i64 2, .int .i64 n, .string s] 39)) = wA := ⟨_, rfl⟩
      rw [hA] at HS HV HB ⊢
      clear hA HRW HT
      have k0 : Below wA.heap.size wA wA.drew := (Below.refl _ _).drew
      refine wp_region_T (S := fun W => (W.cell? ⟨w.heap.size, 1, none⟩ = some (.int .i64 n) ∧ W.cell? ⟨w.heap.size, 2, none⟩ = some (.string s))) (fun i => decide (i < 12)) (by kernel_rfl) (unhide HS _ k0) (fun hHeld => ?_)
      refine tk 0 (v := .pointer (some ⟨w.heap.size, 2, none⟩)) rfl (Or.inl ⟨by rfl, ?_⟩) hHeld ?_
      · intro w hSw
        obtain ⟨h3, h4⟩ := hSw
        first
          | rfl
          | (go_simp; done)
      try go_frame
      refine tk 1 (v := .string s) rfl (Or.inl ⟨by rfl, ?_⟩) hHeld ?_
      · intro w hSw
        obtain ⟨h3, h4⟩ := hSw
        first
          | rfl
          | (go_simp; done)
      try go_frame
      refine wpAnyT_one (i := 2) (o := { dst := some 23, op := Op.call { callee := Callee.value (Operand.func 58), args := #[Operand.tmp 22], argTypes := #[9] }, type := 4, pos := "edit.go:49", after := #[{ on := 1, ground := Ground.data }], guard := none }) (by kernel_rfl) rfl (fun K hK => ?_)
      go_simp
      refine Calls.mono (unhide HV wA.drew k0) ?_
      rintro r w2 ⟨rfl, b2⟩
      have k2 : Below wA.heap.size wA w2 := k0.trans (b2.mono k0.size)
      have HK2 := hide k2
      go_wp2_with fail
      refine hK.out _ _ (fun _ => unhide HS _ (unhide HK2)) ?_
      clear hK K k2 b2 k0
      try go_frame
      refine tk 3 (v := .bool false) rfl (Or.inl ⟨by rfl, ?_⟩) (unhide HS _ (unhide HK2)) ?_
      · intro w hSw
        obtain ⟨h3, h4⟩ := hSw
        first
          | rfl
          | (go_simp; done)
      try go_frame
      refine tk 4 (v := undef) rfl (Or.inr ⟨by rfl, rfl⟩) (unhide HS _ (unhide HK2)) ?_
      try go_frame
      refine tk 5 (v := undef) rfl (Or.inr ⟨by rfl, rfl⟩) (unhide HS _ (unhide HK2)) ?_
      try go_frame
      refine tk 6 (v := undef) rfl (Or.inr ⟨by rfl, rfl⟩) (unhide HS _ (unhide HK2)) ?_
      try go_frame
      refine tk 7 (v := undef) rfl (Or.inr ⟨by rfl, rfl⟩) (unhide HS _ (unhide HK2)) ?_
      try go_frame
      refine tk 8 (v := undef) rfl (Or.inr ⟨by rfl, rfl⟩) (unhide HS _ (unhide HK2)) ?_
      try go_frame
      refine tk 9 (v := undef) rfl (Or.inr ⟨by rfl, rfl⟩) (unhide HS _ (unhide HK2)) ?_
      try go_frame
      refine tk 10 (v := .bool false) rfl (Or.inl ⟨by rfl, ?_⟩) (unhide HS _ (unhide HK2)) ?_
      · intro w hSw
        obtain ⟨h3, h4⟩ := hSw
        first
          | rfl
          | (go_simp; done)
      try go_frame
      refine tk 11 (v := .bool false) rfl (Or.inl ⟨by rfl, ?_⟩) (unhide HS _ (unhide HK2)) ?_
      · intro w hSw
        obtain ⟨h3, h4⟩ := hSw
        first
          | rfl
          | (go_simp; done)
      try go_frame
      refine wpAnyT_done (by kernel_rfl) ?_ _
      go_wp2_with fail
      go_ret
      exact ⟨rfl, (unhide HB).trans ((unhide HK2).mono (unhide HB).size)⟩
    | true =>
      simp only [Bool.true_and]
      go_enter Tryd.func37, Tryd.ntmps37
      go_wp2_with fail
      obtain ⟨wA, hA⟩ : ∃ wA, (w.alloc (.cells #[.int .i64 2, .int .i64 n, .string s] 39)) = wA := ⟨_, rfl⟩
      rw [hA] at HS HV HB ⊢
      clear hA HRW HT
      have k0 : Below wA.heap.size wA wA.drew := (Below.refl _ _).drew
      go_region_held3 (fun W => (W.cell? ⟨w.heap.size, 1, none⟩ = some (.int .i64 n) ∧ W.cell? ⟨w.heap.size, 2, none⟩ = some (.string s)))
        (first | exact unhide HS _ k0 | exact unhide HS _ k3 | exact unhide HS _ k2)
        (first | (go_at_call 58; refine Calls.mono (unhide HV wA.drew k0) ?_; rintro e w2 ⟨rfl, b2⟩; have k2 : Below wA.heap.size wA w2 := k0.trans (b2.mono k0.size)) | (go_at_call 19; refine Calls.mono (unhide HCN w2) ?_; rintro e w3 ⟨rfl, b3⟩; have k3 : Below wA.heap.size wA w3 := k2.trans (b3.mono k2.size)))
      have HB3 := hide ((unhide HB).trans (k3.mono (unhide HB).size))
      clear k0 k2 k3 b2 b3 HS HV HCN
      go_wp2_with fail
      go_ret
      refine ⟨?_, unhide HB3⟩
      show Ending.returned (Value.bool ((m : Int) == n)) = _
      congr 2
  · have d1 : decide (k = 1) = false := by simp [k1]
    have d2 : decide (k = 2) = false := by simp [k2]
    have d3 : decide (k = 3) = false := by simp [k3]
    have e1 : (k == 1) = false := by simp [k1]
    have e2 : (k == 2) = false := by simp [k2]
    have e3 : (k == 3) = false := by simp [k3]
    rw [d1, d2, d3]
    simp only [Bool.or_self, Bool.false_and]
    clear hrow
    go_enter Tryd.func37, Tryd.ntmps37
    go_wp2_with fail
    go_ret
    exact ⟨rfl, unhide HB⟩
end Go.Proofs.YtonabfpgdgnpnaaDoor

namespace Go.Proofs.YtonabfpgdgnpnaaDoor
set_option linter.unusedVariables false
set_option linter.unusedSimpArgs false
open Go.ChangeShapes Go.WideShapes Go.ChangeAt Go.RowKit Go.Joins Go.Deep

theorem endK_len (st : St) : (endK st).done.length ≤ st.done.length + 1 := by
  unfold endK
  simp only
  split <;> first | omega | (simp; done) | (simp; omega)
def allS (st : St) : List Pt := (endC (endK st)).done
set_option maxRecDepth 100000 in
set_option maxHeartbeats 4000000 in
theorem all_ok (w0 : World) (B g : Nat) (st : St) (w : World) (h : Sh w0 w B g st none) (hl : st.done.length + 2 < 4398046511104) (ht : 0 < st.puts → st.text ≠ []) :
    Calls Tryd.prog 77 #[.pointer (some ⟨g, 0, none⟩)] w fun r w' => ∃ v, r = .returned v ∧ w'.ownsRow B 39 3 v (allS st).length (ptc (allS st)) ∧ Below B w0 w' := by
  have HS := hide h
  have HT := hide ht
  clear h ht
  go_enter Tryd.func77, Tryd.ntmps77
  go_wp2_with fail
  refine Calls.mono (endKeep_ok w0 B g st none w (unhide HS) (by omega)) ?_
  rintro r w1 ⟨rfl, h1⟩
  have HS1 := hide h1
  clear h1 HS
  go_wp2_with fail
  refine Calls.mono (endChange_ok w0 B g (endK st) none w1 (unhide HS1) (by have := endK_len st; omega) (unhide HT)) ?_
  rintro r w2 ⟨rfl, dv, av, bv, hp, hr⟩
  have HR := hide hr
  clear hr hp HS1
  have c0 : w2.cell? ⟨g, 0, none⟩ = some dv := (unhide HR).row.cell 0
  go_wp2_with fail
  go_ret
  exact ⟨_, rfl, (unhide HR).parts, (unhide HR).bel⟩
/-- the state behind these parts -/
def normSt (l : List Pt) : St := l.foldl (fun st p => if fitsB p then addS st p else st) ⟨[], 0, 0, 0, []⟩
def normL (l : List Pt) : List Pt := allS (normSt l)
theorem normSt_take {l : List Pt} {i : Nat} {p : Pt} (h : l[i]? = some p) : normSt (l.take (i + 1)) = if fitsB p then addS (normSt (l.take i)) p else normSt (l.take i) := by
  unfold normSt
  rw [List.take_add_one, h, List.foldl_append]
  rfl
/-- bounds of a state -/
structure SOk (st : St) (k m : Nat) : Prop where
  a0 : 0 ≤ st.kept
  a1 : st.kept ≤ 9223372036854775807
  b0 : 0 ≤ st.drops
  b1 : st.drops ≤ 9223372036854775807
  c0 : 0 ≤ st.puts
  c1 : st.puts ≤ 9223372036854775807
  len : st.done.length ≤ 2 * k
  txt : st.text.length ≤ m
  put : 0 < st.puts → st.text ≠ []
theorem plusN_ok {a b : Int} (a0 : 0 ≤ a) (a1 : a ≤ 9223372036854775807) (b0 : 0 ≤ b) (b1 : b ≤ 9223372036854775807) : 0 ≤ plusN a b ∧ plusN a b ≤ 9223372036854775807 := by
  unfold plusN
  split <;> omega
theorem fitsB_has {p : Pt} (h : fitsB p = true) : 1 ≤ p.n ∧ p.n ≤ 1099511627776 ∧ (p.kind = 1 ∧ p.text.size = 0 ∨ p.kind = 3 ∧ p.text.size = 0 ∨ p.kind = 2 ∧ Lib.validD p.text.data.toList = true ∧ (Lib.runeCount p.text : Int) = p.n) := by
  unfold fitsB at h
  simp only [Bool.and_eq_true, Bool.or_eq_true, decide_eq_true_eq] at h
  obtain ⟨⟨h1, h2⟩, h3⟩ := h
  refine ⟨h1, h2, ?_⟩
  rcases h3 with ⟨h3 | h3, h4⟩ | ⟨h3, h4⟩
  · exact .inl ⟨h3, h4⟩
  · exact .inr (.inl ⟨h3, h4⟩)
  · exact .inr (.inr ⟨h3, h4⟩)
theorem fits_text {p : Pt} (h : fitsB p = true) (hk : p.kind = 2) : p.text.data.toList ≠ [] := by
  obtain ⟨h1, h2, h3⟩ := fitsB_has h
  rcases h3 with h3 | h3 | h3
  · omega
  · omega
  · intro e
    have ht : Tx p.text [] := ⟨Cps.nil, e⟩
    have := ht.count
    have h4 := h3.2.2
    rw [this] at h4
    simp at h4
    omega
theorem SOk.add {st : St} {k m : Nat} (h : SOk st k m) {p : Pt} (hf : fitsB p = true) : SOk (addS st p) (k + 1) (m + p.text.size) := by
  obtain ⟨a0, a1, b0, b1, c0, c1, hl, ht, hu⟩ := h
  obtain ⟨h1, h2, h3⟩ := fitsB_has hf
  have ek : (endK st).done.length ≤ 2 * k + 1 := by unfold endK; simp only; split <;> first | omega | (simp; done) | (simp; omega)
  have ec : (endC st).done.length ≤ 2 * k + 2 := by unfold endC; simp only; split <;> split <;> first | (simp; done) | (simp; omega) | omega
  unfold addS
  split
  · have q := plusN_ok a0 a1 (b := p.n) (by omega) (by omega)
    exact ⟨q.1, q.2, by simp, by simp, by simp, by simp, by simp; omega, by simp, by simp⟩
  · split
    · have q := plusN_ok b0 b1 (b := p.n) (by omega) (by omega)
      exact ⟨by simp, by simp, q.1, q.2, c0, c1, by simp; omega, by simp; omega, hu⟩
    · have q := plusN_ok c0 c1 (b := p.n) (by omega) (by omega)
      refine ⟨by simp, by simp, b0, b1, q.1, q.2, by simp; omega, by simp; omega, fun _ e => ?_⟩
      have := fits_text hf (by omega)
      simp at e
      exact this (by simpa using e.2)
def sumT (l : List Pt) : Nat := (l.map (fun p => p.text.size)).sum
theorem sumT_snoc (l : List Pt) (p : Pt) : sumT (l ++ [p]) = sumT l + p.text.size := by simp [sumT]
theorem sumT_take {l : List Pt} {i : Nat} {p : Pt} (h : l[i]? = some p) : sumT (l.take (i + 1)) = sumT (l.take i) + p.text.size := by
  rw [List.take_add_one, h]
  exact sumT_snoc _ _
theorem sumT_le (l : List Pt) (i : Nat) : sumT (l.take i) ≤ sumT l := by
  have h : sumT l = sumT (l.take i) + sumT (l.drop i) := by
    unfold sumT
    rw [← List.sum_append, ← List.map_append, List.take_append_drop]
  omega
theorem sumT_mem {l : List Pt} {p : Pt} (h : p ∈ l) : p.text.size ≤ sumT l := by
  obtain ⟨i, hi⟩ := List.getElem?_of_mem h
  have := sumT_take hi
  have := sumT_le l (i + 1)
  omega
theorem normSt_ok (l : List Pt) : ∀ i, SOk (normSt (l.take i)) i (sumT (l.take i))
  | 0 => ⟨by simp [normSt], by simp [normSt], by simp [normSt], by simp [normSt], by simp [normSt], by simp [normSt], by simp [normSt], by simp [normSt], by simp [normSt]⟩
  | i + 1 => by
    have ih := normSt_ok l i
    cases hp : l[i]? with
    | none =>
      have hi : l.length ≤ i := by simpa using hp
      rw [List.take_of_length_le (by omega)]
      rw [List.take_of_length_le (by omega)] at ih
      exact ⟨ih.a0, ih.a1, ih.b0, ih.b1, ih.c0, ih.c1, by have := ih.len; omega, ih.txt, ih.put⟩
    | some p =>
      rw [normSt_take hp, sumT_take hp]
      cases hf : fitsB p with
      | true => rw [if_pos rfl]; exact ih.add hf
      | false =>
        rw [if_neg (by simp)]
        exact ⟨ih.a0, ih.a1, ih.b0, ih.b1, ih.c0, ih.c1, by have := ih.len; omega, by have := ih.txt; omega, ih.put⟩
/-- a new sheet -/
theorem sheet_new (w : World) : Sh w (w.alloc (.cells #[.slice none 0 0, .int .i64 0, .int .i64 0, .int .i64 0, .pointer none, .slice none 0 0] 119)) w.heap.size w.heap.size ⟨[], 0, 0, 0, []⟩ none :=
  ⟨.slice none 0 0, .pointer none, .slice none 0 0, .inl rfl, RowAt.new w 119 _, World.ownsRow_nil _ _ _ _, fun x e => (by
    obtain rfl : [] = x := by simpa using e
    exact World.ownsRow_nil _ _ _ _), (Below.refl _ _).alloc (Nat.le_refl _) _, by simp, Nat.le_refl _, fun q cs e => by cases e⟩
theorem Sh.bel {w0 w : World} {B g : Nat} {st : St} {bx : Option (Nat × List Value)} (h : Sh w0 w B g st bx) : Below B w0 w := by
  obtain ⟨dv, av, bv, h1, h2⟩ := h
  exact h2.bel
set_option maxRecDepth 100000 in
set_option maxHeartbeats 4000000 in
theorem norm_any (a : Option Addr) (l : List Pt) (c : Nat) (w : World) (hT : UT w) (hp : PtsAt w a l) (hc : l.length ≤ 2199023255540) (hs : sumT l ≤ 140737488355328) :
    Calls Tryd.prog 53 #[.slice a l.length c] w fun r w' => ∃ v, r = .returned v ∧ w'.ownsRow w.heap.size 39 3 v (normL l).length (ptc (normL l)) ∧ Below w.heap.size w w' := by
  have HT := hide hT
  have HP := hide hp
  have HS := hide hs
  obtain ⟨n, hn⟩ : ∃ n, l.length = n := ⟨_, rfl⟩
  rw [hn] at hc ⊢
  have HN := hide hn
  have nI : (n : Int) ≤ 9223372036854775807 := by omega
  have HZ := hide (sheet_new w)
  clear hT hp hs hn
  go_enter Tryd.func53, Tryd.ntmps53
  go_wp2_with fail
  go_loopw [8] (fun i wr => ∃ k : Nat, k ≤ n ∧ i = .int .i64 (k : Int) ∧ Hid (Sh w wr w.heap.size w.heap.size (normSt (l.take k)) none)) (fun i _ => ((n : Int) - intOf i).toNat)
  case atStart => exact ⟨0, by omega, by simp, HZ⟩
  case round =>
    obtain ⟨k, hk, rfl, HSH⟩ := hrel
    have HB := hide (unhide HSH).bel
    have HOK := hide (normSt_ok l k)
    by_cases hlt : k < n
    · have kI : (k : Int) < (n : Int) := by omega
      obtain ⟨p, hpk⟩ : ∃ p, l[k]? = some p := ⟨_, List.getElem?_eq_getElem (by have := unhide HN; omega)⟩
      obtain ⟨b, off, rfl, e0, e1, e2⟩ := (unhide HP).at_ (unhide HB) hpk
      have HST := hide (normSt_take hpk)
      have HSM : Hid (sumT (l.take k) + p.text.size ≤ 140737488355328) := hide (by have := sumT_take hpk; have := sumT_le l (k + 1); have := unhide HS; omega)
      have hbA : Below wr.heap.size wr (wr.alloc (.cells #[.int .i64 p.kind, .int .i64 p.n, .string p.text] 39)) := (Below.refl _ _).alloc (Nat.le_refl _) _
      have HSA := hide ((unhide HSH).call hbA)
      have HBA := hide ((unhide HB).trans (hbA.mono (unhide HB).size))
      have HRW := hide (RowAt.new wr 39 [.int .i64 p.kind, .int .i64 p.n, .string p.text])
      have HFI := hide (fits_any p (wr.alloc (.cells #[.int .i64 p.kind, .int .i64 p.n, .string p.text] 39)) ((unhide HT).call (unhide HBA)) (by have := unhide HSM; omega))
      clear hpk hbA HSH
      go_wp2_with fail
      obtain ⟨wA, hA⟩ : ∃ wA, wr.alloc (.cells #[.int .i64 p.kind, .int .i64 p.n, .string p.text] 39) = wA := ⟨_, rfl⟩
      rw [hA] at HBA HRW HFI HSA ⊢
      clear hA HB e0 e1 e2
      obtain ⟨bb, hbb⟩ : ∃ bb, wr.heap.size = bb := ⟨_, rfl⟩
      rw [hbb] at HRW ⊢
      clear hbb
      refine Calls.mono (unhide HFI) ?_
      rintro r w2 ⟨rfl, hb2⟩
      have HS2 := hide ((unhide HSA).call hb2)
      have HR2 := hide ((unhide HRW).below hb2 (unhide HRW).lt)
      clear hb2 HBA HRW HFI HSA
      have r0 : w2.cell? ⟨bb, 0, none⟩ = some (.int .i64 p.kind) := (unhide HR2).cell 0
      have r1 : w2.cell? ⟨bb, 1, none⟩ = some (.int .i64 p.n) := (unhide HR2).cell 1
      have r2 : w2.cell? ⟨bb, 2, none⟩ = some (.string p.text) := (unhide HR2).cell 2
      cases hfb : fitsB p with
      | false =>
        rw [hfb, if_neg (by simp)] at HST
        clear hfb
        go_wp2_with fail
        exact ⟨⟨k + 1, by omega, by simp, by rw [unhide HST]; exact HS2⟩, by simp [intOf]; omega⟩
      | true =>
        rw [hfb, if_pos rfl] at HST
        have HF := hide (fitsB_has hfb)
        have HAD := hide (add_ok w w.heap.size w.heap.size (normSt (l.take k)) p w2 (unhide HS2) (by have := (unhide HOK).len; omega) (unhide HOK).put (by rcases (unhide HF).2.2 with h | h | h <;> omega) (by have := (unhide HF).1; omega) (by have := (unhide HF).2.1; omega) (unhide HOK).a0 (unhide HOK).a1 (unhide HOK).b0 (unhide HOK).b1 (unhide HOK).c0 (unhide HOK).c1 (by have := (unhide HOK).txt; have := unhide HSM; omega))
        clear hfb
        go_wp2_with fail
        refine Calls.mono (unhide HAD) ?_
        rintro r w3 ⟨rfl, h3⟩
        have HS3 := hide h3
        clear h3 HAD HS2 r0 r1 r2
        go_wp2_with fail
        exact ⟨⟨k + 1, by omega, by simp, by rw [unhide HST]; exact HS3⟩, by simp [intOf]; omega⟩
    · obtain rfl : n = k := by omega
      have kI : ¬ (n : Int) < (n : Int) := by omega
      have HL : Hid (l.take n = l) := hide (List.take_of_length_le (by rw [unhide HN]; exact Nat.le_refl _))
      rw [unhide HL] at HSH HOK
      go_wp2_with fail
      refine Calls.mono (all_ok w w.heap.size w.heap.size (normSt l) wr (unhide HSH) (by have := (unhide HOK).len; omega) (unhide HOK).put) ?_
      rintro r w3 ⟨v, rfl, hv, hb⟩
      have HV := hide hv
      have HB3 := hide hb
      clear hv hb HSH
      go_wp2_with fail
      go_ret
      exact ⟨v, rfl, unhide HV, unhide HB3⟩
end Go.Proofs.YtonabfpgdgnpnaaDoor
