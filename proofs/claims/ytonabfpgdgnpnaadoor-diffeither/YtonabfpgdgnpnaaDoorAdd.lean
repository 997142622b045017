/- A part is added to a sheet; all its parts. -/
import Derived.Test.YtonabfpgdgnpnaaDoorSht
namespace Go.Proofs.YtonabfpgdgnpnaaDoor
set_option linter.unusedVariables false
set_option linter.unusedSimpArgs false
open Go.ChangeShapes Go.WideShapes Go.ChangeAt Go.RowKit Go.Joins Go.Deep

def addS (st : St) (p : Pt) : St :=
  if p.kind = 1 then ⟨(endC st).done, plusN st.kept p.n, 0, 0, []⟩
  else if p.kind = 3 then ⟨(endK st).done, 0, plusN st.drops p.n, st.puts, st.text⟩
  else ⟨(endK st).done, 0, st.drops, plusN st.puts p.n, st.text ++ p.text.data.toList⟩
/-- a text is written -/
theorem Rw.wrote {w0 w w' : World} {B g : Nat} {dv : Value} {k d u : Int} {av bv bv' : Value} {done : List Pt} {x y : List UInt8} {bx : Option (Nat × List Value)} (h : Rw w0 w B g dv k d u av bv done (some x) bx) (hr : RowAt w' g 119 [dv, .int .i64 k, .int .i64 d, .int .i64 u, .pointer (some ⟨g, 4, none⟩), bv']) (hb : w'.ownsRow B 5 1 bv' y.length (Lib.byteCells y)) (ho : Only (fun k => k = g ∨ bv.ownBlock = some k) w w') : Rw w0 w' B g dv k d u (.pointer (some ⟨g, 4, none⟩)) bv' done (some y) bx := by
  have h0 := h.bytes x rfl
  refine ⟨hr, own_only h.parts ho (fun k hk e => ?_), fun z e => ?_, h.bel.trans (ho.below h.sz (fun k hk => ?_)), Nat.le_trans h.sz ho.size, h.le, fun q cs e => ⟨(h.box q cs e).1.only ho (fun e' => ?_), (h.box q cs e).2⟩⟩
  · rcases e with e | e
    · exact h.dne (e ▸ hk)
    · exact own_ne h.parts h0 (by decide) k hk e
  · obtain rfl : y = z := by simpa using e
    exact hb
  · rcases hk with hk | hk
    · rw [hk]; exact h.le
    · exact (h0.lt k hk).1
  · rcases e' with e' | e'
    · exact rtag (h.box q cs e).1 h.row (by decide) e'
    · exact tag_ne h0 (h.box q cs e).1 (by decide) e'
set_option maxRecDepth 100000 in
set_option maxHeartbeats 4000000 in
theorem add_ok (w0 : World) (B g : Nat) (st : St) (p : Pt) (w : World) (h : Sh w0 w B g st none) (hl : st.done.length + 2 < 4398046511104) (ht : 0 < st.puts → st.text ≠ [])
    (hk : p.kind = 1 ∨ p.kind = 2 ∨ p.kind = 3) (hp0 : 0 ≤ p.n) (hp1 : p.n ≤ 9223372036854775807) (a0 : 0 ≤ st.kept) (a1 : st.kept ≤ 9223372036854775807) (b0 : 0 ≤ st.drops) (b1 : st.drops ≤ 9223372036854775807) (c0 : 0 ≤ st.puts) (c1 : st.puts ≤ 9223372036854775807) (hs : st.text.length + p.text.size ≤ 140737488355328) :
    Calls Tryd.prog 76 #[.pointer (some ⟨g, 0, none⟩), pv p] w fun r w' => r = .returned (.tuple #[]) ∧ Sh w0 w' B g (addS st p) none := by
  have HA : Hid (Sh w0 (w.alloc (.cells #[.int .i64 p.kind, .int .i64 p.n, .string p.text] 39)) B g st (some (w.heap.size, pcs p))) := hide (by
    obtain ⟨dv, av, bv, h1, h2⟩ := h
    have h3 := h2.call (w' := (w.alloc (.cells #[.int .i64 p.kind, .int .i64 p.n, .string p.text] 39))) ((Below.refl _ _).alloc (Nat.le_refl _) _)
    refine ⟨dv, av, bv, h1, h3.row, h3.parts, h3.bytes, h3.bel, h3.sz, h3.le, fun q cs e => ?_⟩
    obtain ⟨rfl, rfl⟩ : w.heap.size = q ∧ pcs p = cs := by simpa using e
    refine ⟨RowAt.new w 39 (pcs p), fun e => ?_⟩
    have := (h2.parts.lt _ e).2
    omega)
  have HS := hide hs
  have k0 : (w.alloc (.cells #[.int .i64 p.kind, .int .i64 p.n, .string p.text] 39)).cell? ⟨w.heap.size, 0, none⟩ = some (.int .i64 p.kind) := (RowAt.new w 39 (pcs p)).cell 0
  obtain ⟨q, hq⟩ : ∃ q, w.heap.size = q := ⟨_, rfl⟩
  rw [hq] at HA k0
  unfold pv addS
  clear h hs
  rcases hk with hk | hk | hk
  · rw [if_pos hk]
    rw [hk] at HA k0 ⊢
    go_enter Tryd.func76, Tryd.ntmps76
    go_wp2_with fail
    refine Calls.mono (endChange_ok w0 B g st (some (q, pcs p)) _ (unhide HA) (by omega) ht) ?_
    rintro r w1 ⟨rfl, dv, av, bv, hp, hr⟩
    have HR := hide hr
    have HP := hide hp
    clear hr hp HA
    go_wp2_with fail
    have HR0 := hide ((unhide HR).call (Below.drew (Below.refl _ w1)))
    refine wp_region_T (S := fun W => W.cell? ⟨g, 1, none⟩ = some (.int .i64 st.kept) ∧ W.cell? ⟨q, 1, none⟩ = some (.int .i64 p.n)) (fun i => decide (i < 8)) (by kernel_rfl) ⟨(unhide HR0).row.cell 1, ((unhide HR0).box _ _ rfl).1.cell 1⟩ (fun hHeld => ?_)
    clear HR
    obtain ⟨wd, hwd⟩ : ∃ z, w1.drew = z := ⟨_, rfl⟩
    rw [hwd] at HR0 hHeld ⊢
    clear hwd
    have s0 : wd.cell? ⟨g, 1, none⟩ = some (.int .i64 st.kept) := (unhide HR0).row.cell 1
    have s1 : wd.cell? ⟨q, 1, none⟩ = some (.int .i64 p.n) := ((unhide HR0).box _ _ rfl).1.cell 1
    refine wpAnyT_take (i := 0) (oi := { dst := some 10, op := Op.move (Operand.tmp 0), type := 133, pos := "sheet.go:22", after := #[], guard := none }) (v := .pointer (some ⟨g, 0, none⟩)) rfl (by kernel_rfl) (by kernel_rfl) (by kernel_rfl) (by kernel_rfl) (fun _ _ _ h => h) (Or.inl ⟨by rfl, ?_⟩) hHeld ?_
    · intro w hSw
      obtain ⟨h0, h1⟩ := hSw
      first
        | rfl
        | (go_simp; done)
    try simp only [Act.put, List.setIfInBounds_toArray, List.set_cons_zero, List.set_cons_succ]
    refine wpAnyT_take (i := 1) (oi := { dst := some 11, op := Op.move (Operand.tmp 0), type := 133, pos := "sheet.go:22", after := #[], guard := none }) (v := .pointer (some ⟨g, 0, none⟩)) rfl (by kernel_rfl) (by kernel_rfl) (by kernel_rfl) (by kernel_rfl) (fun _ _ _ h => h) (Or.inl ⟨by rfl, ?_⟩) hHeld ?_
    · intro w hSw
      obtain ⟨h0, h1⟩ := hSw
      first
        | rfl
        | (go_simp; done)
    try simp only [Act.put, List.setIfInBounds_toArray, List.set_cons_zero, List.set_cons_succ]
    refine wpAnyT_take (i := 2) (oi := { dst := some 12, op := Op.nilCheck (Operand.tmp 11), type := 0, pos := "sheet.go:22", after := #[{ on := 1, ground := Ground.data }], guard := none }) (v := .pointer (some ⟨g, 0, none⟩)) rfl (by kernel_rfl) (by kernel_rfl) (by kernel_rfl) (by kernel_rfl) (fun _ _ _ h => h) (Or.inl ⟨by rfl, ?_⟩) hHeld ?_
    · intro w hSw
      obtain ⟨h0, h1⟩ := hSw
      first
        | rfl
        | (go_simp; done)
    try simp only [Act.put, List.setIfInBounds_toArray, List.set_cons_zero, List.set_cons_succ]
    refine wpAnyT_take (i := 3) (oi := { dst := some 13, op := Op.fieldAddr 119 (Operand.tmp 12) 1, type := 0, pos := "sheet.go:22", after := #[{ on := 2, ground := Ground.data }], guard := none }) (v := .pointer (some ⟨g, 1, none⟩)) rfl (by kernel_rfl) (by kernel_rfl) (by kernel_rfl) (by kernel_rfl) (fun _ _ _ h => h) (Or.inl ⟨by rfl, ?_⟩) hHeld ?_
    · intro w hSw
      obtain ⟨h0, h1⟩ := hSw
      first
        | rfl
        | (go_simp; done)
    try simp only [Act.put, List.setIfInBounds_toArray, List.set_cons_zero, List.set_cons_succ]
    refine wpAnyT_take (i := 4) (oi := { dst := some 14, op := Op.load 3 (Operand.tmp 13), type := 3, pos := "sheet.go:22", after := #[{ on := 3, ground := Ground.data }], guard := none }) (v := .int .i64 st.kept) rfl (by kernel_rfl) (by kernel_rfl) (by kernel_rfl) (by kernel_rfl) (fun _ _ _ h => h) (Or.inl ⟨by rfl, ?_⟩) hHeld ?_
    · intro w hSw
      obtain ⟨h0, h1⟩ := hSw
      first
        | rfl
        | (go_simp; done)
    try simp only [Act.put, List.setIfInBounds_toArray, List.set_cons_zero, List.set_cons_succ]
    refine wpAnyT_take (i := 5) (oi := { dst := some 15, op := Op.fieldAddr 39 (Operand.tmp 3) 1, type := 0, pos := "sheet.go:22", after := #[], guard := none }) (v := .pointer (some ⟨q, 1, none⟩)) rfl (by kernel_rfl) (by kernel_rfl) (by kernel_rfl) (by kernel_rfl) (fun _ _ _ h => h) (Or.inl ⟨by rfl, ?_⟩) hHeld ?_
    · intro w hSw
      obtain ⟨h0, h1⟩ := hSw
      first
        | rfl
        | (go_simp; done)
    try simp only [Act.put, List.setIfInBounds_toArray, List.set_cons_zero, List.set_cons_succ]
    refine wpAnyT_take (i := 6) (oi := { dst := some 16, op := Op.load 3 (Operand.tmp 15), type := 3, pos := "sheet.go:22", after := #[{ on := 5, ground := Ground.data }], guard := none }) (v := .int .i64 p.n) rfl (by kernel_rfl) (by kernel_rfl) (by kernel_rfl) (by kernel_rfl) (fun _ _ _ h => h) (Or.inl ⟨by rfl, ?_⟩) hHeld ?_
    · intro w hSw
      obtain ⟨h0, h1⟩ := hSw
      first
        | rfl
        | (go_simp; done)
    try simp only [Act.put, List.setIfInBounds_toArray, List.set_cons_zero, List.set_cons_succ]
    refine wpAnyT_one (i := 7) (o := { dst := some 17, op := Op.call { callee := Callee.value (Operand.func 38), args := #[Operand.tmp 14, Operand.tmp 16], argTypes := #[3, 3] }, type := 3, pos := "sheet.go:22", after := #[{ on := 4, ground := Ground.data }, { on := 6, ground := Ground.data }], guard := none }) (by kernel_rfl) rfl (fun K hK => ?_)
    go_simp
    refine Calls.mono (plus_any st.kept p.n _ a0 a1 hp0 hp1) ?_
    rintro e w9 ⟨rfl, rfl⟩
    go_wp2_with fail
    refine hK.out _ _ (fun _ => ⟨s0, s1⟩) ?_
    clear hK K
    clear s1
    try simp only [Act.put, List.setIfInBounds_toArray, List.set_cons_zero, List.set_cons_succ]
    refine wpAnyT_pure (i := 8) (oi := { dst := some 18, op := Op.nilCheck (Operand.tmp 10), type := 0, pos := "sheet.go:22", after := #[{ on := 0, ground := Ground.data }, { on := 0, ground := Ground.phase }, { on := 1, ground := Ground.phase }, { on := 2, ground := Ground.phase }, { on := 3, ground := Ground.phase }, { on := 4, ground := Ground.phase }, { on := 5, ground := Ground.phase }, { on := 6, ground := Ground.phase }, { on := 7, ground := Ground.phase }], guard := none }) (v := .pointer (some ⟨g, 0, none⟩)) rfl (by kernel_rfl) (by kernel_rfl) (by kernel_rfl) rfl (fun _ _ _ h => h) (Or.inl ⟨by rfl, ?_⟩) ?_
    · intro w hSw
      first
        | rfl
        | (go_simp; done)
    try simp only [Act.put, List.setIfInBounds_toArray, List.set_cons_zero, List.set_cons_succ]
    refine wpAnyT_pure (i := 9) (oi := { dst := some 19, op := Op.fieldAddr 119 (Operand.tmp 18) 1, type := 0, pos := "sheet.go:22", after := #[{ on := 8, ground := Ground.data }, { on := 0, ground := Ground.phase }, { on := 1, ground := Ground.phase }, { on := 2, ground := Ground.phase }, { on := 3, ground := Ground.phase }, { on := 4, ground := Ground.phase }, { on := 5, ground := Ground.phase }, { on := 6, ground := Ground.phase }, { on := 7, ground := Ground.phase }], guard := none }) (v := .pointer (some ⟨g, 1, none⟩)) rfl (by kernel_rfl) (by kernel_rfl) (by kernel_rfl) rfl (fun _ _ _ h => h) (Or.inl ⟨by rfl, ?_⟩) ?_
    · intro w hSw
      first
        | rfl
        | (go_simp; done)
    try simp only [Act.put, List.setIfInBounds_toArray, List.set_cons_zero, List.set_cons_succ]
    have y0 : wd.frozen? ⟨g, 1, none⟩ = false := (unhide HR0).row.frozen 1
    refine wpAnyT_one (i := 10) (o := { dst := none, op := Op.store 3 (Operand.tmp 19) (Operand.tmp 17), type := 0, pos := "sheet.go:22", after := #[{ on := 9, ground := Ground.data }, { on := 7, ground := Ground.data }, { on := 7, ground := Ground.chain }, { on := 0, ground := Ground.phase }, { on := 1, ground := Ground.phase }, { on := 2, ground := Ground.phase }, { on := 3, ground := Ground.phase }, { on := 4, ground := Ground.phase }, { on := 5, ground := Ground.phase }, { on := 6, ground := Ground.phase }, { on := 7, ground := Ground.phase }], guard := none }) (by kernel_rfl) rfl (fun K hK => ?_)
    go_simp
    refine hK.out _ _ (fun h => by cases h) ?_
    clear hK K
    try simp only [Act.put, List.setIfInBounds_toArray, List.set_cons_zero, List.set_cons_succ]
    refine wpAnyT_done (by kernel_rfl) ?_ _
    have HRN := hide ((unhide HR0).nums ((unhide HR0).row.set 1 (.int .i64 (plusN st.kept p.n))) ((Only.refl (· = g) _).set g 1 _ rfl))
    obtain ⟨w5, hw5⟩ : ∃ z, (wd.setCell ⟨g, 1, none⟩ (.int .i64 (plusN st.kept p.n))) = z := ⟨_, rfl⟩
    rw [hw5] at HRN ⊢
    clear hw5 y0 s0 HR0
    go_wp2_with fail
    go_end0
    obtain ⟨r1, r2, r3, r4, r5, r6, r7⟩ := unhide HRN
    exact ⟨rfl, dv, av, bv, unhide HP, r1, r2, r3, r4, r5, r6, fun q cs e => by cases e⟩
  · rw [if_neg (by omega), if_neg (by omega)]
    rw [hk] at HA k0 ⊢
    go_enter Tryd.func76, Tryd.ntmps76
    go_wp2_with fail
    refine Calls.mono (endKeep_ok w0 B g st (some (q, pcs p)) _ (unhide HA) (by omega)) ?_
    rintro r w1 ⟨rfl, dv, av, bv, hp, hr⟩
    have HR := hide hr
    have HP := hide hp
    clear hr hp HA
    go_wp2_with fail
    have HR0 := hide ((unhide HR).call (Below.drew (Below.refl _ w1)))
    refine wp_region_T (S := fun W => W.cell? ⟨g, 3, none⟩ = some (.int .i64 st.puts) ∧ W.cell? ⟨q, 1, none⟩ = some (.int .i64 p.n)) (fun i => decide (i < 8)) (by kernel_rfl) ⟨(unhide HR0).row.cell 3, ((unhide HR0).box _ _ rfl).1.cell 1⟩ (fun hHeld => ?_)
    clear HR
    obtain ⟨wd, hwd⟩ : ∃ z, w1.drew = z := ⟨_, rfl⟩
    rw [hwd] at HR0 hHeld ⊢
    clear hwd
    have s0 : wd.cell? ⟨g, 3, none⟩ = some (.int .i64 st.puts) := (unhide HR0).row.cell 3
    have s1 : wd.cell? ⟨q, 1, none⟩ = some (.int .i64 p.n) := ((unhide HR0).box _ _ rfl).1.cell 1
    refine wpAnyT_take (i := 0) (oi := { dst := some 38, op := Op.move (Operand.tmp 0), type := 133, pos := "sheet.go:28", after := #[], guard := none }) (v := .pointer (some ⟨g, 0, none⟩)) rfl (by kernel_rfl) (by kernel_rfl) (by kernel_rfl) (by kernel_rfl) (fun _ _ _ h => h) (Or.inl ⟨by rfl, ?_⟩) hHeld ?_
    · intro w hSw
      obtain ⟨h0, h1⟩ := hSw
      first
        | rfl
        | (go_simp; done)
    try simp only [Act.put, List.setIfInBounds_toArray, List.set_cons_zero, List.set_cons_succ]
    refine wpAnyT_take (i := 1) (oi := { dst := some 39, op := Op.move (Operand.tmp 0), type := 133, pos := "sheet.go:28", after := #[], guard := none }) (v := .pointer (some ⟨g, 0, none⟩)) rfl (by kernel_rfl) (by kernel_rfl) (by kernel_rfl) (by kernel_rfl) (fun _ _ _ h => h) (Or.inl ⟨by rfl, ?_⟩) hHeld ?_
    · intro w hSw
      obtain ⟨h0, h1⟩ := hSw
      first
        | rfl
        | (go_simp; done)
    try simp only [Act.put, List.setIfInBounds_toArray, List.set_cons_zero, List.set_cons_succ]
    refine wpAnyT_take (i := 2) (oi := { dst := some 40, op := Op.nilCheck (Operand.tmp 39), type := 0, pos := "sheet.go:28", after := #[{ on := 1, ground := Ground.data }], guard := none }) (v := .pointer (some ⟨g, 0, none⟩)) rfl (by kernel_rfl) (by kernel_rfl) (by kernel_rfl) (by kernel_rfl) (fun _ _ _ h => h) (Or.inl ⟨by rfl, ?_⟩) hHeld ?_
    · intro w hSw
      obtain ⟨h0, h1⟩ := hSw
      first
        | rfl
        | (go_simp; done)
    try simp only [Act.put, List.setIfInBounds_toArray, List.set_cons_zero, List.set_cons_succ]
    refine wpAnyT_take (i := 3) (oi := { dst := some 41, op := Op.fieldAddr 119 (Operand.tmp 40) 3, type := 0, pos := "sheet.go:28", after := #[{ on := 2, ground := Ground.data }], guard := none }) (v := .pointer (some ⟨g, 3, none⟩)) rfl (by kernel_rfl) (by kernel_rfl) (by kernel_rfl) (by kernel_rfl) (fun _ _ _ h => h) (Or.inl ⟨by rfl, ?_⟩) hHeld ?_
    · intro w hSw
      obtain ⟨h0, h1⟩ := hSw
      first
        | rfl
        | (go_simp; done)
    try simp only [Act.put, List.setIfInBounds_toArray, List.set_cons_zero, List.set_cons_succ]
    refine wpAnyT_take (i := 4) (oi := { dst := some 42, op := Op.load 3 (Operand.tmp 41), type := 3, pos := "sheet.go:28", after := #[{ on := 3, ground := Ground.data }], guard := none }) (v := .int .i64 st.puts) rfl (by kernel_rfl) (by kernel_rfl) (by kernel_rfl) (by kernel_rfl) (fun _ _ _ h => h) (Or.inl ⟨by rfl, ?_⟩) hHeld ?_
    · intro w hSw
      obtain ⟨h0, h1⟩ := hSw
      first
        | rfl
        | (go_simp; done)
    try simp only [Act.put, List.setIfInBounds_toArray, List.set_cons_zero, List.set_cons_succ]
    refine wpAnyT_take (i := 5) (oi := { dst := some 43, op := Op.fieldAddr 39 (Operand.tmp 3) 1, type := 0, pos := "sheet.go:28", after := #[], guard := none }) (v := .pointer (some ⟨q, 1, none⟩)) rfl (by kernel_rfl) (by kernel_rfl) (by kernel_rfl) (by kernel_rfl) (fun _ _ _ h => h) (Or.inl ⟨by rfl, ?_⟩) hHeld ?_
    · intro w hSw
      obtain ⟨h0, h1⟩ := hSw
      first
        | rfl
        | (go_simp; done)
    try simp only [Act.put, List.setIfInBounds_toArray, List.set_cons_zero, List.set_cons_succ]
    refine wpAnyT_take (i := 6) (oi := { dst := some 44, op := Op.load 3 (Operand.tmp 43), type := 3, pos := "sheet.go:28", after := #[{ on := 5, ground := Ground.data }], guard := none }) (v := .int .i64 p.n) rfl (by kernel_rfl) (by kernel_rfl) (by kernel_rfl) (by kernel_rfl) (fun _ _ _ h => h) (Or.inl ⟨by rfl, ?_⟩) hHeld ?_
    · intro w hSw
      obtain ⟨h0, h1⟩ := hSw
      first
        | rfl
        | (go_simp; done)
    try simp only [Act.put, List.setIfInBounds_toArray, List.set_cons_zero, List.set_cons_succ]
    refine wpAnyT_one (i := 7) (o := { dst := some 45, op := Op.call { callee := Callee.value (Operand.func 38), args := #[Operand.tmp 42, Operand.tmp 44], argTypes := #[3, 3] }, type := 3, pos := "sheet.go:28", after := #[{ on := 4, ground := Ground.data }, { on := 6, ground := Ground.data }], guard := none }) (by kernel_rfl) rfl (fun K hK => ?_)
    go_simp
    refine Calls.mono (plus_any st.puts p.n _ c0 c1 hp0 hp1) ?_
    rintro e w9 ⟨rfl, rfl⟩
    go_wp2_with fail
    refine hK.out _ _ (fun _ => ⟨s0, s1⟩) ?_
    clear hK K
    clear s1
    try simp only [Act.put, List.setIfInBounds_toArray, List.set_cons_zero, List.set_cons_succ]
    refine wpAnyT_pure (i := 8) (oi := { dst := some 46, op := Op.nilCheck (Operand.tmp 38), type := 0, pos := "sheet.go:28", after := #[{ on := 0, ground := Ground.data }, { on := 0, ground := Ground.phase }, { on := 1, ground := Ground.phase }, { on := 2, ground := Ground.phase }, { on := 3, ground := Ground.phase }, { on := 4, ground := Ground.phase }, { on := 5, ground := Ground.phase }, { on := 6, ground := Ground.phase }, { on := 7, ground := Ground.phase }], guard := none }) (v := .pointer (some ⟨g, 0, none⟩)) rfl (by kernel_rfl) (by kernel_rfl) (by kernel_rfl) rfl (fun _ _ _ h => h) (Or.inl ⟨by rfl, ?_⟩) ?_
    · intro w hSw
      first
        | rfl
        | (go_simp; done)
    try simp only [Act.put, List.setIfInBounds_toArray, List.set_cons_zero, List.set_cons_succ]
    refine wpAnyT_pure (i := 9) (oi := { dst := some 47, op := Op.fieldAddr 119 (Operand.tmp 46) 3, type := 0, pos := "sheet.go:28", after := #[{ on := 8, ground := Ground.data }, { on := 0, ground := Ground.phase }, { on := 1, ground := Ground.phase }, { on := 2, ground := Ground.phase }, { on := 3, ground := Ground.phase }, { on := 4, ground := Ground.phase }, { on := 5, ground := Ground.phase }, { on := 6, ground := Ground.phase }, { on := 7, ground := Ground.phase }], guard := none }) (v := .pointer (some ⟨g, 3, none⟩)) rfl (by kernel_rfl) (by kernel_rfl) (by kernel_rfl) rfl (fun _ _ _ h => h) (Or.inl ⟨by rfl, ?_⟩) ?_
    · intro w hSw
      first
        | rfl
        | (go_simp; done)
    try simp only [Act.put, List.setIfInBounds_toArray, List.set_cons_zero, List.set_cons_succ]
    have y0 : wd.frozen? ⟨g, 3, none⟩ = false := (unhide HR0).row.frozen 3
    refine wpAnyT_one (i := 10) (o := { dst := none, op := Op.store 3 (Operand.tmp 47) (Operand.tmp 45), type := 0, pos := "sheet.go:28", after := #[{ on := 9, ground := Ground.data }, { on := 7, ground := Ground.data }, { on := 7, ground := Ground.chain }, { on := 0, ground := Ground.phase }, { on := 1, ground := Ground.phase }, { on := 2, ground := Ground.phase }, { on := 3, ground := Ground.phase }, { on := 4, ground := Ground.phase }, { on := 5, ground := Ground.phase }, { on := 6, ground := Ground.phase }, { on := 7, ground := Ground.phase }], guard := none }) (by kernel_rfl) rfl (fun K hK => ?_)
    go_simp
    refine hK.out _ _ (fun h => by cases h) ?_
    clear hK K
    try simp only [Act.put, List.setIfInBounds_toArray, List.set_cons_zero, List.set_cons_succ]
    refine wpAnyT_done (by kernel_rfl) ?_ _
    have HRN := hide ((unhide HR0).nums ((unhide HR0).row.set 3 (.int .i64 (plusN st.puts p.n))) ((Only.refl (· = g) _).set g 3 _ rfl))
    obtain ⟨w5, hw5⟩ : ∃ z, (wd.setCell ⟨g, 3, none⟩ (.int .i64 (plusN st.puts p.n))) = z := ⟨_, rfl⟩
    rw [hw5] at HRN ⊢
    clear hw5 y0 s0 HR0
    go_wp2_with fail
    have HR0 := hide ((unhide HRN).call (Below.drew (Below.refl _ w5)))
    refine wp_region_T (S := fun W => W.cell? ⟨q, 2, none⟩ = some (.string p.text)) (fun i => decide (i < 6)) (by kernel_rfl) (((unhide HR0).box _ _ rfl).1.cell 2) (fun hHeld => ?_)
    clear HRN
    obtain ⟨wd, hwd⟩ : ∃ z, w5.drew = z := ⟨_, rfl⟩
    rw [hwd] at HR0 hHeld ⊢
    clear hwd
    refine wpAnyT_take (i := 0) (oi := { dst := some 48, op := Op.move (Operand.tmp 0), type := 133, pos := "sheet.go:29", after := #[], guard := none }) (v := .pointer (some ⟨g, 0, none⟩)) rfl (by kernel_rfl) (by kernel_rfl) (by kernel_rfl) (by kernel_rfl) (fun _ _ _ h => h) (Or.inl ⟨by rfl, ?_⟩) hHeld ?_
    · intro w hSw
      first
        | rfl
        | (go_simp; done)
    try simp only [Act.put, List.setIfInBounds_toArray, List.set_cons_zero, List.set_cons_succ]
    refine wpAnyT_take (i := 1) (oi := { dst := some 49, op := Op.nilCheck (Operand.tmp 48), type := 0, pos := "sheet.go:29", after := #[{ on := 0, ground := Ground.data }], guard := none }) (v := .pointer (some ⟨g, 0, none⟩)) rfl (by kernel_rfl) (by kernel_rfl) (by kernel_rfl) (by kernel_rfl) (fun _ _ _ h => h) (Or.inl ⟨by rfl, ?_⟩) hHeld ?_
    · intro w hSw
      first
        | rfl
        | (go_simp; done)
    try simp only [Act.put, List.setIfInBounds_toArray, List.set_cons_zero, List.set_cons_succ]
    refine wpAnyT_take (i := 2) (oi := { dst := some 50, op := Op.fieldAddr 119 (Operand.tmp 49) 4, type := 0, pos := "sheet.go:29", after := #[{ on := 1, ground := Ground.data }], guard := none }) (v := .pointer (some ⟨g, 4, none⟩)) rfl (by kernel_rfl) (by kernel_rfl) (by kernel_rfl) (by kernel_rfl) (fun _ _ _ h => h) (Or.inl ⟨by rfl, ?_⟩) hHeld ?_
    · intro w hSw
      first
        | rfl
        | (go_simp; done)
    try simp only [Act.put, List.setIfInBounds_toArray, List.set_cons_zero, List.set_cons_succ]
    refine wpAnyT_take (i := 3) (oi := { dst := some 51, op := Op.fieldAddr 39 (Operand.tmp 3) 2, type := 0, pos := "sheet.go:29", after := #[], guard := none }) (v := .pointer (some ⟨q, 2, none⟩)) rfl (by kernel_rfl) (by kernel_rfl) (by kernel_rfl) (by kernel_rfl) (fun _ _ _ h => h) (Or.inl ⟨by rfl, ?_⟩) hHeld ?_
    · intro w hSw
      first
        | rfl
        | (go_simp; done)
    try simp only [Act.put, List.setIfInBounds_toArray, List.set_cons_zero, List.set_cons_succ]
    refine wpAnyT_take (i := 4) (oi := { dst := some 52, op := Op.load 9 (Operand.tmp 51), type := 9, pos := "sheet.go:29", after := #[{ on := 3, ground := Ground.data }], guard := none }) (v := .string p.text) rfl (by kernel_rfl) (by kernel_rfl) (by kernel_rfl) (by kernel_rfl) (fun _ _ _ h => h) (Or.inl ⟨by rfl, ?_⟩) hHeld ?_
    · intro w hSw
      first
        | rfl
        | (go_simp; done)
    try simp only [Act.put, List.setIfInBounds_toArray, List.set_cons_zero, List.set_cons_succ]
    refine wpAnyT_one (i := 5) (o := { dst := some 53, op := Op.call { callee := Callee.value (Operand.func 40), args := #[Operand.tmp 50, Operand.tmp 52], argTypes := #[71, 9] }, type := 74, pos := "sheet.go:29", after := #[{ on := 2, ground := Ground.data }, { on := 4, ground := Ground.data }], guard := none }) (by kernel_rfl) rfl (fun K hK => ?_)
    go_simp
    refine Calls.mono (write_str g _ B dv _ _ _ av bv (Lib.byteCells st.text) p.text (unhide HR0).row (unhide HP) (by rw [Lib.byteCells_length]; exact (unhide HR0).bytes _ rfl) (by rw [Lib.byteCells_length]; exact unhide HS) (unhide HR0).sz) ?_
    rintro e w9 ⟨rfl, bv2, hr9, hb9, ho9⟩
    rw [Lib.byteCells_length, Lib.strCells_eq, ← Lib.byteCells_append, Lib.size_eq, ← List.length_append] at hb9
    have HR9 := hide ((unhide HR0).wrote hr9 hb9 ho9)
    have s9 : w9.cell? ⟨q, 2, none⟩ = some (.string p.text) := ((unhide HR9).box _ _ rfl).1.cell 2
    clear hr9 hb9 ho9 HR0
    go_wp2_with fail
    refine hK.out _ _ (fun _ => s9) ?_
    clear hK K
    clear s9
    try simp only [Act.put, List.setIfInBounds_toArray, List.set_cons_zero, List.set_cons_succ]
    refine wpAnyT_done (by kernel_rfl) ?_ _
    go_wp2_with fail
    go_end0
    obtain ⟨r1, r2, r3, r4, r5, r6, r7⟩ := unhide HR9
    exact ⟨rfl, dv, _, bv2, .inr rfl, r1, r2, r3, r4, r5, r6, fun q cs e => by cases e⟩
  · rw [if_neg (by omega), if_pos hk]
    rw [hk] at HA k0 ⊢
    go_enter Tryd.func76, Tryd.ntmps76
    go_wp2_with fail
    refine Calls.mono (endKeep_ok w0 B g st (some (q, pcs p)) _ (unhide HA) (by omega)) ?_
    rintro r w1 ⟨rfl, dv, av, bv, hp, hr⟩
    have HR := hide hr
    have HP := hide hp
    clear hr hp HA
    go_wp2_with fail
    have HR0 := hide ((unhide HR).call (Below.drew (Below.refl _ w1)))
    refine wp_region_T (S := fun W => W.cell? ⟨g, 2, none⟩ = some (.int .i64 st.drops) ∧ W.cell? ⟨q, 1, none⟩ = some (.int .i64 p.n)) (fun i => decide (i < 8)) (by kernel_rfl) ⟨(unhide HR0).row.cell 2, ((unhide HR0).box _ _ rfl).1.cell 1⟩ (fun hHeld => ?_)
    clear HR
    obtain ⟨wd, hwd⟩ : ∃ z, w1.drew = z := ⟨_, rfl⟩
    rw [hwd] at HR0 hHeld ⊢
    clear hwd
    have s0 : wd.cell? ⟨g, 2, none⟩ = some (.int .i64 st.drops) := (unhide HR0).row.cell 2
    have s1 : wd.cell? ⟨q, 1, none⟩ = some (.int .i64 p.n) := ((unhide HR0).box _ _ rfl).1.cell 1
    refine wpAnyT_take (i := 0) (oi := { dst := some 24, op := Op.move (Operand.tmp 0), type := 133, pos := "sheet.go:25", after := #[], guard := none }) (v := .pointer (some ⟨g, 0, none⟩)) rfl (by kernel_rfl) (by kernel_rfl) (by kernel_rfl) (by kernel_rfl) (fun _ _ _ h => h) (Or.inl ⟨by rfl, ?_⟩) hHeld ?_
    · intro w hSw
      obtain ⟨h0, h1⟩ := hSw
      first
        | rfl
        | (go_simp; done)
    try simp only [Act.put, List.setIfInBounds_toArray, List.set_cons_zero, List.set_cons_succ]
    refine wpAnyT_take (i := 1) (oi := { dst := some 25, op := Op.move (Operand.tmp 0), type := 133, pos := "sheet.go:25", after := #[], guard := none }) (v := .pointer (some ⟨g, 0, none⟩)) rfl (by kernel_rfl) (by kernel_rfl) (by kernel_rfl) (by kernel_rfl) (fun _ _ _ h => h) (Or.inl ⟨by rfl, ?_⟩) hHeld ?_
    · intro w hSw
      obtain ⟨h0, h1⟩ := hSw
      first
        | rfl
        | (go_simp; done)
    try simp only [Act.put, List.setIfInBounds_toArray, List.set_cons_zero, List.set_cons_succ]
    refine wpAnyT_take (i := 2) (oi := { dst := some 26, op := Op.nilCheck (Operand.tmp 25), type := 0, pos := "sheet.go:25", after := #[{ on := 1, ground := Ground.data }], guard := none }) (v := .pointer (some ⟨g, 0, none⟩)) rfl (by kernel_rfl) (by kernel_rfl) (by kernel_rfl) (by kernel_rfl) (fun _ _ _ h => h) (Or.inl ⟨by rfl, ?_⟩) hHeld ?_
    · intro w hSw
      obtain ⟨h0, h1⟩ := hSw
      first
        | rfl
        | (go_simp; done)
    try simp only [Act.put, List.setIfInBounds_toArray, List.set_cons_zero, List.set_cons_succ]
    refine wpAnyT_take (i := 3) (oi := { dst := some 27, op := Op.fieldAddr 119 (Operand.tmp 26) 2, type := 0, pos := "sheet.go:25", after := #[{ on := 2, ground := Ground.data }], guard := none }) (v := .pointer (some ⟨g, 2, none⟩)) rfl (by kernel_rfl) (by kernel_rfl) (by kernel_rfl) (by kernel_rfl) (fun _ _ _ h => h) (Or.inl ⟨by rfl, ?_⟩) hHeld ?_
    · intro w hSw
      obtain ⟨h0, h1⟩ := hSw
      first
        | rfl
        | (go_simp; done)
    try simp only [Act.put, List.setIfInBounds_toArray, List.set_cons_zero, List.set_cons_succ]
    refine wpAnyT_take (i := 4) (oi := { dst := some 28, op := Op.load 3 (Operand.tmp 27), type := 3, pos := "sheet.go:25", after := #[{ on := 3, ground := Ground.data }], guard := none }) (v := .int .i64 st.drops) rfl (by kernel_rfl) (by kernel_rfl) (by kernel_rfl) (by kernel_rfl) (fun _ _ _ h => h) (Or.inl ⟨by rfl, ?_⟩) hHeld ?_
    · intro w hSw
      obtain ⟨h0, h1⟩ := hSw
      first
        | rfl
        | (go_simp; done)
    try simp only [Act.put, List.setIfInBounds_toArray, List.set_cons_zero, List.set_cons_succ]
    refine wpAnyT_take (i := 5) (oi := { dst := some 29, op := Op.fieldAddr 39 (Operand.tmp 3) 1, type := 0, pos := "sheet.go:25", after := #[], guard := none }) (v := .pointer (some ⟨q, 1, none⟩)) rfl (by kernel_rfl) (by kernel_rfl) (by kernel_rfl) (by kernel_rfl) (fun _ _ _ h => h) (Or.inl ⟨by rfl, ?_⟩) hHeld ?_
    · intro w hSw
      obtain ⟨h0, h1⟩ := hSw
      first
        | rfl
        | (go_simp; done)
    try simp only [Act.put, List.setIfInBounds_toArray, List.set_cons_zero, List.set_cons_succ]
    refine wpAnyT_take (i := 6) (oi := { dst := some 30, op := Op.load 3 (Operand.tmp 29), type := 3, pos := "sheet.go:25", after := #[{ on := 5, ground := Ground.data }], guard := none }) (v := .int .i64 p.n) rfl (by kernel_rfl) (by kernel_rfl) (by kernel_rfl) (by kernel_rfl) (fun _ _ _ h => h) (Or.inl ⟨by rfl, ?_⟩) hHeld ?_
    · intro w hSw
      obtain ⟨h0, h1⟩ := hSw
      first
        | rfl
        | (go_simp; done)
    try simp only [Act.put, List.setIfInBounds_toArray, List.set_cons_zero, List.set_cons_succ]
    refine wpAnyT_one (i := 7) (o := { dst := some 31, op := Op.call { callee := Callee.value (Operand.func 38), args := #[Operand.tmp 28, Operand.tmp 30], argTypes := #[3, 3] }, type := 3, pos := "sheet.go:25", after := #[{ on := 4, ground := Ground.data }, { on := 6, ground := Ground.data }], guard := none }) (by kernel_rfl) rfl (fun K hK => ?_)
    go_simp
    refine Calls.mono (plus_any st.drops p.n _ b0 b1 hp0 hp1) ?_
    rintro e w9 ⟨rfl, rfl⟩
    go_wp2_with fail
    refine hK.out _ _ (fun _ => ⟨s0, s1⟩) ?_
    clear hK K
    clear s1
    try simp only [Act.put, List.setIfInBounds_toArray, List.set_cons_zero, List.set_cons_succ]
    refine wpAnyT_pure (i := 8) (oi := { dst := some 32, op := Op.nilCheck (Operand.tmp 24), type := 0, pos := "sheet.go:25", after := #[{ on := 0, ground := Ground.data }, { on := 0, ground := Ground.phase }, { on := 1, ground := Ground.phase }, { on := 2, ground := Ground.phase }, { on := 3, ground := Ground.phase }, { on := 4, ground := Ground.phase }, { on := 5, ground := Ground.phase }, { on := 6, ground := Ground.phase }, { on := 7, ground := Ground.phase }], guard := none }) (v := .pointer (some ⟨g, 0, none⟩)) rfl (by kernel_rfl) (by kernel_rfl) (by kernel_rfl) rfl (fun _ _ _ h => h) (Or.inl ⟨by rfl, ?_⟩) ?_
    · intro w hSw
      first
        | rfl
        | (go_simp; done)
    try simp only [Act.put, List.setIfInBounds_toArray, List.set_cons_zero, List.set_cons_succ]
    refine wpAnyT_pure (i := 9) (oi := { dst := some 33, op := Op.fieldAddr 119 (Operand.tmp 32) 2, type := 0, pos := "sheet.go:25", after := #[{ on := 8, ground := Ground.data }, { on := 0, ground := Ground.phase }, { on := 1, ground := Ground.phase }, { on := 2, ground := Ground.phase }, { on := 3, ground := Ground.phase }, { on := 4, ground := Ground.phase }, { on := 5, ground := Ground.phase }, { on := 6, ground := Ground.phase }, { on := 7, ground := Ground.phase }], guard := none }) (v := .pointer (some ⟨g, 2, none⟩)) rfl (by kernel_rfl) (by kernel_rfl) (by kernel_rfl) rfl (fun _ _ _ h => h) (Or.inl ⟨by rfl, ?_⟩) ?_
    · intro w hSw
      first
        | rfl
        | (go_simp; done)
    try simp only [Act.put, List.setIfInBounds_toArray, List.set_cons_zero, List.set_cons_succ]
    have y0 : wd.frozen? ⟨g, 2, none⟩ = false := (unhide HR0).row.frozen 2
    refine wpAnyT_one (i := 10) (o := { dst := none, op := Op.store 3 (Operand.tmp 33) (Operand.tmp 31), type := 0, pos := "sheet.go:25", after := #[{ on := 9, ground := Ground.data }, { on := 7, ground := Ground.data }, { on := 7, ground := Ground.chain }, { on := 0, ground := Ground.phase }, { on := 1, ground := Ground.phase }, { on := 2, ground := Ground.phase }, { on := 3, ground := Ground.phase }, { on := 4, ground := Ground.phase }, { on := 5, ground := Ground.phase }, { on := 6, ground := Ground.phase }, { on := 7, ground := Ground.phase }], guard := none }) (by kernel_rfl) rfl (fun K hK => ?_)
    go_simp
    refine hK.out _ _ (fun h => by cases h) ?_
    clear hK K
    try simp only [Act.put, List.setIfInBounds_toArray, List.set_cons_zero, List.set_cons_succ]
    refine wpAnyT_done (by kernel_rfl) ?_ _
    have HRN := hide ((unhide HR0).nums ((unhide HR0).row.set 2 (.int .i64 (plusN st.drops p.n))) ((Only.refl (· = g) _).set g 2 _ rfl))
    obtain ⟨w5, hw5⟩ : ∃ z, (wd.setCell ⟨g, 2, none⟩ (.int .i64 (plusN st.drops p.n))) = z := ⟨_, rfl⟩
    rw [hw5] at HRN ⊢
    clear hw5 y0 s0 HR0
    go_wp2_with fail
    go_end0
    obtain ⟨r1, r2, r3, r4, r5, r6, r7⟩ := unhide HRN
    exact ⟨rfl, dv, av, bv, unhide HP, r1, r2, r3, r4, r5, r6, fun q cs e => by cases e⟩
end Go.Proofs.YtonabfpgdgnpnaaDoor
