/- As much of two as their heads have in common; what becomes of pieces. -/
import Derived.Test.YtonabfpgdgnpnaaDoorTwo
namespace Go.Proofs.YtonabfpgdgnpnaaDoor
set_option linter.unusedVariables false
set_option linter.unusedSimpArgs false
open Go.ChangeShapes Go.WideShapes Go.ChangeAt Go.RowKit Go.Joins Go.Deep

set_option maxRecDepth 100000 in
set_option maxHeartbeats 4000000 in
theorem both_any {w0 w : World} {g1 g2 B : Nat} {h1 h2 : Pt} {l1 l2 : List Pt} (f1 : Fa w g1 B (h1 :: l1)) (f2 : Fa w g2 B (h2 :: l2)) (hne : g1 ≠ g2) (hB1 : w0.heap.size ≤ g1) (hB2 : w0.heap.size ≤ g2) (hBB : B ≤ w0.heap.size) (hT : UT w0) (h0 : Below w0.heap.size w0 w) :
    Calls Tryd.prog 67 #[.pointer (some ⟨g1, 0, none⟩), .pointer (some ⟨g2, 0, none⟩)] w fun r w' => ∃ p q l1' l2', r = .returned (.tuple #[pv p, pv q]) ∧ Pc h1 p l1 l1' (min h1.n h2.n).toNat ∧ Pc h2 q l2 l2' (min h1.n h2.n).toNat ∧ Fa w' g1 B l1' ∧ Fa w' g2 B l2' ∧ Only (fun k => k = g1 ∨ k = g2) w w' := by
  have k1 := f1.good h1 (List.mem_cons_self ..)
  have k2 := f2.good h2 (List.mem_cons_self ..)
  have hz : Below w.heap.size w ((w.alloc (.cells #[.int .i64 0, .int .i64 0, .string ⟨#[]⟩] 39)).alloc (.cells #[.int .i64 0, .int .i64 0, .string ⟨#[]⟩] 39)) := ((Below.refl _ _).alloc (Nat.le_refl _) _).alloc (by simp) _
  have hzd : Below w.heap.size w ((w.alloc (.cells #[.int .i64 0, .int .i64 0, .string ⟨#[]⟩] 39)).alloc (.cells #[.int .i64 0, .int .i64 0, .string ⟨#[]⟩] 39)).drew := hz.drew
  have F1 := hide (f1.call hzd)
  have F2 := hide (f2.call hzd)
  have HR5 : Hid (RowAt ((w.alloc (.cells #[.int .i64 0, .int .i64 0, .string ⟨#[]⟩] 39)).alloc (.cells #[.int .i64 0, .int .i64 0, .string ⟨#[]⟩] 39)).drew (w.heap.size + 1) 39 [.int .i64 0, .int .i64 0, .string ⟨#[]⟩]) := hide (by
    have := (RowAt.new (w.alloc (.cells #[.int .i64 0, .int .i64 0, .string ⟨#[]⟩] 39)) 39 [.int .i64 0, .int .i64 0, .string ⟨#[]⟩]).drew
    rw [size_alloc] at this
    exact this)
  have HR4 : Hid (RowAt ((w.alloc (.cells #[.int .i64 0, .int .i64 0, .string ⟨#[]⟩] 39)).alloc (.cells #[.int .i64 0, .int .i64 0, .string ⟨#[]⟩] 39)).drew w.heap.size 39 [.int .i64 0, .int .i64 0, .string ⟨#[]⟩]) := hide (((RowAt.new w 39 [.int .i64 0, .int .i64 0, .string ⟨#[]⟩]).below ((Below.refl _ _).alloc (Nat.le_refl _) _) (by rw [size_alloc]; omega)).drew)
  have HZ := hide hzd
  have HT := hide hT
  have H0 := hide h0
  have HBB := hide hBB
  have HL1 := hide f1.lt
  have HL2 := hide f2.lt
  have HB := hide f1.sz
  obtain ⟨n1, hn1⟩ : ∃ z, h1.n = z := ⟨_, rfl⟩
  obtain ⟨n2, hn2⟩ : ∃ z, h2.n = z := ⟨_, rfl⟩
  have b1 : 1 ≤ n1 ∧ n1 ≤ 1099511627776 := by rw [← hn1]; exact ⟨k1.1.1, k1.2⟩
  have b2 : 1 ≤ n2 ∧ n2 ≤ 1099511627776 := by rw [← hn2]; exact ⟨k2.1.1, k2.2⟩
  have HN1 := hide hn1
  have HN2 := hide hn2
  have HNE := hide hne
  have HB1 := hide hB1
  have HB2 := hide hB2
  obtain ⟨m, hm⟩ : ∃ m, min n1 n2 = m := ⟨_, rfl⟩
  have HM := hide hm
  have bm : 1 ≤ m ∧ m ≤ 1099511627776 := by omega
  have d1 : ((w.alloc (.cells #[.int .i64 0, .int .i64 0, .string ⟨#[]⟩] 39)).alloc (.cells #[.int .i64 0, .int .i64 0, .string ⟨#[]⟩] 39)).drew.cell? ⟨g1, 1, none⟩ = some (.int .i64 n1) := by
    obtain ⟨a, c, fd, _⟩ := (unhide F1).feed
    have := fd.row.cell 1
    rw [← unhide HN1]
    exact this
  have d2 : ((w.alloc (.cells #[.int .i64 0, .int .i64 0, .string ⟨#[]⟩] 39)).alloc (.cells #[.int .i64 0, .int .i64 0, .string ⟨#[]⟩] 39)).drew.cell? ⟨g2, 1, none⟩ = some (.int .i64 n2) := by
    obtain ⟨a, c, fd, _⟩ := (unhide F2).feed
    have := fd.row.cell 1
    rw [← unhide HN2]
    exact this
  have hmin : (if n1 ≤ n2 then n1 else n2) = m := by rw [← hm]; rfl
  clear f1 f2 hz hzd hT h0 hBB k1 k2 hn1 hn2 hne hB1 hB2 hm
  go_enter Tryd.func67, Tryd.ntmps67
  go_wp2_with fail
  refine wp_region_T (S := fun W => W.cell? ⟨g1, 1, none⟩ = some (.int .i64 n1) ∧ W.cell? ⟨g2, 1, none⟩ = some (.int .i64 n2)) (fun i => decide (i < 12)) (by kernel_rfl) ⟨d1, d2⟩ (fun hHeld => ?_)
  obtain ⟨wd, hwd⟩ : ∃ z, ((w.alloc (.cells #[.int .i64 0, .int .i64 0, .string ⟨#[]⟩] 39)).alloc (.cells #[.int .i64 0, .int .i64 0, .string ⟨#[]⟩] 39)).drew = z := ⟨_, rfl⟩
  rw [hwd] at F1 F2 HR5 HR4 HZ hHeld d1 d2 ⊢
  clear hwd d1 d2
  clear hmin
  refine wpAnyT_take (i := 0) (oi := { dst := some 7, op := Op.move (Operand.tmp 0), type := 103, pos := "pair.go:45", after := #[], guard := none }) (v := .pointer (some ⟨g1, 0, none⟩)) rfl (by kernel_rfl) (by kernel_rfl) (by kernel_rfl) (by kernel_rfl) (fun _ _ _ h => h) (Or.inl ⟨by rfl, ?_⟩) hHeld ?_
  · intro w hSw
    obtain ⟨s0, s1⟩ := hSw
    first
      | rfl
      | (go_simp; done)
  try simp only [Act.put, List.setIfInBounds_toArray, List.set_cons_zero, List.set_cons_succ]
  refine wpAnyT_take (i := 1) (oi := { dst := some 8, op := Op.nilCheck (Operand.tmp 7), type := 0, pos := "pair.go:45", after := #[{ on := 0, ground := Ground.data }], guard := none }) (v := .pointer (some ⟨g1, 0, none⟩)) rfl (by kernel_rfl) (by kernel_rfl) (by kernel_rfl) (by kernel_rfl) (fun _ _ _ h => h) (Or.inl ⟨by rfl, ?_⟩) hHeld ?_
  · intro w hSw
    obtain ⟨s0, s1⟩ := hSw
    first
      | rfl
      | (go_simp; done)
  try simp only [Act.put, List.setIfInBounds_toArray, List.set_cons_zero, List.set_cons_succ]
  refine wpAnyT_take (i := 2) (oi := { dst := some 9, op := Op.fieldAddr 129 (Operand.tmp 8) 0, type := 0, pos := "pair.go:45", after := #[{ on := 1, ground := Ground.data }], guard := none }) (v := .pointer (some ⟨g1, 0, none⟩)) rfl (by kernel_rfl) (by kernel_rfl) (by kernel_rfl) (by kernel_rfl) (fun _ _ _ h => h) (Or.inl ⟨by rfl, ?_⟩) hHeld ?_
  · intro w hSw
    obtain ⟨s0, s1⟩ := hSw
    first
      | rfl
      | (go_simp; done)
  try simp only [Act.put, List.setIfInBounds_toArray, List.set_cons_zero, List.set_cons_succ]
  refine wpAnyT_take (i := 3) (oi := { dst := some 10, op := Op.fieldAddr 39 (Operand.tmp 9) 1, type := 0, pos := "pair.go:45", after := #[{ on := 2, ground := Ground.data }], guard := none }) (v := .pointer (some ⟨g1, 1, none⟩)) rfl (by kernel_rfl) (by kernel_rfl) (by kernel_rfl) (by kernel_rfl) (fun _ _ _ h => h) (Or.inl ⟨by rfl, ?_⟩) hHeld ?_
  · intro w hSw
    obtain ⟨s0, s1⟩ := hSw
    first
      | rfl
      | (go_simp; done)
  try simp only [Act.put, List.setIfInBounds_toArray, List.set_cons_zero, List.set_cons_succ]
  refine wpAnyT_take (i := 4) (oi := { dst := some 11, op := Op.load 3 (Operand.tmp 10), type := 3, pos := "pair.go:45", after := #[{ on := 3, ground := Ground.data }], guard := none }) (v := .int .i64 n1) rfl (by kernel_rfl) (by kernel_rfl) (by kernel_rfl) (by kernel_rfl) (fun _ _ _ h => h) (Or.inl ⟨by rfl, ?_⟩) hHeld ?_
  · intro w hSw
    obtain ⟨s0, s1⟩ := hSw
    first
      | rfl
      | (go_simp; done)
  try simp only [Act.put, List.setIfInBounds_toArray, List.set_cons_zero, List.set_cons_succ]
  refine wpAnyT_take (i := 5) (oi := { dst := some 12, op := Op.move (Operand.tmp 1), type := 103, pos := "pair.go:45", after := #[], guard := none }) (v := .pointer (some ⟨g2, 0, none⟩)) rfl (by kernel_rfl) (by kernel_rfl) (by kernel_rfl) (by kernel_rfl) (fun _ _ _ h => h) (Or.inl ⟨by rfl, ?_⟩) hHeld ?_
  · intro w hSw
    obtain ⟨s0, s1⟩ := hSw
    first
      | rfl
      | (go_simp; done)
  try simp only [Act.put, List.setIfInBounds_toArray, List.set_cons_zero, List.set_cons_succ]
  refine wpAnyT_take (i := 6) (oi := { dst := some 13, op := Op.nilCheck (Operand.tmp 12), type := 0, pos := "pair.go:45", after := #[{ on := 5, ground := Ground.data }], guard := none }) (v := .pointer (some ⟨g2, 0, none⟩)) rfl (by kernel_rfl) (by kernel_rfl) (by kernel_rfl) (by kernel_rfl) (fun _ _ _ h => h) (Or.inl ⟨by rfl, ?_⟩) hHeld ?_
  · intro w hSw
    obtain ⟨s0, s1⟩ := hSw
    first
      | rfl
      | (go_simp; done)
  try simp only [Act.put, List.setIfInBounds_toArray, List.set_cons_zero, List.set_cons_succ]
  refine wpAnyT_take (i := 7) (oi := { dst := some 14, op := Op.fieldAddr 129 (Operand.tmp 13) 0, type := 0, pos := "pair.go:45", after := #[{ on := 6, ground := Ground.data }], guard := none }) (v := .pointer (some ⟨g2, 0, none⟩)) rfl (by kernel_rfl) (by kernel_rfl) (by kernel_rfl) (by kernel_rfl) (fun _ _ _ h => h) (Or.inl ⟨by rfl, ?_⟩) hHeld ?_
  · intro w hSw
    obtain ⟨s0, s1⟩ := hSw
    first
      | rfl
      | (go_simp; done)
  try simp only [Act.put, List.setIfInBounds_toArray, List.set_cons_zero, List.set_cons_succ]
  refine wpAnyT_take (i := 8) (oi := { dst := some 15, op := Op.fieldAddr 39 (Operand.tmp 14) 1, type := 0, pos := "pair.go:45", after := #[{ on := 7, ground := Ground.data }], guard := none }) (v := .pointer (some ⟨g2, 1, none⟩)) rfl (by kernel_rfl) (by kernel_rfl) (by kernel_rfl) (by kernel_rfl) (fun _ _ _ h => h) (Or.inl ⟨by rfl, ?_⟩) hHeld ?_
  · intro w hSw
    obtain ⟨s0, s1⟩ := hSw
    first
      | rfl
      | (go_simp; done)
  try simp only [Act.put, List.setIfInBounds_toArray, List.set_cons_zero, List.set_cons_succ]
  refine wpAnyT_take (i := 9) (oi := { dst := some 16, op := Op.load 3 (Operand.tmp 15), type := 3, pos := "pair.go:45", after := #[{ on := 8, ground := Ground.data }], guard := none }) (v := .int .i64 n2) rfl (by kernel_rfl) (by kernel_rfl) (by kernel_rfl) (by kernel_rfl) (fun _ _ _ h => h) (Or.inl ⟨by rfl, ?_⟩) hHeld ?_
  · intro w hSw
    obtain ⟨s0, s1⟩ := hSw
    first
      | rfl
      | (go_simp; done)
  try simp only [Act.put, List.setIfInBounds_toArray, List.set_cons_zero, List.set_cons_succ]
  refine wpAnyT_take (i := 10) (oi := { dst := some 17, op := Op.call { callee := Callee.builtin Builtin.min, args := #[Operand.tmp 11, Operand.tmp 16], argTypes := #[3, 3] }, type := 3, pos := "pair.go:45", after := #[{ on := 4, ground := Ground.data }, { on := 9, ground := Ground.data }], guard := none }) (v := .int .i64 m) rfl (by kernel_rfl) (by kernel_rfl) (by kernel_rfl) (by kernel_rfl) (fun _ _ _ h => h) (Or.inl ⟨by rfl, ?_⟩) hHeld ?_
  · intro w hSw
    obtain ⟨s0, s1⟩ := hSw
    go_simp
    exact unhide HM
  try simp only [Act.put, List.setIfInBounds_toArray, List.set_cons_zero, List.set_cons_succ]
  refine wpAnyT_take (i := 11) (oi := { dst := some 6, op := Op.assign (Operand.tmp 17), type := 3, pos := "pair.go:45", after := #[{ on := 10, ground := Ground.data }, { on := 0, ground := Ground.phase }, { on := 1, ground := Ground.phase }, { on := 2, ground := Ground.phase }, { on := 3, ground := Ground.phase }, { on := 4, ground := Ground.phase }, { on := 5, ground := Ground.phase }, { on := 6, ground := Ground.phase }, { on := 7, ground := Ground.phase }, { on := 8, ground := Ground.phase }, { on := 9, ground := Ground.phase }, { on := 10, ground := Ground.phase }], guard := none }) (v := .int .i64 m) rfl (by kernel_rfl) (by kernel_rfl) (by kernel_rfl) (by kernel_rfl) (fun _ _ _ h => h) (Or.inl ⟨by rfl, ?_⟩) hHeld ?_
  · intro w hSw
    obtain ⟨s0, s1⟩ := hSw
    first
      | rfl
      | (go_simp; done)
  try simp only [Act.put, List.setIfInBounds_toArray, List.set_cons_zero, List.set_cons_succ]
  refine wpAnyT_done (by kernel_rfl) ?_ _
  go_wp2_with fail
  have HW0 : Hid (Below w0.heap.size w0 wd) := hide ((unhide H0).trans ((unhide HZ).mono (unhide H0).size))
  refine Calls.mono (take_any (unhide F1) ((unhide HT).call (unhide HW0)) bm.1 bm.2) ?_
  rintro r w1 ⟨p, l1', rfl, hp, hf1, ho1⟩
  have HF1 := hide hf1
  have HP := hide hp
  have HF2 := hide ((unhide F2).keep ho1 (fun e => unhide HNE e.symm) (fun k hk => by have := unhide HB1; have := unhide HBB; omega))
  have HR41 := hide ((unhide HR4).only ho1 (by have := unhide HL1; omega))
  have HR51 := hide ((unhide HR5).only ho1 (by have := unhide HL1; omega))
  have HW1 : Hid (Below w0.heap.size w0 w1) := hide ((unhide HW0).trans (ho1.below (unhide HW0).size (fun k hk => by have := unhide HB1; omega)))
  have HO1 := hide ((Only.of_below (p := fun k => k = g1 ∨ k = g2) (unhide HZ)).trans (ho1.mono (fun k hk => .inl hk)))
  clear hf1 hp ho1 F1 F2 HR4 HR5 HW0 HZ
  unfold pv
  go_wp2_with fail
  refine Calls.mono (take_any (unhide HF2) ((unhide HT).call (unhide HW1)) bm.1 bm.2) ?_
  rintro r w2 ⟨q, l2', rfl, hq, hf2, ho2⟩
  have HF22 := hide hf2
  have HQ := hide hq
  have HF12 := hide ((unhide HF1).keep ho2 (fun e => unhide HNE e) (fun k hk => by have := unhide HB2; have := unhide HBB; omega))
  have HR42 := hide ((unhide HR41).only ho2 (by have := unhide HL2; omega))
  have HR52 := hide ((unhide HR51).only ho2 (by have := unhide HL2; omega))
  have HO2 := hide ((unhide HO1).trans (ho2.mono (fun k hk => .inr hk)))
  have HS2 := hide (unhide HO2).size
  clear hf2 hq ho2 HF2 HF1 HR41 HR51 HO1 HW1
  have a0 : w2.cell? ⟨w.heap.size, 0, none⟩ = some (.int .i64 0) := (unhide HR42).cell 0
  have a1 : w2.cell? ⟨w.heap.size, 1, none⟩ = some (.int .i64 0) := (unhide HR42).cell 1
  have a2 : w2.cell? ⟨w.heap.size, 2, none⟩ = some (.string ⟨#[]⟩) := (unhide HR42).cell 2
  have y0 : w2.frozen? ⟨w.heap.size, 0, none⟩ = false := (unhide HR42).frozen 0
  have y1 : w2.frozen? ⟨w.heap.size, 1, none⟩ = false := (unhide HR42).frozen 1
  have y2 : w2.frozen? ⟨w.heap.size, 2, none⟩ = false := (unhide HR42).frozen 2
  have c0 : w2.cell? ⟨w.heap.size + 1, 0, none⟩ = some (.int .i64 0) := (unhide HR52).cell 0
  have c1 : w2.cell? ⟨w.heap.size + 1, 1, none⟩ = some (.int .i64 0) := (unhide HR52).cell 1
  have c2 : w2.cell? ⟨w.heap.size + 1, 2, none⟩ = some (.string ⟨#[]⟩) := (unhide HR52).cell 2
  have x0 : w2.frozen? ⟨w.heap.size + 1, 0, none⟩ = false := (unhide HR52).frozen 0
  have x1 : w2.frozen? ⟨w.heap.size + 1, 1, none⟩ = false := (unhide HR52).frozen 1
  have x2 : w2.frozen? ⟨w.heap.size + 1, 2, none⟩ = false := (unhide HR52).frozen 2
  have HFIN : Hid (RowAt ((((((w2.setCell ⟨w.heap.size, 0, none⟩ (.int .i64 p.kind)).setCell ⟨w.heap.size, 1, none⟩ (.int .i64 p.n)).setCell ⟨w.heap.size, 2, none⟩ (.string p.text)).setCell ⟨w.heap.size + 1, 0, none⟩ (.int .i64 q.kind)).setCell ⟨w.heap.size + 1, 1, none⟩ (.int .i64 q.n)).setCell ⟨w.heap.size + 1, 2, none⟩ (.string q.text)) w.heap.size 39 [.int .i64 p.kind, .int .i64 p.n, .string p.text] ∧ RowAt ((((((w2.setCell ⟨w.heap.size, 0, none⟩ (.int .i64 p.kind)).setCell ⟨w.heap.size, 1, none⟩ (.int .i64 p.n)).setCell ⟨w.heap.size, 2, none⟩ (.string p.text)).setCell ⟨w.heap.size + 1, 0, none⟩ (.int .i64 q.kind)).setCell ⟨w.heap.size + 1, 1, none⟩ (.int .i64 q.n)).setCell ⟨w.heap.size + 1, 2, none⟩ (.string q.text)) (w.heap.size + 1) 39 [.int .i64 q.kind, .int .i64 q.n, .string q.text] ∧ Only (fun k => w.heap.size ≤ k) w2 ((((((w2.setCell ⟨w.heap.size, 0, none⟩ (.int .i64 p.kind)).setCell ⟨w.heap.size, 1, none⟩ (.int .i64 p.n)).setCell ⟨w.heap.size, 2, none⟩ (.string p.text)).setCell ⟨w.heap.size + 1, 0, none⟩ (.int .i64 q.kind)).setCell ⟨w.heap.size + 1, 1, none⟩ (.int .i64 q.n)).setCell ⟨w.heap.size + 1, 2, none⟩ (.string q.text))) := hide (by
    have o1 : Only (· = w.heap.size) w2 (((w2.setCell ⟨w.heap.size, 0, none⟩ (.int .i64 p.kind)).setCell ⟨w.heap.size, 1, none⟩ (.int .i64 p.n)).setCell ⟨w.heap.size, 2, none⟩ (.string p.text)) := (((Only.refl (· = w.heap.size) w2).set _ 0 _ rfl).set _ 1 _ rfl).set _ 2 _ rfl
    have o2 : Only (· = w.heap.size + 1) (((w2.setCell ⟨w.heap.size, 0, none⟩ (.int .i64 p.kind)).setCell ⟨w.heap.size, 1, none⟩ (.int .i64 p.n)).setCell ⟨w.heap.size, 2, none⟩ (.string p.text)) ((((((w2.setCell ⟨w.heap.size, 0, none⟩ (.int .i64 p.kind)).setCell ⟨w.heap.size, 1, none⟩ (.int .i64 p.n)).setCell ⟨w.heap.size, 2, none⟩ (.string p.text)).setCell ⟨w.heap.size + 1, 0, none⟩ (.int .i64 q.kind)).setCell ⟨w.heap.size + 1, 1, none⟩ (.int .i64 q.n)).setCell ⟨w.heap.size + 1, 2, none⟩ (.string q.text)) := (((Only.refl (· = w.heap.size + 1) (((w2.setCell ⟨w.heap.size, 0, none⟩ (.int .i64 p.kind)).setCell ⟨w.heap.size, 1, none⟩ (.int .i64 p.n)).setCell ⟨w.heap.size, 2, none⟩ (.string p.text))).set _ 0 _ rfl).set _ 1 _ rfl).set _ 2 _ rfl
    have r4 : RowAt (((w2.setCell ⟨w.heap.size, 0, none⟩ (.int .i64 p.kind)).setCell ⟨w.heap.size, 1, none⟩ (.int .i64 p.n)).setCell ⟨w.heap.size, 2, none⟩ (.string p.text)) w.heap.size 39 [.int .i64 p.kind, .int .i64 p.n, .string p.text] := (((unhide HR42).set 0 (.int .i64 p.kind)).set 1 (.int .i64 p.n)).set 2 (.string p.text)
    refine ⟨r4.only o2 (by omega), ?_, (o1.mono (fun k hk => by omega)).trans (o2.mono (fun k hk => by omega))⟩
    exact ((((unhide HR52).only o1 (by omega)).set 0 (.int .i64 q.kind)).set 1 (.int .i64 q.n)).set 2 (.string q.text))
  clear HR42 HR52
  unfold pv
  simp only []
  repeat (first | (go_big_may; go_says fail) | go_values | go_skip | go_guarded | go_step | go_upon)
  clear a0 a1 a2 y0 y1 y2 c0 c1 c2 x0 x1 x2
  obtain ⟨w5, hw5⟩ : ∃ w5, ((((((w2.setCell ⟨w.heap.size, 0, none⟩ (.int .i64 p.kind)).setCell ⟨w.heap.size, 1, none⟩ (.int .i64 p.n)).setCell ⟨w.heap.size, 2, none⟩ (.string p.text)).setCell ⟨w.heap.size + 1, 0, none⟩ (.int .i64 q.kind)).setCell ⟨w.heap.size + 1, 1, none⟩ (.int .i64 q.n)).setCell ⟨w.heap.size + 1, 2, none⟩ (.string q.text)) = w5 := ⟨_, rfl⟩
  rw [hw5] at HFIN ⊢
  clear hw5
  have f0 : w5.cell? ⟨w.heap.size, 0, none⟩ = some (.int .i64 p.kind) := (unhide HFIN).1.cell 0
  have f1 : w5.cell? ⟨w.heap.size, 1, none⟩ = some (.int .i64 p.n) := (unhide HFIN).1.cell 1
  have f2 : w5.cell? ⟨w.heap.size, 2, none⟩ = some (.string p.text) := (unhide HFIN).1.cell 2
  have f3 : w5.cell? ⟨w.heap.size + 1, 0, none⟩ = some (.int .i64 q.kind) := (unhide HFIN).2.1.cell 0
  have f4 : w5.cell? ⟨w.heap.size + 1, 1, none⟩ = some (.int .i64 q.n) := (unhide HFIN).2.1.cell 1
  have f5 : w5.cell? ⟨w.heap.size + 1, 2, none⟩ = some (.string q.text) := (unhide HFIN).2.1.cell 2
  refine bodyPost_ret (v := .tuple #[pv p, pv q]) (by simp [results, Tryd.results67, go_sem, f0, f1, f2, f3, f4, f5, pv]) rfl ?_
  have e1 : (min h1.n h2.n) = m := by rw [unhide HN1, unhide HN2]; exact unhide HM
  have e2 : min m h1.n = m := by rw [unhide HN1]; have := unhide HM; omega
  have e3 : min m h2.n = m := by rw [unhide HN2]; have := unhide HM; omega
  have hp := unhide HP
  have hq := unhide HQ
  rw [e2] at hp
  rw [e3] at hq
  rw [e1]
  have ho := (unhide HFIN).2.2
  refine ⟨p, q, l1', l2', rfl, hp, hq, (unhide HF12).keep ho (by have := unhide HL1; omega) (fun k hk => by have := unhide HB; omega), (unhide HF22).keep ho (by have := unhide HL2; omega) (fun k hk => by have := unhide HB; omega), (unhide HO2).next ho (fun k hk => .inr hk)⟩
end Go.Proofs.YtonabfpgdgnpnaaDoor
