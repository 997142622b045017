/- A move: what comes. -/
import Derived.Test.YtmkpphkdaiienaaCMp
namespace Go.Proofs.Ytmkpphkdaiienaa
set_option linter.unusedVariables false
set_option linter.unusedSimpArgs false
open Go.ChangeShapes Go.WideShapes Go.ChangeAt Go.RowKit Go.Joins Go.Deep

set_option maxRecDepth 100000 in
set_option maxHeartbeats 4000000 in
theorem move7_ok (B gp N : Nat) (P : PS) (op n : Int) (b : List Nat) (vb : Value) (w : World) (h : Pair w B gp P) (hg : Good N P) (hN : N ≤ 1000) (hv : Vis w B vb b) (hbl : b.length ≤ 1000000000) (hop : wrap64 ((IntKind.u64.wrap op).tmod 12) = 7) :
    Calls Try.prog 32 #[.pointer (some ⟨gp, 0, none⟩), .agg #[.int .i64 op, .int .i64 n, vb]] w fun r w' => MoveR B gp P b w r w' := by
  obtain ⟨ab, cb, hvb⟩ := byt_shape hv.1
  subst hvb
  have b1 : Below w.heap.size w (w.alloc (.cells #[.int .i64 op, .int .i64 n, .slice ab b.length cb] 67)) := (Below.refl _ _).alloc (Nat.le_refl _) _
  have HI := hide (h.call b1)
  have HV := hide (hv.call b1)
  have HBX := hide (RowAt.new w 67 [.int .i64 op, .int .i64 n, .slice ab b.length cb])
  have HB := hide (b1.mono h.low)
  have HG := hide hg
  obtain ⟨gb, hgb⟩ : ∃ z, w.heap.size = z := ⟨_, rfl⟩
  have HGB := hide hgb
  clear h hg hv b1 hgb
  obtain ⟨aw, cw, huw⟩ := own_one ((unhide HI).way 0 (by decide))
  have HUW := hide huw
  have hrc : (w.alloc (.cells #[.int .i64 op, .int .i64 n, .slice ab b.length cb] 67)).cell? ⟨gp, 2, none⟩ = some (.slice aw (P.F 0).length cw) := by rw [← huw]; exact (unhide HI).row.cell 2
  obtain ⟨nf, hnf⟩ : ∃ z, (P.F 0).length = z := ⟨_, rfl⟩
  have HNF := hide hnf
  rw [hnf] at HUW hrc
  clear huw hnf
  by_cases h0 : nf = 0
  · subst h0
    go_enter Try.func32, Try.ntmps32
    go_wp2_with fail
    go_end0
    exact ⟨rfl, P, .inl rfl, unhide HI, unhide HB⟩
  have h0b : ((nf : Int) == 0) = false := by simp [h0]
  have hnf4 : nf ≤ 4000 := by have := (unhide HG).fl 0 (by decide); have := unhide HNF; omega
  obtain ⟨kk, hkk, hkl⟩ := mod_nat n nf (by omega) (by omega)
  go_enter Try.func32, Try.ntmps32
  go_wp2_with fail
  clear hrc
  obtain ⟨w1, hw1⟩ : ∃ z, (w.alloc (.cells #[.int .i64 op, .int .i64 n, .slice ab b.length cb] 67)) = z := ⟨_, rfl⟩
  rw [hw1] at HI HV HBX HB ⊢
  rw [unhide HGB] at HBX ⊢
  clear hw1
  refine wp_region_T (S := fun W => W.cell? ⟨gb, 1, none⟩ = some (.int .i64 n) ∧ W.cell? ⟨gp, 2, none⟩ = some (.slice aw nf cw)) (fun i => decide (i < 14)) (by kernel_rfl) ⟨(unhide HBX).cell 1, by rw [← unhide HUW]; exact (unhide HI).row.cell 2⟩ (fun hHeld => ?_)
  have bd : Below w1.heap.size w1 w1.drew := Below.drew (Below.refl _ _)
  have HI1 := hide ((unhide HI).call bd)
  have HB1 := hide ((unhide HB).trans (bd.mono (unhide HI).low))
  obtain ⟨w2, hw2⟩ : ∃ z, w1.drew = z := ⟨_, rfl⟩
  rw [hw2] at HI1 HB1 hHeld ⊢
  clear hw2 bd HI HB
  have w64 : IntKind.u64.wrap (nf : Int) = (nf : Int) := by rw [show IntKind.u64.wrap (nf : Int) = (nf : Int) % 18446744073709551616 by unfold IntKind.wrap; simp [IntKind.signed, IntKind.bits]]; omega
  have hkk2 : IntKind.i64.wrap ((IntKind.u64.wrap n).tmod (nf : Int)) = (kk : Int) := by have h9 := hkk; unfold wrap64 at h9; rw [IntKind.wrap_i64]; exact h9
  have h0c : ¬ (nf : Int) = 0 := by omega
  have h0d : ¬ nf = 0 := h0
  refine wpAnyT_take (i := 0) (oi := { dst := some 26, op := Op.fieldAddr 67 (Operand.tmp 3) 1, type := 0, pos := "law.go:154", after := #[], guard := none }) (v := .pointer (some ⟨gb, 1, none⟩)) rfl (by kernel_rfl) (by kernel_rfl) (by kernel_rfl) (by kernel_rfl) (fun _ _ _ h => h) (Or.inl ⟨by rfl, ?_⟩) hHeld ?_
  · intro w hSw
    obtain ⟨h1, h2⟩ := hSw
    first
      | rfl
      | (go_simp; done)
  try simp only [Act.put, List.setIfInBounds_toArray, List.set_cons_zero, List.set_cons_succ]
  refine wpAnyT_take (i := 1) (oi := { dst := some 27, op := Op.load 3 (Operand.tmp 26), type := 3, pos := "law.go:154", after := #[{ on := 0, ground := Ground.data }], guard := none }) (v := .int .i64 n) rfl (by kernel_rfl) (by kernel_rfl) (by kernel_rfl) (by kernel_rfl) (fun _ _ _ h => h) (Or.inl ⟨by rfl, ?_⟩) hHeld ?_
  · intro w hSw
    obtain ⟨h1, h2⟩ := hSw
    first
      | rfl
      | (go_simp; done)
  try simp only [Act.put, List.setIfInBounds_toArray, List.set_cons_zero, List.set_cons_succ]
  refine wpAnyT_take (i := 2) (oi := { dst := some 28, op := Op.convert 3 38 (Operand.tmp 27), type := 38, pos := "law.go:154", after := #[{ on := 1, ground := Ground.data }], guard := none }) (v := .int .u64 (IntKind.u64.wrap n)) rfl (by kernel_rfl) (by kernel_rfl) (by kernel_rfl) (by kernel_rfl) (fun _ _ _ h => h) (Or.inl ⟨by rfl, ?_⟩) hHeld ?_
  · intro w hSw
    obtain ⟨h1, h2⟩ := hSw
    first
      | rfl
      | (go_simp; done)
  try simp only [Act.put, List.setIfInBounds_toArray, List.set_cons_zero, List.set_cons_succ]
  refine wpAnyT_take (i := 3) (oi := { dst := some 29, op := Op.move (Operand.tmp 0), type := 59, pos := "law.go:154", after := #[], guard := none }) (v := .pointer (some ⟨gp, 0, none⟩)) rfl (by kernel_rfl) (by kernel_rfl) (by kernel_rfl) (by kernel_rfl) (fun _ _ _ h => h) (Or.inl ⟨by rfl, ?_⟩) hHeld ?_
  · intro w hSw
    obtain ⟨h1, h2⟩ := hSw
    first
      | rfl
      | (go_simp; done)
  try simp only [Act.put, List.setIfInBounds_toArray, List.set_cons_zero, List.set_cons_succ]
  refine wpAnyT_take (i := 4) (oi := { dst := some 30, op := Op.move (Operand.tmp 6), type := 3, pos := "law.go:154", after := #[], guard := none }) (v := .int .i64 0) rfl (by kernel_rfl) (by kernel_rfl) (by kernel_rfl) (by kernel_rfl) (fun _ _ _ h => h) (Or.inl ⟨by rfl, ?_⟩) hHeld ?_
  · intro w hSw
    obtain ⟨h1, h2⟩ := hSw
    first
      | rfl
      | (go_simp; done)
  try simp only [Act.put, List.setIfInBounds_toArray, List.set_cons_zero, List.set_cons_succ]
  refine wpAnyT_take (i := 5) (oi := { dst := some 31, op := Op.nilCheck (Operand.tmp 29), type := 0, pos := "law.go:154", after := #[{ on := 3, ground := Ground.data }], guard := none }) (v := .pointer (some ⟨gp, 0, none⟩)) rfl (by kernel_rfl) (by kernel_rfl) (by kernel_rfl) (by kernel_rfl) (fun _ _ _ h => h) (Or.inl ⟨by rfl, ?_⟩) hHeld ?_
  · intro w hSw
    obtain ⟨h1, h2⟩ := hSw
    first
      | rfl
      | (go_simp; done)
  try simp only [Act.put, List.setIfInBounds_toArray, List.set_cons_zero, List.set_cons_succ]
  refine wpAnyT_take (i := 6) (oi := { dst := some 32, op := Op.fieldAddr 65 (Operand.tmp 31) 1, type := 0, pos := "law.go:154", after := #[{ on := 5, ground := Ground.data }], guard := none }) (v := .pointer (some ⟨gp, 2, none⟩)) rfl (by kernel_rfl) (by kernel_rfl) (by kernel_rfl) (by kernel_rfl) (fun _ _ _ h => h) (Or.inl ⟨by rfl, ?_⟩) hHeld ?_
  · intro w hSw
    obtain ⟨h1, h2⟩ := hSw
    first
      | rfl
      | (go_simp; done)
  try simp only [Act.put, List.setIfInBounds_toArray, List.set_cons_zero, List.set_cons_succ]
  refine wpAnyT_take (i := 7) (oi := { dst := some 33, op := Op.indexAddr 62 (Operand.tmp 32) (Operand.tmp 30), type := 0, pos := "law.go:154", after := #[{ on := 6, ground := Ground.data }, { on := 4, ground := Ground.data }], guard := none }) (v := .pointer (some ⟨gp, 2, none⟩)) rfl (by kernel_rfl) (by kernel_rfl) (by kernel_rfl) (by kernel_rfl) (fun _ _ _ h => h) (Or.inl ⟨by rfl, ?_⟩) hHeld ?_
  · intro w hSw
    obtain ⟨h1, h2⟩ := hSw
    first
      | rfl
      | (go_simp; done)
  try simp only [Act.put, List.setIfInBounds_toArray, List.set_cons_zero, List.set_cons_succ]
  refine wpAnyT_take (i := 8) (oi := { dst := some 34, op := Op.load 48 (Operand.tmp 33), type := 48, pos := "law.go:154", after := #[{ on := 7, ground := Ground.data }], guard := none }) (v := .slice aw nf cw) rfl (by kernel_rfl) (by kernel_rfl) (by kernel_rfl) (by kernel_rfl) (fun _ _ _ h => h) (Or.inl ⟨by rfl, ?_⟩) hHeld ?_
  · intro w hSw
    obtain ⟨h1, h2⟩ := hSw
    first
      | rfl
      | (go_simp; done)
  try simp only [Act.put, List.setIfInBounds_toArray, List.set_cons_zero, List.set_cons_succ]
  refine wpAnyT_take (i := 9) (oi := { dst := some 35, op := Op.call { callee := Callee.builtin Builtin.len, args := #[Operand.tmp 34], argTypes := #[48] }, type := 3, pos := "law.go:154", after := #[{ on := 8, ground := Ground.data }], guard := none }) (v := .int .i64 (nf : Int)) rfl (by kernel_rfl) (by kernel_rfl) (by kernel_rfl) (by kernel_rfl) (fun _ _ _ h => h) (Or.inl ⟨by rfl, ?_⟩) hHeld ?_
  · intro w hSw
    obtain ⟨h1, h2⟩ := hSw
    first
      | rfl
      | (go_simp; done)
  try simp only [Act.put, List.setIfInBounds_toArray, List.set_cons_zero, List.set_cons_succ]
  refine wpAnyT_take (i := 10) (oi := { dst := some 36, op := Op.convert 3 38 (Operand.tmp 35), type := 38, pos := "law.go:154", after := #[{ on := 9, ground := Ground.data }], guard := none }) (v := .int .u64 (nf : Int)) rfl (by kernel_rfl) (by kernel_rfl) (by kernel_rfl) (by kernel_rfl) (fun _ _ _ h => h) (Or.inl ⟨by rfl, ?_⟩) hHeld ?_
  · intro w hSw
    obtain ⟨h1, h2⟩ := hSw
    first
      | rfl
      | (go_simp; done)
  try simp only [Act.put, List.setIfInBounds_toArray, List.set_cons_zero, List.set_cons_succ]
  refine wpAnyT_take (i := 11) (oi := { dst := some 37, op := Op.binOp BinOp.rem 38 (Operand.tmp 28) (Operand.tmp 36) 38, type := 38, pos := "law.go:154", after := #[{ on := 2, ground := Ground.data }, { on := 10, ground := Ground.data }], guard := none }) (v := .int .u64 ((IntKind.u64.wrap n).tmod (nf : Int))) rfl (by kernel_rfl) (by kernel_rfl) (by kernel_rfl) (by kernel_rfl) (fun _ _ _ h => h) (Or.inl ⟨by rfl, ?_⟩) hHeld ?_
  · intro w hSw
    obtain ⟨h1, h2⟩ := hSw
    first
      | rfl
      | (go_simp; done)
  try simp only [Act.put, List.setIfInBounds_toArray, List.set_cons_zero, List.set_cons_succ]
  refine wpAnyT_take (i := 12) (oi := { dst := some 38, op := Op.convert 38 3 (Operand.tmp 37), type := 3, pos := "law.go:154", after := #[{ on := 11, ground := Ground.data }], guard := none }) (v := .int .i64 (kk : Int)) rfl (by kernel_rfl) (by kernel_rfl) (by kernel_rfl) (by kernel_rfl) (fun _ _ _ h => h) (Or.inl ⟨by rfl, ?_⟩) hHeld ?_
  · intro w hSw
    obtain ⟨h1, h2⟩ := hSw
    first
      | rfl
      | (go_simp; done)
  try simp only [Act.put, List.setIfInBounds_toArray, List.set_cons_zero, List.set_cons_succ]
  refine wpAnyT_take (i := 13) (oi := { dst := some 7, op := Op.assign (Operand.tmp 38), type := 3, pos := "law.go:154", after := #[{ on := 12, ground := Ground.data }, { on := 0, ground := Ground.phase }, { on := 1, ground := Ground.phase }, { on := 2, ground := Ground.phase }, { on := 3, ground := Ground.phase }, { on := 4, ground := Ground.phase }, { on := 5, ground := Ground.phase }, { on := 6, ground := Ground.phase }, { on := 7, ground := Ground.phase }, { on := 8, ground := Ground.phase }, { on := 9, ground := Ground.phase }, { on := 10, ground := Ground.phase }, { on := 11, ground := Ground.phase }, { on := 12, ground := Ground.phase }], guard := none }) (v := .int .i64 (kk : Int)) rfl (by kernel_rfl) (by kernel_rfl) (by kernel_rfl) (by kernel_rfl) (fun _ _ _ h => h) (Or.inl ⟨by rfl, ?_⟩) hHeld ?_
  · intro w hSw
    obtain ⟨h1, h2⟩ := hSw
    first
      | rfl
      | (go_simp; done)
  try simp only [Act.put, List.setIfInBounds_toArray, List.set_cons_zero, List.set_cons_succ]
  refine wpAnyT_done (by kernel_rfl) ?_ _
  obtain ⟨f, hf⟩ : ∃ f, (P.F 0)[kk]? = some f := ⟨_, List.getElem?_eq_getElem (by rw [unhide HNF]; exact hkl)⟩
  have HF := hide hf
  have hway := (unhide HI1).way 0 (by decide)
  rw [unhide HUW] at hway
  obtain ⟨gq, rfl, -, -, -, -, hx⟩ := fcell hway (by rw [unhide HNF]; omega)
  have HFOK := hide ((unhide HG).fr 0 (by decide) f (List.mem_of_getElem? hf))
  obtain ⟨af, cf, haf⟩ := own_one ((unhide HI1).fb 0 (by decide) f (List.mem_of_getElem? hf))
  have HAF := hide haf
  have q0 : w2.cell? ⟨gq, kk * 4, none⟩ = some (.int .i64 f.conn) := hx kk f hf 0 (by omega)
  have q1 : w2.cell? ⟨gq, kk * 4 + 1, none⟩ = some (.int .i64 f.seq) := hx kk f hf 1 (by omega)
  have q2 : w2.cell? ⟨gq, kk * 4 + 2, none⟩ = some (.int .i64 f.ack) := hx kk f hf 2 (by omega)
  have q3 : w2.cell? ⟨gq, kk * 4 + 3, none⟩ = some (.slice af f.body.length cf) := by rw [← haf]; exact hx kk f hf 3 (by omega)
  have HVF : Hid (Vis w2 B (.slice af f.body.length cf) f.body) := hide (by rw [← haf]; have h9 := (unhide HI1).fb 0 (by decide) f (List.mem_of_getElem? hf); exact ⟨Own.byt h9, .inr (.inr h9)⟩)
  have i0 : (0 : Int) ≤ (kk : Int) := by omega
  have i1 : (kk : Int) < (nf : Int) := by omega
  have z2 : w2.cell? ⟨gp, 2, none⟩ = some (.slice (some ⟨gq, 0, none⟩) nf cw) := by rw [← unhide HUW]; exact (unhide HI1).row.cell 2
  clear hx hway hf haf hHeld hkk hkk2
  go_wp2_with fail
  clear q0 q1 q2 q3 z2
  have b3 : Below w2.heap.size w2 (w2.alloc (.cells #[.int .i64 f.conn, .int .i64 f.seq, .int .i64 f.ack, .slice af f.body.length cf] 34)) := (Below.refl _ _).alloc (Nat.le_refl _) _
  have HI3 := hide ((unhide HI1).call b3)
  have HV3 := hide ((unhide HVF).call b3)
  have HX3 := hide (RowAt.new w2 34 [.int .i64 f.conn, .int .i64 f.seq, .int .i64 f.ack, .slice af f.body.length cf])
  have HB3 := hide ((unhide HB1).trans (b3.mono (unhide HI1).low))
  obtain ⟨w3, hw3⟩ : ∃ z, (w2.alloc (.cells #[.int .i64 f.conn, .int .i64 f.seq, .int .i64 f.ack, .slice af f.body.length cf] 34)) = z := ⟨_, rfl⟩
  obtain ⟨gf, hgf⟩ : ∃ z, w2.heap.size = z := ⟨_, rfl⟩
  rw [hw3] at HI3 HV3 HX3 HB3 ⊢
  rw [hgf] at HX3 ⊢
  clear hw3 hgf b3 HI1 HB1 HVF
  refine wp_region_T (S := fun W => W.cell? ⟨gp, 2, none⟩ = some (.slice (some ⟨gq, 0, none⟩) nf cw)) (fun i => decide (1 ≤ i ∧ i < 13)) (by kernel_rfl) (by rw [← unhide HUW]; exact (unhide HI3).row.cell 2) (fun hHeld => ?_)
  have bd : Below w3.heap.size w3 w3.drew := Below.drew (Below.refl _ _)
  have HI4 := hide ((unhide HI3).call bd)
  have HB4 := hide ((unhide HB3).trans (bd.mono (unhide HI3).low))
  have HV4 := hide ((unhide HV3).call bd)
  have HX4 := hide ((unhide HX3).drew)
  obtain ⟨w4, hw4⟩ : ∃ z, w3.drew = z := ⟨_, rfl⟩
  rw [hw4] at HI4 HB4 HV4 HX4 hHeld ⊢
  clear hw4 bd HI3 HB3 HV3 HX3
  have hk1 : IntKind.i64.wrap ((kk : Int) + 1) = (kk : Int) + 1 := by rw [IntKind.wrap_i64]; omega
  refine wpAnyT_pure (i := 0) (oi := { dst := some 50, op := Op.move (Operand.tmp 0), type := 59, pos := "law.go:157", after := #[], guard := none }) (v := .pointer (some ⟨gp, 0, none⟩)) rfl (by kernel_rfl) (by kernel_rfl) (by kernel_rfl) rfl (fun _ _ _ h => h) (Or.inl ⟨by rfl, ?_⟩) ?_
  · intro w hSw
    first
      | rfl
      | (go_simp; done)
  try simp only [Act.put, List.setIfInBounds_toArray, List.set_cons_zero, List.set_cons_succ]
  refine wpAnyT_pure (i := 13) (oi := { dst := some 63, op := Op.nilCheck (Operand.tmp 50), type := 0, pos := "law.go:157", after := #[{ on := 0, ground := Ground.data }], guard := none }) (v := .pointer (some ⟨gp, 0, none⟩)) rfl (by kernel_rfl) (by kernel_rfl) (by kernel_rfl) rfl (fun _ _ _ h => h) (Or.inl ⟨by rfl, ?_⟩) ?_
  · intro w hSw
    first
      | rfl
      | (go_simp; done)
  try simp only [Act.put, List.setIfInBounds_toArray, List.set_cons_zero, List.set_cons_succ]
  refine wpAnyT_pure (i := 14) (oi := { dst := some 64, op := Op.fieldAddr 65 (Operand.tmp 63) 1, type := 0, pos := "law.go:157", after := #[{ on := 13, ground := Ground.data }], guard := none }) (v := .pointer (some ⟨gp, 2, none⟩)) rfl (by kernel_rfl) (by kernel_rfl) (by kernel_rfl) rfl (fun _ _ _ h => h) (Or.inl ⟨by rfl, ?_⟩) ?_
  · intro w hSw
    first
      | rfl
      | (go_simp; done)
  try simp only [Act.put, List.setIfInBounds_toArray, List.set_cons_zero, List.set_cons_succ]
  refine wpAnyT_take (i := 1) (oi := { dst := some 51, op := Op.move (Operand.tmp 6), type := 3, pos := "law.go:157", after := #[], guard := none }) (v := .int .i64 0) rfl (by kernel_rfl) (by kernel_rfl) (by kernel_rfl) (by kernel_rfl) (fun _ _ _ h => h) (Or.inl ⟨by rfl, ?_⟩) hHeld ?_
  · intro w hSw
    obtain h2 := hSw
    first
      | rfl
      | (go_simp; done)
  try simp only [Act.put, List.setIfInBounds_toArray, List.set_cons_zero, List.set_cons_succ]
  refine wpAnyT_take (i := 2) (oi := { dst := some 52, op := Op.move (Operand.tmp 0), type := 59, pos := "law.go:157", after := #[], guard := none }) (v := .pointer (some ⟨gp, 0, none⟩)) rfl (by kernel_rfl) (by kernel_rfl) (by kernel_rfl) (by kernel_rfl) (fun _ _ _ h => h) (Or.inl ⟨by rfl, ?_⟩) hHeld ?_
  · intro w hSw
    obtain h2 := hSw
    first
      | rfl
      | (go_simp; done)
  try simp only [Act.put, List.setIfInBounds_toArray, List.set_cons_zero, List.set_cons_succ]
  refine wpAnyT_take (i := 3) (oi := { dst := some 53, op := Op.move (Operand.tmp 6), type := 3, pos := "law.go:157", after := #[], guard := none }) (v := .int .i64 0) rfl (by kernel_rfl) (by kernel_rfl) (by kernel_rfl) (by kernel_rfl) (fun _ _ _ h => h) (Or.inl ⟨by rfl, ?_⟩) hHeld ?_
  · intro w hSw
    obtain h2 := hSw
    first
      | rfl
      | (go_simp; done)
  try simp only [Act.put, List.setIfInBounds_toArray, List.set_cons_zero, List.set_cons_succ]
  refine wpAnyT_take (i := 4) (oi := { dst := some 54, op := Op.nilCheck (Operand.tmp 52), type := 0, pos := "law.go:157", after := #[{ on := 2, ground := Ground.data }], guard := none }) (v := .pointer (some ⟨gp, 0, none⟩)) rfl (by kernel_rfl) (by kernel_rfl) (by kernel_rfl) (by kernel_rfl) (fun _ _ _ h => h) (Or.inl ⟨by rfl, ?_⟩) hHeld ?_
  · intro w hSw
    obtain h2 := hSw
    first
      | rfl
      | (go_simp; done)
  try simp only [Act.put, List.setIfInBounds_toArray, List.set_cons_zero, List.set_cons_succ]
  refine wpAnyT_take (i := 5) (oi := { dst := some 55, op := Op.fieldAddr 65 (Operand.tmp 54) 1, type := 0, pos := "law.go:157", after := #[{ on := 4, ground := Ground.data }], guard := none }) (v := .pointer (some ⟨gp, 2, none⟩)) rfl (by kernel_rfl) (by kernel_rfl) (by kernel_rfl) (by kernel_rfl) (fun _ _ _ h => h) (Or.inl ⟨by rfl, ?_⟩) hHeld ?_
  · intro w hSw
    obtain h2 := hSw
    first
      | rfl
      | (go_simp; done)
  try simp only [Act.put, List.setIfInBounds_toArray, List.set_cons_zero, List.set_cons_succ]
  refine wpAnyT_take (i := 6) (oi := { dst := some 56, op := Op.indexAddr 62 (Operand.tmp 55) (Operand.tmp 53), type := 0, pos := "law.go:157", after := #[{ on := 5, ground := Ground.data }, { on := 3, ground := Ground.data }], guard := none }) (v := .pointer (some ⟨gp, 2, none⟩)) rfl (by kernel_rfl) (by kernel_rfl) (by kernel_rfl) (by kernel_rfl) (fun _ _ _ h => h) (Or.inl ⟨by rfl, ?_⟩) hHeld ?_
  · intro w hSw
    obtain h2 := hSw
    first
      | rfl
      | (go_simp; done)
  try simp only [Act.put, List.setIfInBounds_toArray, List.set_cons_zero, List.set_cons_succ]
  refine wpAnyT_take (i := 7) (oi := { dst := some 57, op := Op.load 48 (Operand.tmp 56), type := 48, pos := "law.go:157", after := #[{ on := 6, ground := Ground.data }], guard := none }) (v := .slice (some ⟨gq, 0, none⟩) nf cw) rfl (by kernel_rfl) (by kernel_rfl) (by kernel_rfl) (by kernel_rfl) (fun _ _ _ h => h) (Or.inl ⟨by rfl, ?_⟩) hHeld ?_
  · intro w hSw
    obtain h2 := hSw
    first
      | rfl
      | (go_simp; done)
  try simp only [Act.put, List.setIfInBounds_toArray, List.set_cons_zero, List.set_cons_succ]
  refine wpAnyT_take (i := 9) (oi := { dst := some 59, op := Op.move (Operand.tmp 7), type := 3, pos := "law.go:157", after := #[], guard := none }) (v := .int .i64 (kk : Int)) rfl (by kernel_rfl) (by kernel_rfl) (by kernel_rfl) (by kernel_rfl) (fun _ _ _ h => h) (Or.inl ⟨by rfl, ?_⟩) hHeld ?_
  · intro w hSw
    obtain h2 := hSw
    first
      | rfl
      | (go_simp; done)
  try simp only [Act.put, List.setIfInBounds_toArray, List.set_cons_zero, List.set_cons_succ]
  refine wpAnyT_take (i := 10) (oi := { dst := some 60, op := Op.move (Operand.tmp 7), type := 3, pos := "law.go:157", after := #[], guard := none }) (v := .int .i64 (kk : Int)) rfl (by kernel_rfl) (by kernel_rfl) (by kernel_rfl) (by kernel_rfl) (fun _ _ _ h => h) (Or.inl ⟨by rfl, ?_⟩) hHeld ?_
  · intro w hSw
    obtain h2 := hSw
    first
      | rfl
      | (go_simp; done)
  try simp only [Act.put, List.setIfInBounds_toArray, List.set_cons_zero, List.set_cons_succ]
  refine wpAnyT_take (i := 11) (oi := { dst := some 61, op := Op.binOp BinOp.add 3 (Operand.tmp 60) (Operand.const (Value.int IntKind.i64 1)) 3, type := 3, pos := "law.go:157", after := #[{ on := 10, ground := Ground.data }], guard := none }) (v := .int .i64 ((kk + 1 : Nat) : Int)) rfl (by kernel_rfl) (by kernel_rfl) (by kernel_rfl) (by kernel_rfl) (fun _ _ _ h => h) (Or.inl ⟨by rfl, ?_⟩) hHeld ?_
  · intro w hSw
    obtain h2 := hSw
    first
      | rfl
      | (go_simp; done)
  try simp only [Act.put, List.setIfInBounds_toArray, List.set_cons_zero, List.set_cons_succ]
  refine wpAnyT_one (i := 8) (o := { dst := some 58, op := Op.call { callee := Callee.value (Operand.func 51), args := #[Operand.tmp 57], argTypes := #[48] }, type := 48, pos := "law.go:157", after := #[{ on := 7, ground := Ground.data }], guard := none }) (by kernel_rfl) rfl (fun K hK => ?_)
  go_simp
  refine Calls.mono (fclone_any _ nf B (fcs (P.F 0)) w4 (by have h9 := (unhide HI4).way 0 (by decide); rw [unhide HUW, unhide HNF] at h9; exact h9) (by omega) (fcs_one (fun f hf => ((unhide HI4).fb 0 (by decide) f hf).one))) ?_
  rintro r w5 ⟨vc, rfl, o5, b5⟩
  have HO5 := hide o5
  have HO45 := hide (Only.of_below (p := fun _ => False) b5)
  have hS5 : w5.cell? ⟨gp, 2, none⟩ = some (.slice (some ⟨gq, 0, none⟩) nf cw) := by rw [← unhide HUW]; exact ((unhide HI4).call b5).row.cell 2
  clear o5 b5 hHeld
  go_wp2_with fail
  refine hK.out _ _ (fun _ => hS5) ?_
  clear hK K
  try simp only [Act.put, List.setIfInBounds_toArray, List.set_cons_zero, List.set_cons_succ]
  refine wpAnyT_one (i := 12) (o := { dst := some 62, op := Op.call { callee := Callee.value (Operand.func 50), args := #[Operand.tmp 58, Operand.tmp 59, Operand.tmp 61], argTypes := #[48, 3, 3] }, type := 48, pos := "law.go:157", after := #[{ on := 8, ground := Ground.data }, { on := 9, ground := Ground.data }, { on := 11, ground := Ground.data }, { on := 8, ground := Ground.chain }], guard := none }) (by kernel_rfl) rfl (fun K hK => ?_)
  go_simp
  refine Calls.mono (fdel_any w5 w4.heap.size nf kk (kk + 1) vc (fcs (P.F 0)) (unhide HO5) hkl rfl (by omega) (fcs_one (fun f hf => ((unhide HI4).fb 0 (by decide) f hf).one))) ?_
  rintro r w6 ⟨vd, rfl, o6, y6, k6⟩
  have hp6 : ∀ k, vc.ownBlock = some k → w4.heap.size ≤ k := fun k hk => ((unhide HO5).lt k hk).1
  have o46 : Only (fun _ => False) w4 w6 := (unhide HO45).next y6 (fun k hk => .inr (hp6 k hk))
  obtain ⟨at6, ct6, htv⟩ := own_one o6
  subst htv
  have HI7 := hide ((unhide HI4).setW 0 (by decide) (v := .slice at6 (nf - 1) ct6) (x := (P.F 0).take kk ++ (P.F 0).drop (kk + 1)) (o46.mono (fun _ h => h.elim)) (by rw [fcs_app, ← fcs_take, ← fcs_drop, show ((P.F 0).take kk ++ (P.F 0).drop (kk + 1)).length = nf - 1 by rw [List.length_append, List.length_take, List.length_drop, unhide HNF]; omega]; exact own_mono o6 (unhide HI4).low) (fun k hk => .inr (hp6 k (k6 k hk))) (fun f hf => own_only ((unhide HI4).fb 0 (by decide) f (by rcases List.mem_append.1 hf with h | h; exact List.mem_of_mem_take h; exact List.mem_of_mem_drop h)) o46 (fun _ _ h => h)))
  have hr6 : RowAt w6 gp 65 P.cs := (unhide HI4).row.only o46 id
  have hx6 := (unhide HX4).only o46 id
  have o67 : Only (· = gp) w6 (w6.setCell ⟨gp, 2, none⟩ (.slice at6 (nf - 1) ct6)) := Only.set (p := (· = gp)) (Only.refl _ _) gp _ _ rfl
  have HX7 := hide (hx6.only o67 (fun e => rtag hx6 hr6 (by decide) e))
  have hv6 : Vis w6 B (.slice af f.body.length cf) f.body := Bod.keep (unhide HV4) o46 (fun _ h => h.elim) (fun _ _ _ _ _ _ _ _ h => h)
  have HV7 := hide (Bod.keep hv6 o67 (fun k hk => by rw [hk]; exact (unhide HI4).gB) (avoid_row hr6 (by decide)))
  have HB7 := hide (((unhide HB4).trans (o46.below (unhide HI4).low (fun _ h => h.elim))).trans (o67.below (Nat.le_trans (unhide HI4).low o46.size) (fun k hk => by rw [hk]; exact (unhide HI4).gB)))
  have hS6 : w6.cell? ⟨gp, 2, none⟩ = some (.slice (some ⟨gq, 0, none⟩) nf cw) := by rw [← unhide HUW]; exact hr6.cell 2
  have HF6 : Hid (w6.frozen? ⟨gp, 2, none⟩ = false) := hide (hr6.frozen 2)
  clear o6 y6 k6 hp6 o46 hr6 hx6 o67 hv6 HO5 HO45 HI4 HX4 HV4 HB4 hS5
  go_wp2_with fail
  refine hK.out _ _ (fun _ => hS6) ?_
  clear hK K
  try simp only [Act.put, List.setIfInBounds_toArray, List.set_cons_zero, List.set_cons_succ]
  refine wpAnyT_pure (i := 15) (oi := { dst := some 65, op := Op.indexAddr 62 (Operand.tmp 64) (Operand.tmp 51), type := 0, pos := "law.go:157", after := #[{ on := 14, ground := Ground.data }, { on := 1, ground := Ground.data }, { on := 0, ground := Ground.phase }, { on := 1, ground := Ground.phase }, { on := 2, ground := Ground.phase }, { on := 3, ground := Ground.phase }, { on := 4, ground := Ground.phase }, { on := 5, ground := Ground.phase }, { on := 6, ground := Ground.phase }, { on := 7, ground := Ground.phase }, { on := 8, ground := Ground.phase }, { on := 9, ground := Ground.phase }, { on := 10, ground := Ground.phase }, { on := 11, ground := Ground.phase }, { on := 12, ground := Ground.phase }], guard := none }) (v := .pointer (some ⟨gp, 2, none⟩)) rfl (by kernel_rfl) (by kernel_rfl) (by kernel_rfl) rfl (fun _ _ _ h => h) (Or.inl ⟨by rfl, ?_⟩) ?_
  · intro w hSw
    first
      | rfl
      | (go_simp; done)
  try simp only [Act.put, List.setIfInBounds_toArray, List.set_cons_zero, List.set_cons_succ]
  have f6 := unhide HF6
  refine wpAnyT_one (i := 16) (o := { dst := none, op := Op.store 48 (Operand.tmp 65) (Operand.tmp 62), type := 0, pos := "law.go:157", after := #[{ on := 15, ground := Ground.data }, { on := 12, ground := Ground.data }, { on := 12, ground := Ground.chain }, { on := 0, ground := Ground.phase }, { on := 1, ground := Ground.phase }, { on := 2, ground := Ground.phase }, { on := 3, ground := Ground.phase }, { on := 4, ground := Ground.phase }, { on := 5, ground := Ground.phase }, { on := 6, ground := Ground.phase }, { on := 7, ground := Ground.phase }, { on := 8, ground := Ground.phase }, { on := 9, ground := Ground.phase }, { on := 10, ground := Ground.phase }, { on := 11, ground := Ground.phase }, { on := 12, ground := Ground.phase }], guard := none }) (by kernel_rfl) rfl (fun K hK => ?_)
  go_simp
  refine hK.out _ _ (fun h => by cases h) ?_
  clear hK K
  try simp only [Act.put, List.setIfInBounds_toArray, List.set_cons_zero, List.set_cons_succ]
  refine wpAnyT_done (by kernel_rfl) ?_ _
  have HP7 : Hid (Pair (w6.setCell ⟨gp, 2, none⟩ (.slice at6 (nf - 1) ct6)) B gp (P3 P 0 (.slice at6 (nf - 1) ct6) ((P.F 0).take kk ++ (P.F 0).drop (kk + 1)))) := HI7
  obtain ⟨w7, hw7⟩ : ∃ z, (w6.setCell ⟨gp, 2, none⟩ (.slice at6 (nf - 1) ct6)) = z := ⟨_, rfl⟩
  rw [hw7] at HP7 HX7 HV7 HB7 ⊢
  clear hw7 HI7 hS6 f6
  have HE8 : Hid (MoveR B gp P b w (.returned (.tuple #[])) w7) := hide ⟨rfl, _, .inr (.inr (.inr (.inr (.inr (.inl ⟨0, by decide, .slice at6 (nf - 1) ct6, kk, by rw [unhide HNF]; exact hkl, rfl⟩))))), unhide HP7, unhide HB7⟩
  go_wp2_with fail
  go_end0
  exact unhide HE8
set_option maxRecDepth 100000 in
set_option maxHeartbeats 4000000 in
theorem move6_ok (B gp N : Nat) (P : PS) (op n : Int) (b : List Nat) (vb : Value) (w : World) (h : Pair w B gp P) (hg : Good N P) (hN : N ≤ 1000) (hv : Vis w B vb b) (hbl : b.length ≤ 1000000000) (hop : wrap64 ((IntKind.u64.wrap op).tmod 12) = 6) :
    Calls Try.prog 32 #[.pointer (some ⟨gp, 0, none⟩), .agg #[.int .i64 op, .int .i64 n, vb]] w fun r w' => MoveR B gp P b w r w' := by
  obtain ⟨ab, cb, hvb⟩ := byt_shape hv.1
  subst hvb
  have b1 : Below w.heap.size w (w.alloc (.cells #[.int .i64 op, .int .i64 n, .slice ab b.length cb] 67)) := (Below.refl _ _).alloc (Nat.le_refl _) _
  have HI := hide (h.call b1)
  have HV := hide (hv.call b1)
  have HBX := hide (RowAt.new w 67 [.int .i64 op, .int .i64 n, .slice ab b.length cb])
  have HB := hide (b1.mono h.low)
  have HG := hide hg
  obtain ⟨gb, hgb⟩ : ∃ z, w.heap.size = z := ⟨_, rfl⟩
  have HGB := hide hgb
  clear h hg hv b1 hgb
  obtain ⟨aw, cw, huw⟩ := own_one ((unhide HI).way 1 (by decide))
  have HUW := hide huw
  have hrc : (w.alloc (.cells #[.int .i64 op, .int .i64 n, .slice ab b.length cb] 67)).cell? ⟨gp, 3, none⟩ = some (.slice aw (P.F 1).length cw) := by rw [← huw]; exact (unhide HI).row.cell 3
  obtain ⟨nf, hnf⟩ : ∃ z, (P.F 1).length = z := ⟨_, rfl⟩
  have HNF := hide hnf
  rw [hnf] at HUW hrc
  clear huw hnf
  by_cases h0 : nf = 0
  · subst h0
    go_enter Try.func32, Try.ntmps32
    go_wp2_with fail
    go_end0
    exact ⟨rfl, P, .inl rfl, unhide HI, unhide HB⟩
  have h0b : ((nf : Int) == 0) = false := by simp [h0]
  have hnf4 : nf ≤ 4000 := by have := (unhide HG).fl 1 (by decide); have := unhide HNF; omega
  obtain ⟨kk, hkk, hkl⟩ := mod_nat n nf (by omega) (by omega)
  go_enter Try.func32, Try.ntmps32
  go_wp2_with fail
  clear hrc
  obtain ⟨w1, hw1⟩ : ∃ z, (w.alloc (.cells #[.int .i64 op, .int .i64 n, .slice ab b.length cb] 67)) = z := ⟨_, rfl⟩
  rw [hw1] at HI HV HBX HB ⊢
  rw [unhide HGB] at HBX ⊢
  clear hw1
  refine wp_region_T (S := fun W => W.cell? ⟨gb, 1, none⟩ = some (.int .i64 n) ∧ W.cell? ⟨gp, 3, none⟩ = some (.slice aw nf cw)) (fun i => decide (i < 14)) (by kernel_rfl) ⟨(unhide HBX).cell 1, by rw [← unhide HUW]; exact (unhide HI).row.cell 3⟩ (fun hHeld => ?_)
  have bd : Below w1.heap.size w1 w1.drew := Below.drew (Below.refl _ _)
  have HI1 := hide ((unhide HI).call bd)
  have HB1 := hide ((unhide HB).trans (bd.mono (unhide HI).low))
  obtain ⟨w2, hw2⟩ : ∃ z, w1.drew = z := ⟨_, rfl⟩
  rw [hw2] at HI1 HB1 hHeld ⊢
  clear hw2 bd HI HB
  have w64 : IntKind.u64.wrap (nf : Int) = (nf : Int) := by rw [show IntKind.u64.wrap (nf : Int) = (nf : Int) % 18446744073709551616 by unfold IntKind.wrap; simp [IntKind.signed, IntKind.bits]]; omega
  have hkk2 : IntKind.i64.wrap ((IntKind.u64.wrap n).tmod (nf : Int)) = (kk : Int) := by have h9 := hkk; unfold wrap64 at h9; rw [IntKind.wrap_i64]; exact h9
  have h0c : ¬ (nf : Int) = 0 := by omega
  have h0d : ¬ nf = 0 := h0
  refine wpAnyT_take (i := 0) (oi := { dst := some 26, op := Op.fieldAddr 67 (Operand.tmp 3) 1, type := 0, pos := "law.go:154", after := #[], guard := none }) (v := .pointer (some ⟨gb, 1, none⟩)) rfl (by kernel_rfl) (by kernel_rfl) (by kernel_rfl) (by kernel_rfl) (fun _ _ _ h => h) (Or.inl ⟨by rfl, ?_⟩) hHeld ?_
  · intro w hSw
    obtain ⟨h1, h2⟩ := hSw
    first
      | rfl
      | (go_simp; done)
  try simp only [Act.put, List.setIfInBounds_toArray, List.set_cons_zero, List.set_cons_succ]
  refine wpAnyT_take (i := 1) (oi := { dst := some 27, op := Op.load 3 (Operand.tmp 26), type := 3, pos := "law.go:154", after := #[{ on := 0, ground := Ground.data }], guard := none }) (v := .int .i64 n) rfl (by kernel_rfl) (by kernel_rfl) (by kernel_rfl) (by kernel_rfl) (fun _ _ _ h => h) (Or.inl ⟨by rfl, ?_⟩) hHeld ?_
  · intro w hSw
    obtain ⟨h1, h2⟩ := hSw
    first
      | rfl
      | (go_simp; done)
  try simp only [Act.put, List.setIfInBounds_toArray, List.set_cons_zero, List.set_cons_succ]
  refine wpAnyT_take (i := 2) (oi := { dst := some 28, op := Op.convert 3 38 (Operand.tmp 27), type := 38, pos := "law.go:154", after := #[{ on := 1, ground := Ground.data }], guard := none }) (v := .int .u64 (IntKind.u64.wrap n)) rfl (by kernel_rfl) (by kernel_rfl) (by kernel_rfl) (by kernel_rfl) (fun _ _ _ h => h) (Or.inl ⟨by rfl, ?_⟩) hHeld ?_
  · intro w hSw
    obtain ⟨h1, h2⟩ := hSw
    first
      | rfl
      | (go_simp; done)
  try simp only [Act.put, List.setIfInBounds_toArray, List.set_cons_zero, List.set_cons_succ]
  refine wpAnyT_take (i := 3) (oi := { dst := some 29, op := Op.move (Operand.tmp 0), type := 59, pos := "law.go:154", after := #[], guard := none }) (v := .pointer (some ⟨gp, 0, none⟩)) rfl (by kernel_rfl) (by kernel_rfl) (by kernel_rfl) (by kernel_rfl) (fun _ _ _ h => h) (Or.inl ⟨by rfl, ?_⟩) hHeld ?_
  · intro w hSw
    obtain ⟨h1, h2⟩ := hSw
    first
      | rfl
      | (go_simp; done)
  try simp only [Act.put, List.setIfInBounds_toArray, List.set_cons_zero, List.set_cons_succ]
  refine wpAnyT_take (i := 4) (oi := { dst := some 30, op := Op.move (Operand.tmp 6), type := 3, pos := "law.go:154", after := #[], guard := none }) (v := .int .i64 1) rfl (by kernel_rfl) (by kernel_rfl) (by kernel_rfl) (by kernel_rfl) (fun _ _ _ h => h) (Or.inl ⟨by rfl, ?_⟩) hHeld ?_
  · intro w hSw
    obtain ⟨h1, h2⟩ := hSw
    first
      | rfl
      | (go_simp; done)
  try simp only [Act.put, List.setIfInBounds_toArray, List.set_cons_zero, List.set_cons_succ]
  refine wpAnyT_take (i := 5) (oi := { dst := some 31, op := Op.nilCheck (Operand.tmp 29), type := 0, pos := "law.go:154", after := #[{ on := 3, ground := Ground.data }], guard := none }) (v := .pointer (some ⟨gp, 0, none⟩)) rfl (by kernel_rfl) (by kernel_rfl) (by kernel_rfl) (by kernel_rfl) (fun _ _ _ h => h) (Or.inl ⟨by rfl, ?_⟩) hHeld ?_
  · intro w hSw
    obtain ⟨h1, h2⟩ := hSw
    first
      | rfl
      | (go_simp; done)
  try simp only [Act.put, List.setIfInBounds_toArray, List.set_cons_zero, List.set_cons_succ]
  refine wpAnyT_take (i := 6) (oi := { dst := some 32, op := Op.fieldAddr 65 (Operand.tmp 31) 1, type := 0, pos := "law.go:154", after := #[{ on := 5, ground := Ground.data }], guard := none }) (v := .pointer (some ⟨gp, 2, none⟩)) rfl (by kernel_rfl) (by kernel_rfl) (by kernel_rfl) (by kernel_rfl) (fun _ _ _ h => h) (Or.inl ⟨by rfl, ?_⟩) hHeld ?_
  · intro w hSw
    obtain ⟨h1, h2⟩ := hSw
    first
      | rfl
      | (go_simp; done)
  try simp only [Act.put, List.setIfInBounds_toArray, List.set_cons_zero, List.set_cons_succ]
  refine wpAnyT_take (i := 7) (oi := { dst := some 33, op := Op.indexAddr 62 (Operand.tmp 32) (Operand.tmp 30), type := 0, pos := "law.go:154", after := #[{ on := 6, ground := Ground.data }, { on := 4, ground := Ground.data }], guard := none }) (v := .pointer (some ⟨gp, 3, none⟩)) rfl (by kernel_rfl) (by kernel_rfl) (by kernel_rfl) (by kernel_rfl) (fun _ _ _ h => h) (Or.inl ⟨by rfl, ?_⟩) hHeld ?_
  · intro w hSw
    obtain ⟨h1, h2⟩ := hSw
    first
      | rfl
      | (go_simp; done)
  try simp only [Act.put, List.setIfInBounds_toArray, List.set_cons_zero, List.set_cons_succ]
  refine wpAnyT_take (i := 8) (oi := { dst := some 34, op := Op.load 48 (Operand.tmp 33), type := 48, pos := "law.go:154", after := #[{ on := 7, ground := Ground.data }], guard := none }) (v := .slice aw nf cw) rfl (by kernel_rfl) (by kernel_rfl) (by kernel_rfl) (by kernel_rfl) (fun _ _ _ h => h) (Or.inl ⟨by rfl, ?_⟩) hHeld ?_
  · intro w hSw
    obtain ⟨h1, h2⟩ := hSw
    first
      | rfl
      | (go_simp; done)
  try simp only [Act.put, List.setIfInBounds_toArray, List.set_cons_zero, List.set_cons_succ]
  refine wpAnyT_take (i := 9) (oi := { dst := some 35, op := Op.call { callee := Callee.builtin Builtin.len, args := #[Operand.tmp 34], argTypes := #[48] }, type := 3, pos := "law.go:154", after := #[{ on := 8, ground := Ground.data }], guard := none }) (v := .int .i64 (nf : Int)) rfl (by kernel_rfl) (by kernel_rfl) (by kernel_rfl) (by kernel_rfl) (fun _ _ _ h => h) (Or.inl ⟨by rfl, ?_⟩) hHeld ?_
  · intro w hSw
    obtain ⟨h1, h2⟩ := hSw
    first
      | rfl
      | (go_simp; done)
  try simp only [Act.put, List.setIfInBounds_toArray, List.set_cons_zero, List.set_cons_succ]
  refine wpAnyT_take (i := 10) (oi := { dst := some 36, op := Op.convert 3 38 (Operand.tmp 35), type := 38, pos := "law.go:154", after := #[{ on := 9, ground := Ground.data }], guard := none }) (v := .int .u64 (nf : Int)) rfl (by kernel_rfl) (by kernel_rfl) (by kernel_rfl) (by kernel_rfl) (fun _ _ _ h => h) (Or.inl ⟨by rfl, ?_⟩) hHeld ?_
  · intro w hSw
    obtain ⟨h1, h2⟩ := hSw
    first
      | rfl
      | (go_simp; done)
  try simp only [Act.put, List.setIfInBounds_toArray, List.set_cons_zero, List.set_cons_succ]
  refine wpAnyT_take (i := 11) (oi := { dst := some 37, op := Op.binOp BinOp.rem 38 (Operand.tmp 28) (Operand.tmp 36) 38, type := 38, pos := "law.go:154", after := #[{ on := 2, ground := Ground.data }, { on := 10, ground := Ground.data }], guard := none }) (v := .int .u64 ((IntKind.u64.wrap n).tmod (nf : Int))) rfl (by kernel_rfl) (by kernel_rfl) (by kernel_rfl) (by kernel_rfl) (fun _ _ _ h => h) (Or.inl ⟨by rfl, ?_⟩) hHeld ?_
  · intro w hSw
    obtain ⟨h1, h2⟩ := hSw
    first
      | rfl
      | (go_simp; done)
  try simp only [Act.put, List.setIfInBounds_toArray, List.set_cons_zero, List.set_cons_succ]
  refine wpAnyT_take (i := 12) (oi := { dst := some 38, op := Op.convert 38 3 (Operand.tmp 37), type := 3, pos := "law.go:154", after := #[{ on := 11, ground := Ground.data }], guard := none }) (v := .int .i64 (kk : Int)) rfl (by kernel_rfl) (by kernel_rfl) (by kernel_rfl) (by kernel_rfl) (fun _ _ _ h => h) (Or.inl ⟨by rfl, ?_⟩) hHeld ?_
  · intro w hSw
    obtain ⟨h1, h2⟩ := hSw
    first
      | rfl
      | (go_simp; done)
  try simp only [Act.put, List.setIfInBounds_toArray, List.set_cons_zero, List.set_cons_succ]
  refine wpAnyT_take (i := 13) (oi := { dst := some 7, op := Op.assign (Operand.tmp 38), type := 3, pos := "law.go:154", after := #[{ on := 12, ground := Ground.data }, { on := 0, ground := Ground.phase }, { on := 1, ground := Ground.phase }, { on := 2, ground := Ground.phase }, { on := 3, ground := Ground.phase }, { on := 4, ground := Ground.phase }, { on := 5, ground := Ground.phase }, { on := 6, ground := Ground.phase }, { on := 7, ground := Ground.phase }, { on := 8, ground := Ground.phase }, { on := 9, ground := Ground.phase }, { on := 10, ground := Ground.phase }, { on := 11, ground := Ground.phase }, { on := 12, ground := Ground.phase }], guard := none }) (v := .int .i64 (kk : Int)) rfl (by kernel_rfl) (by kernel_rfl) (by kernel_rfl) (by kernel_rfl) (fun _ _ _ h => h) (Or.inl ⟨by rfl, ?_⟩) hHeld ?_
  · intro w hSw
    obtain ⟨h1, h2⟩ := hSw
    first
      | rfl
      | (go_simp; done)
  try simp only [Act.put, List.setIfInBounds_toArray, List.set_cons_zero, List.set_cons_succ]
  refine wpAnyT_done (by kernel_rfl) ?_ _
  obtain ⟨f, hf⟩ : ∃ f, (P.F 1)[kk]? = some f := ⟨_, List.getElem?_eq_getElem (by rw [unhide HNF]; exact hkl)⟩
  have HF := hide hf
  have hway := (unhide HI1).way 1 (by decide)
  rw [unhide HUW] at hway
  obtain ⟨gq, rfl, -, -, -, -, hx⟩ := fcell hway (by rw [unhide HNF]; omega)
  have HFOK := hide ((unhide HG).fr 1 (by decide) f (List.mem_of_getElem? hf))
  obtain ⟨af, cf, haf⟩ := own_one ((unhide HI1).fb 1 (by decide) f (List.mem_of_getElem? hf))
  have HAF := hide haf
  have q0 : w2.cell? ⟨gq, kk * 4, none⟩ = some (.int .i64 f.conn) := hx kk f hf 0 (by omega)
  have q1 : w2.cell? ⟨gq, kk * 4 + 1, none⟩ = some (.int .i64 f.seq) := hx kk f hf 1 (by omega)
  have q2 : w2.cell? ⟨gq, kk * 4 + 2, none⟩ = some (.int .i64 f.ack) := hx kk f hf 2 (by omega)
  have q3 : w2.cell? ⟨gq, kk * 4 + 3, none⟩ = some (.slice af f.body.length cf) := by rw [← haf]; exact hx kk f hf 3 (by omega)
  have HVF : Hid (Vis w2 B (.slice af f.body.length cf) f.body) := hide (by rw [← haf]; have h9 := (unhide HI1).fb 1 (by decide) f (List.mem_of_getElem? hf); exact ⟨Own.byt h9, .inr (.inr h9)⟩)
  have i0 : (0 : Int) ≤ (kk : Int) := by omega
  have i1 : (kk : Int) < (nf : Int) := by omega
  have z2 : w2.cell? ⟨gp, 3, none⟩ = some (.slice (some ⟨gq, 0, none⟩) nf cw) := by rw [← unhide HUW]; exact (unhide HI1).row.cell 3
  clear hx hway hf haf hHeld hkk hkk2
  go_wp2_with fail
  clear q0 q1 q2 q3 z2
  have b3 : Below w2.heap.size w2 (w2.alloc (.cells #[.int .i64 f.conn, .int .i64 f.seq, .int .i64 f.ack, .slice af f.body.length cf] 34)) := (Below.refl _ _).alloc (Nat.le_refl _) _
  have HI3 := hide ((unhide HI1).call b3)
  have HV3 := hide ((unhide HVF).call b3)
  have HX3 := hide (RowAt.new w2 34 [.int .i64 f.conn, .int .i64 f.seq, .int .i64 f.ack, .slice af f.body.length cf])
  have HB3 := hide ((unhide HB1).trans (b3.mono (unhide HI1).low))
  obtain ⟨w3, hw3⟩ : ∃ z, (w2.alloc (.cells #[.int .i64 f.conn, .int .i64 f.seq, .int .i64 f.ack, .slice af f.body.length cf] 34)) = z := ⟨_, rfl⟩
  obtain ⟨gf, hgf⟩ : ∃ z, w2.heap.size = z := ⟨_, rfl⟩
  rw [hw3] at HI3 HV3 HX3 HB3 ⊢
  rw [hgf] at HX3 ⊢
  clear hw3 hgf b3 HI1 HB1 HVF
  refine wp_region_T (S := fun W => W.cell? ⟨gp, 3, none⟩ = some (.slice (some ⟨gq, 0, none⟩) nf cw)) (fun i => decide (1 ≤ i ∧ i < 13)) (by kernel_rfl) (by rw [← unhide HUW]; exact (unhide HI3).row.cell 3) (fun hHeld => ?_)
  have bd : Below w3.heap.size w3 w3.drew := Below.drew (Below.refl _ _)
  have HI4 := hide ((unhide HI3).call bd)
  have HB4 := hide ((unhide HB3).trans (bd.mono (unhide HI3).low))
  have HV4 := hide ((unhide HV3).call bd)
  have HX4 := hide ((unhide HX3).drew)
  obtain ⟨w4, hw4⟩ : ∃ z, w3.drew = z := ⟨_, rfl⟩
  rw [hw4] at HI4 HB4 HV4 HX4 hHeld ⊢
  clear hw4 bd HI3 HB3 HV3 HX3
  have hk1 : IntKind.i64.wrap ((kk : Int) + 1) = (kk : Int) + 1 := by rw [IntKind.wrap_i64]; omega
  refine wpAnyT_pure (i := 0) (oi := { dst := some 50, op := Op.move (Operand.tmp 0), type := 59, pos := "law.go:157", after := #[], guard := none }) (v := .pointer (some ⟨gp, 0, none⟩)) rfl (by kernel_rfl) (by kernel_rfl) (by kernel_rfl) rfl (fun _ _ _ h => h) (Or.inl ⟨by rfl, ?_⟩) ?_
  · intro w hSw
    first
      | rfl
      | (go_simp; done)
  try simp only [Act.put, List.setIfInBounds_toArray, List.set_cons_zero, List.set_cons_succ]
  refine wpAnyT_pure (i := 13) (oi := { dst := some 63, op := Op.nilCheck (Operand.tmp 50), type := 0, pos := "law.go:157", after := #[{ on := 0, ground := Ground.data }], guard := none }) (v := .pointer (some ⟨gp, 0, none⟩)) rfl (by kernel_rfl) (by kernel_rfl) (by kernel_rfl) rfl (fun _ _ _ h => h) (Or.inl ⟨by rfl, ?_⟩) ?_
  · intro w hSw
    first
      | rfl
      | (go_simp; done)
  try simp only [Act.put, List.setIfInBounds_toArray, List.set_cons_zero, List.set_cons_succ]
  refine wpAnyT_pure (i := 14) (oi := { dst := some 64, op := Op.fieldAddr 65 (Operand.tmp 63) 1, type := 0, pos := "law.go:157", after := #[{ on := 13, ground := Ground.data }], guard := none }) (v := .pointer (some ⟨gp, 2, none⟩)) rfl (by kernel_rfl) (by kernel_rfl) (by kernel_rfl) rfl (fun _ _ _ h => h) (Or.inl ⟨by rfl, ?_⟩) ?_
  · intro w hSw
    first
      | rfl
      | (go_simp; done)
  try simp only [Act.put, List.setIfInBounds_toArray, List.set_cons_zero, List.set_cons_succ]
  refine wpAnyT_take (i := 1) (oi := { dst := some 51, op := Op.move (Operand.tmp 6), type := 3, pos := "law.go:157", after := #[], guard := none }) (v := .int .i64 1) rfl (by kernel_rfl) (by kernel_rfl) (by kernel_rfl) (by kernel_rfl) (fun _ _ _ h => h) (Or.inl ⟨by rfl, ?_⟩) hHeld ?_
  · intro w hSw
    obtain h2 := hSw
    first
      | rfl
      | (go_simp; done)
  try simp only [Act.put, List.setIfInBounds_toArray, List.set_cons_zero, List.set_cons_succ]
  refine wpAnyT_take (i := 2) (oi := { dst := some 52, op := Op.move (Operand.tmp 0), type := 59, pos := "law.go:157", after := #[], guard := none }) (v := .pointer (some ⟨gp, 0, none⟩)) rfl (by kernel_rfl) (by kernel_rfl) (by kernel_rfl) (by kernel_rfl) (fun _ _ _ h => h) (Or.inl ⟨by rfl, ?_⟩) hHeld ?_
  · intro w hSw
    obtain h2 := hSw
    first
      | rfl
      | (go_simp; done)
  try simp only [Act.put, List.setIfInBounds_toArray, List.set_cons_zero, List.set_cons_succ]
  refine wpAnyT_take (i := 3) (oi := { dst := some 53, op := Op.move (Operand.tmp 6), type := 3, pos := "law.go:157", after := #[], guard := none }) (v := .int .i64 1) rfl (by kernel_rfl) (by kernel_rfl) (by kernel_rfl) (by kernel_rfl) (fun _ _ _ h => h) (Or.inl ⟨by rfl, ?_⟩) hHeld ?_
  · intro w hSw
    obtain h2 := hSw
    first
      | rfl
      | (go_simp; done)
  try simp only [Act.put, List.setIfInBounds_toArray, List.set_cons_zero, List.set_cons_succ]
  refine wpAnyT_take (i := 4) (oi := { dst := some 54, op := Op.nilCheck (Operand.tmp 52), type := 0, pos := "law.go:157", after := #[{ on := 2, ground := Ground.data }], guard := none }) (v := .pointer (some ⟨gp, 0, none⟩)) rfl (by kernel_rfl) (by kernel_rfl) (by kernel_rfl) (by kernel_rfl) (fun _ _ _ h => h) (Or.inl ⟨by rfl, ?_⟩) hHeld ?_
  · intro w hSw
    obtain h2 := hSw
    first
      | rfl
      | (go_simp; done)
  try simp only [Act.put, List.setIfInBounds_toArray, List.set_cons_zero, List.set_cons_succ]
  refine wpAnyT_take (i := 5) (oi := { dst := some 55, op := Op.fieldAddr 65 (Operand.tmp 54) 1, type := 0, pos := "law.go:157", after := #[{ on := 4, ground := Ground.data }], guard := none }) (v := .pointer (some ⟨gp, 2, none⟩)) rfl (by kernel_rfl) (by kernel_rfl) (by kernel_rfl) (by kernel_rfl) (fun _ _ _ h => h) (Or.inl ⟨by rfl, ?_⟩) hHeld ?_
  · intro w hSw
    obtain h2 := hSw
    first
      | rfl
      | (go_simp; done)
  try simp only [Act.put, List.setIfInBounds_toArray, List.set_cons_zero, List.set_cons_succ]
  refine wpAnyT_take (i := 6) (oi := { dst := some 56, op := Op.indexAddr 62 (Operand.tmp 55) (Operand.tmp 53), type := 0, pos := "law.go:157", after := #[{ on := 5, ground := Ground.data }, { on := 3, ground := Ground.data }], guard := none }) (v := .pointer (some ⟨gp, 3, none⟩)) rfl (by kernel_rfl) (by kernel_rfl) (by kernel_rfl) (by kernel_rfl) (fun _ _ _ h => h) (Or.inl ⟨by rfl, ?_⟩) hHeld ?_
  · intro w hSw
    obtain h2 := hSw
    first
      | rfl
      | (go_simp; done)
  try simp only [Act.put, List.setIfInBounds_toArray, List.set_cons_zero, List.set_cons_succ]
  refine wpAnyT_take (i := 7) (oi := { dst := some 57, op := Op.load 48 (Operand.tmp 56), type := 48, pos := "law.go:157", after := #[{ on := 6, ground := Ground.data }], guard := none }) (v := .slice (some ⟨gq, 0, none⟩) nf cw) rfl (by kernel_rfl) (by kernel_rfl) (by kernel_rfl) (by kernel_rfl) (fun _ _ _ h => h) (Or.inl ⟨by rfl, ?_⟩) hHeld ?_
  · intro w hSw
    obtain h2 := hSw
    first
      | rfl
      | (go_simp; done)
  try simp only [Act.put, List.setIfInBounds_toArray, List.set_cons_zero, List.set_cons_succ]
  refine wpAnyT_take (i := 9) (oi := { dst := some 59, op := Op.move (Operand.tmp 7), type := 3, pos := "law.go:157", after := #[], guard := none }) (v := .int .i64 (kk : Int)) rfl (by kernel_rfl) (by kernel_rfl) (by kernel_rfl) (by kernel_rfl) (fun _ _ _ h => h) (Or.inl ⟨by rfl, ?_⟩) hHeld ?_
  · intro w hSw
    obtain h2 := hSw
    first
      | rfl
      | (go_simp; done)
  try simp only [Act.put, List.setIfInBounds_toArray, List.set_cons_zero, List.set_cons_succ]
  refine wpAnyT_take (i := 10) (oi := { dst := some 60, op := Op.move (Operand.tmp 7), type := 3, pos := "law.go:157", after := #[], guard := none }) (v := .int .i64 (kk : Int)) rfl (by kernel_rfl) (by kernel_rfl) (by kernel_rfl) (by kernel_rfl) (fun _ _ _ h => h) (Or.inl ⟨by rfl, ?_⟩) hHeld ?_
  · intro w hSw
    obtain h2 := hSw
    first
      | rfl
      | (go_simp; done)
  try simp only [Act.put, List.setIfInBounds_toArray, List.set_cons_zero, List.set_cons_succ]
  refine wpAnyT_take (i := 11) (oi := { dst := some 61, op := Op.binOp BinOp.add 3 (Operand.tmp 60) (Operand.const (Value.int IntKind.i64 1)) 3, type := 3, pos := "law.go:157", after := #[{ on := 10, ground := Ground.data }], guard := none }) (v := .int .i64 ((kk + 1 : Nat) : Int)) rfl (by kernel_rfl) (by kernel_rfl) (by kernel_rfl) (by kernel_rfl) (fun _ _ _ h => h) (Or.inl ⟨by rfl, ?_⟩) hHeld ?_
  · intro w hSw
    obtain h2 := hSw
    first
      | rfl
      | (go_simp; done)
  try simp only [Act.put, List.setIfInBounds_toArray, List.set_cons_zero, List.set_cons_succ]
  refine wpAnyT_one (i := 8) (o := { dst := some 58, op := Op.call { callee := Callee.value (Operand.func 51), args := #[Operand.tmp 57], argTypes := #[48] }, type := 48, pos := "law.go:157", after := #[{ on := 7, ground := Ground.data }], guard := none }) (by kernel_rfl) rfl (fun K hK => ?_)
  go_simp
  refine Calls.mono (fclone_any _ nf B (fcs (P.F 1)) w4 (by have h9 := (unhide HI4).way 1 (by decide); rw [unhide HUW, unhide HNF] at h9; exact h9) (by omega) (fcs_one (fun f hf => ((unhide HI4).fb 1 (by decide) f hf).one))) ?_
  rintro r w5 ⟨vc, rfl, o5, b5⟩
  have HO5 := hide o5
  have HO45 := hide (Only.of_below (p := fun _ => False) b5)
  have hS5 : w5.cell? ⟨gp, 3, none⟩ = some (.slice (some ⟨gq, 0, none⟩) nf cw) := by rw [← unhide HUW]; exact ((unhide HI4).call b5).row.cell 3
  clear o5 b5 hHeld
  go_wp2_with fail
  refine hK.out _ _ (fun _ => hS5) ?_
  clear hK K
  try simp only [Act.put, List.setIfInBounds_toArray, List.set_cons_zero, List.set_cons_succ]
  refine wpAnyT_one (i := 12) (o := { dst := some 62, op := Op.call { callee := Callee.value (Operand.func 50), args := #[Operand.tmp 58, Operand.tmp 59, Operand.tmp 61], argTypes := #[48, 3, 3] }, type := 48, pos := "law.go:157", after := #[{ on := 8, ground := Ground.data }, { on := 9, ground := Ground.data }, { on := 11, ground := Ground.data }, { on := 8, ground := Ground.chain }], guard := none }) (by kernel_rfl) rfl (fun K hK => ?_)
  go_simp
  refine Calls.mono (fdel_any w5 w4.heap.size nf kk (kk + 1) vc (fcs (P.F 1)) (unhide HO5) hkl rfl (by omega) (fcs_one (fun f hf => ((unhide HI4).fb 1 (by decide) f hf).one))) ?_
  rintro r w6 ⟨vd, rfl, o6, y6, k6⟩
  have hp6 : ∀ k, vc.ownBlock = some k → w4.heap.size ≤ k := fun k hk => ((unhide HO5).lt k hk).1
  have o46 : Only (fun _ => False) w4 w6 := (unhide HO45).next y6 (fun k hk => .inr (hp6 k hk))
  obtain ⟨at6, ct6, htv⟩ := own_one o6
  subst htv
  have HI7 := hide ((unhide HI4).setW 1 (by decide) (v := .slice at6 (nf - 1) ct6) (x := (P.F 1).take kk ++ (P.F 1).drop (kk + 1)) (o46.mono (fun _ h => h.elim)) (by rw [fcs_app, ← fcs_take, ← fcs_drop, show ((P.F 1).take kk ++ (P.F 1).drop (kk + 1)).length = nf - 1 by rw [List.length_append, List.length_take, List.length_drop, unhide HNF]; omega]; exact own_mono o6 (unhide HI4).low) (fun k hk => .inr (hp6 k (k6 k hk))) (fun f hf => own_only ((unhide HI4).fb 1 (by decide) f (by rcases List.mem_append.1 hf with h | h; exact List.mem_of_mem_take h; exact List.mem_of_mem_drop h)) o46 (fun _ _ h => h)))
  have hr6 : RowAt w6 gp 65 P.cs := (unhide HI4).row.only o46 id
  have hx6 := (unhide HX4).only o46 id
  have o67 : Only (· = gp) w6 (w6.setCell ⟨gp, 3, none⟩ (.slice at6 (nf - 1) ct6)) := Only.set (p := (· = gp)) (Only.refl _ _) gp _ _ rfl
  have HX7 := hide (hx6.only o67 (fun e => rtag hx6 hr6 (by decide) e))
  have hv6 : Vis w6 B (.slice af f.body.length cf) f.body := Bod.keep (unhide HV4) o46 (fun _ h => h.elim) (fun _ _ _ _ _ _ _ _ h => h)
  have HV7 := hide (Bod.keep hv6 o67 (fun k hk => by rw [hk]; exact (unhide HI4).gB) (avoid_row hr6 (by decide)))
  have HB7 := hide (((unhide HB4).trans (o46.below (unhide HI4).low (fun _ h => h.elim))).trans (o67.below (Nat.le_trans (unhide HI4).low o46.size) (fun k hk => by rw [hk]; exact (unhide HI4).gB)))
  have hS6 : w6.cell? ⟨gp, 3, none⟩ = some (.slice (some ⟨gq, 0, none⟩) nf cw) := by rw [← unhide HUW]; exact hr6.cell 3
  have HF6 : Hid (w6.frozen? ⟨gp, 3, none⟩ = false) := hide (hr6.frozen 3)
  clear o6 y6 k6 hp6 o46 hr6 hx6 o67 hv6 HO5 HO45 HI4 HX4 HV4 HB4 hS5
  go_wp2_with fail
  refine hK.out _ _ (fun _ => hS6) ?_
  clear hK K
  try simp only [Act.put, List.setIfInBounds_toArray, List.set_cons_zero, List.set_cons_succ]
  refine wpAnyT_pure (i := 15) (oi := { dst := some 65, op := Op.indexAddr 62 (Operand.tmp 64) (Operand.tmp 51), type := 0, pos := "law.go:157", after := #[{ on := 14, ground := Ground.data }, { on := 1, ground := Ground.data }, { on := 0, ground := Ground.phase }, { on := 1, ground := Ground.phase }, { on := 2, ground := Ground.phase }, { on := 3, ground := Ground.phase }, { on := 4, ground := Ground.phase }, { on := 5, ground := Ground.phase }, { on := 6, ground := Ground.phase }, { on := 7, ground := Ground.phase }, { on := 8, ground := Ground.phase }, { on := 9, ground := Ground.phase }, { on := 10, ground := Ground.phase }, { on := 11, ground := Ground.phase }, { on := 12, ground := Ground.phase }], guard := none }) (v := .pointer (some ⟨gp, 3, none⟩)) rfl (by kernel_rfl) (by kernel_rfl) (by kernel_rfl) rfl (fun _ _ _ h => h) (Or.inl ⟨by rfl, ?_⟩) ?_
  · intro w hSw
    first
      | rfl
      | (go_simp; done)
  try simp only [Act.put, List.setIfInBounds_toArray, List.set_cons_zero, List.set_cons_succ]
  have f6 := unhide HF6
  refine wpAnyT_one (i := 16) (o := { dst := none, op := Op.store 48 (Operand.tmp 65) (Operand.tmp 62), type := 0, pos := "law.go:157", after := #[{ on := 15, ground := Ground.data }, { on := 12, ground := Ground.data }, { on := 12, ground := Ground.chain }, { on := 0, ground := Ground.phase }, { on := 1, ground := Ground.phase }, { on := 2, ground := Ground.phase }, { on := 3, ground := Ground.phase }, { on := 4, ground := Ground.phase }, { on := 5, ground := Ground.phase }, { on := 6, ground := Ground.phase }, { on := 7, ground := Ground.phase }, { on := 8, ground := Ground.phase }, { on := 9, ground := Ground.phase }, { on := 10, ground := Ground.phase }, { on := 11, ground := Ground.phase }, { on := 12, ground := Ground.phase }], guard := none }) (by kernel_rfl) rfl (fun K hK => ?_)
  go_simp
  refine hK.out _ _ (fun h => by cases h) ?_
  clear hK K
  try simp only [Act.put, List.setIfInBounds_toArray, List.set_cons_zero, List.set_cons_succ]
  refine wpAnyT_done (by kernel_rfl) ?_ _
  have HP7 : Hid (Pair (w6.setCell ⟨gp, 3, none⟩ (.slice at6 (nf - 1) ct6)) B gp (P3 P 1 (.slice at6 (nf - 1) ct6) ((P.F 1).take kk ++ (P.F 1).drop (kk + 1)))) := HI7
  obtain ⟨w7, hw7⟩ : ∃ z, (w6.setCell ⟨gp, 3, none⟩ (.slice at6 (nf - 1) ct6)) = z := ⟨_, rfl⟩
  rw [hw7] at HP7 HX7 HV7 HB7 ⊢
  clear hw7 HI7 hS6 f6
  have y0 : w7.cell? ⟨gf, 0, none⟩ = some (.int .i64 f.conn) := (unhide HX7).cell 0
  have y1 : w7.cell? ⟨gf, 1, none⟩ = some (.int .i64 f.seq) := (unhide HX7).cell 1
  have y2 : w7.cell? ⟨gf, 2, none⟩ = some (.int .i64 f.ack) := (unhide HX7).cell 2
  have y3 : w7.cell? ⟨gf, 3, none⟩ = some (.slice af f.body.length cf) := (unhide HX7).cell 3
  go_wp2_with fail
  clear y0 y1 y2 y3
  refine Calls.mono (came0_ok B gp (P3 P 1 (.slice at6 (nf - 1) ct6) ((P.F 1).take kk ++ (P.F 1).drop (kk + 1))) f.conn f.seq f.ack f.body _ w7 (unhide HP7) (((unhide HG).inv 0 (by decide)).ok (by decide) (by omega)) ((unhide HG).inv 0 (by decide)).eok (unhide HV7) (by have := (unhide HFOK).len; omega) (by have := (unhide HFOK).seq.2; omega) (by have := ((unhide HG).inv 0 (by decide)).el; show (P.s 0).early.length ≤ 99999; omega) (unhide HG).ok ((unhide HFOK).takeE ((unhide HG).inv 0 (by decide))) (by have := (unhide HG).len 2 (by decide); show (P.X 2).length ≤ 100000; omega) (fun v => by have := takeO_len ((unhide HG).inv 0 (by decide)) f.conn f.seq f.ack f.body v; show (takeO (P.s 0) _ _ _ _ _).length ≤ _; omega)) ?_
  rintro r w8 ⟨rfl, v8, vq8, tv8, h8, b8⟩
  have HE8 : Hid (MoveR B gp P b w (.returned (.tuple #[])) w8) := hide ⟨rfl, _, .inr (.inr (.inr (.inr (.inr (.inr (.inr ⟨1, by decide, .slice at6 (nf - 1) ct6, kk, f, unhide HF, v8, vq8, tv8, rfl⟩)))))), h8, (unhide HB7).trans b8⟩
  clear h8 b8
  go_wp2_with fail
  go_end0
  exact unhide HE8
set_option maxRecDepth 100000 in
set_option maxHeartbeats 4000000 in
theorem move8_ok (B gp N : Nat) (P : PS) (op n : Int) (b : List Nat) (vb : Value) (w : World) (h : Pair w B gp P) (hg : Good N P) (hN : N ≤ 1000) (hv : Vis w B vb b) (hbl : b.length ≤ 1000000000) (hop : wrap64 ((IntKind.u64.wrap op).tmod 12) = 8) :
    Calls Try.prog 32 #[.pointer (some ⟨gp, 0, none⟩), .agg #[.int .i64 op, .int .i64 n, vb]] w fun r w' => MoveR B gp P b w r w' := by
  obtain ⟨ab, cb, hvb⟩ := byt_shape hv.1
  subst hvb
  have b1 : Below w.heap.size w (w.alloc (.cells #[.int .i64 op, .int .i64 n, .slice ab b.length cb] 67)) := (Below.refl _ _).alloc (Nat.le_refl _) _
  have HI := hide (h.call b1)
  have HV := hide (hv.call b1)
  have HBX := hide (RowAt.new w 67 [.int .i64 op, .int .i64 n, .slice ab b.length cb])
  have HB := hide (b1.mono h.low)
  have HG := hide hg
  obtain ⟨gb, hgb⟩ : ∃ z, w.heap.size = z := ⟨_, rfl⟩
  have HGB := hide hgb
  clear h hg hv b1 hgb
  obtain ⟨aw, cw, huw⟩ := own_one ((unhide HI).way 1 (by decide))
  have HUW := hide huw
  have hrc : (w.alloc (.cells #[.int .i64 op, .int .i64 n, .slice ab b.length cb] 67)).cell? ⟨gp, 3, none⟩ = some (.slice aw (P.F 1).length cw) := by rw [← huw]; exact (unhide HI).row.cell 3
  obtain ⟨nf, hnf⟩ : ∃ z, (P.F 1).length = z := ⟨_, rfl⟩
  have HNF := hide hnf
  rw [hnf] at HUW hrc
  clear huw hnf
  by_cases h0 : nf = 0
  · subst h0
    go_enter Try.func32, Try.ntmps32
    go_wp2_with fail
    go_end0
    exact ⟨rfl, P, .inl rfl, unhide HI, unhide HB⟩
  have h0b : ((nf : Int) == 0) = false := by simp [h0]
  have hnf4 : nf ≤ 4000 := by have := (unhide HG).fl 1 (by decide); have := unhide HNF; omega
  obtain ⟨kk, hkk, hkl⟩ := mod_nat n nf (by omega) (by omega)
  go_enter Try.func32, Try.ntmps32
  go_wp2_with fail
  clear hrc
  obtain ⟨w1, hw1⟩ : ∃ z, (w.alloc (.cells #[.int .i64 op, .int .i64 n, .slice ab b.length cb] 67)) = z := ⟨_, rfl⟩
  rw [hw1] at HI HV HBX HB ⊢
  rw [unhide HGB] at HBX ⊢
  clear hw1
  refine wp_region_T (S := fun W => W.cell? ⟨gb, 1, none⟩ = some (.int .i64 n) ∧ W.cell? ⟨gp, 3, none⟩ = some (.slice aw nf cw)) (fun i => decide (i < 14)) (by kernel_rfl) ⟨(unhide HBX).cell 1, by rw [← unhide HUW]; exact (unhide HI).row.cell 3⟩ (fun hHeld => ?_)
  have bd : Below w1.heap.size w1 w1.drew := Below.drew (Below.refl _ _)
  have HI1 := hide ((unhide HI).call bd)
  have HB1 := hide ((unhide HB).trans (bd.mono (unhide HI).low))
  obtain ⟨w2, hw2⟩ : ∃ z, w1.drew = z := ⟨_, rfl⟩
  rw [hw2] at HI1 HB1 hHeld ⊢
  clear hw2 bd HI HB
  have w64 : IntKind.u64.wrap (nf : Int) = (nf : Int) := by rw [show IntKind.u64.wrap (nf : Int) = (nf : Int) % 18446744073709551616 by unfold IntKind.wrap; simp [IntKind.signed, IntKind.bits]]; omega
  have hkk2 : IntKind.i64.wrap ((IntKind.u64.wrap n).tmod (nf : Int)) = (kk : Int) := by have h9 := hkk; unfold wrap64 at h9; rw [IntKind.wrap_i64]; exact h9
  have h0c : ¬ (nf : Int) = 0 := by omega
  have h0d : ¬ nf = 0 := h0
  refine wpAnyT_take (i := 0) (oi := { dst := some 26, op := Op.fieldAddr 67 (Operand.tmp 3) 1, type := 0, pos := "law.go:154", after := #[], guard := none }) (v := .pointer (some ⟨gb, 1, none⟩)) rfl (by kernel_rfl) (by kernel_rfl) (by kernel_rfl) (by kernel_rfl) (fun _ _ _ h => h) (Or.inl ⟨by rfl, ?_⟩) hHeld ?_
  · intro w hSw
    obtain ⟨h1, h2⟩ := hSw
    first
      | rfl
      | (go_simp; done)
  try simp only [Act.put, List.setIfInBounds_toArray, List.set_cons_zero, List.set_cons_succ]
  refine wpAnyT_take (i := 1) (oi := { dst := some 27, op := Op.load 3 (Operand.tmp 26), type := 3, pos := "law.go:154", after := #[{ on := 0, ground := Ground.data }], guard := none }) (v := .int .i64 n) rfl (by kernel_rfl) (by kernel_rfl) (by kernel_rfl) (by kernel_rfl) (fun _ _ _ h => h) (Or.inl ⟨by rfl, ?_⟩) hHeld ?_
  · intro w hSw
    obtain ⟨h1, h2⟩ := hSw
    first
      | rfl
      | (go_simp; done)
  try simp only [Act.put, List.setIfInBounds_toArray, List.set_cons_zero, List.set_cons_succ]
  refine wpAnyT_take (i := 2) (oi := { dst := some 28, op := Op.convert 3 38 (Operand.tmp 27), type := 38, pos := "law.go:154", after := #[{ on := 1, ground := Ground.data }], guard := none }) (v := .int .u64 (IntKind.u64.wrap n)) rfl (by kernel_rfl) (by kernel_rfl) (by kernel_rfl) (by kernel_rfl) (fun _ _ _ h => h) (Or.inl ⟨by rfl, ?_⟩) hHeld ?_
  · intro w hSw
    obtain ⟨h1, h2⟩ := hSw
    first
      | rfl
      | (go_simp; done)
  try simp only [Act.put, List.setIfInBounds_toArray, List.set_cons_zero, List.set_cons_succ]
  refine wpAnyT_take (i := 3) (oi := { dst := some 29, op := Op.move (Operand.tmp 0), type := 59, pos := "law.go:154", after := #[], guard := none }) (v := .pointer (some ⟨gp, 0, none⟩)) rfl (by kernel_rfl) (by kernel_rfl) (by kernel_rfl) (by kernel_rfl) (fun _ _ _ h => h) (Or.inl ⟨by rfl, ?_⟩) hHeld ?_
  · intro w hSw
    obtain ⟨h1, h2⟩ := hSw
    first
      | rfl
      | (go_simp; done)
  try simp only [Act.put, List.setIfInBounds_toArray, List.set_cons_zero, List.set_cons_succ]
  refine wpAnyT_take (i := 4) (oi := { dst := some 30, op := Op.move (Operand.tmp 6), type := 3, pos := "law.go:154", after := #[], guard := none }) (v := .int .i64 1) rfl (by kernel_rfl) (by kernel_rfl) (by kernel_rfl) (by kernel_rfl) (fun _ _ _ h => h) (Or.inl ⟨by rfl, ?_⟩) hHeld ?_
  · intro w hSw
    obtain ⟨h1, h2⟩ := hSw
    first
      | rfl
      | (go_simp; done)
  try simp only [Act.put, List.setIfInBounds_toArray, List.set_cons_zero, List.set_cons_succ]
  refine wpAnyT_take (i := 5) (oi := { dst := some 31, op := Op.nilCheck (Operand.tmp 29), type := 0, pos := "law.go:154", after := #[{ on := 3, ground := Ground.data }], guard := none }) (v := .pointer (some ⟨gp, 0, none⟩)) rfl (by kernel_rfl) (by kernel_rfl) (by kernel_rfl) (by kernel_rfl) (fun _ _ _ h => h) (Or.inl ⟨by rfl, ?_⟩) hHeld ?_
  · intro w hSw
    obtain ⟨h1, h2⟩ := hSw
    first
      | rfl
      | (go_simp; done)
  try simp only [Act.put, List.setIfInBounds_toArray, List.set_cons_zero, List.set_cons_succ]
  refine wpAnyT_take (i := 6) (oi := { dst := some 32, op := Op.fieldAddr 65 (Operand.tmp 31) 1, type := 0, pos := "law.go:154", after := #[{ on := 5, ground := Ground.data }], guard := none }) (v := .pointer (some ⟨gp, 2, none⟩)) rfl (by kernel_rfl) (by kernel_rfl) (by kernel_rfl) (by kernel_rfl) (fun _ _ _ h => h) (Or.inl ⟨by rfl, ?_⟩) hHeld ?_
  · intro w hSw
    obtain ⟨h1, h2⟩ := hSw
    first
      | rfl
      | (go_simp; done)
  try simp only [Act.put, List.setIfInBounds_toArray, List.set_cons_zero, List.set_cons_succ]
  refine wpAnyT_take (i := 7) (oi := { dst := some 33, op := Op.indexAddr 62 (Operand.tmp 32) (Operand.tmp 30), type := 0, pos := "law.go:154", after := #[{ on := 6, ground := Ground.data }, { on := 4, ground := Ground.data }], guard := none }) (v := .pointer (some ⟨gp, 3, none⟩)) rfl (by kernel_rfl) (by kernel_rfl) (by kernel_rfl) (by kernel_rfl) (fun _ _ _ h => h) (Or.inl ⟨by rfl, ?_⟩) hHeld ?_
  · intro w hSw
    obtain ⟨h1, h2⟩ := hSw
    first
      | rfl
      | (go_simp; done)
  try simp only [Act.put, List.setIfInBounds_toArray, List.set_cons_zero, List.set_cons_succ]
  refine wpAnyT_take (i := 8) (oi := { dst := some 34, op := Op.load 48 (Operand.tmp 33), type := 48, pos := "law.go:154", after := #[{ on := 7, ground := Ground.data }], guard := none }) (v := .slice aw nf cw) rfl (by kernel_rfl) (by kernel_rfl) (by kernel_rfl) (by kernel_rfl) (fun _ _ _ h => h) (Or.inl ⟨by rfl, ?_⟩) hHeld ?_
  · intro w hSw
    obtain ⟨h1, h2⟩ := hSw
    first
      | rfl
      | (go_simp; done)
  try simp only [Act.put, List.setIfInBounds_toArray, List.set_cons_zero, List.set_cons_succ]
  refine wpAnyT_take (i := 9) (oi := { dst := some 35, op := Op.call { callee := Callee.builtin Builtin.len, args := #[Operand.tmp 34], argTypes := #[48] }, type := 3, pos := "law.go:154", after := #[{ on := 8, ground := Ground.data }], guard := none }) (v := .int .i64 (nf : Int)) rfl (by kernel_rfl) (by kernel_rfl) (by kernel_rfl) (by kernel_rfl) (fun _ _ _ h => h) (Or.inl ⟨by rfl, ?_⟩) hHeld ?_
  · intro w hSw
    obtain ⟨h1, h2⟩ := hSw
    first
      | rfl
      | (go_simp; done)
  try simp only [Act.put, List.setIfInBounds_toArray, List.set_cons_zero, List.set_cons_succ]
  refine wpAnyT_take (i := 10) (oi := { dst := some 36, op := Op.convert 3 38 (Operand.tmp 35), type := 38, pos := "law.go:154", after := #[{ on := 9, ground := Ground.data }], guard := none }) (v := .int .u64 (nf : Int)) rfl (by kernel_rfl) (by kernel_rfl) (by kernel_rfl) (by kernel_rfl) (fun _ _ _ h => h) (Or.inl ⟨by rfl, ?_⟩) hHeld ?_
  · intro w hSw
    obtain ⟨h1, h2⟩ := hSw
    first
      | rfl
      | (go_simp; done)
  try simp only [Act.put, List.setIfInBounds_toArray, List.set_cons_zero, List.set_cons_succ]
  refine wpAnyT_take (i := 11) (oi := { dst := some 37, op := Op.binOp BinOp.rem 38 (Operand.tmp 28) (Operand.tmp 36) 38, type := 38, pos := "law.go:154", after := #[{ on := 2, ground := Ground.data }, { on := 10, ground := Ground.data }], guard := none }) (v := .int .u64 ((IntKind.u64.wrap n).tmod (nf : Int))) rfl (by kernel_rfl) (by kernel_rfl) (by kernel_rfl) (by kernel_rfl) (fun _ _ _ h => h) (Or.inl ⟨by rfl, ?_⟩) hHeld ?_
  · intro w hSw
    obtain ⟨h1, h2⟩ := hSw
    first
      | rfl
      | (go_simp; done)
  try simp only [Act.put, List.setIfInBounds_toArray, List.set_cons_zero, List.set_cons_succ]
  refine wpAnyT_take (i := 12) (oi := { dst := some 38, op := Op.convert 38 3 (Operand.tmp 37), type := 3, pos := "law.go:154", after := #[{ on := 11, ground := Ground.data }], guard := none }) (v := .int .i64 (kk : Int)) rfl (by kernel_rfl) (by kernel_rfl) (by kernel_rfl) (by kernel_rfl) (fun _ _ _ h => h) (Or.inl ⟨by rfl, ?_⟩) hHeld ?_
  · intro w hSw
    obtain ⟨h1, h2⟩ := hSw
    first
      | rfl
      | (go_simp; done)
  try simp only [Act.put, List.setIfInBounds_toArray, List.set_cons_zero, List.set_cons_succ]
  refine wpAnyT_take (i := 13) (oi := { dst := some 7, op := Op.assign (Operand.tmp 38), type := 3, pos := "law.go:154", after := #[{ on := 12, ground := Ground.data }, { on := 0, ground := Ground.phase }, { on := 1, ground := Ground.phase }, { on := 2, ground := Ground.phase }, { on := 3, ground := Ground.phase }, { on := 4, ground := Ground.phase }, { on := 5, ground := Ground.phase }, { on := 6, ground := Ground.phase }, { on := 7, ground := Ground.phase }, { on := 8, ground := Ground.phase }, { on := 9, ground := Ground.phase }, { on := 10, ground := Ground.phase }, { on := 11, ground := Ground.phase }, { on := 12, ground := Ground.phase }], guard := none }) (v := .int .i64 (kk : Int)) rfl (by kernel_rfl) (by kernel_rfl) (by kernel_rfl) (by kernel_rfl) (fun _ _ _ h => h) (Or.inl ⟨by rfl, ?_⟩) hHeld ?_
  · intro w hSw
    obtain ⟨h1, h2⟩ := hSw
    first
      | rfl
      | (go_simp; done)
  try simp only [Act.put, List.setIfInBounds_toArray, List.set_cons_zero, List.set_cons_succ]
  refine wpAnyT_done (by kernel_rfl) ?_ _
  obtain ⟨f, hf⟩ : ∃ f, (P.F 1)[kk]? = some f := ⟨_, List.getElem?_eq_getElem (by rw [unhide HNF]; exact hkl)⟩
  have HF := hide hf
  have hway := (unhide HI1).way 1 (by decide)
  rw [unhide HUW] at hway
  obtain ⟨gq, rfl, -, -, -, -, hx⟩ := fcell hway (by rw [unhide HNF]; omega)
  have HFOK := hide ((unhide HG).fr 1 (by decide) f (List.mem_of_getElem? hf))
  obtain ⟨af, cf, haf⟩ := own_one ((unhide HI1).fb 1 (by decide) f (List.mem_of_getElem? hf))
  have HAF := hide haf
  have q0 : w2.cell? ⟨gq, kk * 4, none⟩ = some (.int .i64 f.conn) := hx kk f hf 0 (by omega)
  have q1 : w2.cell? ⟨gq, kk * 4 + 1, none⟩ = some (.int .i64 f.seq) := hx kk f hf 1 (by omega)
  have q2 : w2.cell? ⟨gq, kk * 4 + 2, none⟩ = some (.int .i64 f.ack) := hx kk f hf 2 (by omega)
  have q3 : w2.cell? ⟨gq, kk * 4 + 3, none⟩ = some (.slice af f.body.length cf) := by rw [← haf]; exact hx kk f hf 3 (by omega)
  have HVF : Hid (Vis w2 B (.slice af f.body.length cf) f.body) := hide (by rw [← haf]; have h9 := (unhide HI1).fb 1 (by decide) f (List.mem_of_getElem? hf); exact ⟨Own.byt h9, .inr (.inr h9)⟩)
  have i0 : (0 : Int) ≤ (kk : Int) := by omega
  have i1 : (kk : Int) < (nf : Int) := by omega
  have z2 : w2.cell? ⟨gp, 3, none⟩ = some (.slice (some ⟨gq, 0, none⟩) nf cw) := by rw [← unhide HUW]; exact (unhide HI1).row.cell 3
  clear hx hway hf haf hHeld hkk hkk2
  go_wp2_with fail
  clear q0 q1 q2 q3 z2
  have b3 : Below w2.heap.size w2 (w2.alloc (.cells #[.int .i64 f.conn, .int .i64 f.seq, .int .i64 f.ack, .slice af f.body.length cf] 34)) := (Below.refl _ _).alloc (Nat.le_refl _) _
  have HI3 := hide ((unhide HI1).call b3)
  have HV3 := hide ((unhide HVF).call b3)
  have HX3 := hide (RowAt.new w2 34 [.int .i64 f.conn, .int .i64 f.seq, .int .i64 f.ack, .slice af f.body.length cf])
  have HB3 := hide ((unhide HB1).trans (b3.mono (unhide HI1).low))
  obtain ⟨w3, hw3⟩ : ∃ z, (w2.alloc (.cells #[.int .i64 f.conn, .int .i64 f.seq, .int .i64 f.ack, .slice af f.body.length cf] 34)) = z := ⟨_, rfl⟩
  obtain ⟨gf, hgf⟩ : ∃ z, w2.heap.size = z := ⟨_, rfl⟩
  rw [hw3] at HI3 HV3 HX3 HB3 ⊢
  rw [hgf] at HX3 ⊢
  clear hw3 hgf b3 HI1 HB1 HVF
  refine wp_region_T (S := fun W => W.cell? ⟨gp, 3, none⟩ = some (.slice (some ⟨gq, 0, none⟩) nf cw)) (fun i => decide (1 ≤ i ∧ i < 13)) (by kernel_rfl) (by rw [← unhide HUW]; exact (unhide HI3).row.cell 3) (fun hHeld => ?_)
  have bd : Below w3.heap.size w3 w3.drew := Below.drew (Below.refl _ _)
  have HI4 := hide ((unhide HI3).call bd)
  have HB4 := hide ((unhide HB3).trans (bd.mono (unhide HI3).low))
  have HV4 := hide ((unhide HV3).call bd)
  have HX4 := hide ((unhide HX3).drew)
  obtain ⟨w4, hw4⟩ : ∃ z, w3.drew = z := ⟨_, rfl⟩
  rw [hw4] at HI4 HB4 HV4 HX4 hHeld ⊢
  clear hw4 bd HI3 HB3 HV3 HX3
  have hk1 : IntKind.i64.wrap ((kk : Int) + 1) = (kk : Int) + 1 := by rw [IntKind.wrap_i64]; omega
  refine wpAnyT_pure (i := 0) (oi := { dst := some 50, op := Op.move (Operand.tmp 0), type := 59, pos := "law.go:157", after := #[], guard := none }) (v := .pointer (some ⟨gp, 0, none⟩)) rfl (by kernel_rfl) (by kernel_rfl) (by kernel_rfl) rfl (fun _ _ _ h => h) (Or.inl ⟨by rfl, ?_⟩) ?_
  · intro w hSw
    first
      | rfl
      | (go_simp; done)
  try simp only [Act.put, List.setIfInBounds_toArray, List.set_cons_zero, List.set_cons_succ]
  refine wpAnyT_pure (i := 13) (oi := { dst := some 63, op := Op.nilCheck (Operand.tmp 50), type := 0, pos := "law.go:157", after := #[{ on := 0, ground := Ground.data }], guard := none }) (v := .pointer (some ⟨gp, 0, none⟩)) rfl (by kernel_rfl) (by kernel_rfl) (by kernel_rfl) rfl (fun _ _ _ h => h) (Or.inl ⟨by rfl, ?_⟩) ?_
  · intro w hSw
    first
      | rfl
      | (go_simp; done)
  try simp only [Act.put, List.setIfInBounds_toArray, List.set_cons_zero, List.set_cons_succ]
  refine wpAnyT_pure (i := 14) (oi := { dst := some 64, op := Op.fieldAddr 65 (Operand.tmp 63) 1, type := 0, pos := "law.go:157", after := #[{ on := 13, ground := Ground.data }], guard := none }) (v := .pointer (some ⟨gp, 2, none⟩)) rfl (by kernel_rfl) (by kernel_rfl) (by kernel_rfl) rfl (fun _ _ _ h => h) (Or.inl ⟨by rfl, ?_⟩) ?_
  · intro w hSw
    first
      | rfl
      | (go_simp; done)
  try simp only [Act.put, List.setIfInBounds_toArray, List.set_cons_zero, List.set_cons_succ]
  refine wpAnyT_take (i := 1) (oi := { dst := some 51, op := Op.move (Operand.tmp 6), type := 3, pos := "law.go:157", after := #[], guard := none }) (v := .int .i64 1) rfl (by kernel_rfl) (by kernel_rfl) (by kernel_rfl) (by kernel_rfl) (fun _ _ _ h => h) (Or.inl ⟨by rfl, ?_⟩) hHeld ?_
  · intro w hSw
    obtain h2 := hSw
    first
      | rfl
      | (go_simp; done)
  try simp only [Act.put, List.setIfInBounds_toArray, List.set_cons_zero, List.set_cons_succ]
  refine wpAnyT_take (i := 2) (oi := { dst := some 52, op := Op.move (Operand.tmp 0), type := 59, pos := "law.go:157", after := #[], guard := none }) (v := .pointer (some ⟨gp, 0, none⟩)) rfl (by kernel_rfl) (by kernel_rfl) (by kernel_rfl) (by kernel_rfl) (fun _ _ _ h => h) (Or.inl ⟨by rfl, ?_⟩) hHeld ?_
  · intro w hSw
    obtain h2 := hSw
    first
      | rfl
      | (go_simp; done)
  try simp only [Act.put, List.setIfInBounds_toArray, List.set_cons_zero, List.set_cons_succ]
  refine wpAnyT_take (i := 3) (oi := { dst := some 53, op := Op.move (Operand.tmp 6), type := 3, pos := "law.go:157", after := #[], guard := none }) (v := .int .i64 1) rfl (by kernel_rfl) (by kernel_rfl) (by kernel_rfl) (by kernel_rfl) (fun _ _ _ h => h) (Or.inl ⟨by rfl, ?_⟩) hHeld ?_
  · intro w hSw
    obtain h2 := hSw
    first
      | rfl
      | (go_simp; done)
  try simp only [Act.put, List.setIfInBounds_toArray, List.set_cons_zero, List.set_cons_succ]
  refine wpAnyT_take (i := 4) (oi := { dst := some 54, op := Op.nilCheck (Operand.tmp 52), type := 0, pos := "law.go:157", after := #[{ on := 2, ground := Ground.data }], guard := none }) (v := .pointer (some ⟨gp, 0, none⟩)) rfl (by kernel_rfl) (by kernel_rfl) (by kernel_rfl) (by kernel_rfl) (fun _ _ _ h => h) (Or.inl ⟨by rfl, ?_⟩) hHeld ?_
  · intro w hSw
    obtain h2 := hSw
    first
      | rfl
      | (go_simp; done)
  try simp only [Act.put, List.setIfInBounds_toArray, List.set_cons_zero, List.set_cons_succ]
  refine wpAnyT_take (i := 5) (oi := { dst := some 55, op := Op.fieldAddr 65 (Operand.tmp 54) 1, type := 0, pos := "law.go:157", after := #[{ on := 4, ground := Ground.data }], guard := none }) (v := .pointer (some ⟨gp, 2, none⟩)) rfl (by kernel_rfl) (by kernel_rfl) (by kernel_rfl) (by kernel_rfl) (fun _ _ _ h => h) (Or.inl ⟨by rfl, ?_⟩) hHeld ?_
  · intro w hSw
    obtain h2 := hSw
    first
      | rfl
      | (go_simp; done)
  try simp only [Act.put, List.setIfInBounds_toArray, List.set_cons_zero, List.set_cons_succ]
  refine wpAnyT_take (i := 6) (oi := { dst := some 56, op := Op.indexAddr 62 (Operand.tmp 55) (Operand.tmp 53), type := 0, pos := "law.go:157", after := #[{ on := 5, ground := Ground.data }, { on := 3, ground := Ground.data }], guard := none }) (v := .pointer (some ⟨gp, 3, none⟩)) rfl (by kernel_rfl) (by kernel_rfl) (by kernel_rfl) (by kernel_rfl) (fun _ _ _ h => h) (Or.inl ⟨by rfl, ?_⟩) hHeld ?_
  · intro w hSw
    obtain h2 := hSw
    first
      | rfl
      | (go_simp; done)
  try simp only [Act.put, List.setIfInBounds_toArray, List.set_cons_zero, List.set_cons_succ]
  refine wpAnyT_take (i := 7) (oi := { dst := some 57, op := Op.load 48 (Operand.tmp 56), type := 48, pos := "law.go:157", after := #[{ on := 6, ground := Ground.data }], guard := none }) (v := .slice (some ⟨gq, 0, none⟩) nf cw) rfl (by kernel_rfl) (by kernel_rfl) (by kernel_rfl) (by kernel_rfl) (fun _ _ _ h => h) (Or.inl ⟨by rfl, ?_⟩) hHeld ?_
  · intro w hSw
    obtain h2 := hSw
    first
      | rfl
      | (go_simp; done)
  try simp only [Act.put, List.setIfInBounds_toArray, List.set_cons_zero, List.set_cons_succ]
  refine wpAnyT_take (i := 9) (oi := { dst := some 59, op := Op.move (Operand.tmp 7), type := 3, pos := "law.go:157", after := #[], guard := none }) (v := .int .i64 (kk : Int)) rfl (by kernel_rfl) (by kernel_rfl) (by kernel_rfl) (by kernel_rfl) (fun _ _ _ h => h) (Or.inl ⟨by rfl, ?_⟩) hHeld ?_
  · intro w hSw
    obtain h2 := hSw
    first
      | rfl
      | (go_simp; done)
  try simp only [Act.put, List.setIfInBounds_toArray, List.set_cons_zero, List.set_cons_succ]
  refine wpAnyT_take (i := 10) (oi := { dst := some 60, op := Op.move (Operand.tmp 7), type := 3, pos := "law.go:157", after := #[], guard := none }) (v := .int .i64 (kk : Int)) rfl (by kernel_rfl) (by kernel_rfl) (by kernel_rfl) (by kernel_rfl) (fun _ _ _ h => h) (Or.inl ⟨by rfl, ?_⟩) hHeld ?_
  · intro w hSw
    obtain h2 := hSw
    first
      | rfl
      | (go_simp; done)
  try simp only [Act.put, List.setIfInBounds_toArray, List.set_cons_zero, List.set_cons_succ]
  refine wpAnyT_take (i := 11) (oi := { dst := some 61, op := Op.binOp BinOp.add 3 (Operand.tmp 60) (Operand.const (Value.int IntKind.i64 1)) 3, type := 3, pos := "law.go:157", after := #[{ on := 10, ground := Ground.data }], guard := none }) (v := .int .i64 ((kk + 1 : Nat) : Int)) rfl (by kernel_rfl) (by kernel_rfl) (by kernel_rfl) (by kernel_rfl) (fun _ _ _ h => h) (Or.inl ⟨by rfl, ?_⟩) hHeld ?_
  · intro w hSw
    obtain h2 := hSw
    first
      | rfl
      | (go_simp; done)
  try simp only [Act.put, List.setIfInBounds_toArray, List.set_cons_zero, List.set_cons_succ]
  refine wpAnyT_one (i := 8) (o := { dst := some 58, op := Op.call { callee := Callee.value (Operand.func 51), args := #[Operand.tmp 57], argTypes := #[48] }, type := 48, pos := "law.go:157", after := #[{ on := 7, ground := Ground.data }], guard := none }) (by kernel_rfl) rfl (fun K hK => ?_)
  go_simp
  refine Calls.mono (fclone_any _ nf B (fcs (P.F 1)) w4 (by have h9 := (unhide HI4).way 1 (by decide); rw [unhide HUW, unhide HNF] at h9; exact h9) (by omega) (fcs_one (fun f hf => ((unhide HI4).fb 1 (by decide) f hf).one))) ?_
  rintro r w5 ⟨vc, rfl, o5, b5⟩
  have HO5 := hide o5
  have HO45 := hide (Only.of_below (p := fun _ => False) b5)
  have hS5 : w5.cell? ⟨gp, 3, none⟩ = some (.slice (some ⟨gq, 0, none⟩) nf cw) := by rw [← unhide HUW]; exact ((unhide HI4).call b5).row.cell 3
  clear o5 b5 hHeld
  go_wp2_with fail
  refine hK.out _ _ (fun _ => hS5) ?_
  clear hK K
  try simp only [Act.put, List.setIfInBounds_toArray, List.set_cons_zero, List.set_cons_succ]
  refine wpAnyT_one (i := 12) (o := { dst := some 62, op := Op.call { callee := Callee.value (Operand.func 50), args := #[Operand.tmp 58, Operand.tmp 59, Operand.tmp 61], argTypes := #[48, 3, 3] }, type := 48, pos := "law.go:157", after := #[{ on := 8, ground := Ground.data }, { on := 9, ground := Ground.data }, { on := 11, ground := Ground.data }, { on := 8, ground := Ground.chain }], guard := none }) (by kernel_rfl) rfl (fun K hK => ?_)
  go_simp
  refine Calls.mono (fdel_any w5 w4.heap.size nf kk (kk + 1) vc (fcs (P.F 1)) (unhide HO5) hkl rfl (by omega) (fcs_one (fun f hf => ((unhide HI4).fb 1 (by decide) f hf).one))) ?_
  rintro r w6 ⟨vd, rfl, o6, y6, k6⟩
  have hp6 : ∀ k, vc.ownBlock = some k → w4.heap.size ≤ k := fun k hk => ((unhide HO5).lt k hk).1
  have o46 : Only (fun _ => False) w4 w6 := (unhide HO45).next y6 (fun k hk => .inr (hp6 k hk))
  obtain ⟨at6, ct6, htv⟩ := own_one o6
  subst htv
  have HI7 := hide ((unhide HI4).setW 1 (by decide) (v := .slice at6 (nf - 1) ct6) (x := (P.F 1).take kk ++ (P.F 1).drop (kk + 1)) (o46.mono (fun _ h => h.elim)) (by rw [fcs_app, ← fcs_take, ← fcs_drop, show ((P.F 1).take kk ++ (P.F 1).drop (kk + 1)).length = nf - 1 by rw [List.length_append, List.length_take, List.length_drop, unhide HNF]; omega]; exact own_mono o6 (unhide HI4).low) (fun k hk => .inr (hp6 k (k6 k hk))) (fun f hf => own_only ((unhide HI4).fb 1 (by decide) f (by rcases List.mem_append.1 hf with h | h; exact List.mem_of_mem_take h; exact List.mem_of_mem_drop h)) o46 (fun _ _ h => h)))
  have hr6 : RowAt w6 gp 65 P.cs := (unhide HI4).row.only o46 id
  have hx6 := (unhide HX4).only o46 id
  have o67 : Only (· = gp) w6 (w6.setCell ⟨gp, 3, none⟩ (.slice at6 (nf - 1) ct6)) := Only.set (p := (· = gp)) (Only.refl _ _) gp _ _ rfl
  have HX7 := hide (hx6.only o67 (fun e => rtag hx6 hr6 (by decide) e))
  have hv6 : Vis w6 B (.slice af f.body.length cf) f.body := Bod.keep (unhide HV4) o46 (fun _ h => h.elim) (fun _ _ _ _ _ _ _ _ h => h)
  have HV7 := hide (Bod.keep hv6 o67 (fun k hk => by rw [hk]; exact (unhide HI4).gB) (avoid_row hr6 (by decide)))
  have HB7 := hide (((unhide HB4).trans (o46.below (unhide HI4).low (fun _ h => h.elim))).trans (o67.below (Nat.le_trans (unhide HI4).low o46.size) (fun k hk => by rw [hk]; exact (unhide HI4).gB)))
  have hS6 : w6.cell? ⟨gp, 3, none⟩ = some (.slice (some ⟨gq, 0, none⟩) nf cw) := by rw [← unhide HUW]; exact hr6.cell 3
  have HF6 : Hid (w6.frozen? ⟨gp, 3, none⟩ = false) := hide (hr6.frozen 3)
  clear o6 y6 k6 hp6 o46 hr6 hx6 o67 hv6 HO5 HO45 HI4 HX4 HV4 HB4 hS5
  go_wp2_with fail
  refine hK.out _ _ (fun _ => hS6) ?_
  clear hK K
  try simp only [Act.put, List.setIfInBounds_toArray, List.set_cons_zero, List.set_cons_succ]
  refine wpAnyT_pure (i := 15) (oi := { dst := some 65, op := Op.indexAddr 62 (Operand.tmp 64) (Operand.tmp 51), type := 0, pos := "law.go:157", after := #[{ on := 14, ground := Ground.data }, { on := 1, ground := Ground.data }, { on := 0, ground := Ground.phase }, { on := 1, ground := Ground.phase }, { on := 2, ground := Ground.phase }, { on := 3, ground := Ground.phase }, { on := 4, ground := Ground.phase }, { on := 5, ground := Ground.phase }, { on := 6, ground := Ground.phase }, { on := 7, ground := Ground.phase }, { on := 8, ground := Ground.phase }, { on := 9, ground := Ground.phase }, { on := 10, ground := Ground.phase }, { on := 11, ground := Ground.phase }, { on := 12, ground := Ground.phase }], guard := none }) (v := .pointer (some ⟨gp, 3, none⟩)) rfl (by kernel_rfl) (by kernel_rfl) (by kernel_rfl) rfl (fun _ _ _ h => h) (Or.inl ⟨by rfl, ?_⟩) ?_
  · intro w hSw
    first
      | rfl
      | (go_simp; done)
  try simp only [Act.put, List.setIfInBounds_toArray, List.set_cons_zero, List.set_cons_succ]
  have f6 := unhide HF6
  refine wpAnyT_one (i := 16) (o := { dst := none, op := Op.store 48 (Operand.tmp 65) (Operand.tmp 62), type := 0, pos := "law.go:157", after := #[{ on := 15, ground := Ground.data }, { on := 12, ground := Ground.data }, { on := 12, ground := Ground.chain }, { on := 0, ground := Ground.phase }, { on := 1, ground := Ground.phase }, { on := 2, ground := Ground.phase }, { on := 3, ground := Ground.phase }, { on := 4, ground := Ground.phase }, { on := 5, ground := Ground.phase }, { on := 6, ground := Ground.phase }, { on := 7, ground := Ground.phase }, { on := 8, ground := Ground.phase }, { on := 9, ground := Ground.phase }, { on := 10, ground := Ground.phase }, { on := 11, ground := Ground.phase }, { on := 12, ground := Ground.phase }], guard := none }) (by kernel_rfl) rfl (fun K hK => ?_)
  go_simp
  refine hK.out _ _ (fun h => by cases h) ?_
  clear hK K
  try simp only [Act.put, List.setIfInBounds_toArray, List.set_cons_zero, List.set_cons_succ]
  refine wpAnyT_done (by kernel_rfl) ?_ _
  have HP7 : Hid (Pair (w6.setCell ⟨gp, 3, none⟩ (.slice at6 (nf - 1) ct6)) B gp (P3 P 1 (.slice at6 (nf - 1) ct6) ((P.F 1).take kk ++ (P.F 1).drop (kk + 1)))) := HI7
  obtain ⟨w7, hw7⟩ : ∃ z, (w6.setCell ⟨gp, 3, none⟩ (.slice at6 (nf - 1) ct6)) = z := ⟨_, rfl⟩
  rw [hw7] at HP7 HX7 HV7 HB7 ⊢
  clear hw7 HI7 hS6 f6
  have HE8 : Hid (MoveR B gp P b w (.returned (.tuple #[])) w7) := hide ⟨rfl, _, .inr (.inr (.inr (.inr (.inr (.inl ⟨1, by decide, .slice at6 (nf - 1) ct6, kk, by rw [unhide HNF]; exact hkl, rfl⟩))))), unhide HP7, unhide HB7⟩
  go_wp2_with fail
  go_end0
  exact unhide HE8
end Go.Proofs.Ytmkpphkdaiienaa
