/- A move: what is sent, and time. -/
import Derived.Test.YtmkpphkdaiienaaCMp
namespace Go.Proofs.Ytmkpphkdaiienaa
set_option linter.unusedVariables false
set_option linter.unusedSimpArgs false
open Go.ChangeShapes Go.WideShapes Go.ChangeAt Go.RowKit Go.Joins Go.Deep

set_option maxRecDepth 100000 in
set_option maxHeartbeats 4000000 in
theorem move0_ok (B gp N : Nat) (P : PS) (op n : Int) (b : List Nat) (vb : Value) (w : World) (h : Pair w B gp P) (hg : Good N P) (hN : N ≤ 1000) (hv : Vis w B vb b) (hbl : b.length ≤ 1000000000) (hop : wrap64 ((IntKind.u64.wrap op).tmod 12) = 0) :
    Calls Try.prog 32 #[.pointer (some ⟨gp, 0, none⟩), .agg #[.int .i64 op, .int .i64 n, vb]] w fun r w' => MoveR B gp P b w r w' := by
  obtain ⟨ab, cb, hvb⟩ := byt_shape hv.1
  subst hvb
  have b1 : Below w.heap.size w (w.alloc (.cells #[.int .i64 op, .int .i64 n, .slice ab b.length cb] 67)) := (Below.refl _ _).alloc (Nat.le_refl _) _
  have HI := hide (h.call b1)
  have HV := hide (hv.call b1)
  have HBX := hide (RowAt.new w 67 [.int .i64 op, .int .i64 n, .slice ab b.length cb])
  have HB := hide (b1.mono h.low)
  have HG := hide hg
  obtain ⟨gb, hgb⟩ : ∃ z, w.heap.size = z := ⟨_, rfl⟩
  have HGB := hide hgb
  clear h hg hv b1 hgb
  obtain ⟨gi, hgi⟩ : ∃ z, P.g 0 = z := ⟨_, rfl⟩
  have HGI := hide hgi
  clear hgi
  by_cases hb0 : b = []
  · subst hb0
    simp only [List.length_nil] at HI HV HBX HB ⊢
    go_enter Try.func32, Try.ntmps32
    go_wp2_with fail
    obtain ⟨w1, hw1⟩ : ∃ z, (w.alloc (.cells #[.int .i64 op, .int .i64 n, .slice ab 0 cb] 67)) = z := ⟨_, rfl⟩
    rw [hw1] at HI HV HBX HB ⊢
    rw [unhide HGB] at HBX ⊢
    clear hw1
    refine wp_region_T (S := fun W => W.cell? ⟨gb, 2, none⟩ = some (.slice ab 0 cb) ∧ W.cell? ⟨gp, 0, none⟩ = some (.pointer (some ⟨gi, 0, none⟩))) (fun i => decide (i < 16)) (by kernel_rfl) ⟨(unhide HBX).cell 2, by rw [← unhide HGI]; exact (unhide HI).row.cell 0⟩ (fun hHeld => ?_)
    have bd : Below w1.heap.size w1 w1.drew := Below.drew (Below.refl _ _)
    have HI1 := hide ((unhide HI).call bd)
    have HB1 := hide ((unhide HB).trans (bd.mono (unhide HI).low))
    have HV1 := hide ((unhide HV).call bd)
    have HX1 := hide ((unhide HBX).drew)
    obtain ⟨w2, hw2⟩ : ∃ z, w1.drew = z := ⟨_, rfl⟩
    rw [hw2] at HI1 HB1 HV1 HX1 hHeld ⊢
    clear hw2 bd HI HB HV HBX
    refine wpAnyT_take (i := 0) (oi := { dst := some 83, op := Op.fieldAddr 67 (Operand.tmp 3) 2, type := 0, pos := "law.go:142", after := #[], guard := none }) (v := .pointer (some ⟨gb, 2, none⟩)) rfl (by kernel_rfl) (by kernel_rfl) (by kernel_rfl) (by kernel_rfl) (fun _ _ _ h => h) (Or.inl ⟨by rfl, ?_⟩) hHeld ?_
    · intro w hSw
      obtain ⟨h2, h0⟩ := hSw
      first
        | rfl
        | (go_simp; done)
    try simp only [Act.put, List.setIfInBounds_toArray, List.set_cons_zero, List.set_cons_succ]
    refine wpAnyT_take (i := 1) (oi := { dst := some 84, op := Op.load 32 (Operand.tmp 83), type := 32, pos := "law.go:142", after := #[{ on := 0, ground := Ground.data }], guard := none }) (v := .slice ab 0 cb) rfl (by kernel_rfl) (by kernel_rfl) (by kernel_rfl) (by kernel_rfl) (fun _ _ _ h => h) (Or.inl ⟨by rfl, ?_⟩) hHeld ?_
    · intro w hSw
      obtain ⟨h2, h0⟩ := hSw
      first
        | rfl
        | (go_simp; done)
    try simp only [Act.put, List.setIfInBounds_toArray, List.set_cons_zero, List.set_cons_succ]
    refine wpAnyT_take (i := 2) (oi := { dst := some 85, op := Op.call { callee := Callee.builtin Builtin.len, args := #[Operand.tmp 84], argTypes := #[32] }, type := 3, pos := "law.go:142", after := #[{ on := 1, ground := Ground.data }], guard := none }) (v := .int .i64 0) rfl (by kernel_rfl) (by kernel_rfl) (by kernel_rfl) (by kernel_rfl) (fun _ _ _ h => h) (Or.inl ⟨by rfl, ?_⟩) hHeld ?_
    · intro w hSw
      obtain ⟨h2, h0⟩ := hSw
      first
        | rfl
        | (go_simp; done)
    try simp only [Act.put, List.setIfInBounds_toArray, List.set_cons_zero, List.set_cons_succ]
    refine wpAnyT_take (i := 3) (oi := { dst := some 86, op := Op.binOp BinOp.gtr 3 (Operand.tmp 85) (Operand.const (Value.int IntKind.i64 0)) 3, type := 4, pos := "law.go:142", after := #[{ on := 2, ground := Ground.data }], guard := none }) (v := .bool false) rfl (by kernel_rfl) (by kernel_rfl) (by kernel_rfl) (by kernel_rfl) (fun _ _ _ h => h) (Or.inl ⟨by rfl, ?_⟩) hHeld ?_
    · intro w hSw
      obtain ⟨h2, h0⟩ := hSw
      first
        | rfl
        | (go_simp; done)
    try simp only [Act.put, List.setIfInBounds_toArray, List.set_cons_zero, List.set_cons_succ]
    refine wpAnyT_take (i := 4) (oi := { dst := some 87, op := Op.move (Operand.tmp 86), type := 4, pos := "law.go:142", after := #[{ on := 3, ground := Ground.data }], guard := none }) (v := .bool false) rfl (by kernel_rfl) (by kernel_rfl) (by kernel_rfl) (by kernel_rfl) (fun _ _ _ h => h) (Or.inl ⟨by rfl, ?_⟩) hHeld ?_
    · intro w hSw
      obtain ⟨h2, h0⟩ := hSw
      first
        | rfl
        | (go_simp; done)
    try simp only [Act.put, List.setIfInBounds_toArray, List.set_cons_zero, List.set_cons_succ]
    refine wpAnyT_take (i := 5) (oi := { dst := some 88, op := Op.move (Operand.tmp 0), type := 59, pos := "law.go:142", after := #[{ on := 4, ground := Ground.guard }], guard := some (4, true) }) (v := undef) rfl (by kernel_rfl) (by kernel_rfl) (by kernel_rfl) (by kernel_rfl) (fun _ _ _ h => h) (Or.inr ⟨by rfl, rfl⟩) hHeld ?_
    try simp only [Act.put, List.setIfInBounds_toArray, List.set_cons_zero, List.set_cons_succ]
    refine wpAnyT_take (i := 6) (oi := { dst := some 89, op := Op.move (Operand.tmp 5), type := 3, pos := "law.go:142", after := #[{ on := 4, ground := Ground.guard }], guard := some (4, true) }) (v := undef) rfl (by kernel_rfl) (by kernel_rfl) (by kernel_rfl) (by kernel_rfl) (fun _ _ _ h => h) (Or.inr ⟨by rfl, rfl⟩) hHeld ?_
    try simp only [Act.put, List.setIfInBounds_toArray, List.set_cons_zero, List.set_cons_succ]
    refine wpAnyT_take (i := 7) (oi := { dst := some 90, op := Op.nilCheck (Operand.tmp 88), type := 0, pos := "law.go:142", after := #[{ on := 5, ground := Ground.data }, { on := 4, ground := Ground.guard }], guard := some (4, true) }) (v := undef) rfl (by kernel_rfl) (by kernel_rfl) (by kernel_rfl) (by kernel_rfl) (fun _ _ _ h => h) (Or.inr ⟨by rfl, rfl⟩) hHeld ?_
    try simp only [Act.put, List.setIfInBounds_toArray, List.set_cons_zero, List.set_cons_succ]
    refine wpAnyT_take (i := 8) (oi := { dst := some 91, op := Op.fieldAddr 65 (Operand.tmp 90) 0, type := 0, pos := "law.go:142", after := #[{ on := 7, ground := Ground.data }, { on := 4, ground := Ground.guard }], guard := some (4, true) }) (v := undef) rfl (by kernel_rfl) (by kernel_rfl) (by kernel_rfl) (by kernel_rfl) (fun _ _ _ h => h) (Or.inr ⟨by rfl, rfl⟩) hHeld ?_
    try simp only [Act.put, List.setIfInBounds_toArray, List.set_cons_zero, List.set_cons_succ]
    refine wpAnyT_take (i := 9) (oi := { dst := some 92, op := Op.indexAddr 61 (Operand.tmp 91) (Operand.tmp 89), type := 0, pos := "law.go:142", after := #[{ on := 8, ground := Ground.data }, { on := 6, ground := Ground.data }, { on := 4, ground := Ground.guard }], guard := some (4, true) }) (v := undef) rfl (by kernel_rfl) (by kernel_rfl) (by kernel_rfl) (by kernel_rfl) (fun _ _ _ h => h) (Or.inr ⟨by rfl, rfl⟩) hHeld ?_
    try simp only [Act.put, List.setIfInBounds_toArray, List.set_cons_zero, List.set_cons_succ]
    refine wpAnyT_take (i := 10) (oi := { dst := some 93, op := Op.load 23 (Operand.tmp 92), type := 23, pos := "law.go:142", after := #[{ on := 9, ground := Ground.data }, { on := 4, ground := Ground.guard }], guard := some (4, true) }) (v := undef) rfl (by kernel_rfl) (by kernel_rfl) (by kernel_rfl) (by kernel_rfl) (fun _ _ _ h => h) (Or.inr ⟨by rfl, rfl⟩) hHeld ?_
    try simp only [Act.put, List.setIfInBounds_toArray, List.set_cons_zero, List.set_cons_succ]
    refine wpAnyT_take (i := 11) (oi := { dst := some 94, op := Op.fieldAddr 67 (Operand.tmp 3) 2, type := 0, pos := "law.go:142", after := #[{ on := 4, ground := Ground.guard }], guard := some (4, true) }) (v := undef) rfl (by kernel_rfl) (by kernel_rfl) (by kernel_rfl) (by kernel_rfl) (fun _ _ _ h => h) (Or.inr ⟨by rfl, rfl⟩) hHeld ?_
    try simp only [Act.put, List.setIfInBounds_toArray, List.set_cons_zero, List.set_cons_succ]
    refine wpAnyT_take (i := 12) (oi := { dst := some 95, op := Op.load 32 (Operand.tmp 94), type := 32, pos := "law.go:142", after := #[{ on := 11, ground := Ground.data }, { on := 4, ground := Ground.guard }], guard := some (4, true) }) (v := undef) rfl (by kernel_rfl) (by kernel_rfl) (by kernel_rfl) (by kernel_rfl) (fun _ _ _ h => h) (Or.inr ⟨by rfl, rfl⟩) hHeld ?_
    try simp only [Act.put, List.setIfInBounds_toArray, List.set_cons_zero, List.set_cons_succ]
    refine wpAnyT_take (i := 13) (oi := { dst := some 96, op := Op.call { callee := Callee.value (Operand.func 15), args := #[Operand.tmp 93, Operand.tmp 95], argTypes := #[23, 32] }, type := 24, pos := "law.go:142", after := #[{ on := 10, ground := Ground.data }, { on := 12, ground := Ground.data }, { on := 4, ground := Ground.chain }, { on := 4, ground := Ground.guard }], guard := some (4, true) }) (v := undef) rfl (by kernel_rfl) (by kernel_rfl) (by kernel_rfl) (by kernel_rfl) (fun _ _ _ h => h) (Or.inr ⟨by rfl, rfl⟩) hHeld ?_
    try simp only [Act.put, List.setIfInBounds_toArray, List.set_cons_zero, List.set_cons_succ]
    refine wpAnyT_take (i := 14) (oi := { dst := some 97, op := Op.binOp BinOp.eql 24 (Operand.tmp 96) (Operand.const (Value.int IntKind.i64 0)) 24, type := 4, pos := "law.go:142", after := #[{ on := 13, ground := Ground.data }, { on := 4, ground := Ground.guard }], guard := some (4, true) }) (v := undef) rfl (by kernel_rfl) (by kernel_rfl) (by kernel_rfl) (by kernel_rfl) (fun _ _ _ h => h) (Or.inr ⟨by rfl, rfl⟩) hHeld ?_
    try simp only [Act.put, List.setIfInBounds_toArray, List.set_cons_zero, List.set_cons_succ]
    refine wpAnyT_take (i := 15) (oi := { dst := some 98, op := Op.pick (Operand.tmp 87) (Operand.tmp 97) (Operand.const (Value.bool false)), type := 4, pos := "law.go:142", after := #[{ on := 4, ground := Ground.data }, { on := 14, ground := Ground.data }], guard := none }) (v := .bool false) rfl (by kernel_rfl) (by kernel_rfl) (by kernel_rfl) (by kernel_rfl) (fun _ _ _ h => h) (Or.inl ⟨by rfl, ?_⟩) hHeld ?_
    · intro w hSw
      obtain ⟨h2, h0⟩ := hSw
      first
        | rfl
        | (go_simp; done)
    try simp only [Act.put, List.setIfInBounds_toArray, List.set_cons_zero, List.set_cons_succ]
    refine wpAnyT_done (by kernel_rfl) ?_ _
    go_wp2_with fail
    go_end0
    exact ⟨rfl, P, .inl rfl, unhide HI1, unhide HB1⟩
  have hbn : 0 < b.length := List.length_pos_iff.2 hb0
  have hbi : (0 : Int) < (b.length : Int) := by omega
  clear hb0
  go_enter Try.func32, Try.ntmps32
  go_wp2_with fail
  obtain ⟨w1, hw1⟩ : ∃ z, (w.alloc (.cells #[.int .i64 op, .int .i64 n, .slice ab b.length cb] 67)) = z := ⟨_, rfl⟩
  rw [hw1] at HI HV HBX HB ⊢
  rw [unhide HGB] at HBX ⊢
  clear hw1
  refine wp_region_T (S := fun W => W.cell? ⟨gb, 2, none⟩ = some (.slice ab b.length cb) ∧ W.cell? ⟨gp, 0, none⟩ = some (.pointer (some ⟨gi, 0, none⟩))) (fun i => decide (i < 16)) (by kernel_rfl) ⟨(unhide HBX).cell 2, by rw [← unhide HGI]; exact (unhide HI).row.cell 0⟩ (fun hHeld => ?_)
  have bd : Below w1.heap.size w1 w1.drew := Below.drew (Below.refl _ _)
  have HI1 := hide ((unhide HI).call bd)
  have HB1 := hide ((unhide HB).trans (bd.mono (unhide HI).low))
  have HV1 := hide ((unhide HV).call bd)
  have HX1 := hide ((unhide HBX).drew)
  obtain ⟨w2, hw2⟩ : ∃ z, w1.drew = z := ⟨_, rfl⟩
  rw [hw2] at HI1 HB1 HV1 HX1 hHeld ⊢
  clear hw2 bd HI HB HV HBX
  refine wpAnyT_take (i := 0) (oi := { dst := some 83, op := Op.fieldAddr 67 (Operand.tmp 3) 2, type := 0, pos := "law.go:142", after := #[], guard := none }) (v := .pointer (some ⟨gb, 2, none⟩)) rfl (by kernel_rfl) (by kernel_rfl) (by kernel_rfl) (by kernel_rfl) (fun _ _ _ h => h) (Or.inl ⟨by rfl, ?_⟩) hHeld ?_
  · intro w hSw
    obtain ⟨h2, h0⟩ := hSw
    first
      | rfl
      | (go_simp; done)
  try simp only [Act.put, List.setIfInBounds_toArray, List.set_cons_zero, List.set_cons_succ]
  refine wpAnyT_take (i := 1) (oi := { dst := some 84, op := Op.load 32 (Operand.tmp 83), type := 32, pos := "law.go:142", after := #[{ on := 0, ground := Ground.data }], guard := none }) (v := .slice ab b.length cb) rfl (by kernel_rfl) (by kernel_rfl) (by kernel_rfl) (by kernel_rfl) (fun _ _ _ h => h) (Or.inl ⟨by rfl, ?_⟩) hHeld ?_
  · intro w hSw
    obtain ⟨h2, h0⟩ := hSw
    first
      | rfl
      | (go_simp; done)
  try simp only [Act.put, List.setIfInBounds_toArray, List.set_cons_zero, List.set_cons_succ]
  refine wpAnyT_take (i := 2) (oi := { dst := some 85, op := Op.call { callee := Callee.builtin Builtin.len, args := #[Operand.tmp 84], argTypes := #[32] }, type := 3, pos := "law.go:142", after := #[{ on := 1, ground := Ground.data }], guard := none }) (v := .int .i64 (b.length : Int)) rfl (by kernel_rfl) (by kernel_rfl) (by kernel_rfl) (by kernel_rfl) (fun _ _ _ h => h) (Or.inl ⟨by rfl, ?_⟩) hHeld ?_
  · intro w hSw
    obtain ⟨h2, h0⟩ := hSw
    first
      | rfl
      | (go_simp; done)
  try simp only [Act.put, List.setIfInBounds_toArray, List.set_cons_zero, List.set_cons_succ]
  refine wpAnyT_take (i := 3) (oi := { dst := some 86, op := Op.binOp BinOp.gtr 3 (Operand.tmp 85) (Operand.const (Value.int IntKind.i64 0)) 3, type := 4, pos := "law.go:142", after := #[{ on := 2, ground := Ground.data }], guard := none }) (v := .bool true) rfl (by kernel_rfl) (by kernel_rfl) (by kernel_rfl) (by kernel_rfl) (fun _ _ _ h => h) (Or.inl ⟨by rfl, ?_⟩) hHeld ?_
  · intro w hSw
    obtain ⟨h2, h0⟩ := hSw
    first
      | rfl
      | (go_simp; done)
  try simp only [Act.put, List.setIfInBounds_toArray, List.set_cons_zero, List.set_cons_succ]
  refine wpAnyT_take (i := 4) (oi := { dst := some 87, op := Op.move (Operand.tmp 86), type := 4, pos := "law.go:142", after := #[{ on := 3, ground := Ground.data }], guard := none }) (v := .bool true) rfl (by kernel_rfl) (by kernel_rfl) (by kernel_rfl) (by kernel_rfl) (fun _ _ _ h => h) (Or.inl ⟨by rfl, ?_⟩) hHeld ?_
  · intro w hSw
    obtain ⟨h2, h0⟩ := hSw
    first
      | rfl
      | (go_simp; done)
  try simp only [Act.put, List.setIfInBounds_toArray, List.set_cons_zero, List.set_cons_succ]
  refine wpAnyT_take (i := 5) (oi := { dst := some 88, op := Op.move (Operand.tmp 0), type := 59, pos := "law.go:142", after := #[{ on := 4, ground := Ground.guard }], guard := some (4, true) }) (v := .pointer (some ⟨gp, 0, none⟩)) rfl (by kernel_rfl) (by kernel_rfl) (by kernel_rfl) (by kernel_rfl) (fun _ _ _ h => h) (Or.inl ⟨by rfl, ?_⟩) hHeld ?_
  · intro w hSw
    obtain ⟨h2, h0⟩ := hSw
    first
      | rfl
      | (go_simp; done)
  try simp only [Act.put, List.setIfInBounds_toArray, List.set_cons_zero, List.set_cons_succ]
  refine wpAnyT_take (i := 6) (oi := { dst := some 89, op := Op.move (Operand.tmp 5), type := 3, pos := "law.go:142", after := #[{ on := 4, ground := Ground.guard }], guard := some (4, true) }) (v := .int .i64 0) rfl (by kernel_rfl) (by kernel_rfl) (by kernel_rfl) (by kernel_rfl) (fun _ _ _ h => h) (Or.inl ⟨by rfl, ?_⟩) hHeld ?_
  · intro w hSw
    obtain ⟨h2, h0⟩ := hSw
    first
      | rfl
      | (go_simp; done)
  try simp only [Act.put, List.setIfInBounds_toArray, List.set_cons_zero, List.set_cons_succ]
  refine wpAnyT_take (i := 7) (oi := { dst := some 90, op := Op.nilCheck (Operand.tmp 88), type := 0, pos := "law.go:142", after := #[{ on := 5, ground := Ground.data }, { on := 4, ground := Ground.guard }], guard := some (4, true) }) (v := .pointer (some ⟨gp, 0, none⟩)) rfl (by kernel_rfl) (by kernel_rfl) (by kernel_rfl) (by kernel_rfl) (fun _ _ _ h => h) (Or.inl ⟨by rfl, ?_⟩) hHeld ?_
  · intro w hSw
    obtain ⟨h2, h0⟩ := hSw
    first
      | rfl
      | (go_simp; done)
  try simp only [Act.put, List.setIfInBounds_toArray, List.set_cons_zero, List.set_cons_succ]
  refine wpAnyT_take (i := 8) (oi := { dst := some 91, op := Op.fieldAddr 65 (Operand.tmp 90) 0, type := 0, pos := "law.go:142", after := #[{ on := 7, ground := Ground.data }, { on := 4, ground := Ground.guard }], guard := some (4, true) }) (v := .pointer (some ⟨gp, 0, none⟩)) rfl (by kernel_rfl) (by kernel_rfl) (by kernel_rfl) (by kernel_rfl) (fun _ _ _ h => h) (Or.inl ⟨by rfl, ?_⟩) hHeld ?_
  · intro w hSw
    obtain ⟨h2, h0⟩ := hSw
    first
      | rfl
      | (go_simp; done)
  try simp only [Act.put, List.setIfInBounds_toArray, List.set_cons_zero, List.set_cons_succ]
  refine wpAnyT_take (i := 9) (oi := { dst := some 92, op := Op.indexAddr 61 (Operand.tmp 91) (Operand.tmp 89), type := 0, pos := "law.go:142", after := #[{ on := 8, ground := Ground.data }, { on := 6, ground := Ground.data }, { on := 4, ground := Ground.guard }], guard := some (4, true) }) (v := .pointer (some ⟨gp, 0, none⟩)) rfl (by kernel_rfl) (by kernel_rfl) (by kernel_rfl) (by kernel_rfl) (fun _ _ _ h => h) (Or.inl ⟨by rfl, ?_⟩) hHeld ?_
  · intro w hSw
    obtain ⟨h2, h0⟩ := hSw
    first
      | rfl
      | (go_simp; done)
  try simp only [Act.put, List.setIfInBounds_toArray, List.set_cons_zero, List.set_cons_succ]
  refine wpAnyT_take (i := 10) (oi := { dst := some 93, op := Op.load 23 (Operand.tmp 92), type := 23, pos := "law.go:142", after := #[{ on := 9, ground := Ground.data }, { on := 4, ground := Ground.guard }], guard := some (4, true) }) (v := .pointer (some ⟨gi, 0, none⟩)) rfl (by kernel_rfl) (by kernel_rfl) (by kernel_rfl) (by kernel_rfl) (fun _ _ _ h => h) (Or.inl ⟨by rfl, ?_⟩) hHeld ?_
  · intro w hSw
    obtain ⟨h2, h0⟩ := hSw
    first
      | rfl
      | (go_simp; done)
  try simp only [Act.put, List.setIfInBounds_toArray, List.set_cons_zero, List.set_cons_succ]
  refine wpAnyT_take (i := 11) (oi := { dst := some 94, op := Op.fieldAddr 67 (Operand.tmp 3) 2, type := 0, pos := "law.go:142", after := #[{ on := 4, ground := Ground.guard }], guard := some (4, true) }) (v := .pointer (some ⟨gb, 2, none⟩)) rfl (by kernel_rfl) (by kernel_rfl) (by kernel_rfl) (by kernel_rfl) (fun _ _ _ h => h) (Or.inl ⟨by rfl, ?_⟩) hHeld ?_
  · intro w hSw
    obtain ⟨h2, h0⟩ := hSw
    first
      | rfl
      | (go_simp; done)
  try simp only [Act.put, List.setIfInBounds_toArray, List.set_cons_zero, List.set_cons_succ]
  refine wpAnyT_take (i := 12) (oi := { dst := some 95, op := Op.load 32 (Operand.tmp 94), type := 32, pos := "law.go:142", after := #[{ on := 11, ground := Ground.data }, { on := 4, ground := Ground.guard }], guard := some (4, true) }) (v := .slice ab b.length cb) rfl (by kernel_rfl) (by kernel_rfl) (by kernel_rfl) (by kernel_rfl) (fun _ _ _ h => h) (Or.inl ⟨by rfl, ?_⟩) hHeld ?_
  · intro w hSw
    obtain ⟨h2, h0⟩ := hSw
    first
      | rfl
      | (go_simp; done)
  try simp only [Act.put, List.setIfInBounds_toArray, List.set_cons_zero, List.set_cons_succ]
  refine wpAnyT_one (i := 13) (o := { dst := some 96, op := Op.call { callee := Callee.value (Operand.func 15), args := #[Operand.tmp 93, Operand.tmp 95], argTypes := #[23, 32] }, type := 24, pos := "law.go:142", after := #[{ on := 10, ground := Ground.data }, { on := 12, ground := Ground.data }, { on := 4, ground := Ground.chain }, { on := 4, ground := Ground.guard }], guard := some (4, true) }) (by kernel_rfl) rfl (fun K hK => ?_)
  go_simp
  refine Calls.mono (send_any B gi (P.m 0) (P.vq 0) _ (P.s 0) b w2 (by rw [← unhide HGI]; exact (unhide HI1).ch 0 (by decide)) (((unhide HG).inv 0 (by decide)).ok (by decide) (by omega)) (unhide HV1).1 (unhide HI1).low hbl) ?_
  intro r w3 h3
  rw [← unhide HGI] at h3
  obtain ⟨v, vq, rfl, h4, b4⟩ := send_end (vb := .slice ab b.length cb) (unhide HI1) (by decide) h3
  have HI3 := hide h4
  have HB3 := hide ((unhide HB1).trans b4)
  have HX3 : Hid (RowAt w3 gb 67 [.int .i64 op, .int .i64 n, .slice ab b.length cb]) := hide (by obtain ⟨e9, v9, vq9, c9, t9⟩ := h3; exact ((unhide HI1).ch 0 (by decide)).keepRow (unhide HX1) (by decide) (by decide) t9.1)
  have HV3 : Hid (Vis w3 B (.slice ab b.length cb) b) := hide (by obtain ⟨e9, v9, vq9, c9, t9⟩ := h3; exact (unhide HV1).keep ((unhide HI1).ch 0 (by decide)) t9.1)
  have hS3 := And.intro ((unhide HX3).cell 2) (show w3.cell? ⟨gp, 0, none⟩ = some (.pointer (some ⟨gi, 0, none⟩)) by rw [← unhide HGI]; exact (unhide HI3).row.cell 0)
  obtain ⟨E, hE⟩ : ∃ z, sendE (P.s 0) b.length = z := ⟨_, rfl⟩
  have HE := hide hE
  rw [hE]
  clear h3 h4 b4 hE HI1 HB1 HV1 HX1 hHeld
  go_wp2_with fail
  refine hK.out _ _ (fun _ => hS3) ?_
  clear hK K
  try simp only [Act.put, List.setIfInBounds_toArray, List.set_cons_zero, List.set_cons_succ]
  by_cases gE : E = 0
  rotate_left
  · skip
    have gEb : (E == 0) = false := by simp [gE]
    refine wpAnyT_take (i := 14) (oi := { dst := some 97, op := Op.binOp BinOp.eql 24 (Operand.tmp 96) (Operand.const (Value.int IntKind.i64 0)) 24, type := 4, pos := "law.go:142", after := #[{ on := 13, ground := Ground.data }, { on := 4, ground := Ground.guard }], guard := some (4, true) }) (v := .bool false) rfl (by kernel_rfl) (by kernel_rfl) (by kernel_rfl) (by kernel_rfl) (fun _ _ _ h => h) (Or.inl ⟨by rfl, ?_⟩) hS3 ?_
    · intro w hSw
      obtain ⟨h2, h0⟩ := hSw
      first
        | rfl
        | (go_simp; done)
    try simp only [Act.put, List.setIfInBounds_toArray, List.set_cons_zero, List.set_cons_succ]
    refine wpAnyT_take (i := 15) (oi := { dst := some 98, op := Op.pick (Operand.tmp 87) (Operand.tmp 97) (Operand.const (Value.bool false)), type := 4, pos := "law.go:142", after := #[{ on := 4, ground := Ground.data }, { on := 14, ground := Ground.data }], guard := none }) (v := .bool false) rfl (by kernel_rfl) (by kernel_rfl) (by kernel_rfl) (by kernel_rfl) (fun _ _ _ h => h) (Or.inl ⟨by rfl, ?_⟩) hS3 ?_
    · intro w hSw
      obtain ⟨h2, h0⟩ := hSw
      first
        | rfl
        | (go_simp; done)
    try simp only [Act.put, List.setIfInBounds_toArray, List.set_cons_zero, List.set_cons_succ]
    refine wpAnyT_done (by kernel_rfl) ?_ _
    go_wp2_with fail
    go_end0
    exact ⟨rfl, _, .inr (.inl ⟨0, by decide, v, vq, b, rfl, by rw [unhide HE]; exact gE⟩), unhide HI3, unhide HB3⟩
  subst gE
  refine wpAnyT_take (i := 14) (oi := { dst := some 97, op := Op.binOp BinOp.eql 24 (Operand.tmp 96) (Operand.const (Value.int IntKind.i64 0)) 24, type := 4, pos := "law.go:142", after := #[{ on := 13, ground := Ground.data }, { on := 4, ground := Ground.guard }], guard := some (4, true) }) (v := .bool true) rfl (by kernel_rfl) (by kernel_rfl) (by kernel_rfl) (by kernel_rfl) (fun _ _ _ h => h) (Or.inl ⟨by rfl, ?_⟩) hS3 ?_
  · intro w hSw
    obtain ⟨h2, h0⟩ := hSw
    first
      | rfl
      | (go_simp; done)
  try simp only [Act.put, List.setIfInBounds_toArray, List.set_cons_zero, List.set_cons_succ]
  refine wpAnyT_take (i := 15) (oi := { dst := some 98, op := Op.pick (Operand.tmp 87) (Operand.tmp 97) (Operand.const (Value.bool false)), type := 4, pos := "law.go:142", after := #[{ on := 4, ground := Ground.data }, { on := 14, ground := Ground.data }], guard := none }) (v := .bool true) rfl (by kernel_rfl) (by kernel_rfl) (by kernel_rfl) (by kernel_rfl) (fun _ _ _ h => h) (Or.inl ⟨by rfl, ?_⟩) hS3 ?_
  · intro w hSw
    obtain ⟨h2, h0⟩ := hSw
    first
      | rfl
      | (go_simp; done)
  try simp only [Act.put, List.setIfInBounds_toArray, List.set_cons_zero, List.set_cons_succ]
  refine wpAnyT_done (by kernel_rfl) ?_ _
  go_wp2_with fail
  clear hS3
  obtain ⟨ug, hug⟩ : ∃ z, P.V 0 = z := ⟨_, rfl⟩
  have HUG := hide hug
  have z8 : w3.cell? ⟨gp, 4, none⟩ = some ug := by rw [← hug]; exact (unhide HI3).row.cell 4
  clear hug
  refine wp_region_T (S := fun W => W.cell? ⟨gp, 4, none⟩ = some ug ∧ W.cell? ⟨gb, 2, none⟩ = some (.slice ab b.length cb)) (fun i => decide (1 ≤ i ∧ i < 12)) (by kernel_rfl) ⟨z8, (unhide HX3).cell 2⟩ (fun hHeld => ?_)
  clear z8
  have bd : Below w3.heap.size w3 w3.drew := Below.drew (Below.refl _ _)
  have HI4 := hide ((unhide HI3).call bd)
  have HB4 := hide ((unhide HB3).trans (bd.mono (unhide HI3).low))
  have HV4 := hide ((unhide HV3).call bd)
  have HX4 := hide ((unhide HX3).drew)
  obtain ⟨w4, hw4⟩ : ∃ z, w3.drew = z := ⟨_, rfl⟩
  rw [hw4] at HI4 HB4 HV4 HX4 hHeld ⊢
  clear hw4 bd HI3 HB3 HV3 HX3
  refine wpAnyT_pure (i := 0) (oi := { dst := some 99, op := Op.move (Operand.tmp 0), type := 59, pos := "law.go:143", after := #[], guard := none }) (v := .pointer (some ⟨gp, 0, none⟩)) rfl (by kernel_rfl) (by kernel_rfl) (by kernel_rfl) rfl (fun _ _ _ h => h) (Or.inl ⟨by rfl, ?_⟩) ?_
  · intro w hSw
    first
      | rfl
      | (go_simp; done)
  try simp only [Act.put, List.setIfInBounds_toArray, List.set_cons_zero, List.set_cons_succ]
  refine wpAnyT_pure (i := 12) (oi := { dst := some 111, op := Op.nilCheck (Operand.tmp 99), type := 0, pos := "law.go:143", after := #[{ on := 0, ground := Ground.data }], guard := none }) (v := .pointer (some ⟨gp, 0, none⟩)) rfl (by kernel_rfl) (by kernel_rfl) (by kernel_rfl) rfl (fun _ _ _ h => h) (Or.inl ⟨by rfl, ?_⟩) ?_
  · intro w hSw
    first
      | rfl
      | (go_simp; done)
  try simp only [Act.put, List.setIfInBounds_toArray, List.set_cons_zero, List.set_cons_succ]
  refine wpAnyT_pure (i := 13) (oi := { dst := some 112, op := Op.fieldAddr 65 (Operand.tmp 111) 2, type := 0, pos := "law.go:143", after := #[{ on := 12, ground := Ground.data }], guard := none }) (v := .pointer (some ⟨gp, 4, none⟩)) rfl (by kernel_rfl) (by kernel_rfl) (by kernel_rfl) rfl (fun _ _ _ h => h) (Or.inl ⟨by rfl, ?_⟩) ?_
  · intro w hSw
    first
      | rfl
      | (go_simp; done)
  try simp only [Act.put, List.setIfInBounds_toArray, List.set_cons_zero, List.set_cons_succ]
  refine wpAnyT_take (i := 1) (oi := { dst := some 100, op := Op.move (Operand.tmp 5), type := 3, pos := "law.go:143", after := #[], guard := none }) (v := .int .i64 0) rfl (by kernel_rfl) (by kernel_rfl) (by kernel_rfl) (by kernel_rfl) (fun _ _ _ h => h) (Or.inl ⟨by rfl, ?_⟩) hHeld ?_
  · intro w hSw
    obtain ⟨h0, h2⟩ := hSw
    first
      | rfl
      | (go_simp; done)
  try simp only [Act.put, List.setIfInBounds_toArray, List.set_cons_zero, List.set_cons_succ]
  refine wpAnyT_take (i := 2) (oi := { dst := some 101, op := Op.move (Operand.tmp 0), type := 59, pos := "law.go:143", after := #[], guard := none }) (v := .pointer (some ⟨gp, 0, none⟩)) rfl (by kernel_rfl) (by kernel_rfl) (by kernel_rfl) (by kernel_rfl) (fun _ _ _ h => h) (Or.inl ⟨by rfl, ?_⟩) hHeld ?_
  · intro w hSw
    obtain ⟨h0, h2⟩ := hSw
    first
      | rfl
      | (go_simp; done)
  try simp only [Act.put, List.setIfInBounds_toArray, List.set_cons_zero, List.set_cons_succ]
  refine wpAnyT_take (i := 3) (oi := { dst := some 102, op := Op.move (Operand.tmp 5), type := 3, pos := "law.go:143", after := #[], guard := none }) (v := .int .i64 0) rfl (by kernel_rfl) (by kernel_rfl) (by kernel_rfl) (by kernel_rfl) (fun _ _ _ h => h) (Or.inl ⟨by rfl, ?_⟩) hHeld ?_
  · intro w hSw
    obtain ⟨h0, h2⟩ := hSw
    first
      | rfl
      | (go_simp; done)
  try simp only [Act.put, List.setIfInBounds_toArray, List.set_cons_zero, List.set_cons_succ]
  refine wpAnyT_take (i := 4) (oi := { dst := some 103, op := Op.nilCheck (Operand.tmp 101), type := 0, pos := "law.go:143", after := #[{ on := 2, ground := Ground.data }], guard := none }) (v := .pointer (some ⟨gp, 0, none⟩)) rfl (by kernel_rfl) (by kernel_rfl) (by kernel_rfl) (by kernel_rfl) (fun _ _ _ h => h) (Or.inl ⟨by rfl, ?_⟩) hHeld ?_
  · intro w hSw
    obtain ⟨h0, h2⟩ := hSw
    first
      | rfl
      | (go_simp; done)
  try simp only [Act.put, List.setIfInBounds_toArray, List.set_cons_zero, List.set_cons_succ]
  refine wpAnyT_take (i := 5) (oi := { dst := some 104, op := Op.fieldAddr 65 (Operand.tmp 103) 2, type := 0, pos := "law.go:143", after := #[{ on := 4, ground := Ground.data }], guard := none }) (v := .pointer (some ⟨gp, 4, none⟩)) rfl (by kernel_rfl) (by kernel_rfl) (by kernel_rfl) (by kernel_rfl) (fun _ _ _ h => h) (Or.inl ⟨by rfl, ?_⟩) hHeld ?_
  · intro w hSw
    obtain ⟨h0, h2⟩ := hSw
    first
      | rfl
      | (go_simp; done)
  try simp only [Act.put, List.setIfInBounds_toArray, List.set_cons_zero, List.set_cons_succ]
  refine wpAnyT_take (i := 6) (oi := { dst := some 105, op := Op.indexAddr 63 (Operand.tmp 104) (Operand.tmp 102), type := 0, pos := "law.go:143", after := #[{ on := 5, ground := Ground.data }, { on := 3, ground := Ground.data }], guard := none }) (v := .pointer (some ⟨gp, 4, none⟩)) rfl (by kernel_rfl) (by kernel_rfl) (by kernel_rfl) (by kernel_rfl) (fun _ _ _ h => h) (Or.inl ⟨by rfl, ?_⟩) hHeld ?_
  · intro w hSw
    obtain ⟨h0, h2⟩ := hSw
    first
      | rfl
      | (go_simp; done)
  try simp only [Act.put, List.setIfInBounds_toArray, List.set_cons_zero, List.set_cons_succ]
  refine wpAnyT_take (i := 7) (oi := { dst := some 106, op := Op.load 40 (Operand.tmp 105), type := 40, pos := "law.go:143", after := #[{ on := 6, ground := Ground.data }], guard := none }) (v := ug) rfl (by kernel_rfl) (by kernel_rfl) (by kernel_rfl) (by kernel_rfl) (fun _ _ _ h => h) (Or.inl ⟨by rfl, ?_⟩) hHeld ?_
  · intro w hSw
    obtain ⟨h0, h2⟩ := hSw
    first
      | rfl
      | (go_simp; done)
  try simp only [Act.put, List.setIfInBounds_toArray, List.set_cons_zero, List.set_cons_succ]
  refine wpAnyT_take (i := 8) (oi := { dst := some 107, op := Op.fieldAddr 67 (Operand.tmp 3) 2, type := 0, pos := "law.go:143", after := #[], guard := none }) (v := .pointer (some ⟨gb, 2, none⟩)) rfl (by kernel_rfl) (by kernel_rfl) (by kernel_rfl) (by kernel_rfl) (fun _ _ _ h => h) (Or.inl ⟨by rfl, ?_⟩) hHeld ?_
  · intro w hSw
    obtain ⟨h0, h2⟩ := hSw
    first
      | rfl
      | (go_simp; done)
  try simp only [Act.put, List.setIfInBounds_toArray, List.set_cons_zero, List.set_cons_succ]
  refine wpAnyT_take (i := 9) (oi := { dst := some 108, op := Op.load 32 (Operand.tmp 107), type := 32, pos := "law.go:143", after := #[{ on := 8, ground := Ground.data }], guard := none }) (v := .slice ab b.length cb) rfl (by kernel_rfl) (by kernel_rfl) (by kernel_rfl) (by kernel_rfl) (fun _ _ _ h => h) (Or.inl ⟨by rfl, ?_⟩) hHeld ?_
  · intro w hSw
    obtain ⟨h0, h2⟩ := hSw
    first
      | rfl
      | (go_simp; done)
  try simp only [Act.put, List.setIfInBounds_toArray, List.set_cons_zero, List.set_cons_succ]
  refine wpAnyT_one (i := 10) (o := { dst := some 109, op := Op.buildSlice 40 1 #[(0, Operand.tmp 108)], type := 40, pos := "law.go:143", after := #[{ on := 9, ground := Ground.data }], guard := none }) (by kernel_rfl) rfl (fun K hK => ?_)
  go_simp
  have b5 : Below w4.heap.size w4 (w4.alloc (.cells #[.slice ab b.length cb] 32)) := (Below.refl _ _).alloc (Nat.le_refl _) _
  have HI5 := hide ((unhide HI4).call b5)
  have HV5 := hide ((unhide HV4).call b5)
  have HQ := hide (RowAt.new w4 32 [.slice ab b.length cb])
  have HX5 := hide ((unhide HX4).below b5 (unhide HX4).lt)
  have HB5 := hide ((unhide HB4).trans (b5.mono (unhide HI4).low))
  obtain ⟨w5, hw5⟩ : ∃ z, (w4.alloc (.cells #[.slice ab b.length cb] 32)) = z := ⟨_, rfl⟩
  obtain ⟨q9, hq9⟩ : ∃ z, w4.heap.size = z := ⟨_, rfl⟩
  rw [hw5] at HI5 HV5 HQ HX5 HB5 ⊢
  rw [hq9] at HQ ⊢
  have hS5 := And.intro (show w5.cell? ⟨gp, 4, none⟩ = some ug by rw [← unhide HUG]; exact (unhide HI5).row.cell 4) ((unhide HX5).cell 2)
  clear hw5 hq9 b5 HI4 HV4 HX4 HB4 hHeld
  refine hK.out _ _ (fun _ => hS5) ?_
  clear hK K
  try simp only [Act.put, List.setIfInBounds_toArray, List.set_cons_zero, List.set_cons_succ]
  refine wpAnyT_one (i := 11) (o := { dst := some 110, op := Op.call { callee := Callee.builtin Builtin.append, args := #[Operand.tmp 106, Operand.tmp 109], argTypes := #[40, 40] }, type := 40, pos := "law.go:143", after := #[{ on := 7, ground := Ground.data }, { on := 10, ground := Ground.data }], guard := none }) (by kernel_rfl) rfl (fun K hK => ?_)
  refine wp_app_src (Operand.tmp 106) (Operand.tmp 109) 40 32 _ 1 24 Try.underlying40 infoSl (by simp [Value.cells]) (by decide) rfl B ug (P.X 0).length ((P.X 0).map Prod.fst) rfl (by rw [← unhide HUG]; exact (unhide HI5).rows 0 (by decide)) (some ⟨q9, 0, none⟩) 1 1 [.slice ab b.length cb] rfl rfl (fun e => by cases e) (fun b9 hb9 j u hu => by injection hb9 with hb9; subst hb9; rw [add_plain, Nat.zero_add, (unhide HQ).cell]; exact hu) (fun u hu => by obtain rfl := List.mem_singleton.1 hu; rfl) (by have := (unhide HG).len 0 (by decide); unfold maxLen; omega) (by have := (unhide HG).len 0 (by decide); omega) (unhide HI5).low (fun tv w6 hv6 ho6 hk6 => ?_)
  obtain ⟨at6, ct6, htv⟩ := own_one hv6
  subst htv
  have ho6b : Only (fun k => (P.V 0).ownBlock = some k) w5 w6 := by rw [unhide HUG]; exact ho6
  have HI6 := hide ((unhide HI5).setV 0 (by decide) (x := P.X 0 ++ [(.slice ab b.length cb, b)]) ho6b (by rw [List.length_append, List.map_append]; exact hv6) (by rw [← unhide HUG] at hk6; exact hk6) (fun y hy => ?_))
  rotate_left
  · rcases List.mem_append.1 hy with hy | hy
    · exact ((unhide HI5).vb 0 (by decide) y hy).keep ho6b (fun k hk => (((unhide HI5).rows 0 (by decide)).lt k hk).1) (avoid_own ((unhide HI5).rows 0 (by decide)) (by decide))
    · obtain rfl := List.mem_singleton.1 hy
      exact Bod.keep (unhide HV5) ho6b (fun k hk => (((unhide HI5).rows 0 (by decide)).lt k hk).1) (avoid_own ((unhide HI5).rows 0 (by decide)) (by decide))
  have HB6 := hide ((unhide HB5).trans (ho6b.below (unhide HI5).low (fun k hk => (((unhide HI5).rows 0 (by decide)).lt k hk).1)))
  have hr6 : RowAt w6 gp 65 _ := (unhide HI5).row.only ho6b (fun e => tag_ne ((unhide HI5).rows 0 (by decide)) (unhide HI5).row (by decide) e)
  have hx6 := (unhide HX5).only ho6b (fun e => tag_ne ((unhide HI5).rows 0 (by decide)) (unhide HX5) (by decide) e)
  have hS6 := And.intro (show w6.cell? ⟨gp, 4, none⟩ = some ug by rw [← unhide HUG]; exact hr6.cell 4) (hx6.cell 2)
  have HF6 : Hid (w6.frozen? ⟨gp, 4, none⟩ = false) := hide (hr6.frozen 4)
  have HGBP := hide (unhide HI5).gB
  have HSZ6 := hide (Nat.le_trans (unhide HI5).low ho6.size)
  clear hv6 ho6 ho6b hk6 HI5 HV5 HX5 HB5 HQ hr6 hx6 hS5
  refine hK.out _ _ (fun _ => hS6) ?_
  clear hK K
  try simp only [Act.put, List.setIfInBounds_toArray, List.set_cons_zero, List.set_cons_succ]
  refine wpAnyT_pure (i := 14) (oi := { dst := some 113, op := Op.indexAddr 63 (Operand.tmp 112) (Operand.tmp 100), type := 0, pos := "law.go:143", after := #[{ on := 13, ground := Ground.data }, { on := 1, ground := Ground.data }, { on := 0, ground := Ground.phase }, { on := 1, ground := Ground.phase }, { on := 2, ground := Ground.phase }, { on := 3, ground := Ground.phase }, { on := 4, ground := Ground.phase }, { on := 5, ground := Ground.phase }, { on := 6, ground := Ground.phase }, { on := 7, ground := Ground.phase }, { on := 8, ground := Ground.phase }, { on := 9, ground := Ground.phase }, { on := 10, ground := Ground.phase }, { on := 11, ground := Ground.phase }], guard := none }) (v := .pointer (some ⟨gp, 4, none⟩)) rfl (by kernel_rfl) (by kernel_rfl) (by kernel_rfl) rfl (fun _ _ _ h => h) (Or.inl ⟨by rfl, ?_⟩) ?_
  · intro w hSw
    first
      | rfl
      | (go_simp; done)
  try simp only [Act.put, List.setIfInBounds_toArray, List.set_cons_zero, List.set_cons_succ]
  have f6 := unhide HF6
  have s6 := hS6.1
  refine wpAnyT_one (i := 15) (o := { dst := none, op := Op.store 40 (Operand.tmp 113) (Operand.tmp 110), type := 0, pos := "law.go:143", after := #[{ on := 14, ground := Ground.data }, { on := 11, ground := Ground.data }, { on := 11, ground := Ground.chain }, { on := 0, ground := Ground.phase }, { on := 1, ground := Ground.phase }, { on := 2, ground := Ground.phase }, { on := 3, ground := Ground.phase }, { on := 4, ground := Ground.phase }, { on := 5, ground := Ground.phase }, { on := 6, ground := Ground.phase }, { on := 7, ground := Ground.phase }, { on := 8, ground := Ground.phase }, { on := 9, ground := Ground.phase }, { on := 10, ground := Ground.phase }, { on := 11, ground := Ground.phase }], guard := none }) (by kernel_rfl) rfl (fun K hK => ?_)
  go_simp
  refine hK.out _ _ (fun h => by cases h) ?_
  clear hK K
  try simp only [Act.put, List.setIfInBounds_toArray, List.set_cons_zero, List.set_cons_succ]
  refine wpAnyT_done (by kernel_rfl) ?_ _
  go_wp2_with fail
  go_end0
  have o7 : Only (· = gp) w6 (w6.setCell ⟨gp, 4, none⟩ (.slice at6 ((P.X 0).length + 1) ct6)) := Only.set (p := (· = gp)) (Only.refl _ _) gp 4 _ rfl
  refine ⟨rfl, _, .inr (.inr (.inl ⟨0, by decide, v, vq, .slice ab b.length cb, .slice at6 ((P.X 0).length + 1) ct6, b, rfl, unhide HE, rfl⟩)), unhide HI6, (unhide HB6).trans (o7.below (unhide HSZ6) (fun k hk => by rw [hk]; exact unhide HGBP))⟩
set_option maxRecDepth 100000 in
set_option maxHeartbeats 4000000 in
theorem move1_ok (B gp N : Nat) (P : PS) (op n : Int) (b : List Nat) (vb : Value) (w : World) (h : Pair w B gp P) (hg : Good N P) (hN : N ≤ 1000) (hv : Vis w B vb b) (hbl : b.length ≤ 1000000000) (hop : wrap64 ((IntKind.u64.wrap op).tmod 12) = 1) :
    Calls Try.prog 32 #[.pointer (some ⟨gp, 0, none⟩), .agg #[.int .i64 op, .int .i64 n, vb]] w fun r w' => MoveR B gp P b w r w' := by
  obtain ⟨ab, cb, hvb⟩ := byt_shape hv.1
  subst hvb
  have b1 : Below w.heap.size w (w.alloc (.cells #[.int .i64 op, .int .i64 n, .slice ab b.length cb] 67)) := (Below.refl _ _).alloc (Nat.le_refl _) _
  have HI := hide (h.call b1)
  have HV := hide (hv.call b1)
  have HBX := hide (RowAt.new w 67 [.int .i64 op, .int .i64 n, .slice ab b.length cb])
  have HB := hide (b1.mono h.low)
  have HG := hide hg
  obtain ⟨gb, hgb⟩ : ∃ z, w.heap.size = z := ⟨_, rfl⟩
  have HGB := hide hgb
  clear h hg hv b1 hgb
  obtain ⟨gi, hgi⟩ : ∃ z, P.g 0 = z := ⟨_, rfl⟩
  have HGI := hide hgi
  clear hgi
  by_cases hb0 : b = []
  · subst hb0
    simp only [List.length_nil] at HI HV HBX HB ⊢
    go_enter Try.func32, Try.ntmps32
    go_wp2_with fail
    obtain ⟨w1, hw1⟩ : ∃ z, (w.alloc (.cells #[.int .i64 op, .int .i64 n, .slice ab 0 cb] 67)) = z := ⟨_, rfl⟩
    rw [hw1] at HI HV HBX HB ⊢
    rw [unhide HGB] at HBX ⊢
    clear hw1
    refine wp_region_T (S := fun W => W.cell? ⟨gb, 2, none⟩ = some (.slice ab 0 cb) ∧ W.cell? ⟨gp, 0, none⟩ = some (.pointer (some ⟨gi, 0, none⟩))) (fun i => decide (i < 16)) (by kernel_rfl) ⟨(unhide HBX).cell 2, by rw [← unhide HGI]; exact (unhide HI).row.cell 0⟩ (fun hHeld => ?_)
    have bd : Below w1.heap.size w1 w1.drew := Below.drew (Below.refl _ _)
    have HI1 := hide ((unhide HI).call bd)
    have HB1 := hide ((unhide HB).trans (bd.mono (unhide HI).low))
    have HV1 := hide ((unhide HV).call bd)
    have HX1 := hide ((unhide HBX).drew)
    obtain ⟨w2, hw2⟩ : ∃ z, w1.drew = z := ⟨_, rfl⟩
    rw [hw2] at HI1 HB1 HV1 HX1 hHeld ⊢
    clear hw2 bd HI HB HV HBX
    refine wpAnyT_take (i := 0) (oi := { dst := some 83, op := Op.fieldAddr 67 (Operand.tmp 3) 2, type := 0, pos := "law.go:142", after := #[], guard := none }) (v := .pointer (some ⟨gb, 2, none⟩)) rfl (by kernel_rfl) (by kernel_rfl) (by kernel_rfl) (by kernel_rfl) (fun _ _ _ h => h) (Or.inl ⟨by rfl, ?_⟩) hHeld ?_
    · intro w hSw
      obtain ⟨h2, h0⟩ := hSw
      first
        | rfl
        | (go_simp; done)
    try simp only [Act.put, List.setIfInBounds_toArray, List.set_cons_zero, List.set_cons_succ]
    refine wpAnyT_take (i := 1) (oi := { dst := some 84, op := Op.load 32 (Operand.tmp 83), type := 32, pos := "law.go:142", after := #[{ on := 0, ground := Ground.data }], guard := none }) (v := .slice ab 0 cb) rfl (by kernel_rfl) (by kernel_rfl) (by kernel_rfl) (by kernel_rfl) (fun _ _ _ h => h) (Or.inl ⟨by rfl, ?_⟩) hHeld ?_
    · intro w hSw
      obtain ⟨h2, h0⟩ := hSw
      first
        | rfl
        | (go_simp; done)
    try simp only [Act.put, List.setIfInBounds_toArray, List.set_cons_zero, List.set_cons_succ]
    refine wpAnyT_take (i := 2) (oi := { dst := some 85, op := Op.call { callee := Callee.builtin Builtin.len, args := #[Operand.tmp 84], argTypes := #[32] }, type := 3, pos := "law.go:142", after := #[{ on := 1, ground := Ground.data }], guard := none }) (v := .int .i64 0) rfl (by kernel_rfl) (by kernel_rfl) (by kernel_rfl) (by kernel_rfl) (fun _ _ _ h => h) (Or.inl ⟨by rfl, ?_⟩) hHeld ?_
    · intro w hSw
      obtain ⟨h2, h0⟩ := hSw
      first
        | rfl
        | (go_simp; done)
    try simp only [Act.put, List.setIfInBounds_toArray, List.set_cons_zero, List.set_cons_succ]
    refine wpAnyT_take (i := 3) (oi := { dst := some 86, op := Op.binOp BinOp.gtr 3 (Operand.tmp 85) (Operand.const (Value.int IntKind.i64 0)) 3, type := 4, pos := "law.go:142", after := #[{ on := 2, ground := Ground.data }], guard := none }) (v := .bool false) rfl (by kernel_rfl) (by kernel_rfl) (by kernel_rfl) (by kernel_rfl) (fun _ _ _ h => h) (Or.inl ⟨by rfl, ?_⟩) hHeld ?_
    · intro w hSw
      obtain ⟨h2, h0⟩ := hSw
      first
        | rfl
        | (go_simp; done)
    try simp only [Act.put, List.setIfInBounds_toArray, List.set_cons_zero, List.set_cons_succ]
    refine wpAnyT_take (i := 4) (oi := { dst := some 87, op := Op.move (Operand.tmp 86), type := 4, pos := "law.go:142", after := #[{ on := 3, ground := Ground.data }], guard := none }) (v := .bool false) rfl (by kernel_rfl) (by kernel_rfl) (by kernel_rfl) (by kernel_rfl) (fun _ _ _ h => h) (Or.inl ⟨by rfl, ?_⟩) hHeld ?_
    · intro w hSw
      obtain ⟨h2, h0⟩ := hSw
      first
        | rfl
        | (go_simp; done)
    try simp only [Act.put, List.setIfInBounds_toArray, List.set_cons_zero, List.set_cons_succ]
    refine wpAnyT_take (i := 5) (oi := { dst := some 88, op := Op.move (Operand.tmp 0), type := 59, pos := "law.go:142", after := #[{ on := 4, ground := Ground.guard }], guard := some (4, true) }) (v := undef) rfl (by kernel_rfl) (by kernel_rfl) (by kernel_rfl) (by kernel_rfl) (fun _ _ _ h => h) (Or.inr ⟨by rfl, rfl⟩) hHeld ?_
    try simp only [Act.put, List.setIfInBounds_toArray, List.set_cons_zero, List.set_cons_succ]
    refine wpAnyT_take (i := 6) (oi := { dst := some 89, op := Op.move (Operand.tmp 5), type := 3, pos := "law.go:142", after := #[{ on := 4, ground := Ground.guard }], guard := some (4, true) }) (v := undef) rfl (by kernel_rfl) (by kernel_rfl) (by kernel_rfl) (by kernel_rfl) (fun _ _ _ h => h) (Or.inr ⟨by rfl, rfl⟩) hHeld ?_
    try simp only [Act.put, List.setIfInBounds_toArray, List.set_cons_zero, List.set_cons_succ]
    refine wpAnyT_take (i := 7) (oi := { dst := some 90, op := Op.nilCheck (Operand.tmp 88), type := 0, pos := "law.go:142", after := #[{ on := 5, ground := Ground.data }, { on := 4, ground := Ground.guard }], guard := some (4, true) }) (v := undef) rfl (by kernel_rfl) (by kernel_rfl) (by kernel_rfl) (by kernel_rfl) (fun _ _ _ h => h) (Or.inr ⟨by rfl, rfl⟩) hHeld ?_
    try simp only [Act.put, List.setIfInBounds_toArray, List.set_cons_zero, List.set_cons_succ]
    refine wpAnyT_take (i := 8) (oi := { dst := some 91, op := Op.fieldAddr 65 (Operand.tmp 90) 0, type := 0, pos := "law.go:142", after := #[{ on := 7, ground := Ground.data }, { on := 4, ground := Ground.guard }], guard := some (4, true) }) (v := undef) rfl (by kernel_rfl) (by kernel_rfl) (by kernel_rfl) (by kernel_rfl) (fun _ _ _ h => h) (Or.inr ⟨by rfl, rfl⟩) hHeld ?_
    try simp only [Act.put, List.setIfInBounds_toArray, List.set_cons_zero, List.set_cons_succ]
    refine wpAnyT_take (i := 9) (oi := { dst := some 92, op := Op.indexAddr 61 (Operand.tmp 91) (Operand.tmp 89), type := 0, pos := "law.go:142", after := #[{ on := 8, ground := Ground.data }, { on := 6, ground := Ground.data }, { on := 4, ground := Ground.guard }], guard := some (4, true) }) (v := undef) rfl (by kernel_rfl) (by kernel_rfl) (by kernel_rfl) (by kernel_rfl) (fun _ _ _ h => h) (Or.inr ⟨by rfl, rfl⟩) hHeld ?_
    try simp only [Act.put, List.setIfInBounds_toArray, List.set_cons_zero, List.set_cons_succ]
    refine wpAnyT_take (i := 10) (oi := { dst := some 93, op := Op.load 23 (Operand.tmp 92), type := 23, pos := "law.go:142", after := #[{ on := 9, ground := Ground.data }, { on := 4, ground := Ground.guard }], guard := some (4, true) }) (v := undef) rfl (by kernel_rfl) (by kernel_rfl) (by kernel_rfl) (by kernel_rfl) (fun _ _ _ h => h) (Or.inr ⟨by rfl, rfl⟩) hHeld ?_
    try simp only [Act.put, List.setIfInBounds_toArray, List.set_cons_zero, List.set_cons_succ]
    refine wpAnyT_take (i := 11) (oi := { dst := some 94, op := Op.fieldAddr 67 (Operand.tmp 3) 2, type := 0, pos := "law.go:142", after := #[{ on := 4, ground := Ground.guard }], guard := some (4, true) }) (v := undef) rfl (by kernel_rfl) (by kernel_rfl) (by kernel_rfl) (by kernel_rfl) (fun _ _ _ h => h) (Or.inr ⟨by rfl, rfl⟩) hHeld ?_
    try simp only [Act.put, List.setIfInBounds_toArray, List.set_cons_zero, List.set_cons_succ]
    refine wpAnyT_take (i := 12) (oi := { dst := some 95, op := Op.load 32 (Operand.tmp 94), type := 32, pos := "law.go:142", after := #[{ on := 11, ground := Ground.data }, { on := 4, ground := Ground.guard }], guard := some (4, true) }) (v := undef) rfl (by kernel_rfl) (by kernel_rfl) (by kernel_rfl) (by kernel_rfl) (fun _ _ _ h => h) (Or.inr ⟨by rfl, rfl⟩) hHeld ?_
    try simp only [Act.put, List.setIfInBounds_toArray, List.set_cons_zero, List.set_cons_succ]
    refine wpAnyT_take (i := 13) (oi := { dst := some 96, op := Op.call { callee := Callee.value (Operand.func 15), args := #[Operand.tmp 93, Operand.tmp 95], argTypes := #[23, 32] }, type := 24, pos := "law.go:142", after := #[{ on := 10, ground := Ground.data }, { on := 12, ground := Ground.data }, { on := 4, ground := Ground.chain }, { on := 4, ground := Ground.guard }], guard := some (4, true) }) (v := undef) rfl (by kernel_rfl) (by kernel_rfl) (by kernel_rfl) (by kernel_rfl) (fun _ _ _ h => h) (Or.inr ⟨by rfl, rfl⟩) hHeld ?_
    try simp only [Act.put, List.setIfInBounds_toArray, List.set_cons_zero, List.set_cons_succ]
    refine wpAnyT_take (i := 14) (oi := { dst := some 97, op := Op.binOp BinOp.eql 24 (Operand.tmp 96) (Operand.const (Value.int IntKind.i64 0)) 24, type := 4, pos := "law.go:142", after := #[{ on := 13, ground := Ground.data }, { on := 4, ground := Ground.guard }], guard := some (4, true) }) (v := undef) rfl (by kernel_rfl) (by kernel_rfl) (by kernel_rfl) (by kernel_rfl) (fun _ _ _ h => h) (Or.inr ⟨by rfl, rfl⟩) hHeld ?_
    try simp only [Act.put, List.setIfInBounds_toArray, List.set_cons_zero, List.set_cons_succ]
    refine wpAnyT_take (i := 15) (oi := { dst := some 98, op := Op.pick (Operand.tmp 87) (Operand.tmp 97) (Operand.const (Value.bool false)), type := 4, pos := "law.go:142", after := #[{ on := 4, ground := Ground.data }, { on := 14, ground := Ground.data }], guard := none }) (v := .bool false) rfl (by kernel_rfl) (by kernel_rfl) (by kernel_rfl) (by kernel_rfl) (fun _ _ _ h => h) (Or.inl ⟨by rfl, ?_⟩) hHeld ?_
    · intro w hSw
      obtain ⟨h2, h0⟩ := hSw
      first
        | rfl
        | (go_simp; done)
    try simp only [Act.put, List.setIfInBounds_toArray, List.set_cons_zero, List.set_cons_succ]
    refine wpAnyT_done (by kernel_rfl) ?_ _
    go_wp2_with fail
    go_end0
    exact ⟨rfl, P, .inl rfl, unhide HI1, unhide HB1⟩
  have hbn : 0 < b.length := List.length_pos_iff.2 hb0
  have hbi : (0 : Int) < (b.length : Int) := by omega
  clear hb0
  go_enter Try.func32, Try.ntmps32
  go_wp2_with fail
  obtain ⟨w1, hw1⟩ : ∃ z, (w.alloc (.cells #[.int .i64 op, .int .i64 n, .slice ab b.length cb] 67)) = z := ⟨_, rfl⟩
  rw [hw1] at HI HV HBX HB ⊢
  rw [unhide HGB] at HBX ⊢
  clear hw1
  refine wp_region_T (S := fun W => W.cell? ⟨gb, 2, none⟩ = some (.slice ab b.length cb) ∧ W.cell? ⟨gp, 0, none⟩ = some (.pointer (some ⟨gi, 0, none⟩))) (fun i => decide (i < 16)) (by kernel_rfl) ⟨(unhide HBX).cell 2, by rw [← unhide HGI]; exact (unhide HI).row.cell 0⟩ (fun hHeld => ?_)
  have bd : Below w1.heap.size w1 w1.drew := Below.drew (Below.refl _ _)
  have HI1 := hide ((unhide HI).call bd)
  have HB1 := hide ((unhide HB).trans (bd.mono (unhide HI).low))
  have HV1 := hide ((unhide HV).call bd)
  have HX1 := hide ((unhide HBX).drew)
  obtain ⟨w2, hw2⟩ : ∃ z, w1.drew = z := ⟨_, rfl⟩
  rw [hw2] at HI1 HB1 HV1 HX1 hHeld ⊢
  clear hw2 bd HI HB HV HBX
  refine wpAnyT_take (i := 0) (oi := { dst := some 83, op := Op.fieldAddr 67 (Operand.tmp 3) 2, type := 0, pos := "law.go:142", after := #[], guard := none }) (v := .pointer (some ⟨gb, 2, none⟩)) rfl (by kernel_rfl) (by kernel_rfl) (by kernel_rfl) (by kernel_rfl) (fun _ _ _ h => h) (Or.inl ⟨by rfl, ?_⟩) hHeld ?_
  · intro w hSw
    obtain ⟨h2, h0⟩ := hSw
    first
      | rfl
      | (go_simp; done)
  try simp only [Act.put, List.setIfInBounds_toArray, List.set_cons_zero, List.set_cons_succ]
  refine wpAnyT_take (i := 1) (oi := { dst := some 84, op := Op.load 32 (Operand.tmp 83), type := 32, pos := "law.go:142", after := #[{ on := 0, ground := Ground.data }], guard := none }) (v := .slice ab b.length cb) rfl (by kernel_rfl) (by kernel_rfl) (by kernel_rfl) (by kernel_rfl) (fun _ _ _ h => h) (Or.inl ⟨by rfl, ?_⟩) hHeld ?_
  · intro w hSw
    obtain ⟨h2, h0⟩ := hSw
    first
      | rfl
      | (go_simp; done)
  try simp only [Act.put, List.setIfInBounds_toArray, List.set_cons_zero, List.set_cons_succ]
  refine wpAnyT_take (i := 2) (oi := { dst := some 85, op := Op.call { callee := Callee.builtin Builtin.len, args := #[Operand.tmp 84], argTypes := #[32] }, type := 3, pos := "law.go:142", after := #[{ on := 1, ground := Ground.data }], guard := none }) (v := .int .i64 (b.length : Int)) rfl (by kernel_rfl) (by kernel_rfl) (by kernel_rfl) (by kernel_rfl) (fun _ _ _ h => h) (Or.inl ⟨by rfl, ?_⟩) hHeld ?_
  · intro w hSw
    obtain ⟨h2, h0⟩ := hSw
    first
      | rfl
      | (go_simp; done)
  try simp only [Act.put, List.setIfInBounds_toArray, List.set_cons_zero, List.set_cons_succ]
  refine wpAnyT_take (i := 3) (oi := { dst := some 86, op := Op.binOp BinOp.gtr 3 (Operand.tmp 85) (Operand.const (Value.int IntKind.i64 0)) 3, type := 4, pos := "law.go:142", after := #[{ on := 2, ground := Ground.data }], guard := none }) (v := .bool true) rfl (by kernel_rfl) (by kernel_rfl) (by kernel_rfl) (by kernel_rfl) (fun _ _ _ h => h) (Or.inl ⟨by rfl, ?_⟩) hHeld ?_
  · intro w hSw
    obtain ⟨h2, h0⟩ := hSw
    first
      | rfl
      | (go_simp; done)
  try simp only [Act.put, List.setIfInBounds_toArray, List.set_cons_zero, List.set_cons_succ]
  refine wpAnyT_take (i := 4) (oi := { dst := some 87, op := Op.move (Operand.tmp 86), type := 4, pos := "law.go:142", after := #[{ on := 3, ground := Ground.data }], guard := none }) (v := .bool true) rfl (by kernel_rfl) (by kernel_rfl) (by kernel_rfl) (by kernel_rfl) (fun _ _ _ h => h) (Or.inl ⟨by rfl, ?_⟩) hHeld ?_
  · intro w hSw
    obtain ⟨h2, h0⟩ := hSw
    first
      | rfl
      | (go_simp; done)
  try simp only [Act.put, List.setIfInBounds_toArray, List.set_cons_zero, List.set_cons_succ]
  refine wpAnyT_take (i := 5) (oi := { dst := some 88, op := Op.move (Operand.tmp 0), type := 59, pos := "law.go:142", after := #[{ on := 4, ground := Ground.guard }], guard := some (4, true) }) (v := .pointer (some ⟨gp, 0, none⟩)) rfl (by kernel_rfl) (by kernel_rfl) (by kernel_rfl) (by kernel_rfl) (fun _ _ _ h => h) (Or.inl ⟨by rfl, ?_⟩) hHeld ?_
  · intro w hSw
    obtain ⟨h2, h0⟩ := hSw
    first
      | rfl
      | (go_simp; done)
  try simp only [Act.put, List.setIfInBounds_toArray, List.set_cons_zero, List.set_cons_succ]
  refine wpAnyT_take (i := 6) (oi := { dst := some 89, op := Op.move (Operand.tmp 5), type := 3, pos := "law.go:142", after := #[{ on := 4, ground := Ground.guard }], guard := some (4, true) }) (v := .int .i64 0) rfl (by kernel_rfl) (by kernel_rfl) (by kernel_rfl) (by kernel_rfl) (fun _ _ _ h => h) (Or.inl ⟨by rfl, ?_⟩) hHeld ?_
  · intro w hSw
    obtain ⟨h2, h0⟩ := hSw
    first
      | rfl
      | (go_simp; done)
  try simp only [Act.put, List.setIfInBounds_toArray, List.set_cons_zero, List.set_cons_succ]
  refine wpAnyT_take (i := 7) (oi := { dst := some 90, op := Op.nilCheck (Operand.tmp 88), type := 0, pos := "law.go:142", after := #[{ on := 5, ground := Ground.data }, { on := 4, ground := Ground.guard }], guard := some (4, true) }) (v := .pointer (some ⟨gp, 0, none⟩)) rfl (by kernel_rfl) (by kernel_rfl) (by kernel_rfl) (by kernel_rfl) (fun _ _ _ h => h) (Or.inl ⟨by rfl, ?_⟩) hHeld ?_
  · intro w hSw
    obtain ⟨h2, h0⟩ := hSw
    first
      | rfl
      | (go_simp; done)
  try simp only [Act.put, List.setIfInBounds_toArray, List.set_cons_zero, List.set_cons_succ]
  refine wpAnyT_take (i := 8) (oi := { dst := some 91, op := Op.fieldAddr 65 (Operand.tmp 90) 0, type := 0, pos := "law.go:142", after := #[{ on := 7, ground := Ground.data }, { on := 4, ground := Ground.guard }], guard := some (4, true) }) (v := .pointer (some ⟨gp, 0, none⟩)) rfl (by kernel_rfl) (by kernel_rfl) (by kernel_rfl) (by kernel_rfl) (fun _ _ _ h => h) (Or.inl ⟨by rfl, ?_⟩) hHeld ?_
  · intro w hSw
    obtain ⟨h2, h0⟩ := hSw
    first
      | rfl
      | (go_simp; done)
  try simp only [Act.put, List.setIfInBounds_toArray, List.set_cons_zero, List.set_cons_succ]
  refine wpAnyT_take (i := 9) (oi := { dst := some 92, op := Op.indexAddr 61 (Operand.tmp 91) (Operand.tmp 89), type := 0, pos := "law.go:142", after := #[{ on := 8, ground := Ground.data }, { on := 6, ground := Ground.data }, { on := 4, ground := Ground.guard }], guard := some (4, true) }) (v := .pointer (some ⟨gp, 0, none⟩)) rfl (by kernel_rfl) (by kernel_rfl) (by kernel_rfl) (by kernel_rfl) (fun _ _ _ h => h) (Or.inl ⟨by rfl, ?_⟩) hHeld ?_
  · intro w hSw
    obtain ⟨h2, h0⟩ := hSw
    first
      | rfl
      | (go_simp; done)
  try simp only [Act.put, List.setIfInBounds_toArray, List.set_cons_zero, List.set_cons_succ]
  refine wpAnyT_take (i := 10) (oi := { dst := some 93, op := Op.load 23 (Operand.tmp 92), type := 23, pos := "law.go:142", after := #[{ on := 9, ground := Ground.data }, { on := 4, ground := Ground.guard }], guard := some (4, true) }) (v := .pointer (some ⟨gi, 0, none⟩)) rfl (by kernel_rfl) (by kernel_rfl) (by kernel_rfl) (by kernel_rfl) (fun _ _ _ h => h) (Or.inl ⟨by rfl, ?_⟩) hHeld ?_
  · intro w hSw
    obtain ⟨h2, h0⟩ := hSw
    first
      | rfl
      | (go_simp; done)
  try simp only [Act.put, List.setIfInBounds_toArray, List.set_cons_zero, List.set_cons_succ]
  refine wpAnyT_take (i := 11) (oi := { dst := some 94, op := Op.fieldAddr 67 (Operand.tmp 3) 2, type := 0, pos := "law.go:142", after := #[{ on := 4, ground := Ground.guard }], guard := some (4, true) }) (v := .pointer (some ⟨gb, 2, none⟩)) rfl (by kernel_rfl) (by kernel_rfl) (by kernel_rfl) (by kernel_rfl) (fun _ _ _ h => h) (Or.inl ⟨by rfl, ?_⟩) hHeld ?_
  · intro w hSw
    obtain ⟨h2, h0⟩ := hSw
    first
      | rfl
      | (go_simp; done)
  try simp only [Act.put, List.setIfInBounds_toArray, List.set_cons_zero, List.set_cons_succ]
  refine wpAnyT_take (i := 12) (oi := { dst := some 95, op := Op.load 32 (Operand.tmp 94), type := 32, pos := "law.go:142", after := #[{ on := 11, ground := Ground.data }, { on := 4, ground := Ground.guard }], guard := some (4, true) }) (v := .slice ab b.length cb) rfl (by kernel_rfl) (by kernel_rfl) (by kernel_rfl) (by kernel_rfl) (fun _ _ _ h => h) (Or.inl ⟨by rfl, ?_⟩) hHeld ?_
  · intro w hSw
    obtain ⟨h2, h0⟩ := hSw
    first
      | rfl
      | (go_simp; done)
  try simp only [Act.put, List.setIfInBounds_toArray, List.set_cons_zero, List.set_cons_succ]
  refine wpAnyT_one (i := 13) (o := { dst := some 96, op := Op.call { callee := Callee.value (Operand.func 15), args := #[Operand.tmp 93, Operand.tmp 95], argTypes := #[23, 32] }, type := 24, pos := "law.go:142", after := #[{ on := 10, ground := Ground.data }, { on := 12, ground := Ground.data }, { on := 4, ground := Ground.chain }, { on := 4, ground := Ground.guard }], guard := some (4, true) }) (by kernel_rfl) rfl (fun K hK => ?_)
  go_simp
  refine Calls.mono (send_any B gi (P.m 0) (P.vq 0) _ (P.s 0) b w2 (by rw [← unhide HGI]; exact (unhide HI1).ch 0 (by decide)) (((unhide HG).inv 0 (by decide)).ok (by decide) (by omega)) (unhide HV1).1 (unhide HI1).low hbl) ?_
  intro r w3 h3
  rw [← unhide HGI] at h3
  obtain ⟨v, vq, rfl, h4, b4⟩ := send_end (vb := .slice ab b.length cb) (unhide HI1) (by decide) h3
  have HI3 := hide h4
  have HB3 := hide ((unhide HB1).trans b4)
  have HX3 : Hid (RowAt w3 gb 67 [.int .i64 op, .int .i64 n, .slice ab b.length cb]) := hide (by obtain ⟨e9, v9, vq9, c9, t9⟩ := h3; exact ((unhide HI1).ch 0 (by decide)).keepRow (unhide HX1) (by decide) (by decide) t9.1)
  have HV3 : Hid (Vis w3 B (.slice ab b.length cb) b) := hide (by obtain ⟨e9, v9, vq9, c9, t9⟩ := h3; exact (unhide HV1).keep ((unhide HI1).ch 0 (by decide)) t9.1)
  have hS3 := And.intro ((unhide HX3).cell 2) (show w3.cell? ⟨gp, 0, none⟩ = some (.pointer (some ⟨gi, 0, none⟩)) by rw [← unhide HGI]; exact (unhide HI3).row.cell 0)
  obtain ⟨E, hE⟩ : ∃ z, sendE (P.s 0) b.length = z := ⟨_, rfl⟩
  have HE := hide hE
  rw [hE]
  clear h3 h4 b4 hE HI1 HB1 HV1 HX1 hHeld
  go_wp2_with fail
  refine hK.out _ _ (fun _ => hS3) ?_
  clear hK K
  try simp only [Act.put, List.setIfInBounds_toArray, List.set_cons_zero, List.set_cons_succ]
  by_cases gE : E = 0
  rotate_left
  · skip
    have gEb : (E == 0) = false := by simp [gE]
    refine wpAnyT_take (i := 14) (oi := { dst := some 97, op := Op.binOp BinOp.eql 24 (Operand.tmp 96) (Operand.const (Value.int IntKind.i64 0)) 24, type := 4, pos := "law.go:142", after := #[{ on := 13, ground := Ground.data }, { on := 4, ground := Ground.guard }], guard := some (4, true) }) (v := .bool false) rfl (by kernel_rfl) (by kernel_rfl) (by kernel_rfl) (by kernel_rfl) (fun _ _ _ h => h) (Or.inl ⟨by rfl, ?_⟩) hS3 ?_
    · intro w hSw
      obtain ⟨h2, h0⟩ := hSw
      first
        | rfl
        | (go_simp; done)
    try simp only [Act.put, List.setIfInBounds_toArray, List.set_cons_zero, List.set_cons_succ]
    refine wpAnyT_take (i := 15) (oi := { dst := some 98, op := Op.pick (Operand.tmp 87) (Operand.tmp 97) (Operand.const (Value.bool false)), type := 4, pos := "law.go:142", after := #[{ on := 4, ground := Ground.data }, { on := 14, ground := Ground.data }], guard := none }) (v := .bool false) rfl (by kernel_rfl) (by kernel_rfl) (by kernel_rfl) (by kernel_rfl) (fun _ _ _ h => h) (Or.inl ⟨by rfl, ?_⟩) hS3 ?_
    · intro w hSw
      obtain ⟨h2, h0⟩ := hSw
      first
        | rfl
        | (go_simp; done)
    try simp only [Act.put, List.setIfInBounds_toArray, List.set_cons_zero, List.set_cons_succ]
    refine wpAnyT_done (by kernel_rfl) ?_ _
    go_wp2_with fail
    go_end0
    exact ⟨rfl, _, .inr (.inl ⟨0, by decide, v, vq, b, rfl, by rw [unhide HE]; exact gE⟩), unhide HI3, unhide HB3⟩
  subst gE
  refine wpAnyT_take (i := 14) (oi := { dst := some 97, op := Op.binOp BinOp.eql 24 (Operand.tmp 96) (Operand.const (Value.int IntKind.i64 0)) 24, type := 4, pos := "law.go:142", after := #[{ on := 13, ground := Ground.data }, { on := 4, ground := Ground.guard }], guard := some (4, true) }) (v := .bool true) rfl (by kernel_rfl) (by kernel_rfl) (by kernel_rfl) (by kernel_rfl) (fun _ _ _ h => h) (Or.inl ⟨by rfl, ?_⟩) hS3 ?_
  · intro w hSw
    obtain ⟨h2, h0⟩ := hSw
    first
      | rfl
      | (go_simp; done)
  try simp only [Act.put, List.setIfInBounds_toArray, List.set_cons_zero, List.set_cons_succ]
  refine wpAnyT_take (i := 15) (oi := { dst := some 98, op := Op.pick (Operand.tmp 87) (Operand.tmp 97) (Operand.const (Value.bool false)), type := 4, pos := "law.go:142", after := #[{ on := 4, ground := Ground.data }, { on := 14, ground := Ground.data }], guard := none }) (v := .bool true) rfl (by kernel_rfl) (by kernel_rfl) (by kernel_rfl) (by kernel_rfl) (fun _ _ _ h => h) (Or.inl ⟨by rfl, ?_⟩) hS3 ?_
  · intro w hSw
    obtain ⟨h2, h0⟩ := hSw
    first
      | rfl
      | (go_simp; done)
  try simp only [Act.put, List.setIfInBounds_toArray, List.set_cons_zero, List.set_cons_succ]
  refine wpAnyT_done (by kernel_rfl) ?_ _
  go_wp2_with fail
  clear hS3
  obtain ⟨ug, hug⟩ : ∃ z, P.V 0 = z := ⟨_, rfl⟩
  have HUG := hide hug
  have z8 : w3.cell? ⟨gp, 4, none⟩ = some ug := by rw [← hug]; exact (unhide HI3).row.cell 4
  clear hug
  refine wp_region_T (S := fun W => W.cell? ⟨gp, 4, none⟩ = some ug ∧ W.cell? ⟨gb, 2, none⟩ = some (.slice ab b.length cb)) (fun i => decide (1 ≤ i ∧ i < 12)) (by kernel_rfl) ⟨z8, (unhide HX3).cell 2⟩ (fun hHeld => ?_)
  clear z8
  have bd : Below w3.heap.size w3 w3.drew := Below.drew (Below.refl _ _)
  have HI4 := hide ((unhide HI3).call bd)
  have HB4 := hide ((unhide HB3).trans (bd.mono (unhide HI3).low))
  have HV4 := hide ((unhide HV3).call bd)
  have HX4 := hide ((unhide HX3).drew)
  obtain ⟨w4, hw4⟩ : ∃ z, w3.drew = z := ⟨_, rfl⟩
  rw [hw4] at HI4 HB4 HV4 HX4 hHeld ⊢
  clear hw4 bd HI3 HB3 HV3 HX3
  refine wpAnyT_pure (i := 0) (oi := { dst := some 99, op := Op.move (Operand.tmp 0), type := 59, pos := "law.go:143", after := #[], guard := none }) (v := .pointer (some ⟨gp, 0, none⟩)) rfl (by kernel_rfl) (by kernel_rfl) (by kernel_rfl) rfl (fun _ _ _ h => h) (Or.inl ⟨by rfl, ?_⟩) ?_
  · intro w hSw
    first
      | rfl
      | (go_simp; done)
  try simp only [Act.put, List.setIfInBounds_toArray, List.set_cons_zero, List.set_cons_succ]
  refine wpAnyT_pure (i := 12) (oi := { dst := some 111, op := Op.nilCheck (Operand.tmp 99), type := 0, pos := "law.go:143", after := #[{ on := 0, ground := Ground.data }], guard := none }) (v := .pointer (some ⟨gp, 0, none⟩)) rfl (by kernel_rfl) (by kernel_rfl) (by kernel_rfl) rfl (fun _ _ _ h => h) (Or.inl ⟨by rfl, ?_⟩) ?_
  · intro w hSw
    first
      | rfl
      | (go_simp; done)
  try simp only [Act.put, List.setIfInBounds_toArray, List.set_cons_zero, List.set_cons_succ]
  refine wpAnyT_pure (i := 13) (oi := { dst := some 112, op := Op.fieldAddr 65 (Operand.tmp 111) 2, type := 0, pos := "law.go:143", after := #[{ on := 12, ground := Ground.data }], guard := none }) (v := .pointer (some ⟨gp, 4, none⟩)) rfl (by kernel_rfl) (by kernel_rfl) (by kernel_rfl) rfl (fun _ _ _ h => h) (Or.inl ⟨by rfl, ?_⟩) ?_
  · intro w hSw
    first
      | rfl
      | (go_simp; done)
  try simp only [Act.put, List.setIfInBounds_toArray, List.set_cons_zero, List.set_cons_succ]
  refine wpAnyT_take (i := 1) (oi := { dst := some 100, op := Op.move (Operand.tmp 5), type := 3, pos := "law.go:143", after := #[], guard := none }) (v := .int .i64 0) rfl (by kernel_rfl) (by kernel_rfl) (by kernel_rfl) (by kernel_rfl) (fun _ _ _ h => h) (Or.inl ⟨by rfl, ?_⟩) hHeld ?_
  · intro w hSw
    obtain ⟨h0, h2⟩ := hSw
    first
      | rfl
      | (go_simp; done)
  try simp only [Act.put, List.setIfInBounds_toArray, List.set_cons_zero, List.set_cons_succ]
  refine wpAnyT_take (i := 2) (oi := { dst := some 101, op := Op.move (Operand.tmp 0), type := 59, pos := "law.go:143", after := #[], guard := none }) (v := .pointer (some ⟨gp, 0, none⟩)) rfl (by kernel_rfl) (by kernel_rfl) (by kernel_rfl) (by kernel_rfl) (fun _ _ _ h => h) (Or.inl ⟨by rfl, ?_⟩) hHeld ?_
  · intro w hSw
    obtain ⟨h0, h2⟩ := hSw
    first
      | rfl
      | (go_simp; done)
  try simp only [Act.put, List.setIfInBounds_toArray, List.set_cons_zero, List.set_cons_succ]
  refine wpAnyT_take (i := 3) (oi := { dst := some 102, op := Op.move (Operand.tmp 5), type := 3, pos := "law.go:143", after := #[], guard := none }) (v := .int .i64 0) rfl (by kernel_rfl) (by kernel_rfl) (by kernel_rfl) (by kernel_rfl) (fun _ _ _ h => h) (Or.inl ⟨by rfl, ?_⟩) hHeld ?_
  · intro w hSw
    obtain ⟨h0, h2⟩ := hSw
    first
      | rfl
      | (go_simp; done)
  try simp only [Act.put, List.setIfInBounds_toArray, List.set_cons_zero, List.set_cons_succ]
  refine wpAnyT_take (i := 4) (oi := { dst := some 103, op := Op.nilCheck (Operand.tmp 101), type := 0, pos := "law.go:143", after := #[{ on := 2, ground := Ground.data }], guard := none }) (v := .pointer (some ⟨gp, 0, none⟩)) rfl (by kernel_rfl) (by kernel_rfl) (by kernel_rfl) (by kernel_rfl) (fun _ _ _ h => h) (Or.inl ⟨by rfl, ?_⟩) hHeld ?_
  · intro w hSw
    obtain ⟨h0, h2⟩ := hSw
    first
      | rfl
      | (go_simp; done)
  try simp only [Act.put, List.setIfInBounds_toArray, List.set_cons_zero, List.set_cons_succ]
  refine wpAnyT_take (i := 5) (oi := { dst := some 104, op := Op.fieldAddr 65 (Operand.tmp 103) 2, type := 0, pos := "law.go:143", after := #[{ on := 4, ground := Ground.data }], guard := none }) (v := .pointer (some ⟨gp, 4, none⟩)) rfl (by kernel_rfl) (by kernel_rfl) (by kernel_rfl) (by kernel_rfl) (fun _ _ _ h => h) (Or.inl ⟨by rfl, ?_⟩) hHeld ?_
  · intro w hSw
    obtain ⟨h0, h2⟩ := hSw
    first
      | rfl
      | (go_simp; done)
  try simp only [Act.put, List.setIfInBounds_toArray, List.set_cons_zero, List.set_cons_succ]
  refine wpAnyT_take (i := 6) (oi := { dst := some 105, op := Op.indexAddr 63 (Operand.tmp 104) (Operand.tmp 102), type := 0, pos := "law.go:143", after := #[{ on := 5, ground := Ground.data }, { on := 3, ground := Ground.data }], guard := none }) (v := .pointer (some ⟨gp, 4, none⟩)) rfl (by kernel_rfl) (by kernel_rfl) (by kernel_rfl) (by kernel_rfl) (fun _ _ _ h => h) (Or.inl ⟨by rfl, ?_⟩) hHeld ?_
  · intro w hSw
    obtain ⟨h0, h2⟩ := hSw
    first
      | rfl
      | (go_simp; done)
  try simp only [Act.put, List.setIfInBounds_toArray, List.set_cons_zero, List.set_cons_succ]
  refine wpAnyT_take (i := 7) (oi := { dst := some 106, op := Op.load 40 (Operand.tmp 105), type := 40, pos := "law.go:143", after := #[{ on := 6, ground := Ground.data }], guard := none }) (v := ug) rfl (by kernel_rfl) (by kernel_rfl) (by kernel_rfl) (by kernel_rfl) (fun _ _ _ h => h) (Or.inl ⟨by rfl, ?_⟩) hHeld ?_
  · intro w hSw
    obtain ⟨h0, h2⟩ := hSw
    first
      | rfl
      | (go_simp; done)
  try simp only [Act.put, List.setIfInBounds_toArray, List.set_cons_zero, List.set_cons_succ]
  refine wpAnyT_take (i := 8) (oi := { dst := some 107, op := Op.fieldAddr 67 (Operand.tmp 3) 2, type := 0, pos := "law.go:143", after := #[], guard := none }) (v := .pointer (some ⟨gb, 2, none⟩)) rfl (by kernel_rfl) (by kernel_rfl) (by kernel_rfl) (by kernel_rfl) (fun _ _ _ h => h) (Or.inl ⟨by rfl, ?_⟩) hHeld ?_
  · intro w hSw
    obtain ⟨h0, h2⟩ := hSw
    first
      | rfl
      | (go_simp; done)
  try simp only [Act.put, List.setIfInBounds_toArray, List.set_cons_zero, List.set_cons_succ]
  refine wpAnyT_take (i := 9) (oi := { dst := some 108, op := Op.load 32 (Operand.tmp 107), type := 32, pos := "law.go:143", after := #[{ on := 8, ground := Ground.data }], guard := none }) (v := .slice ab b.length cb) rfl (by kernel_rfl) (by kernel_rfl) (by kernel_rfl) (by kernel_rfl) (fun _ _ _ h => h) (Or.inl ⟨by rfl, ?_⟩) hHeld ?_
  · intro w hSw
    obtain ⟨h0, h2⟩ := hSw
    first
      | rfl
      | (go_simp; done)
  try simp only [Act.put, List.setIfInBounds_toArray, List.set_cons_zero, List.set_cons_succ]
  refine wpAnyT_one (i := 10) (o := { dst := some 109, op := Op.buildSlice 40 1 #[(0, Operand.tmp 108)], type := 40, pos := "law.go:143", after := #[{ on := 9, ground := Ground.data }], guard := none }) (by kernel_rfl) rfl (fun K hK => ?_)
  go_simp
  have b5 : Below w4.heap.size w4 (w4.alloc (.cells #[.slice ab b.length cb] 32)) := (Below.refl _ _).alloc (Nat.le_refl _) _
  have HI5 := hide ((unhide HI4).call b5)
  have HV5 := hide ((unhide HV4).call b5)
  have HQ := hide (RowAt.new w4 32 [.slice ab b.length cb])
  have HX5 := hide ((unhide HX4).below b5 (unhide HX4).lt)
  have HB5 := hide ((unhide HB4).trans (b5.mono (unhide HI4).low))
  obtain ⟨w5, hw5⟩ : ∃ z, (w4.alloc (.cells #[.slice ab b.length cb] 32)) = z := ⟨_, rfl⟩
  obtain ⟨q9, hq9⟩ : ∃ z, w4.heap.size = z := ⟨_, rfl⟩
  rw [hw5] at HI5 HV5 HQ HX5 HB5 ⊢
  rw [hq9] at HQ ⊢
  have hS5 := And.intro (show w5.cell? ⟨gp, 4, none⟩ = some ug by rw [← unhide HUG]; exact (unhide HI5).row.cell 4) ((unhide HX5).cell 2)
  clear hw5 hq9 b5 HI4 HV4 HX4 HB4 hHeld
  refine hK.out _ _ (fun _ => hS5) ?_
  clear hK K
  try simp only [Act.put, List.setIfInBounds_toArray, List.set_cons_zero, List.set_cons_succ]
  refine wpAnyT_one (i := 11) (o := { dst := some 110, op := Op.call { callee := Callee.builtin Builtin.append, args := #[Operand.tmp 106, Operand.tmp 109], argTypes := #[40, 40] }, type := 40, pos := "law.go:143", after := #[{ on := 7, ground := Ground.data }, { on := 10, ground := Ground.data }], guard := none }) (by kernel_rfl) rfl (fun K hK => ?_)
  refine wp_app_src (Operand.tmp 106) (Operand.tmp 109) 40 32 _ 1 24 Try.underlying40 infoSl (by simp [Value.cells]) (by decide) rfl B ug (P.X 0).length ((P.X 0).map Prod.fst) rfl (by rw [← unhide HUG]; exact (unhide HI5).rows 0 (by decide)) (some ⟨q9, 0, none⟩) 1 1 [.slice ab b.length cb] rfl rfl (fun e => by cases e) (fun b9 hb9 j u hu => by injection hb9 with hb9; subst hb9; rw [add_plain, Nat.zero_add, (unhide HQ).cell]; exact hu) (fun u hu => by obtain rfl := List.mem_singleton.1 hu; rfl) (by have := (unhide HG).len 0 (by decide); unfold maxLen; omega) (by have := (unhide HG).len 0 (by decide); omega) (unhide HI5).low (fun tv w6 hv6 ho6 hk6 => ?_)
  obtain ⟨at6, ct6, htv⟩ := own_one hv6
  subst htv
  have ho6b : Only (fun k => (P.V 0).ownBlock = some k) w5 w6 := by rw [unhide HUG]; exact ho6
  have HI6 := hide ((unhide HI5).setV 0 (by decide) (x := P.X 0 ++ [(.slice ab b.length cb, b)]) ho6b (by rw [List.length_append, List.map_append]; exact hv6) (by rw [← unhide HUG] at hk6; exact hk6) (fun y hy => ?_))
  rotate_left
  · rcases List.mem_append.1 hy with hy | hy
    · exact ((unhide HI5).vb 0 (by decide) y hy).keep ho6b (fun k hk => (((unhide HI5).rows 0 (by decide)).lt k hk).1) (avoid_own ((unhide HI5).rows 0 (by decide)) (by decide))
    · obtain rfl := List.mem_singleton.1 hy
      exact Bod.keep (unhide HV5) ho6b (fun k hk => (((unhide HI5).rows 0 (by decide)).lt k hk).1) (avoid_own ((unhide HI5).rows 0 (by decide)) (by decide))
  have HB6 := hide ((unhide HB5).trans (ho6b.below (unhide HI5).low (fun k hk => (((unhide HI5).rows 0 (by decide)).lt k hk).1)))
  have hr6 : RowAt w6 gp 65 _ := (unhide HI5).row.only ho6b (fun e => tag_ne ((unhide HI5).rows 0 (by decide)) (unhide HI5).row (by decide) e)
  have hx6 := (unhide HX5).only ho6b (fun e => tag_ne ((unhide HI5).rows 0 (by decide)) (unhide HX5) (by decide) e)
  have hS6 := And.intro (show w6.cell? ⟨gp, 4, none⟩ = some ug by rw [← unhide HUG]; exact hr6.cell 4) (hx6.cell 2)
  have HF6 : Hid (w6.frozen? ⟨gp, 4, none⟩ = false) := hide (hr6.frozen 4)
  have HGBP := hide (unhide HI5).gB
  have HSZ6 := hide (Nat.le_trans (unhide HI5).low ho6.size)
  clear hv6 ho6 ho6b hk6 HI5 HV5 HX5 HB5 HQ hr6 hx6 hS5
  refine hK.out _ _ (fun _ => hS6) ?_
  clear hK K
  try simp only [Act.put, List.setIfInBounds_toArray, List.set_cons_zero, List.set_cons_succ]
  refine wpAnyT_pure (i := 14) (oi := { dst := some 113, op := Op.indexAddr 63 (Operand.tmp 112) (Operand.tmp 100), type := 0, pos := "law.go:143", after := #[{ on := 13, ground := Ground.data }, { on := 1, ground := Ground.data }, { on := 0, ground := Ground.phase }, { on := 1, ground := Ground.phase }, { on := 2, ground := Ground.phase }, { on := 3, ground := Ground.phase }, { on := 4, ground := Ground.phase }, { on := 5, ground := Ground.phase }, { on := 6, ground := Ground.phase }, { on := 7, ground := Ground.phase }, { on := 8, ground := Ground.phase }, { on := 9, ground := Ground.phase }, { on := 10, ground := Ground.phase }, { on := 11, ground := Ground.phase }], guard := none }) (v := .pointer (some ⟨gp, 4, none⟩)) rfl (by kernel_rfl) (by kernel_rfl) (by kernel_rfl) rfl (fun _ _ _ h => h) (Or.inl ⟨by rfl, ?_⟩) ?_
  · intro w hSw
    first
      | rfl
      | (go_simp; done)
  try simp only [Act.put, List.setIfInBounds_toArray, List.set_cons_zero, List.set_cons_succ]
  have f6 := unhide HF6
  have s6 := hS6.1
  refine wpAnyT_one (i := 15) (o := { dst := none, op := Op.store 40 (Operand.tmp 113) (Operand.tmp 110), type := 0, pos := "law.go:143", after := #[{ on := 14, ground := Ground.data }, { on := 11, ground := Ground.data }, { on := 11, ground := Ground.chain }, { on := 0, ground := Ground.phase }, { on := 1, ground := Ground.phase }, { on := 2, ground := Ground.phase }, { on := 3, ground := Ground.phase }, { on := 4, ground := Ground.phase }, { on := 5, ground := Ground.phase }, { on := 6, ground := Ground.phase }, { on := 7, ground := Ground.phase }, { on := 8, ground := Ground.phase }, { on := 9, ground := Ground.phase }, { on := 10, ground := Ground.phase }, { on := 11, ground := Ground.phase }], guard := none }) (by kernel_rfl) rfl (fun K hK => ?_)
  go_simp
  refine hK.out _ _ (fun h => by cases h) ?_
  clear hK K
  try simp only [Act.put, List.setIfInBounds_toArray, List.set_cons_zero, List.set_cons_succ]
  refine wpAnyT_done (by kernel_rfl) ?_ _
  go_wp2_with fail
  go_end0
  have o7 : Only (· = gp) w6 (w6.setCell ⟨gp, 4, none⟩ (.slice at6 ((P.X 0).length + 1) ct6)) := Only.set (p := (· = gp)) (Only.refl _ _) gp 4 _ rfl
  refine ⟨rfl, _, .inr (.inr (.inl ⟨0, by decide, v, vq, .slice ab b.length cb, .slice at6 ((P.X 0).length + 1) ct6, b, rfl, unhide HE, rfl⟩)), unhide HI6, (unhide HB6).trans (o7.below (unhide HSZ6) (fun k hk => by rw [hk]; exact unhide HGBP))⟩
set_option maxRecDepth 100000 in
set_option maxHeartbeats 4000000 in
theorem move2_ok (B gp N : Nat) (P : PS) (op n : Int) (b : List Nat) (vb : Value) (w : World) (h : Pair w B gp P) (hg : Good N P) (hN : N ≤ 1000) (hv : Vis w B vb b) (hbl : b.length ≤ 1000000000) (hop : wrap64 ((IntKind.u64.wrap op).tmod 12) = 2) :
    Calls Try.prog 32 #[.pointer (some ⟨gp, 0, none⟩), .agg #[.int .i64 op, .int .i64 n, vb]] w fun r w' => MoveR B gp P b w r w' := by
  obtain ⟨ab, cb, hvb⟩ := byt_shape hv.1
  subst hvb
  have b1 : Below w.heap.size w (w.alloc (.cells #[.int .i64 op, .int .i64 n, .slice ab b.length cb] 67)) := (Below.refl _ _).alloc (Nat.le_refl _) _
  have HI := hide (h.call b1)
  have HV := hide (hv.call b1)
  have HBX := hide (RowAt.new w 67 [.int .i64 op, .int .i64 n, .slice ab b.length cb])
  have HB := hide (b1.mono h.low)
  have HG := hide hg
  obtain ⟨gb, hgb⟩ : ∃ z, w.heap.size = z := ⟨_, rfl⟩
  have HGB := hide hgb
  clear h hg hv b1 hgb
  obtain ⟨gi, hgi⟩ : ∃ z, P.g 1 = z := ⟨_, rfl⟩
  have HGI := hide hgi
  clear hgi
  by_cases hb0 : b = []
  · subst hb0
    simp only [List.length_nil] at HI HV HBX HB ⊢
    go_enter Try.func32, Try.ntmps32
    go_wp2_with fail
    obtain ⟨w1, hw1⟩ : ∃ z, (w.alloc (.cells #[.int .i64 op, .int .i64 n, .slice ab 0 cb] 67)) = z := ⟨_, rfl⟩
    rw [hw1] at HI HV HBX HB ⊢
    rw [unhide HGB] at HBX ⊢
    clear hw1
    refine wp_region_T (S := fun W => W.cell? ⟨gb, 2, none⟩ = some (.slice ab 0 cb) ∧ W.cell? ⟨gp, 1, none⟩ = some (.pointer (some ⟨gi, 0, none⟩))) (fun i => decide (i < 16)) (by kernel_rfl) ⟨(unhide HBX).cell 2, by rw [← unhide HGI]; exact (unhide HI).row.cell 1⟩ (fun hHeld => ?_)
    have bd : Below w1.heap.size w1 w1.drew := Below.drew (Below.refl _ _)
    have HI1 := hide ((unhide HI).call bd)
    have HB1 := hide ((unhide HB).trans (bd.mono (unhide HI).low))
    have HV1 := hide ((unhide HV).call bd)
    have HX1 := hide ((unhide HBX).drew)
    obtain ⟨w2, hw2⟩ : ∃ z, w1.drew = z := ⟨_, rfl⟩
    rw [hw2] at HI1 HB1 HV1 HX1 hHeld ⊢
    clear hw2 bd HI HB HV HBX
    refine wpAnyT_take (i := 0) (oi := { dst := some 83, op := Op.fieldAddr 67 (Operand.tmp 3) 2, type := 0, pos := "law.go:142", after := #[], guard := none }) (v := .pointer (some ⟨gb, 2, none⟩)) rfl (by kernel_rfl) (by kernel_rfl) (by kernel_rfl) (by kernel_rfl) (fun _ _ _ h => h) (Or.inl ⟨by rfl, ?_⟩) hHeld ?_
    · intro w hSw
      obtain ⟨h2, h0⟩ := hSw
      first
        | rfl
        | (go_simp; done)
    try simp only [Act.put, List.setIfInBounds_toArray, List.set_cons_zero, List.set_cons_succ]
    refine wpAnyT_take (i := 1) (oi := { dst := some 84, op := Op.load 32 (Operand.tmp 83), type := 32, pos := "law.go:142", after := #[{ on := 0, ground := Ground.data }], guard := none }) (v := .slice ab 0 cb) rfl (by kernel_rfl) (by kernel_rfl) (by kernel_rfl) (by kernel_rfl) (fun _ _ _ h => h) (Or.inl ⟨by rfl, ?_⟩) hHeld ?_
    · intro w hSw
      obtain ⟨h2, h0⟩ := hSw
      first
        | rfl
        | (go_simp; done)
    try simp only [Act.put, List.setIfInBounds_toArray, List.set_cons_zero, List.set_cons_succ]
    refine wpAnyT_take (i := 2) (oi := { dst := some 85, op := Op.call { callee := Callee.builtin Builtin.len, args := #[Operand.tmp 84], argTypes := #[32] }, type := 3, pos := "law.go:142", after := #[{ on := 1, ground := Ground.data }], guard := none }) (v := .int .i64 0) rfl (by kernel_rfl) (by kernel_rfl) (by kernel_rfl) (by kernel_rfl) (fun _ _ _ h => h) (Or.inl ⟨by rfl, ?_⟩) hHeld ?_
    · intro w hSw
      obtain ⟨h2, h0⟩ := hSw
      first
        | rfl
        | (go_simp; done)
    try simp only [Act.put, List.setIfInBounds_toArray, List.set_cons_zero, List.set_cons_succ]
    refine wpAnyT_take (i := 3) (oi := { dst := some 86, op := Op.binOp BinOp.gtr 3 (Operand.tmp 85) (Operand.const (Value.int IntKind.i64 0)) 3, type := 4, pos := "law.go:142", after := #[{ on := 2, ground := Ground.data }], guard := none }) (v := .bool false) rfl (by kernel_rfl) (by kernel_rfl) (by kernel_rfl) (by kernel_rfl) (fun _ _ _ h => h) (Or.inl ⟨by rfl, ?_⟩) hHeld ?_
    · intro w hSw
      obtain ⟨h2, h0⟩ := hSw
      first
        | rfl
        | (go_simp; done)
    try simp only [Act.put, List.setIfInBounds_toArray, List.set_cons_zero, List.set_cons_succ]
    refine wpAnyT_take (i := 4) (oi := { dst := some 87, op := Op.move (Operand.tmp 86), type := 4, pos := "law.go:142", after := #[{ on := 3, ground := Ground.data }], guard := none }) (v := .bool false) rfl (by kernel_rfl) (by kernel_rfl) (by kernel_rfl) (by kernel_rfl) (fun _ _ _ h => h) (Or.inl ⟨by rfl, ?_⟩) hHeld ?_
    · intro w hSw
      obtain ⟨h2, h0⟩ := hSw
      first
        | rfl
        | (go_simp; done)
    try simp only [Act.put, List.setIfInBounds_toArray, List.set_cons_zero, List.set_cons_succ]
    refine wpAnyT_take (i := 5) (oi := { dst := some 88, op := Op.move (Operand.tmp 0), type := 59, pos := "law.go:142", after := #[{ on := 4, ground := Ground.guard }], guard := some (4, true) }) (v := undef) rfl (by kernel_rfl) (by kernel_rfl) (by kernel_rfl) (by kernel_rfl) (fun _ _ _ h => h) (Or.inr ⟨by rfl, rfl⟩) hHeld ?_
    try simp only [Act.put, List.setIfInBounds_toArray, List.set_cons_zero, List.set_cons_succ]
    refine wpAnyT_take (i := 6) (oi := { dst := some 89, op := Op.move (Operand.tmp 5), type := 3, pos := "law.go:142", after := #[{ on := 4, ground := Ground.guard }], guard := some (4, true) }) (v := undef) rfl (by kernel_rfl) (by kernel_rfl) (by kernel_rfl) (by kernel_rfl) (fun _ _ _ h => h) (Or.inr ⟨by rfl, rfl⟩) hHeld ?_
    try simp only [Act.put, List.setIfInBounds_toArray, List.set_cons_zero, List.set_cons_succ]
    refine wpAnyT_take (i := 7) (oi := { dst := some 90, op := Op.nilCheck (Operand.tmp 88), type := 0, pos := "law.go:142", after := #[{ on := 5, ground := Ground.data }, { on := 4, ground := Ground.guard }], guard := some (4, true) }) (v := undef) rfl (by kernel_rfl) (by kernel_rfl) (by kernel_rfl) (by kernel_rfl) (fun _ _ _ h => h) (Or.inr ⟨by rfl, rfl⟩) hHeld ?_
    try simp only [Act.put, List.setIfInBounds_toArray, List.set_cons_zero, List.set_cons_succ]
    refine wpAnyT_take (i := 8) (oi := { dst := some 91, op := Op.fieldAddr 65 (Operand.tmp 90) 0, type := 0, pos := "law.go:142", after := #[{ on := 7, ground := Ground.data }, { on := 4, ground := Ground.guard }], guard := some (4, true) }) (v := undef) rfl (by kernel_rfl) (by kernel_rfl) (by kernel_rfl) (by kernel_rfl) (fun _ _ _ h => h) (Or.inr ⟨by rfl, rfl⟩) hHeld ?_
    try simp only [Act.put, List.setIfInBounds_toArray, List.set_cons_zero, List.set_cons_succ]
    refine wpAnyT_take (i := 9) (oi := { dst := some 92, op := Op.indexAddr 61 (Operand.tmp 91) (Operand.tmp 89), type := 0, pos := "law.go:142", after := #[{ on := 8, ground := Ground.data }, { on := 6, ground := Ground.data }, { on := 4, ground := Ground.guard }], guard := some (4, true) }) (v := undef) rfl (by kernel_rfl) (by kernel_rfl) (by kernel_rfl) (by kernel_rfl) (fun _ _ _ h => h) (Or.inr ⟨by rfl, rfl⟩) hHeld ?_
    try simp only [Act.put, List.setIfInBounds_toArray, List.set_cons_zero, List.set_cons_succ]
    refine wpAnyT_take (i := 10) (oi := { dst := some 93, op := Op.load 23 (Operand.tmp 92), type := 23, pos := "law.go:142", after := #[{ on := 9, ground := Ground.data }, { on := 4, ground := Ground.guard }], guard := some (4, true) }) (v := undef) rfl (by kernel_rfl) (by kernel_rfl) (by kernel_rfl) (by kernel_rfl) (fun _ _ _ h => h) (Or.inr ⟨by rfl, rfl⟩) hHeld ?_
    try simp only [Act.put, List.setIfInBounds_toArray, List.set_cons_zero, List.set_cons_succ]
    refine wpAnyT_take (i := 11) (oi := { dst := some 94, op := Op.fieldAddr 67 (Operand.tmp 3) 2, type := 0, pos := "law.go:142", after := #[{ on := 4, ground := Ground.guard }], guard := some (4, true) }) (v := undef) rfl (by kernel_rfl) (by kernel_rfl) (by kernel_rfl) (by kernel_rfl) (fun _ _ _ h => h) (Or.inr ⟨by rfl, rfl⟩) hHeld ?_
    try simp only [Act.put, List.setIfInBounds_toArray, List.set_cons_zero, List.set_cons_succ]
    refine wpAnyT_take (i := 12) (oi := { dst := some 95, op := Op.load 32 (Operand.tmp 94), type := 32, pos := "law.go:142", after := #[{ on := 11, ground := Ground.data }, { on := 4, ground := Ground.guard }], guard := some (4, true) }) (v := undef) rfl (by kernel_rfl) (by kernel_rfl) (by kernel_rfl) (by kernel_rfl) (fun _ _ _ h => h) (Or.inr ⟨by rfl, rfl⟩) hHeld ?_
    try simp only [Act.put, List.setIfInBounds_toArray, List.set_cons_zero, List.set_cons_succ]
    refine wpAnyT_take (i := 13) (oi := { dst := some 96, op := Op.call { callee := Callee.value (Operand.func 15), args := #[Operand.tmp 93, Operand.tmp 95], argTypes := #[23, 32] }, type := 24, pos := "law.go:142", after := #[{ on := 10, ground := Ground.data }, { on := 12, ground := Ground.data }, { on := 4, ground := Ground.chain }, { on := 4, ground := Ground.guard }], guard := some (4, true) }) (v := undef) rfl (by kernel_rfl) (by kernel_rfl) (by kernel_rfl) (by kernel_rfl) (fun _ _ _ h => h) (Or.inr ⟨by rfl, rfl⟩) hHeld ?_
    try simp only [Act.put, List.setIfInBounds_toArray, List.set_cons_zero, List.set_cons_succ]
    refine wpAnyT_take (i := 14) (oi := { dst := some 97, op := Op.binOp BinOp.eql 24 (Operand.tmp 96) (Operand.const (Value.int IntKind.i64 0)) 24, type := 4, pos := "law.go:142", after := #[{ on := 13, ground := Ground.data }, { on := 4, ground := Ground.guard }], guard := some (4, true) }) (v := undef) rfl (by kernel_rfl) (by kernel_rfl) (by kernel_rfl) (by kernel_rfl) (fun _ _ _ h => h) (Or.inr ⟨by rfl, rfl⟩) hHeld ?_
    try simp only [Act.put, List.setIfInBounds_toArray, List.set_cons_zero, List.set_cons_succ]
    refine wpAnyT_take (i := 15) (oi := { dst := some 98, op := Op.pick (Operand.tmp 87) (Operand.tmp 97) (Operand.const (Value.bool false)), type := 4, pos := "law.go:142", after := #[{ on := 4, ground := Ground.data }, { on := 14, ground := Ground.data }], guard := none }) (v := .bool false) rfl (by kernel_rfl) (by kernel_rfl) (by kernel_rfl) (by kernel_rfl) (fun _ _ _ h => h) (Or.inl ⟨by rfl, ?_⟩) hHeld ?_
    · intro w hSw
      obtain ⟨h2, h0⟩ := hSw
      first
        | rfl
        | (go_simp; done)
    try simp only [Act.put, List.setIfInBounds_toArray, List.set_cons_zero, List.set_cons_succ]
    refine wpAnyT_done (by kernel_rfl) ?_ _
    go_wp2_with fail
    go_end0
    exact ⟨rfl, P, .inl rfl, unhide HI1, unhide HB1⟩
  have hbn : 0 < b.length := List.length_pos_iff.2 hb0
  have hbi : (0 : Int) < (b.length : Int) := by omega
  clear hb0
  go_enter Try.func32, Try.ntmps32
  go_wp2_with fail
  obtain ⟨w1, hw1⟩ : ∃ z, (w.alloc (.cells #[.int .i64 op, .int .i64 n, .slice ab b.length cb] 67)) = z := ⟨_, rfl⟩
  rw [hw1] at HI HV HBX HB ⊢
  rw [unhide HGB] at HBX ⊢
  clear hw1
  refine wp_region_T (S := fun W => W.cell? ⟨gb, 2, none⟩ = some (.slice ab b.length cb) ∧ W.cell? ⟨gp, 1, none⟩ = some (.pointer (some ⟨gi, 0, none⟩))) (fun i => decide (i < 16)) (by kernel_rfl) ⟨(unhide HBX).cell 2, by rw [← unhide HGI]; exact (unhide HI).row.cell 1⟩ (fun hHeld => ?_)
  have bd : Below w1.heap.size w1 w1.drew := Below.drew (Below.refl _ _)
  have HI1 := hide ((unhide HI).call bd)
  have HB1 := hide ((unhide HB).trans (bd.mono (unhide HI).low))
  have HV1 := hide ((unhide HV).call bd)
  have HX1 := hide ((unhide HBX).drew)
  obtain ⟨w2, hw2⟩ : ∃ z, w1.drew = z := ⟨_, rfl⟩
  rw [hw2] at HI1 HB1 HV1 HX1 hHeld ⊢
  clear hw2 bd HI HB HV HBX
  refine wpAnyT_take (i := 0) (oi := { dst := some 83, op := Op.fieldAddr 67 (Operand.tmp 3) 2, type := 0, pos := "law.go:142", after := #[], guard := none }) (v := .pointer (some ⟨gb, 2, none⟩)) rfl (by kernel_rfl) (by kernel_rfl) (by kernel_rfl) (by kernel_rfl) (fun _ _ _ h => h) (Or.inl ⟨by rfl, ?_⟩) hHeld ?_
  · intro w hSw
    obtain ⟨h2, h0⟩ := hSw
    first
      | rfl
      | (go_simp; done)
  try simp only [Act.put, List.setIfInBounds_toArray, List.set_cons_zero, List.set_cons_succ]
  refine wpAnyT_take (i := 1) (oi := { dst := some 84, op := Op.load 32 (Operand.tmp 83), type := 32, pos := "law.go:142", after := #[{ on := 0, ground := Ground.data }], guard := none }) (v := .slice ab b.length cb) rfl (by kernel_rfl) (by kernel_rfl) (by kernel_rfl) (by kernel_rfl) (fun _ _ _ h => h) (Or.inl ⟨by rfl, ?_⟩) hHeld ?_
  · intro w hSw
    obtain ⟨h2, h0⟩ := hSw
    first
      | rfl
      | (go_simp; done)
  try simp only [Act.put, List.setIfInBounds_toArray, List.set_cons_zero, List.set_cons_succ]
  refine wpAnyT_take (i := 2) (oi := { dst := some 85, op := Op.call { callee := Callee.builtin Builtin.len, args := #[Operand.tmp 84], argTypes := #[32] }, type := 3, pos := "law.go:142", after := #[{ on := 1, ground := Ground.data }], guard := none }) (v := .int .i64 (b.length : Int)) rfl (by kernel_rfl) (by kernel_rfl) (by kernel_rfl) (by kernel_rfl) (fun _ _ _ h => h) (Or.inl ⟨by rfl, ?_⟩) hHeld ?_
  · intro w hSw
    obtain ⟨h2, h0⟩ := hSw
    first
      | rfl
      | (go_simp; done)
  try simp only [Act.put, List.setIfInBounds_toArray, List.set_cons_zero, List.set_cons_succ]
  refine wpAnyT_take (i := 3) (oi := { dst := some 86, op := Op.binOp BinOp.gtr 3 (Operand.tmp 85) (Operand.const (Value.int IntKind.i64 0)) 3, type := 4, pos := "law.go:142", after := #[{ on := 2, ground := Ground.data }], guard := none }) (v := .bool true) rfl (by kernel_rfl) (by kernel_rfl) (by kernel_rfl) (by kernel_rfl) (fun _ _ _ h => h) (Or.inl ⟨by rfl, ?_⟩) hHeld ?_
  · intro w hSw
    obtain ⟨h2, h0⟩ := hSw
    first
      | rfl
      | (go_simp; done)
  try simp only [Act.put, List.setIfInBounds_toArray, List.set_cons_zero, List.set_cons_succ]
  refine wpAnyT_take (i := 4) (oi := { dst := some 87, op := Op.move (Operand.tmp 86), type := 4, pos := "law.go:142", after := #[{ on := 3, ground := Ground.data }], guard := none }) (v := .bool true) rfl (by kernel_rfl) (by kernel_rfl) (by kernel_rfl) (by kernel_rfl) (fun _ _ _ h => h) (Or.inl ⟨by rfl, ?_⟩) hHeld ?_
  · intro w hSw
    obtain ⟨h2, h0⟩ := hSw
    first
      | rfl
      | (go_simp; done)
  try simp only [Act.put, List.setIfInBounds_toArray, List.set_cons_zero, List.set_cons_succ]
  refine wpAnyT_take (i := 5) (oi := { dst := some 88, op := Op.move (Operand.tmp 0), type := 59, pos := "law.go:142", after := #[{ on := 4, ground := Ground.guard }], guard := some (4, true) }) (v := .pointer (some ⟨gp, 0, none⟩)) rfl (by kernel_rfl) (by kernel_rfl) (by kernel_rfl) (by kernel_rfl) (fun _ _ _ h => h) (Or.inl ⟨by rfl, ?_⟩) hHeld ?_
  · intro w hSw
    obtain ⟨h2, h0⟩ := hSw
    first
      | rfl
      | (go_simp; done)
  try simp only [Act.put, List.setIfInBounds_toArray, List.set_cons_zero, List.set_cons_succ]
  refine wpAnyT_take (i := 6) (oi := { dst := some 89, op := Op.move (Operand.tmp 5), type := 3, pos := "law.go:142", after := #[{ on := 4, ground := Ground.guard }], guard := some (4, true) }) (v := .int .i64 1) rfl (by kernel_rfl) (by kernel_rfl) (by kernel_rfl) (by kernel_rfl) (fun _ _ _ h => h) (Or.inl ⟨by rfl, ?_⟩) hHeld ?_
  · intro w hSw
    obtain ⟨h2, h0⟩ := hSw
    first
      | rfl
      | (go_simp; done)
  try simp only [Act.put, List.setIfInBounds_toArray, List.set_cons_zero, List.set_cons_succ]
  refine wpAnyT_take (i := 7) (oi := { dst := some 90, op := Op.nilCheck (Operand.tmp 88), type := 0, pos := "law.go:142", after := #[{ on := 5, ground := Ground.data }, { on := 4, ground := Ground.guard }], guard := some (4, true) }) (v := .pointer (some ⟨gp, 0, none⟩)) rfl (by kernel_rfl) (by kernel_rfl) (by kernel_rfl) (by kernel_rfl) (fun _ _ _ h => h) (Or.inl ⟨by rfl, ?_⟩) hHeld ?_
  · intro w hSw
    obtain ⟨h2, h0⟩ := hSw
    first
      | rfl
      | (go_simp; done)
  try simp only [Act.put, List.setIfInBounds_toArray, List.set_cons_zero, List.set_cons_succ]
  refine wpAnyT_take (i := 8) (oi := { dst := some 91, op := Op.fieldAddr 65 (Operand.tmp 90) 0, type := 0, pos := "law.go:142", after := #[{ on := 7, ground := Ground.data }, { on := 4, ground := Ground.guard }], guard := some (4, true) }) (v := .pointer (some ⟨gp, 0, none⟩)) rfl (by kernel_rfl) (by kernel_rfl) (by kernel_rfl) (by kernel_rfl) (fun _ _ _ h => h) (Or.inl ⟨by rfl, ?_⟩) hHeld ?_
  · intro w hSw
    obtain ⟨h2, h0⟩ := hSw
    first
      | rfl
      | (go_simp; done)
  try simp only [Act.put, List.setIfInBounds_toArray, List.set_cons_zero, List.set_cons_succ]
  refine wpAnyT_take (i := 9) (oi := { dst := some 92, op := Op.indexAddr 61 (Operand.tmp 91) (Operand.tmp 89), type := 0, pos := "law.go:142", after := #[{ on := 8, ground := Ground.data }, { on := 6, ground := Ground.data }, { on := 4, ground := Ground.guard }], guard := some (4, true) }) (v := .pointer (some ⟨gp, 1, none⟩)) rfl (by kernel_rfl) (by kernel_rfl) (by kernel_rfl) (by kernel_rfl) (fun _ _ _ h => h) (Or.inl ⟨by rfl, ?_⟩) hHeld ?_
  · intro w hSw
    obtain ⟨h2, h0⟩ := hSw
    first
      | rfl
      | (go_simp; done)
  try simp only [Act.put, List.setIfInBounds_toArray, List.set_cons_zero, List.set_cons_succ]
  refine wpAnyT_take (i := 10) (oi := { dst := some 93, op := Op.load 23 (Operand.tmp 92), type := 23, pos := "law.go:142", after := #[{ on := 9, ground := Ground.data }, { on := 4, ground := Ground.guard }], guard := some (4, true) }) (v := .pointer (some ⟨gi, 0, none⟩)) rfl (by kernel_rfl) (by kernel_rfl) (by kernel_rfl) (by kernel_rfl) (fun _ _ _ h => h) (Or.inl ⟨by rfl, ?_⟩) hHeld ?_
  · intro w hSw
    obtain ⟨h2, h0⟩ := hSw
    first
      | rfl
      | (go_simp; done)
  try simp only [Act.put, List.setIfInBounds_toArray, List.set_cons_zero, List.set_cons_succ]
  refine wpAnyT_take (i := 11) (oi := { dst := some 94, op := Op.fieldAddr 67 (Operand.tmp 3) 2, type := 0, pos := "law.go:142", after := #[{ on := 4, ground := Ground.guard }], guard := some (4, true) }) (v := .pointer (some ⟨gb, 2, none⟩)) rfl (by kernel_rfl) (by kernel_rfl) (by kernel_rfl) (by kernel_rfl) (fun _ _ _ h => h) (Or.inl ⟨by rfl, ?_⟩) hHeld ?_
  · intro w hSw
    obtain ⟨h2, h0⟩ := hSw
    first
      | rfl
      | (go_simp; done)
  try simp only [Act.put, List.setIfInBounds_toArray, List.set_cons_zero, List.set_cons_succ]
  refine wpAnyT_take (i := 12) (oi := { dst := some 95, op := Op.load 32 (Operand.tmp 94), type := 32, pos := "law.go:142", after := #[{ on := 11, ground := Ground.data }, { on := 4, ground := Ground.guard }], guard := some (4, true) }) (v := .slice ab b.length cb) rfl (by kernel_rfl) (by kernel_rfl) (by kernel_rfl) (by kernel_rfl) (fun _ _ _ h => h) (Or.inl ⟨by rfl, ?_⟩) hHeld ?_
  · intro w hSw
    obtain ⟨h2, h0⟩ := hSw
    first
      | rfl
      | (go_simp; done)
  try simp only [Act.put, List.setIfInBounds_toArray, List.set_cons_zero, List.set_cons_succ]
  refine wpAnyT_one (i := 13) (o := { dst := some 96, op := Op.call { callee := Callee.value (Operand.func 15), args := #[Operand.tmp 93, Operand.tmp 95], argTypes := #[23, 32] }, type := 24, pos := "law.go:142", after := #[{ on := 10, ground := Ground.data }, { on := 12, ground := Ground.data }, { on := 4, ground := Ground.chain }, { on := 4, ground := Ground.guard }], guard := some (4, true) }) (by kernel_rfl) rfl (fun K hK => ?_)
  go_simp
  refine Calls.mono (send_any B gi (P.m 1) (P.vq 1) _ (P.s 1) b w2 (by rw [← unhide HGI]; exact (unhide HI1).ch 1 (by decide)) (((unhide HG).inv 1 (by decide)).ok (by decide) (by omega)) (unhide HV1).1 (unhide HI1).low hbl) ?_
  intro r w3 h3
  rw [← unhide HGI] at h3
  obtain ⟨v, vq, rfl, h4, b4⟩ := send_end (vb := .slice ab b.length cb) (unhide HI1) (by decide) h3
  have HI3 := hide h4
  have HB3 := hide ((unhide HB1).trans b4)
  have HX3 : Hid (RowAt w3 gb 67 [.int .i64 op, .int .i64 n, .slice ab b.length cb]) := hide (by obtain ⟨e9, v9, vq9, c9, t9⟩ := h3; exact ((unhide HI1).ch 1 (by decide)).keepRow (unhide HX1) (by decide) (by decide) t9.1)
  have HV3 : Hid (Vis w3 B (.slice ab b.length cb) b) := hide (by obtain ⟨e9, v9, vq9, c9, t9⟩ := h3; exact (unhide HV1).keep ((unhide HI1).ch 1 (by decide)) t9.1)
  have hS3 := And.intro ((unhide HX3).cell 2) (show w3.cell? ⟨gp, 1, none⟩ = some (.pointer (some ⟨gi, 0, none⟩)) by rw [← unhide HGI]; exact (unhide HI3).row.cell 1)
  obtain ⟨E, hE⟩ : ∃ z, sendE (P.s 1) b.length = z := ⟨_, rfl⟩
  have HE := hide hE
  rw [hE]
  clear h3 h4 b4 hE HI1 HB1 HV1 HX1 hHeld
  go_wp2_with fail
  refine hK.out _ _ (fun _ => hS3) ?_
  clear hK K
  try simp only [Act.put, List.setIfInBounds_toArray, List.set_cons_zero, List.set_cons_succ]
  by_cases gE : E = 0
  rotate_left
  · skip
    have gEb : (E == 0) = false := by simp [gE]
    refine wpAnyT_take (i := 14) (oi := { dst := some 97, op := Op.binOp BinOp.eql 24 (Operand.tmp 96) (Operand.const (Value.int IntKind.i64 0)) 24, type := 4, pos := "law.go:142", after := #[{ on := 13, ground := Ground.data }, { on := 4, ground := Ground.guard }], guard := some (4, true) }) (v := .bool false) rfl (by kernel_rfl) (by kernel_rfl) (by kernel_rfl) (by kernel_rfl) (fun _ _ _ h => h) (Or.inl ⟨by rfl, ?_⟩) hS3 ?_
    · intro w hSw
      obtain ⟨h2, h0⟩ := hSw
      first
        | rfl
        | (go_simp; done)
    try simp only [Act.put, List.setIfInBounds_toArray, List.set_cons_zero, List.set_cons_succ]
    refine wpAnyT_take (i := 15) (oi := { dst := some 98, op := Op.pick (Operand.tmp 87) (Operand.tmp 97) (Operand.const (Value.bool false)), type := 4, pos := "law.go:142", after := #[{ on := 4, ground := Ground.data }, { on := 14, ground := Ground.data }], guard := none }) (v := .bool false) rfl (by kernel_rfl) (by kernel_rfl) (by kernel_rfl) (by kernel_rfl) (fun _ _ _ h => h) (Or.inl ⟨by rfl, ?_⟩) hS3 ?_
    · intro w hSw
      obtain ⟨h2, h0⟩ := hSw
      first
        | rfl
        | (go_simp; done)
    try simp only [Act.put, List.setIfInBounds_toArray, List.set_cons_zero, List.set_cons_succ]
    refine wpAnyT_done (by kernel_rfl) ?_ _
    go_wp2_with fail
    go_end0
    exact ⟨rfl, _, .inr (.inl ⟨1, by decide, v, vq, b, rfl, by rw [unhide HE]; exact gE⟩), unhide HI3, unhide HB3⟩
  subst gE
  refine wpAnyT_take (i := 14) (oi := { dst := some 97, op := Op.binOp BinOp.eql 24 (Operand.tmp 96) (Operand.const (Value.int IntKind.i64 0)) 24, type := 4, pos := "law.go:142", after := #[{ on := 13, ground := Ground.data }, { on := 4, ground := Ground.guard }], guard := some (4, true) }) (v := .bool true) rfl (by kernel_rfl) (by kernel_rfl) (by kernel_rfl) (by kernel_rfl) (fun _ _ _ h => h) (Or.inl ⟨by rfl, ?_⟩) hS3 ?_
  · intro w hSw
    obtain ⟨h2, h0⟩ := hSw
    first
      | rfl
      | (go_simp; done)
  try simp only [Act.put, List.setIfInBounds_toArray, List.set_cons_zero, List.set_cons_succ]
  refine wpAnyT_take (i := 15) (oi := { dst := some 98, op := Op.pick (Operand.tmp 87) (Operand.tmp 97) (Operand.const (Value.bool false)), type := 4, pos := "law.go:142", after := #[{ on := 4, ground := Ground.data }, { on := 14, ground := Ground.data }], guard := none }) (v := .bool true) rfl (by kernel_rfl) (by kernel_rfl) (by kernel_rfl) (by kernel_rfl) (fun _ _ _ h => h) (Or.inl ⟨by rfl, ?_⟩) hS3 ?_
  · intro w hSw
    obtain ⟨h2, h0⟩ := hSw
    first
      | rfl
      | (go_simp; done)
  try simp only [Act.put, List.setIfInBounds_toArray, List.set_cons_zero, List.set_cons_succ]
  refine wpAnyT_done (by kernel_rfl) ?_ _
  go_wp2_with fail
  clear hS3
  obtain ⟨ug, hug⟩ : ∃ z, P.V 1 = z := ⟨_, rfl⟩
  have HUG := hide hug
  have z8 : w3.cell? ⟨gp, 5, none⟩ = some ug := by rw [← hug]; exact (unhide HI3).row.cell 5
  clear hug
  refine wp_region_T (S := fun W => W.cell? ⟨gp, 5, none⟩ = some ug ∧ W.cell? ⟨gb, 2, none⟩ = some (.slice ab b.length cb)) (fun i => decide (1 ≤ i ∧ i < 12)) (by kernel_rfl) ⟨z8, (unhide HX3).cell 2⟩ (fun hHeld => ?_)
  clear z8
  have bd : Below w3.heap.size w3 w3.drew := Below.drew (Below.refl _ _)
  have HI4 := hide ((unhide HI3).call bd)
  have HB4 := hide ((unhide HB3).trans (bd.mono (unhide HI3).low))
  have HV4 := hide ((unhide HV3).call bd)
  have HX4 := hide ((unhide HX3).drew)
  obtain ⟨w4, hw4⟩ : ∃ z, w3.drew = z := ⟨_, rfl⟩
  rw [hw4] at HI4 HB4 HV4 HX4 hHeld ⊢
  clear hw4 bd HI3 HB3 HV3 HX3
  refine wpAnyT_pure (i := 0) (oi := { dst := some 99, op := Op.move (Operand.tmp 0), type := 59, pos := "law.go:143", after := #[], guard := none }) (v := .pointer (some ⟨gp, 0, none⟩)) rfl (by kernel_rfl) (by kernel_rfl) (by kernel_rfl) rfl (fun _ _ _ h => h) (Or.inl ⟨by rfl, ?_⟩) ?_
  · intro w hSw
    first
      | rfl
      | (go_simp; done)
  try simp only [Act.put, List.setIfInBounds_toArray, List.set_cons_zero, List.set_cons_succ]
  refine wpAnyT_pure (i := 12) (oi := { dst := some 111, op := Op.nilCheck (Operand.tmp 99), type := 0, pos := "law.go:143", after := #[{ on := 0, ground := Ground.data }], guard := none }) (v := .pointer (some ⟨gp, 0, none⟩)) rfl (by kernel_rfl) (by kernel_rfl) (by kernel_rfl) rfl (fun _ _ _ h => h) (Or.inl ⟨by rfl, ?_⟩) ?_
  · intro w hSw
    first
      | rfl
      | (go_simp; done)
  try simp only [Act.put, List.setIfInBounds_toArray, List.set_cons_zero, List.set_cons_succ]
  refine wpAnyT_pure (i := 13) (oi := { dst := some 112, op := Op.fieldAddr 65 (Operand.tmp 111) 2, type := 0, pos := "law.go:143", after := #[{ on := 12, ground := Ground.data }], guard := none }) (v := .pointer (some ⟨gp, 4, none⟩)) rfl (by kernel_rfl) (by kernel_rfl) (by kernel_rfl) rfl (fun _ _ _ h => h) (Or.inl ⟨by rfl, ?_⟩) ?_
  · intro w hSw
    first
      | rfl
      | (go_simp; done)
  try simp only [Act.put, List.setIfInBounds_toArray, List.set_cons_zero, List.set_cons_succ]
  refine wpAnyT_take (i := 1) (oi := { dst := some 100, op := Op.move (Operand.tmp 5), type := 3, pos := "law.go:143", after := #[], guard := none }) (v := .int .i64 1) rfl (by kernel_rfl) (by kernel_rfl) (by kernel_rfl) (by kernel_rfl) (fun _ _ _ h => h) (Or.inl ⟨by rfl, ?_⟩) hHeld ?_
  · intro w hSw
    obtain ⟨h0, h2⟩ := hSw
    first
      | rfl
      | (go_simp; done)
  try simp only [Act.put, List.setIfInBounds_toArray, List.set_cons_zero, List.set_cons_succ]
  refine wpAnyT_take (i := 2) (oi := { dst := some 101, op := Op.move (Operand.tmp 0), type := 59, pos := "law.go:143", after := #[], guard := none }) (v := .pointer (some ⟨gp, 0, none⟩)) rfl (by kernel_rfl) (by kernel_rfl) (by kernel_rfl) (by kernel_rfl) (fun _ _ _ h => h) (Or.inl ⟨by rfl, ?_⟩) hHeld ?_
  · intro w hSw
    obtain ⟨h0, h2⟩ := hSw
    first
      | rfl
      | (go_simp; done)
  try simp only [Act.put, List.setIfInBounds_toArray, List.set_cons_zero, List.set_cons_succ]
  refine wpAnyT_take (i := 3) (oi := { dst := some 102, op := Op.move (Operand.tmp 5), type := 3, pos := "law.go:143", after := #[], guard := none }) (v := .int .i64 1) rfl (by kernel_rfl) (by kernel_rfl) (by kernel_rfl) (by kernel_rfl) (fun _ _ _ h => h) (Or.inl ⟨by rfl, ?_⟩) hHeld ?_
  · intro w hSw
    obtain ⟨h0, h2⟩ := hSw
    first
      | rfl
      | (go_simp; done)
  try simp only [Act.put, List.setIfInBounds_toArray, List.set_cons_zero, List.set_cons_succ]
  refine wpAnyT_take (i := 4) (oi := { dst := some 103, op := Op.nilCheck (Operand.tmp 101), type := 0, pos := "law.go:143", after := #[{ on := 2, ground := Ground.data }], guard := none }) (v := .pointer (some ⟨gp, 0, none⟩)) rfl (by kernel_rfl) (by kernel_rfl) (by kernel_rfl) (by kernel_rfl) (fun _ _ _ h => h) (Or.inl ⟨by rfl, ?_⟩) hHeld ?_
  · intro w hSw
    obtain ⟨h0, h2⟩ := hSw
    first
      | rfl
      | (go_simp; done)
  try simp only [Act.put, List.setIfInBounds_toArray, List.set_cons_zero, List.set_cons_succ]
  refine wpAnyT_take (i := 5) (oi := { dst := some 104, op := Op.fieldAddr 65 (Operand.tmp 103) 2, type := 0, pos := "law.go:143", after := #[{ on := 4, ground := Ground.data }], guard := none }) (v := .pointer (some ⟨gp, 4, none⟩)) rfl (by kernel_rfl) (by kernel_rfl) (by kernel_rfl) (by kernel_rfl) (fun _ _ _ h => h) (Or.inl ⟨by rfl, ?_⟩) hHeld ?_
  · intro w hSw
    obtain ⟨h0, h2⟩ := hSw
    first
      | rfl
      | (go_simp; done)
  try simp only [Act.put, List.setIfInBounds_toArray, List.set_cons_zero, List.set_cons_succ]
  refine wpAnyT_take (i := 6) (oi := { dst := some 105, op := Op.indexAddr 63 (Operand.tmp 104) (Operand.tmp 102), type := 0, pos := "law.go:143", after := #[{ on := 5, ground := Ground.data }, { on := 3, ground := Ground.data }], guard := none }) (v := .pointer (some ⟨gp, 5, none⟩)) rfl (by kernel_rfl) (by kernel_rfl) (by kernel_rfl) (by kernel_rfl) (fun _ _ _ h => h) (Or.inl ⟨by rfl, ?_⟩) hHeld ?_
  · intro w hSw
    obtain ⟨h0, h2⟩ := hSw
    first
      | rfl
      | (go_simp; done)
  try simp only [Act.put, List.setIfInBounds_toArray, List.set_cons_zero, List.set_cons_succ]
  refine wpAnyT_take (i := 7) (oi := { dst := some 106, op := Op.load 40 (Operand.tmp 105), type := 40, pos := "law.go:143", after := #[{ on := 6, ground := Ground.data }], guard := none }) (v := ug) rfl (by kernel_rfl) (by kernel_rfl) (by kernel_rfl) (by kernel_rfl) (fun _ _ _ h => h) (Or.inl ⟨by rfl, ?_⟩) hHeld ?_
  · intro w hSw
    obtain ⟨h0, h2⟩ := hSw
    first
      | rfl
      | (go_simp; done)
  try simp only [Act.put, List.setIfInBounds_toArray, List.set_cons_zero, List.set_cons_succ]
  refine wpAnyT_take (i := 8) (oi := { dst := some 107, op := Op.fieldAddr 67 (Operand.tmp 3) 2, type := 0, pos := "law.go:143", after := #[], guard := none }) (v := .pointer (some ⟨gb, 2, none⟩)) rfl (by kernel_rfl) (by kernel_rfl) (by kernel_rfl) (by kernel_rfl) (fun _ _ _ h => h) (Or.inl ⟨by rfl, ?_⟩) hHeld ?_
  · intro w hSw
    obtain ⟨h0, h2⟩ := hSw
    first
      | rfl
      | (go_simp; done)
  try simp only [Act.put, List.setIfInBounds_toArray, List.set_cons_zero, List.set_cons_succ]
  refine wpAnyT_take (i := 9) (oi := { dst := some 108, op := Op.load 32 (Operand.tmp 107), type := 32, pos := "law.go:143", after := #[{ on := 8, ground := Ground.data }], guard := none }) (v := .slice ab b.length cb) rfl (by kernel_rfl) (by kernel_rfl) (by kernel_rfl) (by kernel_rfl) (fun _ _ _ h => h) (Or.inl ⟨by rfl, ?_⟩) hHeld ?_
  · intro w hSw
    obtain ⟨h0, h2⟩ := hSw
    first
      | rfl
      | (go_simp; done)
  try simp only [Act.put, List.setIfInBounds_toArray, List.set_cons_zero, List.set_cons_succ]
  refine wpAnyT_one (i := 10) (o := { dst := some 109, op := Op.buildSlice 40 1 #[(0, Operand.tmp 108)], type := 40, pos := "law.go:143", after := #[{ on := 9, ground := Ground.data }], guard := none }) (by kernel_rfl) rfl (fun K hK => ?_)
  go_simp
  have b5 : Below w4.heap.size w4 (w4.alloc (.cells #[.slice ab b.length cb] 32)) := (Below.refl _ _).alloc (Nat.le_refl _) _
  have HI5 := hide ((unhide HI4).call b5)
  have HV5 := hide ((unhide HV4).call b5)
  have HQ := hide (RowAt.new w4 32 [.slice ab b.length cb])
  have HX5 := hide ((unhide HX4).below b5 (unhide HX4).lt)
  have HB5 := hide ((unhide HB4).trans (b5.mono (unhide HI4).low))
  obtain ⟨w5, hw5⟩ : ∃ z, (w4.alloc (.cells #[.slice ab b.length cb] 32)) = z := ⟨_, rfl⟩
  obtain ⟨q9, hq9⟩ : ∃ z, w4.heap.size = z := ⟨_, rfl⟩
  rw [hw5] at HI5 HV5 HQ HX5 HB5 ⊢
  rw [hq9] at HQ ⊢
  have hS5 := And.intro (show w5.cell? ⟨gp, 5, none⟩ = some ug by rw [← unhide HUG]; exact (unhide HI5).row.cell 5) ((unhide HX5).cell 2)
  clear hw5 hq9 b5 HI4 HV4 HX4 HB4 hHeld
  refine hK.out _ _ (fun _ => hS5) ?_
  clear hK K
  try simp only [Act.put, List.setIfInBounds_toArray, List.set_cons_zero, List.set_cons_succ]
  refine wpAnyT_one (i := 11) (o := { dst := some 110, op := Op.call { callee := Callee.builtin Builtin.append, args := #[Operand.tmp 106, Operand.tmp 109], argTypes := #[40, 40] }, type := 40, pos := "law.go:143", after := #[{ on := 7, ground := Ground.data }, { on := 10, ground := Ground.data }], guard := none }) (by kernel_rfl) rfl (fun K hK => ?_)
  refine wp_app_src (Operand.tmp 106) (Operand.tmp 109) 40 32 _ 1 24 Try.underlying40 infoSl (by simp [Value.cells]) (by decide) rfl B ug (P.X 1).length ((P.X 1).map Prod.fst) rfl (by rw [← unhide HUG]; exact (unhide HI5).rows 1 (by decide)) (some ⟨q9, 0, none⟩) 1 1 [.slice ab b.length cb] rfl rfl (fun e => by cases e) (fun b9 hb9 j u hu => by injection hb9 with hb9; subst hb9; rw [add_plain, Nat.zero_add, (unhide HQ).cell]; exact hu) (fun u hu => by obtain rfl := List.mem_singleton.1 hu; rfl) (by have := (unhide HG).len 1 (by decide); unfold maxLen; omega) (by have := (unhide HG).len 1 (by decide); omega) (unhide HI5).low (fun tv w6 hv6 ho6 hk6 => ?_)
  obtain ⟨at6, ct6, htv⟩ := own_one hv6
  subst htv
  have ho6b : Only (fun k => (P.V 1).ownBlock = some k) w5 w6 := by rw [unhide HUG]; exact ho6
  have HI6 := hide ((unhide HI5).setV 1 (by decide) (x := P.X 1 ++ [(.slice ab b.length cb, b)]) ho6b (by rw [List.length_append, List.map_append]; exact hv6) (by rw [← unhide HUG] at hk6; exact hk6) (fun y hy => ?_))
  rotate_left
  · rcases List.mem_append.1 hy with hy | hy
    · exact ((unhide HI5).vb 1 (by decide) y hy).keep ho6b (fun k hk => (((unhide HI5).rows 1 (by decide)).lt k hk).1) (avoid_own ((unhide HI5).rows 1 (by decide)) (by decide))
    · obtain rfl := List.mem_singleton.1 hy
      exact Bod.keep (unhide HV5) ho6b (fun k hk => (((unhide HI5).rows 1 (by decide)).lt k hk).1) (avoid_own ((unhide HI5).rows 1 (by decide)) (by decide))
  have HB6 := hide ((unhide HB5).trans (ho6b.below (unhide HI5).low (fun k hk => (((unhide HI5).rows 1 (by decide)).lt k hk).1)))
  have hr6 : RowAt w6 gp 65 _ := (unhide HI5).row.only ho6b (fun e => tag_ne ((unhide HI5).rows 1 (by decide)) (unhide HI5).row (by decide) e)
  have hx6 := (unhide HX5).only ho6b (fun e => tag_ne ((unhide HI5).rows 1 (by decide)) (unhide HX5) (by decide) e)
  have hS6 := And.intro (show w6.cell? ⟨gp, 5, none⟩ = some ug by rw [← unhide HUG]; exact hr6.cell 5) (hx6.cell 2)
  have HF6 : Hid (w6.frozen? ⟨gp, 5, none⟩ = false) := hide (hr6.frozen 5)
  have HGBP := hide (unhide HI5).gB
  have HSZ6 := hide (Nat.le_trans (unhide HI5).low ho6.size)
  clear hv6 ho6 ho6b hk6 HI5 HV5 HX5 HB5 HQ hr6 hx6 hS5
  refine hK.out _ _ (fun _ => hS6) ?_
  clear hK K
  try simp only [Act.put, List.setIfInBounds_toArray, List.set_cons_zero, List.set_cons_succ]
  refine wpAnyT_pure (i := 14) (oi := { dst := some 113, op := Op.indexAddr 63 (Operand.tmp 112) (Operand.tmp 100), type := 0, pos := "law.go:143", after := #[{ on := 13, ground := Ground.data }, { on := 1, ground := Ground.data }, { on := 0, ground := Ground.phase }, { on := 1, ground := Ground.phase }, { on := 2, ground := Ground.phase }, { on := 3, ground := Ground.phase }, { on := 4, ground := Ground.phase }, { on := 5, ground := Ground.phase }, { on := 6, ground := Ground.phase }, { on := 7, ground := Ground.phase }, { on := 8, ground := Ground.phase }, { on := 9, ground := Ground.phase }, { on := 10, ground := Ground.phase }, { on := 11, ground := Ground.phase }], guard := none }) (v := .pointer (some ⟨gp, 5, none⟩)) rfl (by kernel_rfl) (by kernel_rfl) (by kernel_rfl) rfl (fun _ _ _ h => h) (Or.inl ⟨by rfl, ?_⟩) ?_
  · intro w hSw
    first
      | rfl
      | (go_simp; done)
  try simp only [Act.put, List.setIfInBounds_toArray, List.set_cons_zero, List.set_cons_succ]
  have f6 := unhide HF6
  have s6 := hS6.1
  refine wpAnyT_one (i := 15) (o := { dst := none, op := Op.store 40 (Operand.tmp 113) (Operand.tmp 110), type := 0, pos := "law.go:143", after := #[{ on := 14, ground := Ground.data }, { on := 11, ground := Ground.data }, { on := 11, ground := Ground.chain }, { on := 0, ground := Ground.phase }, { on := 1, ground := Ground.phase }, { on := 2, ground := Ground.phase }, { on := 3, ground := Ground.phase }, { on := 4, ground := Ground.phase }, { on := 5, ground := Ground.phase }, { on := 6, ground := Ground.phase }, { on := 7, ground := Ground.phase }, { on := 8, ground := Ground.phase }, { on := 9, ground := Ground.phase }, { on := 10, ground := Ground.phase }, { on := 11, ground := Ground.phase }], guard := none }) (by kernel_rfl) rfl (fun K hK => ?_)
  go_simp
  refine hK.out _ _ (fun h => by cases h) ?_
  clear hK K
  try simp only [Act.put, List.setIfInBounds_toArray, List.set_cons_zero, List.set_cons_succ]
  refine wpAnyT_done (by kernel_rfl) ?_ _
  go_wp2_with fail
  go_end0
  have o7 : Only (· = gp) w6 (w6.setCell ⟨gp, 5, none⟩ (.slice at6 ((P.X 1).length + 1) ct6)) := Only.set (p := (· = gp)) (Only.refl _ _) gp 5 _ rfl
  refine ⟨rfl, _, .inr (.inr (.inl ⟨1, by decide, v, vq, .slice ab b.length cb, .slice at6 ((P.X 1).length + 1) ct6, b, rfl, unhide HE, rfl⟩)), unhide HI6, (unhide HB6).trans (o7.below (unhide HSZ6) (fun k hk => by rw [hk]; exact unhide HGBP))⟩
set_option maxRecDepth 100000 in
set_option maxHeartbeats 4000000 in
theorem move10_ok (B gp N : Nat) (P : PS) (op n : Int) (b : List Nat) (vb : Value) (w : World) (h : Pair w B gp P) (hg : Good N P) (hN : N ≤ 1000) (hv : Vis w B vb b) (hbl : b.length ≤ 1000000000) (hop : wrap64 ((IntKind.u64.wrap op).tmod 12) = 10) :
    Calls Try.prog 32 #[.pointer (some ⟨gp, 0, none⟩), .agg #[.int .i64 op, .int .i64 n, vb]] w fun r w' => MoveR B gp P b w r w' := by
  obtain ⟨ab, cb, hvb⟩ := byt_shape hv.1
  subst hvb
  have b1 : Below w.heap.size w (w.alloc (.cells #[.int .i64 op, .int .i64 n, .slice ab b.length cb] 67)) := (Below.refl _ _).alloc (Nat.le_refl _) _
  have HI := hide (h.call b1)
  have HV := hide (hv.call b1)
  have HBX := hide (RowAt.new w 67 [.int .i64 op, .int .i64 n, .slice ab b.length cb])
  have HB := hide (b1.mono h.low)
  have HG := hide hg
  obtain ⟨gb, hgb⟩ : ∃ z, w.heap.size = z := ⟨_, rfl⟩
  have HGB := hide hgb
  clear h hg hv b1 hgb
  obtain ⟨gi, hgi⟩ : ∃ z, P.g 0 = z := ⟨_, rfl⟩
  have HGI := hide hgi
  clear hgi
  have z0 : (w.alloc (.cells #[.int .i64 op, .int .i64 n, .slice ab b.length cb] 67)).cell? ⟨gp, 0, none⟩ = some (.pointer (some ⟨gi, 0, none⟩)) := by rw [← unhide HGI]; exact (unhide HI).row.cell 0
  go_enter Try.func32, Try.ntmps32
  go_wp2_with fail
  clear z0
  obtain ⟨w1, hw1⟩ : ∃ z, (w.alloc (.cells #[.int .i64 op, .int .i64 n, .slice ab b.length cb] 67)) = z := ⟨_, rfl⟩
  rw [hw1] at HI HV HBX HB ⊢
  rw [unhide HGB] at HBX ⊢
  clear hw1
  refine Calls.mono (tick_any B gi (P.m 0) (P.vq 0) (P.s 0) w1 (by rw [← unhide HGI]; exact (unhide HI).ch 0 (by decide)) ((unhide HG).inv 0 (by decide)).q (by rw [((unhide HG).inv 0 (by decide)).conn]; decide) (((unhide HG).inv 0 (by decide)).ti (by omega))) ?_
  intro r w3 h3
  rw [← unhide HGI] at h3
  obtain ⟨rfl, h4, b4⟩ := tick_end (unhide HI) (by decide) h3
  have HE : Hid (MoveR B gp P b w (.returned (.tuple #[])) w3) := hide ⟨rfl, _, .inr (.inr (.inr (.inl ⟨0, by decide, rfl⟩))), h4, (unhide HB).trans b4⟩
  clear h3 h4 b4
  go_wp2_with fail
  go_end0
  exact unhide HE
set_option maxRecDepth 100000 in
set_option maxHeartbeats 4000000 in
theorem move11_ok (B gp N : Nat) (P : PS) (op n : Int) (b : List Nat) (vb : Value) (w : World) (h : Pair w B gp P) (hg : Good N P) (hN : N ≤ 1000) (hv : Vis w B vb b) (hbl : b.length ≤ 1000000000) (hop : wrap64 ((IntKind.u64.wrap op).tmod 12) = 11) :
    Calls Try.prog 32 #[.pointer (some ⟨gp, 0, none⟩), .agg #[.int .i64 op, .int .i64 n, vb]] w fun r w' => MoveR B gp P b w r w' := by
  obtain ⟨ab, cb, hvb⟩ := byt_shape hv.1
  subst hvb
  have b1 : Below w.heap.size w (w.alloc (.cells #[.int .i64 op, .int .i64 n, .slice ab b.length cb] 67)) := (Below.refl _ _).alloc (Nat.le_refl _) _
  have HI := hide (h.call b1)
  have HV := hide (hv.call b1)
  have HBX := hide (RowAt.new w 67 [.int .i64 op, .int .i64 n, .slice ab b.length cb])
  have HB := hide (b1.mono h.low)
  have HG := hide hg
  obtain ⟨gb, hgb⟩ : ∃ z, w.heap.size = z := ⟨_, rfl⟩
  have HGB := hide hgb
  clear h hg hv b1 hgb
  obtain ⟨gi, hgi⟩ : ∃ z, P.g 1 = z := ⟨_, rfl⟩
  have HGI := hide hgi
  clear hgi
  have z0 : (w.alloc (.cells #[.int .i64 op, .int .i64 n, .slice ab b.length cb] 67)).cell? ⟨gp, 1, none⟩ = some (.pointer (some ⟨gi, 0, none⟩)) := by rw [← unhide HGI]; exact (unhide HI).row.cell 1
  go_enter Try.func32, Try.ntmps32
  go_wp2_with fail
  clear z0
  obtain ⟨w1, hw1⟩ : ∃ z, (w.alloc (.cells #[.int .i64 op, .int .i64 n, .slice ab b.length cb] 67)) = z := ⟨_, rfl⟩
  rw [hw1] at HI HV HBX HB ⊢
  rw [unhide HGB] at HBX ⊢
  clear hw1
  refine Calls.mono (tick_any B gi (P.m 1) (P.vq 1) (P.s 1) w1 (by rw [← unhide HGI]; exact (unhide HI).ch 1 (by decide)) ((unhide HG).inv 1 (by decide)).q (by rw [((unhide HG).inv 1 (by decide)).conn]; decide) (((unhide HG).inv 1 (by decide)).ti (by omega))) ?_
  intro r w3 h3
  rw [← unhide HGI] at h3
  obtain ⟨rfl, h4, b4⟩ := tick_end (unhide HI) (by decide) h3
  have HE : Hid (MoveR B gp P b w (.returned (.tuple #[])) w3) := hide ⟨rfl, _, .inr (.inr (.inr (.inl ⟨1, by decide, rfl⟩))), h4, (unhide HB).trans b4⟩
  clear h3 h4 b4
  go_wp2_with fail
  go_end0
  exact unhide HE
end Go.Proofs.Ytmkpphkdaiienaa
