/- The table: drops, best. -/
import Derived.Test.YtonabfpgdgnpnaaDoorDSm
namespace Go.Proofs.YtonabfpgdgnpnaaDoor
set_option linter.unusedVariables false
set_option linter.unusedSimpArgs false
open Go.ChangeShapes Go.WideShapes Go.ChangeAt Go.RowKit Go.Joins Go.Deep

def dropB (x y : List CP) (i j : Nat) : Bool := decide (j = y.length) || (decide (i < x.length) && decide (lcs (x.drop i) (y.drop (j + 1)) ≤ lcs (x.drop (i + 1)) (y.drop j)))
set_option maxRecDepth 100000 in
set_option maxHeartbeats 4000000 in
theorem drops_any {w : World} {Ba Bb Bm : Nat} {va vb vm : Value} {x y : List CP} {M : List Nat} (h : Tb w Ba Bb Bm va vb vm x y M) {i j : Nat} (hi : i ≤ x.length) (hj : j ≤ y.length) (hM : TF x y M) :
    Calls Tryd.prog 52 #[.agg #[va, vb, vm], .int .i64 (i : Int), .int .i64 (j : Int)] w fun r w' => r = .returned (.bool (dropB x y i j)) ∧ Below w.heap.size w w' := by
  obtain ⟨aa, ca, ab, cb, gm, cm, rfl, rfl, hvm, hca, hca2, hcb, hcb2, hcm, hcm2⟩ := h.parts
  have hnx := h.nx
  have hny := h.ny
  have HT := hide h
  have HVM := hide hvm
  clear hvm
  obtain ⟨na, hna⟩ : ∃ z, x.length = z := ⟨_, rfl⟩
  obtain ⟨nb, hnb⟩ : ∃ z, y.length = z := ⟨_, rfl⟩
  have HNA := hide hna
  have HNB := hide hnb
  by_cases hj1 : j = y.length
  · have hv : dropB x y i j = true := by unfold dropB; simp [hj1]
    rw [hv]
    rw [hna]
    rw [hnb] at hj1 ⊢
    have j1 : ((j : Int) == (nb : Int)) = true := by simp; omega
    have hb0 : Below w.heap.size w (w.alloc (.cells #[.slice aa na ca, .slice ab nb cb, vm] 63)) := (Below.refl _ _).alloc (Nat.le_refl _) _
    have hr0 := RowAt.new w 63 [.slice aa na ca, .slice ab nb cb, vm]
    have HS : Hid (∀ W, Below (w.alloc (.cells #[.slice aa na ca, .slice ab nb cb, vm] 63)).heap.size (w.alloc (.cells #[.slice aa na ca, .slice ab nb cb, vm] 63)) W → W.cell? ⟨w.heap.size, 0, none⟩ = some (.slice aa na ca) ∧ W.cell? ⟨w.heap.size, 1, none⟩ = some (.slice ab nb cb) ∧ W.cell? ⟨w.heap.size, 2, none⟩ = some vm) := hide (fun W hW => ⟨kept hW (hr0.cell 0), kept hW (hr0.cell 1), kept hW (hr0.cell 2)⟩)
    have HB := hide hb0
    clear hr0 hb0
    clear hv h hi hj hM hna hnb
    go_enter Tryd.func52, Tryd.ntmps52
    go_wp2_with fail
    obtain ⟨wA, hA⟩ : ∃ wA, (w.alloc (.cells #[.slice aa na ca, .slice ab nb cb, vm] 63)) = wA := ⟨_, rfl⟩
    rw [hA] at HS HB ⊢
    clear hA
    have k0 : Below wA.heap.size wA wA.drew := (Below.refl _ _).drew
    refine wp_region_T (S := fun W => W.cell? ⟨w.heap.size, 0, none⟩ = some (.slice aa na ca) ∧ W.cell? ⟨w.heap.size, 1, none⟩ = some (.slice ab nb cb) ∧ W.cell? ⟨w.heap.size, 2, none⟩ = some vm) (fun i => decide (i < 26)) (by kernel_rfl) (unhide HS _ k0) (fun hHeld => ?_)
    refine wpAnyT_take (i := 0) (oi := { dst := some 7, op := Op.move (Operand.tmp 2), type := 3, pos := "table.go:37", after := #[], guard := none }) (v := .int .i64 (j : Int)) rfl (by kernel_rfl) (by kernel_rfl) (by kernel_rfl) (by kernel_rfl) (fun _ _ _ h => h) (Or.inl ⟨by rfl, ?_⟩) hHeld ?_
    · intro w hSw
      obtain ⟨q0, q1, q2⟩ := hSw
      first
        | rfl
        | (go_simp; done)
    try simp only [Act.put, List.setIfInBounds_toArray, List.set_cons_zero, List.set_cons_succ]
    refine wpAnyT_take (i := 1) (oi := { dst := some 8, op := Op.fieldAddr 63 (Operand.tmp 3) 1, type := 0, pos := "table.go:37", after := #[], guard := none }) (v := .pointer (some ⟨w.heap.size, 1, none⟩)) rfl (by kernel_rfl) (by kernel_rfl) (by kernel_rfl) (by kernel_rfl) (fun _ _ _ h => h) (Or.inl ⟨by rfl, ?_⟩) hHeld ?_
    · intro w hSw
      obtain ⟨q0, q1, q2⟩ := hSw
      first
        | rfl
        | (go_simp; done)
    try simp only [Act.put, List.setIfInBounds_toArray, List.set_cons_zero, List.set_cons_succ]
    refine wpAnyT_take (i := 2) (oi := { dst := some 9, op := Op.load 54 (Operand.tmp 8), type := 54, pos := "table.go:37", after := #[{ on := 1, ground := Ground.data }], guard := none }) (v := .slice ab nb cb) rfl (by kernel_rfl) (by kernel_rfl) (by kernel_rfl) (by kernel_rfl) (fun _ _ _ h => h) (Or.inl ⟨by rfl, ?_⟩) hHeld ?_
    · intro w hSw
      obtain ⟨q0, q1, q2⟩ := hSw
      first
        | rfl
        | (go_simp; done)
    try simp only [Act.put, List.setIfInBounds_toArray, List.set_cons_zero, List.set_cons_succ]
    refine wpAnyT_take (i := 3) (oi := { dst := some 10, op := Op.call { callee := Callee.builtin Builtin.len, args := #[Operand.tmp 9], argTypes := #[54] }, type := 3, pos := "table.go:37", after := #[{ on := 2, ground := Ground.data }], guard := none }) (v := .int .i64 (nb : Int)) rfl (by kernel_rfl) (by kernel_rfl) (by kernel_rfl) (by kernel_rfl) (fun _ _ _ h => h) (Or.inl ⟨by rfl, ?_⟩) hHeld ?_
    · intro w hSw
      obtain ⟨q0, q1, q2⟩ := hSw
      first
        | rfl
        | (go_simp; done)
    try simp only [Act.put, List.setIfInBounds_toArray, List.set_cons_zero, List.set_cons_succ]
    refine wpAnyT_take (i := 4) (oi := { dst := some 11, op := Op.binOp BinOp.eql 3 (Operand.tmp 7) (Operand.tmp 10) 3, type := 4, pos := "table.go:37", after := #[{ on := 0, ground := Ground.data }, { on := 3, ground := Ground.data }], guard := none }) (v := .bool true) rfl (by kernel_rfl) (by kernel_rfl) (by kernel_rfl) (by kernel_rfl) (fun _ _ _ h => h) (Or.inl ⟨by rfl, ?_⟩) hHeld ?_
    · intro w hSw
      obtain ⟨q0, q1, q2⟩ := hSw
      first
        | rfl
        | (go_simp; done)
    try simp only [Act.put, List.setIfInBounds_toArray, List.set_cons_zero, List.set_cons_succ]
    refine wpAnyT_take (i := 5) (oi := { dst := some 12, op := Op.move (Operand.tmp 11), type := 4, pos := "table.go:37", after := #[{ on := 4, ground := Ground.data }], guard := none }) (v := .bool true) rfl (by kernel_rfl) (by kernel_rfl) (by kernel_rfl) (by kernel_rfl) (fun _ _ _ h => h) (Or.inl ⟨by rfl, ?_⟩) hHeld ?_
    · intro w hSw
      obtain ⟨q0, q1, q2⟩ := hSw
      first
        | rfl
        | (go_simp; done)
    try simp only [Act.put, List.setIfInBounds_toArray, List.set_cons_zero, List.set_cons_succ]
    refine wpAnyT_take (i := 6) (oi := { dst := some 13, op := Op.move (Operand.tmp 1), type := 3, pos := "table.go:37", after := #[{ on := 5, ground := Ground.guard }], guard := some (5, false) }) (v := undef) rfl (by kernel_rfl) (by kernel_rfl) (by kernel_rfl) (by kernel_rfl) (fun _ _ _ h => h) (Or.inr ⟨by rfl, rfl⟩) hHeld ?_
    try simp only [Act.put, List.setIfInBounds_toArray, List.set_cons_zero, List.set_cons_succ]
    refine wpAnyT_take (i := 7) (oi := { dst := some 14, op := Op.fieldAddr 63 (Operand.tmp 3) 0, type := 0, pos := "table.go:37", after := #[{ on := 5, ground := Ground.guard }], guard := some (5, false) }) (v := undef) rfl (by kernel_rfl) (by kernel_rfl) (by kernel_rfl) (by kernel_rfl) (fun _ _ _ h => h) (Or.inr ⟨by rfl, rfl⟩) hHeld ?_
    try simp only [Act.put, List.setIfInBounds_toArray, List.set_cons_zero, List.set_cons_succ]
    refine wpAnyT_take (i := 8) (oi := { dst := some 15, op := Op.load 54 (Operand.tmp 14), type := 54, pos := "table.go:37", after := #[{ on := 7, ground := Ground.data }, { on := 5, ground := Ground.guard }], guard := some (5, false) }) (v := undef) rfl (by kernel_rfl) (by kernel_rfl) (by kernel_rfl) (by kernel_rfl) (fun _ _ _ h => h) (Or.inr ⟨by rfl, rfl⟩) hHeld ?_
    try simp only [Act.put, List.setIfInBounds_toArray, List.set_cons_zero, List.set_cons_succ]
    refine wpAnyT_take (i := 9) (oi := { dst := some 16, op := Op.call { callee := Callee.builtin Builtin.len, args := #[Operand.tmp 15], argTypes := #[54] }, type := 3, pos := "table.go:37", after := #[{ on := 8, ground := Ground.data }, { on := 5, ground := Ground.guard }], guard := some (5, false) }) (v := undef) rfl (by kernel_rfl) (by kernel_rfl) (by kernel_rfl) (by kernel_rfl) (fun _ _ _ h => h) (Or.inr ⟨by rfl, rfl⟩) hHeld ?_
    try simp only [Act.put, List.setIfInBounds_toArray, List.set_cons_zero, List.set_cons_succ]
    refine wpAnyT_take (i := 10) (oi := { dst := some 17, op := Op.binOp BinOp.lss 3 (Operand.tmp 13) (Operand.tmp 16) 3, type := 4, pos := "table.go:37", after := #[{ on := 6, ground := Ground.data }, { on := 9, ground := Ground.data }, { on := 5, ground := Ground.guard }], guard := some (5, false) }) (v := undef) rfl (by kernel_rfl) (by kernel_rfl) (by kernel_rfl) (by kernel_rfl) (fun _ _ _ h => h) (Or.inr ⟨by rfl, rfl⟩) hHeld ?_
    try simp only [Act.put, List.setIfInBounds_toArray, List.set_cons_zero, List.set_cons_succ]
    refine wpAnyT_take (i := 11) (oi := { dst := some 18, op := Op.move (Operand.tmp 17), type := 4, pos := "table.go:37", after := #[{ on := 10, ground := Ground.data }, { on := 5, ground := Ground.chain }, { on := 5, ground := Ground.guard }], guard := some (5, false) }) (v := undef) rfl (by kernel_rfl) (by kernel_rfl) (by kernel_rfl) (by kernel_rfl) (fun _ _ _ h => h) (Or.inr ⟨by rfl, rfl⟩) hHeld ?_
    try simp only [Act.put, List.setIfInBounds_toArray, List.set_cons_zero, List.set_cons_succ]
    refine wpAnyT_take (i := 12) (oi := { dst := some 19, op := Op.load 63 (Operand.tmp 3), type := 63, pos := "table.go:37", after := #[{ on := 11, ground := Ground.guard }], guard := some (11, true) }) (v := undef) rfl (by kernel_rfl) (by kernel_rfl) (by kernel_rfl) (by kernel_rfl) (fun _ _ _ h => h) (Or.inr ⟨by rfl, rfl⟩) hHeld ?_
    try simp only [Act.put, List.setIfInBounds_toArray, List.set_cons_zero, List.set_cons_succ]
    refine wpAnyT_take (i := 13) (oi := { dst := some 20, op := Op.move (Operand.tmp 1), type := 3, pos := "table.go:37", after := #[{ on := 11, ground := Ground.guard }], guard := some (11, true) }) (v := undef) rfl (by kernel_rfl) (by kernel_rfl) (by kernel_rfl) (by kernel_rfl) (fun _ _ _ h => h) (Or.inr ⟨by rfl, rfl⟩) hHeld ?_
    try simp only [Act.put, List.setIfInBounds_toArray, List.set_cons_zero, List.set_cons_succ]
    refine wpAnyT_take (i := 14) (oi := { dst := some 21, op := Op.binOp BinOp.add 3 (Operand.tmp 20) (Operand.const (Value.int IntKind.i64 1)) 3, type := 3, pos := "table.go:37", after := #[{ on := 13, ground := Ground.data }, { on := 11, ground := Ground.guard }], guard := some (11, true) }) (v := undef) rfl (by kernel_rfl) (by kernel_rfl) (by kernel_rfl) (by kernel_rfl) (fun _ _ _ h => h) (Or.inr ⟨by rfl, rfl⟩) hHeld ?_
    try simp only [Act.put, List.setIfInBounds_toArray, List.set_cons_zero, List.set_cons_succ]
    refine wpAnyT_take (i := 15) (oi := { dst := some 22, op := Op.move (Operand.tmp 2), type := 3, pos := "table.go:37", after := #[{ on := 11, ground := Ground.guard }], guard := some (11, true) }) (v := undef) rfl (by kernel_rfl) (by kernel_rfl) (by kernel_rfl) (by kernel_rfl) (fun _ _ _ h => h) (Or.inr ⟨by rfl, rfl⟩) hHeld ?_
    try simp only [Act.put, List.setIfInBounds_toArray, List.set_cons_zero, List.set_cons_succ]
    refine wpAnyT_take (i := 16) (oi := { dst := some 23, op := Op.call { callee := Callee.value (Operand.func 36), args := #[Operand.tmp 19, Operand.tmp 21, Operand.tmp 22], argTypes := #[63, 3, 3] }, type := 3, pos := "table.go:37", after := #[{ on := 12, ground := Ground.data }, { on := 14, ground := Ground.data }, { on := 15, ground := Ground.data }, { on := 11, ground := Ground.chain }, { on := 11, ground := Ground.guard }], guard := some (11, true) }) (v := undef) rfl (by kernel_rfl) (by kernel_rfl) (by kernel_rfl) (by kernel_rfl) (fun _ _ _ h => h) (Or.inr ⟨by rfl, rfl⟩) hHeld ?_
    try simp only [Act.put, List.setIfInBounds_toArray, List.set_cons_zero, List.set_cons_succ]
    refine wpAnyT_take (i := 17) (oi := { dst := some 24, op := Op.load 63 (Operand.tmp 3), type := 63, pos := "table.go:37", after := #[{ on := 11, ground := Ground.guard }], guard := some (11, true) }) (v := undef) rfl (by kernel_rfl) (by kernel_rfl) (by kernel_rfl) (by kernel_rfl) (fun _ _ _ h => h) (Or.inr ⟨by rfl, rfl⟩) hHeld ?_
    try simp only [Act.put, List.setIfInBounds_toArray, List.set_cons_zero, List.set_cons_succ]
    refine wpAnyT_take (i := 18) (oi := { dst := some 25, op := Op.move (Operand.tmp 1), type := 3, pos := "table.go:37", after := #[{ on := 11, ground := Ground.guard }], guard := some (11, true) }) (v := undef) rfl (by kernel_rfl) (by kernel_rfl) (by kernel_rfl) (by kernel_rfl) (fun _ _ _ h => h) (Or.inr ⟨by rfl, rfl⟩) hHeld ?_
    try simp only [Act.put, List.setIfInBounds_toArray, List.set_cons_zero, List.set_cons_succ]
    refine wpAnyT_take (i := 19) (oi := { dst := some 26, op := Op.move (Operand.tmp 2), type := 3, pos := "table.go:37", after := #[{ on := 11, ground := Ground.guard }], guard := some (11, true) }) (v := undef) rfl (by kernel_rfl) (by kernel_rfl) (by kernel_rfl) (by kernel_rfl) (fun _ _ _ h => h) (Or.inr ⟨by rfl, rfl⟩) hHeld ?_
    try simp only [Act.put, List.setIfInBounds_toArray, List.set_cons_zero, List.set_cons_succ]
    refine wpAnyT_take (i := 20) (oi := { dst := some 27, op := Op.binOp BinOp.add 3 (Operand.tmp 26) (Operand.const (Value.int IntKind.i64 1)) 3, type := 3, pos := "table.go:37", after := #[{ on := 19, ground := Ground.data }, { on := 11, ground := Ground.guard }], guard := some (11, true) }) (v := undef) rfl (by kernel_rfl) (by kernel_rfl) (by kernel_rfl) (by kernel_rfl) (fun _ _ _ h => h) (Or.inr ⟨by rfl, rfl⟩) hHeld ?_
    try simp only [Act.put, List.setIfInBounds_toArray, List.set_cons_zero, List.set_cons_succ]
    refine wpAnyT_take (i := 21) (oi := { dst := some 28, op := Op.call { callee := Callee.value (Operand.func 36), args := #[Operand.tmp 24, Operand.tmp 25, Operand.tmp 27], argTypes := #[63, 3, 3] }, type := 3, pos := "table.go:37", after := #[{ on := 17, ground := Ground.data }, { on := 18, ground := Ground.data }, { on := 20, ground := Ground.data }, { on := 16, ground := Ground.chain }, { on := 11, ground := Ground.guard }], guard := some (11, true) }) (v := undef) rfl (by kernel_rfl) (by kernel_rfl) (by kernel_rfl) (by kernel_rfl) (fun _ _ _ h => h) (Or.inr ⟨by rfl, rfl⟩) hHeld ?_
    try simp only [Act.put, List.setIfInBounds_toArray, List.set_cons_zero, List.set_cons_succ]
    refine wpAnyT_take (i := 22) (oi := { dst := some 29, op := Op.binOp BinOp.geq 3 (Operand.tmp 23) (Operand.tmp 28) 3, type := 4, pos := "table.go:37", after := #[{ on := 16, ground := Ground.data }, { on := 21, ground := Ground.data }, { on := 11, ground := Ground.guard }], guard := some (11, true) }) (v := undef) rfl (by kernel_rfl) (by kernel_rfl) (by kernel_rfl) (by kernel_rfl) (fun _ _ _ h => h) (Or.inr ⟨by rfl, rfl⟩) hHeld ?_
    try simp only [Act.put, List.setIfInBounds_toArray, List.set_cons_zero, List.set_cons_succ]
    refine wpAnyT_take (i := 23) (oi := { dst := some 30, op := Op.pick (Operand.tmp 18) (Operand.tmp 29) (Operand.const (Value.bool false)), type := 4, pos := "table.go:37", after := #[{ on := 11, ground := Ground.data }, { on := 22, ground := Ground.data }, { on := 5, ground := Ground.guard }], guard := some (5, false) }) (v := undef) rfl (by kernel_rfl) (by kernel_rfl) (by kernel_rfl) (by kernel_rfl) (fun _ _ _ h => h) (Or.inr ⟨by rfl, rfl⟩) hHeld ?_
    try simp only [Act.put, List.setIfInBounds_toArray, List.set_cons_zero, List.set_cons_succ]
    refine wpAnyT_take (i := 24) (oi := { dst := some 31, op := Op.pick (Operand.tmp 12) (Operand.const (Value.bool true)) (Operand.tmp 30), type := 4, pos := "table.go:37", after := #[{ on := 5, ground := Ground.data }, { on := 23, ground := Ground.data }], guard := none }) (v := .bool true) rfl (by kernel_rfl) (by kernel_rfl) (by kernel_rfl) (by kernel_rfl) (fun _ _ _ h => h) (Or.inl ⟨by rfl, ?_⟩) hHeld ?_
    · intro w hSw
      obtain ⟨q0, q1, q2⟩ := hSw
      first
        | rfl
        | (go_simp; done)
    try simp only [Act.put, List.setIfInBounds_toArray, List.set_cons_zero, List.set_cons_succ]
    refine wpAnyT_take (i := 25) (oi := { dst := some 6, op := Op.assign (Operand.tmp 31), type := 4, pos := "table.go:37", after := #[{ on := 24, ground := Ground.data }, { on := 21, ground := Ground.chain }, { on := 0, ground := Ground.phase }, { on := 1, ground := Ground.phase }, { on := 2, ground := Ground.phase }, { on := 3, ground := Ground.phase }, { on := 4, ground := Ground.phase }, { on := 5, ground := Ground.phase }, { on := 6, ground := Ground.phase }, { on := 7, ground := Ground.phase }, { on := 8, ground := Ground.phase }, { on := 9, ground := Ground.phase }, { on := 10, ground := Ground.phase }, { on := 11, ground := Ground.phase }, { on := 12, ground := Ground.phase }, { on := 13, ground := Ground.phase }, { on := 14, ground := Ground.phase }, { on := 15, ground := Ground.phase }, { on := 16, ground := Ground.phase }, { on := 17, ground := Ground.phase }, { on := 18, ground := Ground.phase }, { on := 19, ground := Ground.phase }, { on := 20, ground := Ground.phase }, { on := 21, ground := Ground.phase }, { on := 22, ground := Ground.phase }, { on := 23, ground := Ground.phase }, { on := 24, ground := Ground.phase }], guard := none }) (v := .bool true) rfl (by kernel_rfl) (by kernel_rfl) (by kernel_rfl) (by kernel_rfl) (fun _ _ _ h => h) (Or.inl ⟨by rfl, ?_⟩) hHeld ?_
    · intro w hSw
      obtain ⟨q0, q1, q2⟩ := hSw
      first
        | rfl
        | (go_simp; done)
    try simp only [Act.put, List.setIfInBounds_toArray, List.set_cons_zero, List.set_cons_succ]
    refine wpAnyT_done (by kernel_rfl) ?_ _
    have HB3 := hide ((unhide HB).trans (k0.mono (unhide HB).size))
    clear k0 HS
    go_wp2_with fail
    go_ret
    exact ⟨by first | rfl | (simp; done), unhide HB3⟩
  · have j1 : ((j : Int) == (y.length : Int)) = false := by simp; omega
    by_cases hi1 : i < x.length
    · have HM1 := hM (i + 1) j (by omega) hj
      have HM2 := hM i (j + 1) hi (by omega)
      have hs1 := lcs_small (y := y) (h.nx) (i + 1) j
      have hs2 := lcs_small (y := y) (h.nx) i (j + 1)
      have hv : dropB x y i j = decide ((lcs (x.drop i) (y.drop (j + 1)) : Int) ≤ (lcs (x.drop (i + 1)) (y.drop j) : Int)) := by
        unfold dropB
        simp [hj1, hi1]
      rw [hv]
      obtain ⟨m1, hm1⟩ : ∃ z, lcs (x.drop (i + 1)) (y.drop j) = z := ⟨_, rfl⟩
      obtain ⟨m2, hm2⟩ : ∃ z, lcs (x.drop i) (y.drop (j + 1)) = z := ⟨_, rfl⟩
      rw [hm1] at HM1 hs1 ⊢
      rw [hm2] at HM2 hs2 ⊢
      have K1 : Hid (∀ W, Below w.heap.size w W → Calls Tryd.prog 36 #[.agg #[.slice aa x.length ca, .slice ab y.length cb, vm], .int .i64 ((i : Int) + 1), .int .i64 ((j : Int))] W fun r w' => r = .returned (.int .i64 (m1 : Int)) ∧ Below W.heap.size W w') := hide (fun W (hb : Below w.heap.size w W) => by
          have h9 := kept_any ((unhide HT).call hb) (i := i + 1) (j := j) (m := m1) (by omega) (by omega) (HM1) (by omega)
          rw [show ((i + 1 : Nat) : Int) = (i : Int) + 1 by omega] at h9
          
          exact h9)
      have K2 : Hid (∀ W, Below w.heap.size w W → Calls Tryd.prog 36 #[.agg #[.slice aa x.length ca, .slice ab y.length cb, vm], .int .i64 ((i : Int)), .int .i64 ((j : Int) + 1)] W fun r w' => r = .returned (.int .i64 (m2 : Int)) ∧ Below W.heap.size W w') := hide (fun W (hb : Below w.heap.size w W) => by
          have h9 := kept_any ((unhide HT).call hb) (i := i) (j := j + 1) (m := m2) (by omega) (by omega) (HM2) (by omega)
          
          rw [show ((j + 1 : Nat) : Int) = (j : Int) + 1 by omega] at h9
          exact h9)
      rw [hna] at hi1 K1 K2 ⊢
      rw [hnb] at j1 K1 K2 ⊢
      have i1 : (i : Int) < (na : Int) := by omega
      have j1b : ((j : Int) == (nb : Int)) = false := j1
      have ji : IntKind.i64.wrap ((j : Int) + 1) = (j : Int) + 1 := by rw [IntKind.wrap_i64]; have := unhide HNB; omega
      have ii : IntKind.i64.wrap ((i : Int) + 1) = (i : Int) + 1 := by rw [IntKind.wrap_i64]; have := unhide HNA; omega
      have hb0 : Below w.heap.size w (w.alloc (.cells #[.slice aa na ca, .slice ab nb cb, vm] 63)) := (Below.refl _ _).alloc (Nat.le_refl _) _
      have hr0 := RowAt.new w 63 [.slice aa na ca, .slice ab nb cb, vm]
      have HS : Hid (∀ W, Below (w.alloc (.cells #[.slice aa na ca, .slice ab nb cb, vm] 63)).heap.size (w.alloc (.cells #[.slice aa na ca, .slice ab nb cb, vm] 63)) W → W.cell? ⟨w.heap.size, 0, none⟩ = some (.slice aa na ca) ∧ W.cell? ⟨w.heap.size, 1, none⟩ = some (.slice ab nb cb) ∧ W.cell? ⟨w.heap.size, 2, none⟩ = some vm) := hide (fun W hW => ⟨kept hW (hr0.cell 0), kept hW (hr0.cell 1), kept hW (hr0.cell 2)⟩)
      have HB := hide hb0
      clear hr0 hb0
      clear hv h hi hj hM hna hnb HM1 HM2 hm1 hm2 hj1 j1
      go_enter Tryd.func52, Tryd.ntmps52
      go_wp2_with fail
      obtain ⟨wA, hA⟩ : ∃ wA, (w.alloc (.cells #[.slice aa na ca, .slice ab nb cb, vm] 63)) = wA := ⟨_, rfl⟩
      rw [hA] at HS HB ⊢
      clear hA
      have k0 : Below wA.heap.size wA wA.drew := (Below.refl _ _).drew
      go_region_held3 (fun W => W.cell? ⟨w.heap.size, 0, none⟩ = some (.slice aa na ca) ∧ W.cell? ⟨w.heap.size, 1, none⟩ = some (.slice ab nb cb) ∧ W.cell? ⟨w.heap.size, 2, none⟩ = some vm)
        (first | exact unhide HS _ k0 | exact unhide HS _ k2 | exact unhide HS _ k1)
        (first | ((fail_if_success (have := k1)); go_at_call 36; with_reducible refine Calls.mono (unhide K1 wA.drew ((unhide HB).trans (k0.mono (unhide HB).size))) ?_; rintro e w2 ⟨rfl, b2⟩; have k1 : Below wA.heap.size wA w2 := k0.trans (b2.mono k0.size)) | (go_at_call 36; with_reducible refine Calls.mono (unhide K2 _ ((unhide HB).trans (k1.mono (unhide HB).size))) ?_; rintro e w3 ⟨rfl, b3⟩; have k2 : Below wA.heap.size wA w3 := k1.trans (b3.mono k1.size)))
      have HB3 := hide ((unhide HB).trans (k2.mono (unhide HB).size))
      clear k0 k1 k2 b2 b3 HS K1 K2
      go_wp2_with fail
      go_ret
      exact ⟨by first | rfl | (simp; done), unhide HB3⟩
    · have hv : dropB x y i j = false := by unfold dropB; simp [hj1, hi1]
      rw [hv]
      rw [hna] at hi1 ⊢
      rw [hnb] at j1 ⊢
      have i1 : decide ((i : Int) < (na : Int)) = false := by simp; omega
      have i1I : ¬ (i : Int) < (na : Int) := by omega
      have i1N : ¬ i < na := by omega
      have j1N : ¬ j = nb := by have := unhide HNB; omega
      have hb0 : Below w.heap.size w (w.alloc (.cells #[.slice aa na ca, .slice ab nb cb, vm] 63)) := (Below.refl _ _).alloc (Nat.le_refl _) _
      have hr0 := RowAt.new w 63 [.slice aa na ca, .slice ab nb cb, vm]
      have HS : Hid (∀ W, Below (w.alloc (.cells #[.slice aa na ca, .slice ab nb cb, vm] 63)).heap.size (w.alloc (.cells #[.slice aa na ca, .slice ab nb cb, vm] 63)) W → W.cell? ⟨w.heap.size, 0, none⟩ = some (.slice aa na ca) ∧ W.cell? ⟨w.heap.size, 1, none⟩ = some (.slice ab nb cb) ∧ W.cell? ⟨w.heap.size, 2, none⟩ = some vm) := hide (fun W hW => ⟨kept hW (hr0.cell 0), kept hW (hr0.cell 1), kept hW (hr0.cell 2)⟩)
      have HB := hide hb0
      clear hr0 hb0
      clear hv h hi hj hM hna hnb hj1
      go_enter Tryd.func52, Tryd.ntmps52
      go_wp2_with fail
      obtain ⟨wA, hA⟩ : ∃ wA, (w.alloc (.cells #[.slice aa na ca, .slice ab nb cb, vm] 63)) = wA := ⟨_, rfl⟩
      rw [hA] at HS HB ⊢
      clear hA
      have k0 : Below wA.heap.size wA wA.drew := (Below.refl _ _).drew
      refine wp_region_T (S := fun W => W.cell? ⟨w.heap.size, 0, none⟩ = some (.slice aa na ca) ∧ W.cell? ⟨w.heap.size, 1, none⟩ = some (.slice ab nb cb) ∧ W.cell? ⟨w.heap.size, 2, none⟩ = some vm) (fun i => decide (i < 26)) (by kernel_rfl) (unhide HS _ k0) (fun hHeld => ?_)
      refine wpAnyT_take (i := 0) (oi := { dst := some 7, op := Op.move (Operand.tmp 2), type := 3, pos := "table.go:37", after := #[], guard := none }) (v := .int .i64 (j : Int)) rfl (by kernel_rfl) (by kernel_rfl) (by kernel_rfl) (by kernel_rfl) (fun _ _ _ h => h) (Or.inl ⟨by rfl, ?_⟩) hHeld ?_
      · intro w hSw
        obtain ⟨q0, q1, q2⟩ := hSw
        first
          | rfl
          | (go_simp; done)
      try simp only [Act.put, List.setIfInBounds_toArray, List.set_cons_zero, List.set_cons_succ]
      refine wpAnyT_take (i := 1) (oi := { dst := some 8, op := Op.fieldAddr 63 (Operand.tmp 3) 1, type := 0, pos := "table.go:37", after := #[], guard := none }) (v := .pointer (some ⟨w.heap.size, 1, none⟩)) rfl (by kernel_rfl) (by kernel_rfl) (by kernel_rfl) (by kernel_rfl) (fun _ _ _ h => h) (Or.inl ⟨by rfl, ?_⟩) hHeld ?_
      · intro w hSw
        obtain ⟨q0, q1, q2⟩ := hSw
        first
          | rfl
          | (go_simp; done)
      try simp only [Act.put, List.setIfInBounds_toArray, List.set_cons_zero, List.set_cons_succ]
      refine wpAnyT_take (i := 2) (oi := { dst := some 9, op := Op.load 54 (Operand.tmp 8), type := 54, pos := "table.go:37", after := #[{ on := 1, ground := Ground.data }], guard := none }) (v := .slice ab nb cb) rfl (by kernel_rfl) (by kernel_rfl) (by kernel_rfl) (by kernel_rfl) (fun _ _ _ h => h) (Or.inl ⟨by rfl, ?_⟩) hHeld ?_
      · intro w hSw
        obtain ⟨q0, q1, q2⟩ := hSw
        first
          | rfl
          | (go_simp; done)
      try simp only [Act.put, List.setIfInBounds_toArray, List.set_cons_zero, List.set_cons_succ]
      refine wpAnyT_take (i := 3) (oi := { dst := some 10, op := Op.call { callee := Callee.builtin Builtin.len, args := #[Operand.tmp 9], argTypes := #[54] }, type := 3, pos := "table.go:37", after := #[{ on := 2, ground := Ground.data }], guard := none }) (v := .int .i64 (nb : Int)) rfl (by kernel_rfl) (by kernel_rfl) (by kernel_rfl) (by kernel_rfl) (fun _ _ _ h => h) (Or.inl ⟨by rfl, ?_⟩) hHeld ?_
      · intro w hSw
        obtain ⟨q0, q1, q2⟩ := hSw
        first
          | rfl
          | (go_simp; done)
      try simp only [Act.put, List.setIfInBounds_toArray, List.set_cons_zero, List.set_cons_succ]
      refine wpAnyT_take (i := 4) (oi := { dst := some 11, op := Op.binOp BinOp.eql 3 (Operand.tmp 7) (Operand.tmp 10) 3, type := 4, pos := "table.go:37", after := #[{ on := 0, ground := Ground.data }, { on := 3, ground := Ground.data }], guard := none }) (v := .bool false) rfl (by kernel_rfl) (by kernel_rfl) (by kernel_rfl) (by kernel_rfl) (fun _ _ _ h => h) (Or.inl ⟨by rfl, ?_⟩) hHeld ?_
      · intro w hSw
        obtain ⟨q0, q1, q2⟩ := hSw
        first
          | rfl
          | (go_simp; done)
      try simp only [Act.put, List.setIfInBounds_toArray, List.set_cons_zero, List.set_cons_succ]
      refine wpAnyT_take (i := 5) (oi := { dst := some 12, op := Op.move (Operand.tmp 11), type := 4, pos := "table.go:37", after := #[{ on := 4, ground := Ground.data }], guard := none }) (v := .bool false) rfl (by kernel_rfl) (by kernel_rfl) (by kernel_rfl) (by kernel_rfl) (fun _ _ _ h => h) (Or.inl ⟨by rfl, ?_⟩) hHeld ?_
      · intro w hSw
        obtain ⟨q0, q1, q2⟩ := hSw
        first
          | rfl
          | (go_simp; done)
      try simp only [Act.put, List.setIfInBounds_toArray, List.set_cons_zero, List.set_cons_succ]
      refine wpAnyT_take (i := 6) (oi := { dst := some 13, op := Op.move (Operand.tmp 1), type := 3, pos := "table.go:37", after := #[{ on := 5, ground := Ground.guard }], guard := some (5, false) }) (v := .int .i64 (i : Int)) rfl (by kernel_rfl) (by kernel_rfl) (by kernel_rfl) (by kernel_rfl) (fun _ _ _ h => h) (Or.inl ⟨by rfl, ?_⟩) hHeld ?_
      · intro w hSw
        obtain ⟨q0, q1, q2⟩ := hSw
        first
          | rfl
          | (go_simp; done)
      try simp only [Act.put, List.setIfInBounds_toArray, List.set_cons_zero, List.set_cons_succ]
      refine wpAnyT_take (i := 7) (oi := { dst := some 14, op := Op.fieldAddr 63 (Operand.tmp 3) 0, type := 0, pos := "table.go:37", after := #[{ on := 5, ground := Ground.guard }], guard := some (5, false) }) (v := .pointer (some ⟨w.heap.size, 0, none⟩)) rfl (by kernel_rfl) (by kernel_rfl) (by kernel_rfl) (by kernel_rfl) (fun _ _ _ h => h) (Or.inl ⟨by rfl, ?_⟩) hHeld ?_
      · intro w hSw
        obtain ⟨q0, q1, q2⟩ := hSw
        first
          | rfl
          | (go_simp; done)
      try simp only [Act.put, List.setIfInBounds_toArray, List.set_cons_zero, List.set_cons_succ]
      refine wpAnyT_take (i := 8) (oi := { dst := some 15, op := Op.load 54 (Operand.tmp 14), type := 54, pos := "table.go:37", after := #[{ on := 7, ground := Ground.data }, { on := 5, ground := Ground.guard }], guard := some (5, false) }) (v := .slice aa na ca) rfl (by kernel_rfl) (by kernel_rfl) (by kernel_rfl) (by kernel_rfl) (fun _ _ _ h => h) (Or.inl ⟨by rfl, ?_⟩) hHeld ?_
      · intro w hSw
        obtain ⟨q0, q1, q2⟩ := hSw
        first
          | rfl
          | (go_simp; done)
      try simp only [Act.put, List.setIfInBounds_toArray, List.set_cons_zero, List.set_cons_succ]
      refine wpAnyT_take (i := 9) (oi := { dst := some 16, op := Op.call { callee := Callee.builtin Builtin.len, args := #[Operand.tmp 15], argTypes := #[54] }, type := 3, pos := "table.go:37", after := #[{ on := 8, ground := Ground.data }, { on := 5, ground := Ground.guard }], guard := some (5, false) }) (v := .int .i64 (na : Int)) rfl (by kernel_rfl) (by kernel_rfl) (by kernel_rfl) (by kernel_rfl) (fun _ _ _ h => h) (Or.inl ⟨by rfl, ?_⟩) hHeld ?_
      · intro w hSw
        obtain ⟨q0, q1, q2⟩ := hSw
        first
          | rfl
          | (go_simp; done)
      try simp only [Act.put, List.setIfInBounds_toArray, List.set_cons_zero, List.set_cons_succ]
      refine wpAnyT_take (i := 10) (oi := { dst := some 17, op := Op.binOp BinOp.lss 3 (Operand.tmp 13) (Operand.tmp 16) 3, type := 4, pos := "table.go:37", after := #[{ on := 6, ground := Ground.data }, { on := 9, ground := Ground.data }, { on := 5, ground := Ground.guard }], guard := some (5, false) }) (v := .bool false) rfl (by kernel_rfl) (by kernel_rfl) (by kernel_rfl) (by kernel_rfl) (fun _ _ _ h => h) (Or.inl ⟨by rfl, ?_⟩) hHeld ?_
      · intro w hSw
        obtain ⟨q0, q1, q2⟩ := hSw
        first
          | rfl
          | (go_simp; done)
      try simp only [Act.put, List.setIfInBounds_toArray, List.set_cons_zero, List.set_cons_succ]
      refine wpAnyT_take (i := 11) (oi := { dst := some 18, op := Op.move (Operand.tmp 17), type := 4, pos := "table.go:37", after := #[{ on := 10, ground := Ground.data }, { on := 5, ground := Ground.chain }, { on := 5, ground := Ground.guard }], guard := some (5, false) }) (v := .bool false) rfl (by kernel_rfl) (by kernel_rfl) (by kernel_rfl) (by kernel_rfl) (fun _ _ _ h => h) (Or.inl ⟨by rfl, ?_⟩) hHeld ?_
      · intro w hSw
        obtain ⟨q0, q1, q2⟩ := hSw
        first
          | rfl
          | (go_simp; done)
      try simp only [Act.put, List.setIfInBounds_toArray, List.set_cons_zero, List.set_cons_succ]
      refine wpAnyT_take (i := 12) (oi := { dst := some 19, op := Op.load 63 (Operand.tmp 3), type := 63, pos := "table.go:37", after := #[{ on := 11, ground := Ground.guard }], guard := some (11, true) }) (v := undef) rfl (by kernel_rfl) (by kernel_rfl) (by kernel_rfl) (by kernel_rfl) (fun _ _ _ h => h) (Or.inr ⟨by rfl, rfl⟩) hHeld ?_
      try simp only [Act.put, List.setIfInBounds_toArray, List.set_cons_zero, List.set_cons_succ]
      refine wpAnyT_take (i := 13) (oi := { dst := some 20, op := Op.move (Operand.tmp 1), type := 3, pos := "table.go:37", after := #[{ on := 11, ground := Ground.guard }], guard := some (11, true) }) (v := undef) rfl (by kernel_rfl) (by kernel_rfl) (by kernel_rfl) (by kernel_rfl) (fun _ _ _ h => h) (Or.inr ⟨by rfl, rfl⟩) hHeld ?_
      try simp only [Act.put, List.setIfInBounds_toArray, List.set_cons_zero, List.set_cons_succ]
      refine wpAnyT_take (i := 14) (oi := { dst := some 21, op := Op.binOp BinOp.add 3 (Operand.tmp 20) (Operand.const (Value.int IntKind.i64 1)) 3, type := 3, pos := "table.go:37", after := #[{ on := 13, ground := Ground.data }, { on := 11, ground := Ground.guard }], guard := some (11, true) }) (v := undef) rfl (by kernel_rfl) (by kernel_rfl) (by kernel_rfl) (by kernel_rfl) (fun _ _ _ h => h) (Or.inr ⟨by rfl, rfl⟩) hHeld ?_
      try simp only [Act.put, List.setIfInBounds_toArray, List.set_cons_zero, List.set_cons_succ]
      refine wpAnyT_take (i := 15) (oi := { dst := some 22, op := Op.move (Operand.tmp 2), type := 3, pos := "table.go:37", after := #[{ on := 11, ground := Ground.guard }], guard := some (11, true) }) (v := undef) rfl (by kernel_rfl) (by kernel_rfl) (by kernel_rfl) (by kernel_rfl) (fun _ _ _ h => h) (Or.inr ⟨by rfl, rfl⟩) hHeld ?_
      try simp only [Act.put, List.setIfInBounds_toArray, List.set_cons_zero, List.set_cons_succ]
      refine wpAnyT_take (i := 16) (oi := { dst := some 23, op := Op.call { callee := Callee.value (Operand.func 36), args := #[Operand.tmp 19, Operand.tmp 21, Operand.tmp 22], argTypes := #[63, 3, 3] }, type := 3, pos := "table.go:37", after := #[{ on := 12, ground := Ground.data }, { on := 14, ground := Ground.data }, { on := 15, ground := Ground.data }, { on := 11, ground := Ground.chain }, { on := 11, ground := Ground.guard }], guard := some (11, true) }) (v := undef) rfl (by kernel_rfl) (by kernel_rfl) (by kernel_rfl) (by kernel_rfl) (fun _ _ _ h => h) (Or.inr ⟨by rfl, rfl⟩) hHeld ?_
      try simp only [Act.put, List.setIfInBounds_toArray, List.set_cons_zero, List.set_cons_succ]
      refine wpAnyT_take (i := 17) (oi := { dst := some 24, op := Op.load 63 (Operand.tmp 3), type := 63, pos := "table.go:37", after := #[{ on := 11, ground := Ground.guard }], guard := some (11, true) }) (v := undef) rfl (by kernel_rfl) (by kernel_rfl) (by kernel_rfl) (by kernel_rfl) (fun _ _ _ h => h) (Or.inr ⟨by rfl, rfl⟩) hHeld ?_
      try simp only [Act.put, List.setIfInBounds_toArray, List.set_cons_zero, List.set_cons_succ]
      refine wpAnyT_take (i := 18) (oi := { dst := some 25, op := Op.move (Operand.tmp 1), type := 3, pos := "table.go:37", after := #[{ on := 11, ground := Ground.guard }], guard := some (11, true) }) (v := undef) rfl (by kernel_rfl) (by kernel_rfl) (by kernel_rfl) (by kernel_rfl) (fun _ _ _ h => h) (Or.inr ⟨by rfl, rfl⟩) hHeld ?_
      try simp only [Act.put, List.setIfInBounds_toArray, List.set_cons_zero, List.set_cons_succ]
      refine wpAnyT_take (i := 19) (oi := { dst := some 26, op := Op.move (Operand.tmp 2), type := 3, pos := "table.go:37", after := #[{ on := 11, ground := Ground.guard }], guard := some (11, true) }) (v := undef) rfl (by kernel_rfl) (by kernel_rfl) (by kernel_rfl) (by kernel_rfl) (fun _ _ _ h => h) (Or.inr ⟨by rfl, rfl⟩) hHeld ?_
      try simp only [Act.put, List.setIfInBounds_toArray, List.set_cons_zero, List.set_cons_succ]
      refine wpAnyT_take (i := 20) (oi := { dst := some 27, op := Op.binOp BinOp.add 3 (Operand.tmp 26) (Operand.const (Value.int IntKind.i64 1)) 3, type := 3, pos := "table.go:37", after := #[{ on := 19, ground := Ground.data }, { on := 11, ground := Ground.guard }], guard := some (11, true) }) (v := undef) rfl (by kernel_rfl) (by kernel_rfl) (by kernel_rfl) (by kernel_rfl) (fun _ _ _ h => h) (Or.inr ⟨by rfl, rfl⟩) hHeld ?_
      try simp only [Act.put, List.setIfInBounds_toArray, List.set_cons_zero, List.set_cons_succ]
      refine wpAnyT_take (i := 21) (oi := { dst := some 28, op := Op.call { callee := Callee.value (Operand.func 36), args := #[Operand.tmp 24, Operand.tmp 25, Operand.tmp 27], argTypes := #[63, 3, 3] }, type := 3, pos := "table.go:37", after := #[{ on := 17, ground := Ground.data }, { on := 18, ground := Ground.data }, { on := 20, ground := Ground.data }, { on := 16, ground := Ground.chain }, { on := 11, ground := Ground.guard }], guard := some (11, true) }) (v := undef) rfl (by kernel_rfl) (by kernel_rfl) (by kernel_rfl) (by kernel_rfl) (fun _ _ _ h => h) (Or.inr ⟨by rfl, rfl⟩) hHeld ?_
      try simp only [Act.put, List.setIfInBounds_toArray, List.set_cons_zero, List.set_cons_succ]
      refine wpAnyT_take (i := 22) (oi := { dst := some 29, op := Op.binOp BinOp.geq 3 (Operand.tmp 23) (Operand.tmp 28) 3, type := 4, pos := "table.go:37", after := #[{ on := 16, ground := Ground.data }, { on := 21, ground := Ground.data }, { on := 11, ground := Ground.guard }], guard := some (11, true) }) (v := undef) rfl (by kernel_rfl) (by kernel_rfl) (by kernel_rfl) (by kernel_rfl) (fun _ _ _ h => h) (Or.inr ⟨by rfl, rfl⟩) hHeld ?_
      try simp only [Act.put, List.setIfInBounds_toArray, List.set_cons_zero, List.set_cons_succ]
      refine wpAnyT_take (i := 23) (oi := { dst := some 30, op := Op.pick (Operand.tmp 18) (Operand.tmp 29) (Operand.const (Value.bool false)), type := 4, pos := "table.go:37", after := #[{ on := 11, ground := Ground.data }, { on := 22, ground := Ground.data }, { on := 5, ground := Ground.guard }], guard := some (5, false) }) (v := .bool false) rfl (by kernel_rfl) (by kernel_rfl) (by kernel_rfl) (by kernel_rfl) (fun _ _ _ h => h) (Or.inl ⟨by rfl, ?_⟩) hHeld ?_
      · intro w hSw
        obtain ⟨q0, q1, q2⟩ := hSw
        first
          | rfl
          | (go_simp; done)
      try simp only [Act.put, List.setIfInBounds_toArray, List.set_cons_zero, List.set_cons_succ]
      refine wpAnyT_take (i := 24) (oi := { dst := some 31, op := Op.pick (Operand.tmp 12) (Operand.const (Value.bool true)) (Operand.tmp 30), type := 4, pos := "table.go:37", after := #[{ on := 5, ground := Ground.data }, { on := 23, ground := Ground.data }], guard := none }) (v := .bool false) rfl (by kernel_rfl) (by kernel_rfl) (by kernel_rfl) (by kernel_rfl) (fun _ _ _ h => h) (Or.inl ⟨by rfl, ?_⟩) hHeld ?_
      · intro w hSw
        obtain ⟨q0, q1, q2⟩ := hSw
        first
          | rfl
          | (go_simp; done)
      try simp only [Act.put, List.setIfInBounds_toArray, List.set_cons_zero, List.set_cons_succ]
      refine wpAnyT_take (i := 25) (oi := { dst := some 6, op := Op.assign (Operand.tmp 31), type := 4, pos := "table.go:37", after := #[{ on := 24, ground := Ground.data }, { on := 21, ground := Ground.chain }, { on := 0, ground := Ground.phase }, { on := 1, ground := Ground.phase }, { on := 2, ground := Ground.phase }, { on := 3, ground := Ground.phase }, { on := 4, ground := Ground.phase }, { on := 5, ground := Ground.phase }, { on := 6, ground := Ground.phase }, { on := 7, ground := Ground.phase }, { on := 8, ground := Ground.phase }, { on := 9, ground := Ground.phase }, { on := 10, ground := Ground.phase }, { on := 11, ground := Ground.phase }, { on := 12, ground := Ground.phase }, { on := 13, ground := Ground.phase }, { on := 14, ground := Ground.phase }, { on := 15, ground := Ground.phase }, { on := 16, ground := Ground.phase }, { on := 17, ground := Ground.phase }, { on := 18, ground := Ground.phase }, { on := 19, ground := Ground.phase }, { on := 20, ground := Ground.phase }, { on := 21, ground := Ground.phase }, { on := 22, ground := Ground.phase }, { on := 23, ground := Ground.phase }, { on := 24, ground := Ground.phase }], guard := none }) (v := .bool false) rfl (by kernel_rfl) (by kernel_rfl) (by kernel_rfl) (by kernel_rfl) (fun _ _ _ h => h) (Or.inl ⟨by rfl, ?_⟩) hHeld ?_
      · intro w hSw
        obtain ⟨q0, q1, q2⟩ := hSw
        first
          | rfl
          | (go_simp; done)
      try simp only [Act.put, List.setIfInBounds_toArray, List.set_cons_zero, List.set_cons_succ]
      refine wpAnyT_done (by kernel_rfl) ?_ _
      have HB3 := hide ((unhide HB).trans (k0.mono (unhide HB).size))
      clear k0 HS
      go_wp2_with fail
      go_ret
      exact ⟨by first | rfl | (simp; done), unhide HB3⟩
def bestN (x y : List CP) (i j : Nat) : Nat := lcs (x.drop i) (y.drop j)
theorem best_eq {x y : List CP} {i j : Nat} {c : CP} (hx : x[i]? = some c) (hy : y[j]? = some c) : lcs (x.drop i) (y.drop j) = lcs (x.drop (i + 1)) (y.drop (j + 1)) + 1 := by
  obtain ⟨h1, e1⟩ := List.getElem?_eq_some_iff.1 hx
  obtain ⟨h2, e2⟩ := List.getElem?_eq_some_iff.1 hy
  rw [List.drop_eq_getElem_cons h1, List.drop_eq_getElem_cons h2, e1, e2, lcs_eq]
theorem best_ne {x y : List CP} {i j : Nat} {c d : CP} (hx : x[i]? = some c) (hy : y[j]? = some d) (h : c ≠ d) : lcs (x.drop i) (y.drop j) = max (lcs (x.drop (i + 1)) (y.drop j)) (lcs (x.drop i) (y.drop (j + 1))) := by
  obtain ⟨h1, e1⟩ := List.getElem?_eq_some_iff.1 hx
  obtain ⟨h2, e2⟩ := List.getElem?_eq_some_iff.1 hy
  have k1 := List.drop_eq_getElem_cons h1
  have k2 := List.drop_eq_getElem_cons h2
  rw [e1] at k1
  rw [e2] at k2
  rw [k1, k2, lcs_ne h, ← k1, ← k2]
set_option maxRecDepth 100000 in
set_option maxHeartbeats 4000000 in
theorem best_any {w : World} {Ba Bb Bm : Nat} {va vb vm : Value} {x y : List CP} {M : List Nat} (h : Tb w Ba Bb Bm va vb vm x y M) {i j : Nat} (hi : i < x.length) (hj : j < y.length) (h11 : M[(i + 1) * (y.length + 1) + (j + 1)]? = some (lcs (x.drop (i + 1)) (y.drop (j + 1)))) (h10 : M[(i + 1) * (y.length + 1) + j]? = some (lcs (x.drop (i + 1)) (y.drop j))) (h01 : M[i * (y.length + 1) + (j + 1)]? = some (lcs (x.drop i) (y.drop (j + 1)))) :
    Calls Tryd.prog 56 #[.agg #[va, vb, vm], .int .i64 (i : Int), .int .i64 (j : Int)] w fun r w' => r = .returned (.int .u16 (bestN x y i j : Int)) ∧ Below w.heap.size w w' := by
  obtain ⟨aa, ca, ab, cb, gm, cm, rfl, rfl, hvm, hca, hca2, hcb, hcb2, hcm, hcm2⟩ := h.parts
  have hnx := h.nx
  have hny := h.ny
  have HT := hide h
  subst hvm
  obtain ⟨na, hna⟩ : ∃ z, x.length = z := ⟨_, rfl⟩
  obtain ⟨nb, hnb⟩ : ∃ z, y.length = z := ⟨_, rfl⟩
  have HNA := hide hna
  have HNB := hide hnb
  obtain ⟨c, hc⟩ : ∃ c, x[i]? = some c := ⟨_, List.getElem?_eq_getElem hi⟩
  obtain ⟨d, hd⟩ : ∃ d, y[j]? = some d := ⟨_, List.getElem?_eq_getElem hj⟩
  have hrn := rn_eq (h.cx _ (List.mem_of_getElem? hc)) (h.cy _ (List.mem_of_getElem? hd))
  obtain ⟨ga, c1, e, hca1, _⟩ := own_rd h.a (rnv_at hc)
  injection e with e1 e2 e3
  clear e2
  subst e1 e3
  obtain ⟨gb, c2, e, hcb1, _⟩ := own_rd h.b (rnv_at hd)
  injection e with e1 e2 e3
  clear e2
  subst e1 e3
  obtain ⟨p, hp⟩ : ∃ z : Int, (rn c : Int) = z := ⟨_, rfl⟩
  obtain ⟨q, hq⟩ : ∃ z : Int, (rn d : Int) = z := ⟨_, rfl⟩
  rw [hp] at hca1 hrn
  rw [hq] at hcb1 hrn
  have s11 := lcs_small (y := y) h.nx (i + 1) (j + 1)
  have s10 := lcs_small (y := y) h.nx (i + 1) j
  have s01 := lcs_small (y := y) h.nx i (j + 1)
  have l11 := (List.getElem?_eq_some_iff.1 h11).1
  have l10 := (List.getElem?_eq_some_iff.1 h10).1
  have l01 := (List.getElem?_eq_some_iff.1 h01).1
  have hm11 := h.at_ h11
  have hm10 := h.at_ h10
  have hm01 := h.at_ h01
  have ji : IntKind.i64.wrap ((j : Int) + 1) = (j : Int) + 1 := by rw [IntKind.wrap_i64]; omega
  have ii : IntKind.i64.wrap ((i : Int) + 1) = (i : Int) + 1 := by rw [IntKind.wrap_i64]; omega
  have i0 : (0 : Int) ≤ (i : Int) := by omega
  have i1 : (i : Int) < (na : Int) := by omega
  have j0 : (0 : Int) ≤ (j : Int) := by omega
  have j1 : (j : Int) < (nb : Int) := by omega
  obtain ⟨nm, hnm⟩ : ∃ z, M.length = z := ⟨_, rfl⟩
  by_cases hcd : c = d
  · subst hcd
    have hv : bestN x y i j = lcs (x.drop (i + 1)) (y.drop (j + 1)) + 1 := best_eq hc hd
    rw [hv]
    rw [show decide (c = c) = true by simp] at hrn
    obtain ⟨m1, hm1⟩ : ∃ z, lcs (x.drop (i + 1)) (y.drop (j + 1)) = z := ⟨_, rfl⟩
    rw [hm1] at hm11 s11 ⊢
    obtain ⟨P1, hP1⟩ : ∃ z, (i + 1) * (y.length + 1) + (j + 1) = z := ⟨_, rfl⟩
    rw [hP1] at hm11 l11
    rw [hnb] at hP1
    rw [hna] at hca hnx ⊢
    rw [hnb] at hcb hny ⊢
    rw [hnm] at l11 ⊢
    have hcm1 := hm11
    have K1 : Hid (∀ W, Calls Tryd.prog 57 #[.agg #[.slice (some ⟨ga, 0, none⟩) na ca, .slice (some ⟨gb, 0, none⟩) nb cb, .slice (some ⟨gm, 0, none⟩) nm cm], .int .i64 ((i : Int) + 1), .int .i64 ((j : Int) + 1)] W fun r w' => r = .returned (.int .i64 (P1 : Int)) ∧ Below W.heap.size W w') := hide (fun W => by
        have h9 := place_any (.slice (some ⟨ga, 0, none⟩) na ca) (.slice (some ⟨gm, 0, none⟩) nm cm) (some ⟨gb, 0, none⟩) nb cb (i + 1) (j + 1) W (by have := unhide HNA; omega) (by have := unhide HNB; omega) hny
        rw [hP1] at h9
        rw [show ((i + 1 : Nat) : Int) = (i : Int) + 1 by omega] at h9
        rw [show ((j + 1 : Nat) : Int) = (j : Int) + 1 by omega] at h9
        exact h9)
    have P0 : (0 : Int) ≤ (P1 : Int) := by omega
    have P2 : (P1 : Int) < (nm : Int) := by omega
    have hu : IntKind.u16.wrap ((m1 : Int) + 1) = (m1 : Int) + 1 := by unfold IntKind.wrap; simp [IntKind.signed, IntKind.bits]; omega
    have hb0 : Below w.heap.size w (w.alloc (.cells #[.slice (some ⟨ga, 0, none⟩) na ca, .slice (some ⟨gb, 0, none⟩) nb cb, .slice (some ⟨gm, 0, none⟩) nm cm] 63)) := (Below.refl _ _).alloc (Nat.le_refl _) _
    have hr0 := RowAt.new w 63 [.slice (some ⟨ga, 0, none⟩) na ca, .slice (some ⟨gb, 0, none⟩) nb cb, .slice (some ⟨gm, 0, none⟩) nm cm]
    have HS : Hid (∀ W, Below (w.alloc (.cells #[.slice (some ⟨ga, 0, none⟩) na ca, .slice (some ⟨gb, 0, none⟩) nb cb, .slice (some ⟨gm, 0, none⟩) nm cm] 63)).heap.size (w.alloc (.cells #[.slice (some ⟨ga, 0, none⟩) na ca, .slice (some ⟨gb, 0, none⟩) nb cb, .slice (some ⟨gm, 0, none⟩) nm cm] 63)) W → W.cell? ⟨w.heap.size, 0, none⟩ = some (.slice (some ⟨ga, 0, none⟩) na ca) ∧ W.cell? ⟨w.heap.size, 1, none⟩ = some (.slice (some ⟨gb, 0, none⟩) nb cb) ∧ W.cell? ⟨w.heap.size, 2, none⟩ = some (.slice (some ⟨gm, 0, none⟩) nm cm) ∧ W.cell? ⟨gm, P1, none⟩ = some (.int .u16 (m1 : Int))) := hide (fun W hW => ⟨kept hW (hr0.cell 0), kept hW (hr0.cell 1), kept hW (hr0.cell 2), kept hW (kept hb0 hcm1)⟩)
    have HB := hide hb0
    have hca2 := kept hb0 hca1
    have hcb2 := kept hb0 hcb1
    clear hr0 hb0 hca1 hcb1
    clear hv h hi hj hc hd hp hq hna hnb hnm h11 h10 h01 l10 l01 hm11 hm10 hm01 hm1 hP1 hcm1 HT l11 s10 s01
    go_enter Tryd.func56, Tryd.ntmps56
    go_wp2_with fail
    obtain ⟨wA, hA⟩ : ∃ wA, (w.alloc (.cells #[.slice (some ⟨ga, 0, none⟩) na ca, .slice (some ⟨gb, 0, none⟩) nb cb, .slice (some ⟨gm, 0, none⟩) nm cm] 63)) = wA := ⟨_, rfl⟩
    rw [hA] at HS HB hca2 hcb2 ⊢
    clear hA
    have HA1 := unhide HS _ (Below.refl _ _)
    obtain ⟨q0, q1, q2, HA2⟩ := HA1
    clear HA2
    go_quiet (fail)
    clear q0 q1 q2
    have k0 : Below wA.heap.size wA (wA.drewN nq) := Go.Joins.below_draws wA.heap.size wA nq
    obtain ⟨wB, hB⟩ : ∃ wB, wA.drewN nq = wB := ⟨_, rfl⟩
    rw [hB] at k0 ⊢
    clear hB
    go_wp2_with fail
    have k1 : Below wA.heap.size wA wB.drew := k0.drew
    go_region_held3 (fun W => W.cell? ⟨w.heap.size, 0, none⟩ = some (.slice (some ⟨ga, 0, none⟩) na ca) ∧ W.cell? ⟨w.heap.size, 1, none⟩ = some (.slice (some ⟨gb, 0, none⟩) nb cb) ∧ W.cell? ⟨w.heap.size, 2, none⟩ = some (.slice (some ⟨gm, 0, none⟩) nm cm) ∧ W.cell? ⟨gm, P1, none⟩ = some (.int .u16 (m1 : Int)))
      (first | exact unhide HS _ k1 | exact unhide HS _ k2)
      (first | (go_at_call 57; with_reducible refine Calls.mono (unhide K1 wB.drew) ?_; rintro e w2 ⟨rfl, b2⟩; have k2 : Below wA.heap.size wA w2 := k1.trans (b2.mono k1.size)))
    have HB3 := hide ((unhide HB).trans (k2.mono (unhide HB).size))
    clear k0 k1 k2 b2 HS K1
    go_wp2_with fail
    go_ret
    exact ⟨by first | rfl | (simp; done), unhide HB3⟩
  · have hv : bestN x y i j = max (lcs (x.drop (i + 1)) (y.drop j)) (lcs (x.drop i) (y.drop (j + 1))) := best_ne hc hd hcd
    rw [hv]
    rw [show decide (c = d) = false by simp [hcd]] at hrn
    obtain ⟨m1, hm1⟩ : ∃ z, lcs (x.drop (i + 1)) (y.drop j) = z := ⟨_, rfl⟩
    obtain ⟨m2, hm2⟩ : ∃ z, lcs (x.drop i) (y.drop (j + 1)) = z := ⟨_, rfl⟩
    rw [hm1] at hm10 s10 ⊢
    rw [hm2] at hm01 s01 ⊢
    obtain ⟨P1, hP1⟩ : ∃ z, (i + 1) * (y.length + 1) + j = z := ⟨_, rfl⟩
    obtain ⟨P2, hP2⟩ : ∃ z, i * (y.length + 1) + (j + 1) = z := ⟨_, rfl⟩
    rw [hP1] at hm10 l10
    rw [hP2] at hm01 l01
    rw [hnb] at hP1 hP2
    rw [hna] at hca hnx ⊢
    rw [hnb] at hcb hny ⊢
    rw [hnm] at l10 l01 ⊢
    have hcm1 := hm10
    have hcm2 := hm01
    have K1 : Hid (∀ W, Calls Tryd.prog 57 #[.agg #[.slice (some ⟨ga, 0, none⟩) na ca, .slice (some ⟨gb, 0, none⟩) nb cb, .slice (some ⟨gm, 0, none⟩) nm cm], .int .i64 ((i : Int) + 1), .int .i64 ((j : Int))] W fun r w' => r = .returned (.int .i64 (P1 : Int)) ∧ Below W.heap.size W w') := hide (fun W => by
        have h9 := place_any (.slice (some ⟨ga, 0, none⟩) na ca) (.slice (some ⟨gm, 0, none⟩) nm cm) (some ⟨gb, 0, none⟩) nb cb (i + 1) j W (by have := unhide HNA; omega) (by have := unhide HNB; omega) hny
        rw [hP1] at h9
        rw [show ((i + 1 : Nat) : Int) = (i : Int) + 1 by omega] at h9
        
        exact h9)
    have K2 : Hid (∀ W, Calls Tryd.prog 57 #[.agg #[.slice (some ⟨ga, 0, none⟩) na ca, .slice (some ⟨gb, 0, none⟩) nb cb, .slice (some ⟨gm, 0, none⟩) nm cm], .int .i64 ((i : Int)), .int .i64 ((j : Int) + 1)] W fun r w' => r = .returned (.int .i64 (P2 : Int)) ∧ Below W.heap.size W w') := hide (fun W => by
        have h9 := place_any (.slice (some ⟨ga, 0, none⟩) na ca) (.slice (some ⟨gm, 0, none⟩) nm cm) (some ⟨gb, 0, none⟩) nb cb i (j + 1) W (by have := unhide HNA; omega) (by have := unhide HNB; omega) hny
        rw [hP2] at h9
        
        rw [show ((j + 1 : Nat) : Int) = (j : Int) + 1 by omega] at h9
        exact h9)
    have P10 : (0 : Int) ≤ (P1 : Int) := by omega
    have P11 : (P1 : Int) < (nm : Int) := by omega
    have P20 : (0 : Int) ≤ (P2 : Int) := by omega
    have P21 : (P2 : Int) < (nm : Int) := by omega
    have hb0 : Below w.heap.size w (w.alloc (.cells #[.slice (some ⟨ga, 0, none⟩) na ca, .slice (some ⟨gb, 0, none⟩) nb cb, .slice (some ⟨gm, 0, none⟩) nm cm] 63)) := (Below.refl _ _).alloc (Nat.le_refl _) _
    have hr0 := RowAt.new w 63 [.slice (some ⟨ga, 0, none⟩) na ca, .slice (some ⟨gb, 0, none⟩) nb cb, .slice (some ⟨gm, 0, none⟩) nm cm]
    have HS : Hid (∀ W, Below (w.alloc (.cells #[.slice (some ⟨ga, 0, none⟩) na ca, .slice (some ⟨gb, 0, none⟩) nb cb, .slice (some ⟨gm, 0, none⟩) nm cm] 63)).heap.size (w.alloc (.cells #[.slice (some ⟨ga, 0, none⟩) na ca, .slice (some ⟨gb, 0, none⟩) nb cb, .slice (some ⟨gm, 0, none⟩) nm cm] 63)) W → W.cell? ⟨w.heap.size, 0, none⟩ = some (.slice (some ⟨ga, 0, none⟩) na ca) ∧ W.cell? ⟨w.heap.size, 1, none⟩ = some (.slice (some ⟨gb, 0, none⟩) nb cb) ∧ W.cell? ⟨w.heap.size, 2, none⟩ = some (.slice (some ⟨gm, 0, none⟩) nm cm) ∧ W.cell? ⟨gm, P1, none⟩ = some (.int .u16 (m1 : Int)) ∧ W.cell? ⟨gm, P2, none⟩ = some (.int .u16 (m2 : Int))) := hide (fun W hW => ⟨kept hW (hr0.cell 0), kept hW (hr0.cell 1), kept hW (hr0.cell 2), kept hW (kept hb0 hcm1), kept hW (kept hb0 hcm2)⟩)
    have HB := hide hb0
    have hca2 := kept hb0 hca1
    have hcb2 := kept hb0 hcb1
    clear hr0 hb0 hca1 hcb1
    clear hv h hi hj hc hd hp hq hna hnb hnm h11 h10 h01 l10 l01 hm11 hm10 hm01 hm1 hm2 hP1 hP2 hcm1 hcm2 HT l11 s11
    go_enter Tryd.func56, Tryd.ntmps56
    go_wp2_with fail
    obtain ⟨wA, hA⟩ : ∃ wA, (w.alloc (.cells #[.slice (some ⟨ga, 0, none⟩) na ca, .slice (some ⟨gb, 0, none⟩) nb cb, .slice (some ⟨gm, 0, none⟩) nm cm] 63)) = wA := ⟨_, rfl⟩
    rw [hA] at HS HB hca2 hcb2 ⊢
    clear hA
    have HA1 := unhide HS _ (Below.refl _ _)
    obtain ⟨q0, q1, q2, HA2⟩ := HA1
    clear HA2
    go_quiet (fail)
    clear q0 q1 q2
    have k0 : Below wA.heap.size wA (wA.drewN nq) := Go.Joins.below_draws wA.heap.size wA nq
    obtain ⟨wB, hB⟩ : ∃ wB, wA.drewN nq = wB := ⟨_, rfl⟩
    rw [hB] at k0 ⊢
    clear hB
    go_wp2_with fail
    have k1 : Below wA.heap.size wA wB.drew := k0.drew
    go_region_held3 (fun W => W.cell? ⟨w.heap.size, 0, none⟩ = some (.slice (some ⟨ga, 0, none⟩) na ca) ∧ W.cell? ⟨w.heap.size, 1, none⟩ = some (.slice (some ⟨gb, 0, none⟩) nb cb) ∧ W.cell? ⟨w.heap.size, 2, none⟩ = some (.slice (some ⟨gm, 0, none⟩) nm cm) ∧ W.cell? ⟨gm, P1, none⟩ = some (.int .u16 (m1 : Int)) ∧ W.cell? ⟨gm, P2, none⟩ = some (.int .u16 (m2 : Int)))
      (first | exact unhide HS _ k1 | exact unhide HS _ k3 | exact unhide HS _ k2)
      (first | ((fail_if_success (have := k2)); go_at_call 57; with_reducible refine Calls.mono (unhide K1 wB.drew) ?_; rintro e w2 ⟨rfl, b2⟩; have k2 : Below wA.heap.size wA w2 := k1.trans (b2.mono k1.size)) | (go_at_call 57; with_reducible refine Calls.mono (unhide K2 _) ?_; rintro e w3 ⟨rfl, b3⟩; have k3 : Below wA.heap.size wA w3 := k2.trans (b3.mono k2.size)))
    have HB3 := hide ((unhide HB).trans (k3.mono (unhide HB).size))
    clear k0 k1 k2 k3 b2 b3 HS K1 K2
    go_wp2_with fail
    go_ret
    exact ⟨by first | rfl | (simp; done) | (simp; omega), unhide HB3⟩
end Go.Proofs.YtonabfpgdgnpnaaDoor
