/- The table: same, drops, best. -/
import Derived.Test.YtonabfpgdgnpnaaDoorDKp
namespace Go.Proofs.YtonabfpgdgnpnaaDoor
set_option linter.unusedVariables false
set_option linter.unusedSimpArgs false
open Go.ChangeShapes Go.WideShapes Go.ChangeAt Go.RowKit Go.Joins Go.Deep

def sameB (x y : List CP) (i j : Nat) : Bool := match x[i]?, y[j]? with
  | some c, some d => decide (c = d)
  | _, _ => false
theorem rn_eq {c d : List UInt8} (hc : Cp c) (hd : Cp d) : ((rn c : Int) == (rn d : Int)) = decide (c = d) := by
  by_cases h : c = d
  · subst h
    simp
  · have : ¬ rn c = rn d := fun e => h (rn_inj hc hd e)
    simp only [h, decide_false]
    simp
    omega
/-- all of the table stands -/
def TF (x y : List CP) (M : List Nat) : Prop := ∀ i j, i ≤ x.length → j ≤ y.length → M[i * (y.length + 1) + j]? = some (lcs (x.drop i) (y.drop j))
theorem lcs_small {x y : List CP} (h : x.length ≤ 1024) (i j : Nat) : lcs (x.drop i) (y.drop j) ≤ 1024 := by
  have := (lcs_le _ (x.drop i) (y.drop j) (Nat.le_refl _)).1
  rw [List.length_drop] at this
  omega
set_option maxRecDepth 100000 in
set_option maxHeartbeats 4000000 in
theorem same_any {w : World} {Ba Bb Bm : Nat} {va vb vm : Value} {x y : List CP} {M : List Nat} (h : Tb w Ba Bb Bm va vb vm x y M) {i j : Nat} (hi : i ≤ x.length) (hj : j ≤ y.length) :
    Calls Tryd.prog 51 #[.agg #[va, vb, vm], .int .i64 (i : Int), .int .i64 (j : Int)] w fun r w' => r = .returned (.bool (sameB x y i j)) ∧ Below w.heap.size w w' := by
  obtain ⟨aa, ca, ab, cb, gm, cm, rfl, rfl, hvm, hca, hca2, hcb, hcb2, hcm, hcm2⟩ := h.parts
  have hnx := h.nx
  have hny := h.ny
  have HT := hide h
  have HVM := hide hvm
  clear hvm
  obtain ⟨na, hna⟩ : ∃ z, x.length = z := ⟨_, rfl⟩
  obtain ⟨nb, hnb⟩ : ∃ z, y.length = z := ⟨_, rfl⟩
  have HNA := hide hna
  have HNB := hide hnb
  by_cases hi1 : i < x.length
  · by_cases hj1 : j < y.length
    · obtain ⟨c, hc⟩ : ∃ c, x[i]? = some c := ⟨_, List.getElem?_eq_getElem hi1⟩
      obtain ⟨d, hd⟩ : ∃ d, y[j]? = some d := ⟨_, List.getElem?_eq_getElem hj1⟩
      have hv : sameB x y i j = ((rn c : Int) == (rn d : Int)) := by
        rw [rn_eq (h.cx _ (List.mem_of_getElem? hc)) (h.cy _ (List.mem_of_getElem? hd))]
        unfold sameB
        rw [hc, hd]
      rw [hv]
      obtain ⟨ga, c1, e, hca1, _⟩ := own_rd h.a (rnv_at hc)
      injection e with e1 e2 e3
      clear e2
      subst e1 e3
      obtain ⟨gb, c2, e, hcb1, _⟩ := own_rd h.b (rnv_at hd)
      injection e with e1 e2 e3
      clear e2
      subst e1 e3
      obtain ⟨p, hp⟩ : ∃ z : Int, (rn c : Int) = z := ⟨_, rfl⟩
      obtain ⟨q, hq⟩ : ∃ z : Int, (rn d : Int) = z := ⟨_, rfl⟩
      rw [hp] at hca1 ⊢
      rw [hq] at hcb1 ⊢
      rw [hna] at hca hnx hi1 ⊢
      rw [hnb] at hcb hny hj1 ⊢
      have i0 : (0 : Int) ≤ (i : Int) := by omega
      have i1 : (i : Int) < (na : Int) := by omega
      have j0 : (0 : Int) ≤ (j : Int) := by omega
      have j1 : (j : Int) < (nb : Int) := by omega
      have hb0 : Below w.heap.size w (w.alloc (.cells #[.slice (some ⟨ga, 0, none⟩) na ca, .slice (some ⟨gb, 0, none⟩) nb cb, vm] 63)) := (Below.refl _ _).alloc (Nat.le_refl _) _
      have hr0 := RowAt.new w 63 [.slice (some ⟨ga, 0, none⟩) na ca, .slice (some ⟨gb, 0, none⟩) nb cb, vm]
      have HS : Hid (∀ W, Below (w.alloc (.cells #[.slice (some ⟨ga, 0, none⟩) na ca, .slice (some ⟨gb, 0, none⟩) nb cb, vm] 63)).heap.size (w.alloc (.cells #[.slice (some ⟨ga, 0, none⟩) na ca, .slice (some ⟨gb, 0, none⟩) nb cb, vm] 63)) W → W.cell? ⟨w.heap.size, 0, none⟩ = some (.slice (some ⟨ga, 0, none⟩) na ca) ∧ W.cell? ⟨w.heap.size, 1, none⟩ = some (.slice (some ⟨gb, 0, none⟩) nb cb) ∧ W.cell? ⟨w.heap.size, 2, none⟩ = some vm) := hide (fun W hW => ⟨kept hW (hr0.cell 0), kept hW (hr0.cell 1), kept hW (hr0.cell 2)⟩)
      have HB := hide hb0
      clear hr0 hb0
      have hca2 := kept (unhide HB) hca1
      have hcb2 := kept (unhide HB) hcb1
      clear hv h hi hj hc hd hp hq hna hnb hca1 hcb1
      go_enter Tryd.func51, Tryd.ntmps51
      go_wp2_with fail
      obtain ⟨wA, hA⟩ : ∃ wA, (w.alloc (.cells #[.slice (some ⟨ga, 0, none⟩) na ca, .slice (some ⟨gb, 0, none⟩) nb cb, vm] 63)) = wA := ⟨_, rfl⟩
      rw [hA] at HS HB hca2 hcb2 ⊢
      clear hA
      have k0 : Below wA.heap.size wA wA.drew := (Below.refl _ _).drew
      obtain ⟨q0, q1, q2⟩ := unhide HS _ (Below.refl _ _)
      go_quiet (fail)
      have HB3 := hide ((unhide HB).trans ((Go.Joins.below_draws wA.heap.size wA nq).mono (unhide HB).size))
      clear k0 HS
      go_wp2_with fail
      go_ret
      exact ⟨by first | rfl | (simp; done), unhide HB3⟩
    · have hv : sameB x y i j = false := by
        unfold sameB
        rw [List.getElem?_eq_none (by omega : y.length ≤ j)]
        cases x[i]? <;> rfl
      rw [hv]
      rw [hna] at hi1 ⊢
      rw [hnb] at hj1 ⊢
      have i1 : decide ((i : Int) < (na : Int)) = true := by simp; omega
      have i1I : (i : Int) < (na : Int) := by omega
      have j1 : decide ((j : Int) < (nb : Int)) = false := by simp; omega
      have j1I : ¬ (j : Int) < (nb : Int) := by omega
      have j1N : ¬ j < nb := by omega
      have i1N : i < na := by omega
      have hb0 : Below w.heap.size w (w.alloc (.cells #[.slice aa na ca, .slice ab nb cb, vm] 63)) := (Below.refl _ _).alloc (Nat.le_refl _) _
      have hr0 := RowAt.new w 63 [.slice aa na ca, .slice ab nb cb, vm]
      have HS : Hid (∀ W, Below (w.alloc (.cells #[.slice aa na ca, .slice ab nb cb, vm] 63)).heap.size (w.alloc (.cells #[.slice aa na ca, .slice ab nb cb, vm] 63)) W → W.cell? ⟨w.heap.size, 0, none⟩ = some (.slice aa na ca) ∧ W.cell? ⟨w.heap.size, 1, none⟩ = some (.slice ab nb cb) ∧ W.cell? ⟨w.heap.size, 2, none⟩ = some vm) := hide (fun W hW => ⟨kept hW (hr0.cell 0), kept hW (hr0.cell 1), kept hW (hr0.cell 2)⟩)
      have HB := hide hb0
      clear hr0 hb0
      clear hv h hi hj hna hnb
      go_enter Tryd.func51, Tryd.ntmps51
      go_wp2_with fail
      obtain ⟨wA, hA⟩ : ∃ wA, (w.alloc (.cells #[.slice aa na ca, .slice ab nb cb, vm] 63)) = wA := ⟨_, rfl⟩
      rw [hA] at HS HB ⊢
      clear hA
      have k0 : Below wA.heap.size wA wA.drew := (Below.refl _ _).drew
      refine wp_region_T (S := fun W => W.cell? ⟨w.heap.size, 0, none⟩ = some (.slice aa na ca) ∧ W.cell? ⟨w.heap.size, 1, none⟩ = some (.slice ab nb cb) ∧ W.cell? ⟨w.heap.size, 2, none⟩ = some vm) (fun i => decide (i < 26)) (by kernel_rfl) (unhide HS _ k0) (fun hHeld => ?_)
      refine wpAnyT_take (i := 0) (oi := { dst := some 7, op := Op.move (Operand.tmp 1), type := 3, pos := "table.go:32", after := #[], guard := none }) (v := .int .i64 (i : Int)) rfl (by kernel_rfl) (by kernel_rfl) (by kernel_rfl) (by kernel_rfl) (fun _ _ _ h => h) (Or.inl ⟨by rfl, ?_⟩) hHeld ?_
      · intro w hSw
        obtain ⟨q0, q1, q2⟩ := hSw
        first
          | rfl
          | (go_simp; done)
      try simp only [Act.put, List.setIfInBounds_toArray, List.set_cons_zero, List.set_cons_succ]
      refine wpAnyT_take (i := 1) (oi := { dst := some 8, op := Op.fieldAddr 63 (Operand.tmp 3) 0, type := 0, pos := "table.go:32", after := #[], guard := none }) (v := .pointer (some ⟨w.heap.size, 0, none⟩)) rfl (by kernel_rfl) (by kernel_rfl) (by kernel_rfl) (by kernel_rfl) (fun _ _ _ h => h) (Or.inl ⟨by rfl, ?_⟩) hHeld ?_
      · intro w hSw
        obtain ⟨q0, q1, q2⟩ := hSw
        first
          | rfl
          | (go_simp; done)
      try simp only [Act.put, List.setIfInBounds_toArray, List.set_cons_zero, List.set_cons_succ]
      refine wpAnyT_take (i := 2) (oi := { dst := some 9, op := Op.load 54 (Operand.tmp 8), type := 54, pos := "table.go:32", after := #[{ on := 1, ground := Ground.data }], guard := none }) (v := .slice aa na ca) rfl (by kernel_rfl) (by kernel_rfl) (by kernel_rfl) (by kernel_rfl) (fun _ _ _ h => h) (Or.inl ⟨by rfl, ?_⟩) hHeld ?_
      · intro w hSw
        obtain ⟨q0, q1, q2⟩ := hSw
        first
          | rfl
          | (go_simp; done)
      try simp only [Act.put, List.setIfInBounds_toArray, List.set_cons_zero, List.set_cons_succ]
      refine wpAnyT_take (i := 3) (oi := { dst := some 10, op := Op.call { callee := Callee.builtin Builtin.len, args := #[Operand.tmp 9], argTypes := #[54] }, type := 3, pos := "table.go:32", after := #[{ on := 2, ground := Ground.data }], guard := none }) (v := .int .i64 (na : Int)) rfl (by kernel_rfl) (by kernel_rfl) (by kernel_rfl) (by kernel_rfl) (fun _ _ _ h => h) (Or.inl ⟨by rfl, ?_⟩) hHeld ?_
      · intro w hSw
        obtain ⟨q0, q1, q2⟩ := hSw
        first
          | rfl
          | (go_simp; done)
      try simp only [Act.put, List.setIfInBounds_toArray, List.set_cons_zero, List.set_cons_succ]
      refine wpAnyT_take (i := 4) (oi := { dst := some 11, op := Op.binOp BinOp.lss 3 (Operand.tmp 7) (Operand.tmp 10) 3, type := 4, pos := "table.go:32", after := #[{ on := 0, ground := Ground.data }, { on := 3, ground := Ground.data }], guard := none }) (v := .bool true) rfl (by kernel_rfl) (by kernel_rfl) (by kernel_rfl) (by kernel_rfl) (fun _ _ _ h => h) (Or.inl ⟨by rfl, ?_⟩) hHeld ?_
      · intro w hSw
        obtain ⟨q0, q1, q2⟩ := hSw
        first
          | rfl
          | (go_simp; done)
      try simp only [Act.put, List.setIfInBounds_toArray, List.set_cons_zero, List.set_cons_succ]
      refine wpAnyT_take (i := 5) (oi := { dst := some 12, op := Op.move (Operand.tmp 11), type := 4, pos := "table.go:32", after := #[{ on := 4, ground := Ground.data }], guard := none }) (v := .bool true) rfl (by kernel_rfl) (by kernel_rfl) (by kernel_rfl) (by kernel_rfl) (fun _ _ _ h => h) (Or.inl ⟨by rfl, ?_⟩) hHeld ?_
      · intro w hSw
        obtain ⟨q0, q1, q2⟩ := hSw
        first
          | rfl
          | (go_simp; done)
      try simp only [Act.put, List.setIfInBounds_toArray, List.set_cons_zero, List.set_cons_succ]
      refine wpAnyT_take (i := 6) (oi := { dst := some 13, op := Op.move (Operand.tmp 2), type := 3, pos := "table.go:32", after := #[{ on := 5, ground := Ground.guard }], guard := some (5, true) }) (v := .int .i64 (j : Int)) rfl (by kernel_rfl) (by kernel_rfl) (by kernel_rfl) (by kernel_rfl) (fun _ _ _ h => h) (Or.inl ⟨by rfl, ?_⟩) hHeld ?_
      · intro w hSw
        obtain ⟨q0, q1, q2⟩ := hSw
        first
          | rfl
          | (go_simp; done)
      try simp only [Act.put, List.setIfInBounds_toArray, List.set_cons_zero, List.set_cons_succ]
      refine wpAnyT_take (i := 7) (oi := { dst := some 14, op := Op.fieldAddr 63 (Operand.tmp 3) 1, type := 0, pos := "table.go:32", after := #[{ on := 5, ground := Ground.guard }], guard := some (5, true) }) (v := .pointer (some ⟨w.heap.size, 1, none⟩)) rfl (by kernel_rfl) (by kernel_rfl) (by kernel_rfl) (by kernel_rfl) (fun _ _ _ h => h) (Or.inl ⟨by rfl, ?_⟩) hHeld ?_
      · intro w hSw
        obtain ⟨q0, q1, q2⟩ := hSw
        first
          | rfl
          | (go_simp; done)
      try simp only [Act.put, List.setIfInBounds_toArray, List.set_cons_zero, List.set_cons_succ]
      refine wpAnyT_take (i := 8) (oi := { dst := some 15, op := Op.load 54 (Operand.tmp 14), type := 54, pos := "table.go:32", after := #[{ on := 7, ground := Ground.data }, { on := 5, ground := Ground.guard }], guard := some (5, true) }) (v := .slice ab nb cb) rfl (by kernel_rfl) (by kernel_rfl) (by kernel_rfl) (by kernel_rfl) (fun _ _ _ h => h) (Or.inl ⟨by rfl, ?_⟩) hHeld ?_
      · intro w hSw
        obtain ⟨q0, q1, q2⟩ := hSw
        first
          | rfl
          | (go_simp; done)
      try simp only [Act.put, List.setIfInBounds_toArray, List.set_cons_zero, List.set_cons_succ]
      refine wpAnyT_take (i := 9) (oi := { dst := some 16, op := Op.call { callee := Callee.builtin Builtin.len, args := #[Operand.tmp 15], argTypes := #[54] }, type := 3, pos := "table.go:32", after := #[{ on := 8, ground := Ground.data }, { on := 5, ground := Ground.guard }], guard := some (5, true) }) (v := .int .i64 (nb : Int)) rfl (by kernel_rfl) (by kernel_rfl) (by kernel_rfl) (by kernel_rfl) (fun _ _ _ h => h) (Or.inl ⟨by rfl, ?_⟩) hHeld ?_
      · intro w hSw
        obtain ⟨q0, q1, q2⟩ := hSw
        first
          | rfl
          | (go_simp; done)
      try simp only [Act.put, List.setIfInBounds_toArray, List.set_cons_zero, List.set_cons_succ]
      refine wpAnyT_take (i := 10) (oi := { dst := some 17, op := Op.binOp BinOp.lss 3 (Operand.tmp 13) (Operand.tmp 16) 3, type := 4, pos := "table.go:32", after := #[{ on := 6, ground := Ground.data }, { on := 9, ground := Ground.data }, { on := 5, ground := Ground.guard }], guard := some (5, true) }) (v := .bool false) rfl (by kernel_rfl) (by kernel_rfl) (by kernel_rfl) (by kernel_rfl) (fun _ _ _ h => h) (Or.inl ⟨by rfl, ?_⟩) hHeld ?_
      · intro w hSw
        obtain ⟨q0, q1, q2⟩ := hSw
        first
          | rfl
          | (go_simp; done)
      try simp only [Act.put, List.setIfInBounds_toArray, List.set_cons_zero, List.set_cons_succ]
      refine wpAnyT_take (i := 11) (oi := { dst := some 18, op := Op.pick (Operand.tmp 12) (Operand.tmp 17) (Operand.const (Value.bool false)), type := 4, pos := "table.go:32", after := #[{ on := 5, ground := Ground.data }, { on := 10, ground := Ground.data }], guard := none }) (v := .bool false) rfl (by kernel_rfl) (by kernel_rfl) (by kernel_rfl) (by kernel_rfl) (fun _ _ _ h => h) (Or.inl ⟨by rfl, ?_⟩) hHeld ?_
      · intro w hSw
        obtain ⟨q0, q1, q2⟩ := hSw
        first
          | rfl
          | (go_simp; done)
      try simp only [Act.put, List.setIfInBounds_toArray, List.set_cons_zero, List.set_cons_succ]
      refine wpAnyT_take (i := 12) (oi := { dst := some 19, op := Op.move (Operand.tmp 18), type := 4, pos := "table.go:32", after := #[{ on := 11, ground := Ground.data }, { on := 5, ground := Ground.chain }], guard := none }) (v := .bool false) rfl (by kernel_rfl) (by kernel_rfl) (by kernel_rfl) (by kernel_rfl) (fun _ _ _ h => h) (Or.inl ⟨by rfl, ?_⟩) hHeld ?_
      · intro w hSw
        obtain ⟨q0, q1, q2⟩ := hSw
        first
          | rfl
          | (go_simp; done)
      try simp only [Act.put, List.setIfInBounds_toArray, List.set_cons_zero, List.set_cons_succ]
      refine wpAnyT_take (i := 13) (oi := { dst := some 20, op := Op.fieldAddr 63 (Operand.tmp 3) 0, type := 0, pos := "table.go:32", after := #[{ on := 12, ground := Ground.guard }], guard := some (12, true) }) (v := undef) rfl (by kernel_rfl) (by kernel_rfl) (by kernel_rfl) (by kernel_rfl) (fun _ _ _ h => h) (Or.inr ⟨by rfl, rfl⟩) hHeld ?_
      try simp only [Act.put, List.setIfInBounds_toArray, List.set_cons_zero, List.set_cons_succ]
      refine wpAnyT_take (i := 14) (oi := { dst := some 21, op := Op.load 54 (Operand.tmp 20), type := 54, pos := "table.go:32", after := #[{ on := 13, ground := Ground.data }, { on := 12, ground := Ground.guard }], guard := some (12, true) }) (v := undef) rfl (by kernel_rfl) (by kernel_rfl) (by kernel_rfl) (by kernel_rfl) (fun _ _ _ h => h) (Or.inr ⟨by rfl, rfl⟩) hHeld ?_
      try simp only [Act.put, List.setIfInBounds_toArray, List.set_cons_zero, List.set_cons_succ]
      refine wpAnyT_take (i := 15) (oi := { dst := some 22, op := Op.move (Operand.tmp 1), type := 3, pos := "table.go:32", after := #[{ on := 12, ground := Ground.guard }], guard := some (12, true) }) (v := undef) rfl (by kernel_rfl) (by kernel_rfl) (by kernel_rfl) (by kernel_rfl) (fun _ _ _ h => h) (Or.inr ⟨by rfl, rfl⟩) hHeld ?_
      try simp only [Act.put, List.setIfInBounds_toArray, List.set_cons_zero, List.set_cons_succ]
      refine wpAnyT_take (i := 16) (oi := { dst := some 23, op := Op.indexAddr 54 (Operand.tmp 21) (Operand.tmp 22), type := 0, pos := "table.go:32", after := #[{ on := 14, ground := Ground.data }, { on := 15, ground := Ground.data }, { on := 12, ground := Ground.guard }], guard := some (12, true) }) (v := undef) rfl (by kernel_rfl) (by kernel_rfl) (by kernel_rfl) (by kernel_rfl) (fun _ _ _ h => h) (Or.inr ⟨by rfl, rfl⟩) hHeld ?_
      try simp only [Act.put, List.setIfInBounds_toArray, List.set_cons_zero, List.set_cons_succ]
      refine wpAnyT_take (i := 17) (oi := { dst := some 24, op := Op.load 21 (Operand.tmp 23), type := 21, pos := "table.go:32", after := #[{ on := 16, ground := Ground.data }, { on := 12, ground := Ground.guard }], guard := some (12, true) }) (v := undef) rfl (by kernel_rfl) (by kernel_rfl) (by kernel_rfl) (by kernel_rfl) (fun _ _ _ h => h) (Or.inr ⟨by rfl, rfl⟩) hHeld ?_
      try simp only [Act.put, List.setIfInBounds_toArray, List.set_cons_zero, List.set_cons_succ]
      refine wpAnyT_take (i := 18) (oi := { dst := some 25, op := Op.fieldAddr 63 (Operand.tmp 3) 1, type := 0, pos := "table.go:32", after := #[{ on := 12, ground := Ground.guard }], guard := some (12, true) }) (v := undef) rfl (by kernel_rfl) (by kernel_rfl) (by kernel_rfl) (by kernel_rfl) (fun _ _ _ h => h) (Or.inr ⟨by rfl, rfl⟩) hHeld ?_
      try simp only [Act.put, List.setIfInBounds_toArray, List.set_cons_zero, List.set_cons_succ]
      refine wpAnyT_take (i := 19) (oi := { dst := some 26, op := Op.load 54 (Operand.tmp 25), type := 54, pos := "table.go:32", after := #[{ on := 18, ground := Ground.data }, { on := 12, ground := Ground.guard }], guard := some (12, true) }) (v := undef) rfl (by kernel_rfl) (by kernel_rfl) (by kernel_rfl) (by kernel_rfl) (fun _ _ _ h => h) (Or.inr ⟨by rfl, rfl⟩) hHeld ?_
      try simp only [Act.put, List.setIfInBounds_toArray, List.set_cons_zero, List.set_cons_succ]
      refine wpAnyT_take (i := 20) (oi := { dst := some 27, op := Op.move (Operand.tmp 2), type := 3, pos := "table.go:32", after := #[{ on := 12, ground := Ground.guard }], guard := some (12, true) }) (v := undef) rfl (by kernel_rfl) (by kernel_rfl) (by kernel_rfl) (by kernel_rfl) (fun _ _ _ h => h) (Or.inr ⟨by rfl, rfl⟩) hHeld ?_
      try simp only [Act.put, List.setIfInBounds_toArray, List.set_cons_zero, List.set_cons_succ]
      refine wpAnyT_take (i := 21) (oi := { dst := some 28, op := Op.indexAddr 54 (Operand.tmp 26) (Operand.tmp 27), type := 0, pos := "table.go:32", after := #[{ on := 19, ground := Ground.data }, { on := 20, ground := Ground.data }, { on := 12, ground := Ground.guard }], guard := some (12, true) }) (v := undef) rfl (by kernel_rfl) (by kernel_rfl) (by kernel_rfl) (by kernel_rfl) (fun _ _ _ h => h) (Or.inr ⟨by rfl, rfl⟩) hHeld ?_
      try simp only [Act.put, List.setIfInBounds_toArray, List.set_cons_zero, List.set_cons_succ]
      refine wpAnyT_take (i := 22) (oi := { dst := some 29, op := Op.load 21 (Operand.tmp 28), type := 21, pos := "table.go:32", after := #[{ on := 21, ground := Ground.data }, { on := 12, ground := Ground.guard }], guard := some (12, true) }) (v := undef) rfl (by kernel_rfl) (by kernel_rfl) (by kernel_rfl) (by kernel_rfl) (fun _ _ _ h => h) (Or.inr ⟨by rfl, rfl⟩) hHeld ?_
      try simp only [Act.put, List.setIfInBounds_toArray, List.set_cons_zero, List.set_cons_succ]
      refine wpAnyT_take (i := 23) (oi := { dst := some 30, op := Op.binOp BinOp.eql 21 (Operand.tmp 24) (Operand.tmp 29) 21, type := 4, pos := "table.go:32", after := #[{ on := 17, ground := Ground.data }, { on := 22, ground := Ground.data }, { on := 12, ground := Ground.guard }], guard := some (12, true) }) (v := undef) rfl (by kernel_rfl) (by kernel_rfl) (by kernel_rfl) (by kernel_rfl) (fun _ _ _ h => h) (Or.inr ⟨by rfl, rfl⟩) hHeld ?_
      try simp only [Act.put, List.setIfInBounds_toArray, List.set_cons_zero, List.set_cons_succ]
      refine wpAnyT_take (i := 24) (oi := { dst := some 31, op := Op.pick (Operand.tmp 19) (Operand.tmp 30) (Operand.const (Value.bool false)), type := 4, pos := "table.go:32", after := #[{ on := 12, ground := Ground.data }, { on := 23, ground := Ground.data }], guard := none }) (v := .bool false) rfl (by kernel_rfl) (by kernel_rfl) (by kernel_rfl) (by kernel_rfl) (fun _ _ _ h => h) (Or.inl ⟨by rfl, ?_⟩) hHeld ?_
      · intro w hSw
        obtain ⟨q0, q1, q2⟩ := hSw
        first
          | rfl
          | (go_simp; done)
      try simp only [Act.put, List.setIfInBounds_toArray, List.set_cons_zero, List.set_cons_succ]
      refine wpAnyT_take (i := 25) (oi := { dst := some 6, op := Op.assign (Operand.tmp 31), type := 4, pos := "table.go:32", after := #[{ on := 24, ground := Ground.data }, { on := 12, ground := Ground.chain }, { on := 0, ground := Ground.phase }, { on := 1, ground := Ground.phase }, { on := 2, ground := Ground.phase }, { on := 3, ground := Ground.phase }, { on := 4, ground := Ground.phase }, { on := 5, ground := Ground.phase }, { on := 6, ground := Ground.phase }, { on := 7, ground := Ground.phase }, { on := 8, ground := Ground.phase }, { on := 9, ground := Ground.phase }, { on := 10, ground := Ground.phase }, { on := 11, ground := Ground.phase }, { on := 12, ground := Ground.phase }, { on := 13, ground := Ground.phase }, { on := 14, ground := Ground.phase }, { on := 15, ground := Ground.phase }, { on := 16, ground := Ground.phase }, { on := 17, ground := Ground.phase }, { on := 18, ground := Ground.phase }, { on := 19, ground := Ground.phase }, { on := 20, ground := Ground.phase }, { on := 21, ground := Ground.phase }, { on := 22, ground := Ground.phase }, { on := 23, ground := Ground.phase }, { on := 24, ground := Ground.phase }], guard := none }) (v := .bool false) rfl (by kernel_rfl) (by kernel_rfl) (by kernel_rfl) (by kernel_rfl) (fun _ _ _ h => h) (Or.inl ⟨by rfl, ?_⟩) hHeld ?_
      · intro w hSw
        obtain ⟨q0, q1, q2⟩ := hSw
        first
          | rfl
          | (go_simp; done)
      try simp only [Act.put, List.setIfInBounds_toArray, List.set_cons_zero, List.set_cons_succ]
      refine wpAnyT_done (by kernel_rfl) ?_ _
      have HB3 := hide ((unhide HB).trans (k0.mono (unhide HB).size))
      clear k0 HS
      go_wp2_with fail
      go_ret
      exact ⟨by first | rfl | (simp; done), unhide HB3⟩
  · have hv : sameB x y i j = false := by
      unfold sameB
      rw [List.getElem?_eq_none (by omega : x.length ≤ i)]
    rw [hv]
    rw [hna] at hi1 ⊢
    rw [hnb]
    have i1 : decide ((i : Int) < (na : Int)) = false := by simp; omega
    have i1I : ¬ (i : Int) < (na : Int) := by omega
    have i1N : ¬ i < na := by omega
    have hb0 : Below w.heap.size w (w.alloc (.cells #[.slice aa na ca, .slice ab nb cb, vm] 63)) := (Below.refl _ _).alloc (Nat.le_refl _) _
    have hr0 := RowAt.new w 63 [.slice aa na ca, .slice ab nb cb, vm]
    have HS : Hid (∀ W, Below (w.alloc (.cells #[.slice aa na ca, .slice ab nb cb, vm] 63)).heap.size (w.alloc (.cells #[.slice aa na ca, .slice ab nb cb, vm] 63)) W → W.cell? ⟨w.heap.size, 0, none⟩ = some (.slice aa na ca) ∧ W.cell? ⟨w.heap.size, 1, none⟩ = some (.slice ab nb cb) ∧ W.cell? ⟨w.heap.size, 2, none⟩ = some vm) := hide (fun W hW => ⟨kept hW (hr0.cell 0), kept hW (hr0.cell 1), kept hW (hr0.cell 2)⟩)
    have HB := hide hb0
    clear hr0 hb0
    clear hv h hi hj hna hnb
    go_enter Tryd.func51, Tryd.ntmps51
    go_wp2_with fail
    obtain ⟨wA, hA⟩ : ∃ wA, (w.alloc (.cells #[.slice aa na ca, .slice ab nb cb, vm] 63)) = wA := ⟨_, rfl⟩
    rw [hA] at HS HB ⊢
    clear hA
    have k0 : Below wA.heap.size wA wA.drew := (Below.refl _ _).drew
    refine wp_region_T (S := fun W => W.cell? ⟨w.heap.size, 0, none⟩ = some (.slice aa na ca) ∧ W.cell? ⟨w.heap.size, 1, none⟩ = some (.slice ab nb cb) ∧ W.cell? ⟨w.heap.size, 2, none⟩ = some vm) (fun i => decide (i < 26)) (by kernel_rfl) (unhide HS _ k0) (fun hHeld => ?_)
    refine wpAnyT_take (i := 0) (oi := { dst := some 7, op := Op.move (Operand.tmp 1), type := 3, pos := "table.go:32", after := #[], guard := none }) (v := .int .i64 (i : Int)) rfl (by kernel_rfl) (by kernel_rfl) (by kernel_rfl) (by kernel_rfl) (fun _ _ _ h => h) (Or.inl ⟨by rfl, ?_⟩) hHeld ?_
    · intro w hSw
      obtain ⟨q0, q1, q2⟩ := hSw
      first
        | rfl
        | (go_simp; done)
    try simp only [Act.put, List.setIfInBounds_toArray, List.set_cons_zero, List.set_cons_succ]
    refine wpAnyT_take (i := 1) (oi := { dst := some 8, op := Op.fieldAddr 63 (Operand.tmp 3) 0, type := 0, pos := "table.go:32", after := #[], guard := none }) (v := .pointer (some ⟨w.heap.size, 0, none⟩)) rfl (by kernel_rfl) (by kernel_rfl) (by kernel_rfl) (by kernel_rfl) (fun _ _ _ h => h) (Or.inl ⟨by rfl, ?_⟩) hHeld ?_
    · intro w hSw
      obtain ⟨q0, q1, q2⟩ := hSw
      first
        | rfl
        | (go_simp; done)
    try simp only [Act.put, List.setIfInBounds_toArray, List.set_cons_zero, List.set_cons_succ]
    refine wpAnyT_take (i := 2) (oi := { dst := some 9, op := Op.load 54 (Operand.tmp 8), type := 54, pos := "table.go:32", after := #[{ on := 1, ground := Ground.data }], guard := none }) (v := .slice aa na ca) rfl (by kernel_rfl) (by kernel_rfl) (by kernel_rfl) (by kernel_rfl) (fun _ _ _ h => h) (Or.inl ⟨by rfl, ?_⟩) hHeld ?_
    · intro w hSw
      obtain ⟨q0, q1, q2⟩ := hSw
      first
        | rfl
        | (go_simp; done)
    try simp only [Act.put, List.setIfInBounds_toArray, List.set_cons_zero, List.set_cons_succ]
    refine wpAnyT_take (i := 3) (oi := { dst := some 10, op := Op.call { callee := Callee.builtin Builtin.len, args := #[Operand.tmp 9], argTypes := #[54] }, type := 3, pos := "table.go:32", after := #[{ on := 2, ground := Ground.data }], guard := none }) (v := .int .i64 (na : Int)) rfl (by kernel_rfl) (by kernel_rfl) (by kernel_rfl) (by kernel_rfl) (fun _ _ _ h => h) (Or.inl ⟨by rfl, ?_⟩) hHeld ?_
    · intro w hSw
      obtain ⟨q0, q1, q2⟩ := hSw
      first
        | rfl
        | (go_simp; done)
    try simp only [Act.put, List.setIfInBounds_toArray, List.set_cons_zero, List.set_cons_succ]
    refine wpAnyT_take (i := 4) (oi := { dst := some 11, op := Op.binOp BinOp.lss 3 (Operand.tmp 7) (Operand.tmp 10) 3, type := 4, pos := "table.go:32", after := #[{ on := 0, ground := Ground.data }, { on := 3, ground := Ground.data }], guard := none }) (v := .bool false) rfl (by kernel_rfl) (by kernel_rfl) (by kernel_rfl) (by kernel_rfl) (fun _ _ _ h => h) (Or.inl ⟨by rfl, ?_⟩) hHeld ?_
    · intro w hSw
      obtain ⟨q0, q1, q2⟩ := hSw
      first
        | rfl
        | (go_simp; done)
    try simp only [Act.put, List.setIfInBounds_toArray, List.set_cons_zero, List.set_cons_succ]
    refine wpAnyT_take (i := 5) (oi := { dst := some 12, op := Op.move (Operand.tmp 11), type := 4, pos := "table.go:32", after := #[{ on := 4, ground := Ground.data }], guard := none }) (v := .bool false) rfl (by kernel_rfl) (by kernel_rfl) (by kernel_rfl) (by kernel_rfl) (fun _ _ _ h => h) (Or.inl ⟨by rfl, ?_⟩) hHeld ?_
    · intro w hSw
      obtain ⟨q0, q1, q2⟩ := hSw
      first
        | rfl
        | (go_simp; done)
    try simp only [Act.put, List.setIfInBounds_toArray, List.set_cons_zero, List.set_cons_succ]
    refine wpAnyT_take (i := 6) (oi := { dst := some 13, op := Op.move (Operand.tmp 2), type := 3, pos := "table.go:32", after := #[{ on := 5, ground := Ground.guard }], guard := some (5, true) }) (v := undef) rfl (by kernel_rfl) (by kernel_rfl) (by kernel_rfl) (by kernel_rfl) (fun _ _ _ h => h) (Or.inr ⟨by rfl, rfl⟩) hHeld ?_
    try simp only [Act.put, List.setIfInBounds_toArray, List.set_cons_zero, List.set_cons_succ]
    refine wpAnyT_take (i := 7) (oi := { dst := some 14, op := Op.fieldAddr 63 (Operand.tmp 3) 1, type := 0, pos := "table.go:32", after := #[{ on := 5, ground := Ground.guard }], guard := some (5, true) }) (v := undef) rfl (by kernel_rfl) (by kernel_rfl) (by kernel_rfl) (by kernel_rfl) (fun _ _ _ h => h) (Or.inr ⟨by rfl, rfl⟩) hHeld ?_
    try simp only [Act.put, List.setIfInBounds_toArray, List.set_cons_zero, List.set_cons_succ]
    refine wpAnyT_take (i := 8) (oi := { dst := some 15, op := Op.load 54 (Operand.tmp 14), type := 54, pos := "table.go:32", after := #[{ on := 7, ground := Ground.data }, { on := 5, ground := Ground.guard }], guard := some (5, true) }) (v := undef) rfl (by kernel_rfl) (by kernel_rfl) (by kernel_rfl) (by kernel_rfl) (fun _ _ _ h => h) (Or.inr ⟨by rfl, rfl⟩) hHeld ?_
    try simp only [Act.put, List.setIfInBounds_toArray, List.set_cons_zero, List.set_cons_succ]
    refine wpAnyT_take (i := 9) (oi := { dst := some 16, op := Op.call { callee := Callee.builtin Builtin.len, args := #[Operand.tmp 15], argTypes := #[54] }, type := 3, pos := "table.go:32", after := #[{ on := 8, ground := Ground.data }, { on := 5, ground := Ground.guard }], guard := some (5, true) }) (v := undef) rfl (by kernel_rfl) (by kernel_rfl) (by kernel_rfl) (by kernel_rfl) (fun _ _ _ h => h) (Or.inr ⟨by rfl, rfl⟩) hHeld ?_
    try simp only [Act.put, List.setIfInBounds_toArray, List.set_cons_zero, List.set_cons_succ]
    refine wpAnyT_take (i := 10) (oi := { dst := some 17, op := Op.binOp BinOp.lss 3 (Operand.tmp 13) (Operand.tmp 16) 3, type := 4, pos := "table.go:32", after := #[{ on := 6, ground := Ground.data }, { on := 9, ground := Ground.data }, { on := 5, ground := Ground.guard }], guard := some (5, true) }) (v := undef) rfl (by kernel_rfl) (by kernel_rfl) (by kernel_rfl) (by kernel_rfl) (fun _ _ _ h => h) (Or.inr ⟨by rfl, rfl⟩) hHeld ?_
    try simp only [Act.put, List.setIfInBounds_toArray, List.set_cons_zero, List.set_cons_succ]
    refine wpAnyT_take (i := 11) (oi := { dst := some 18, op := Op.pick (Operand.tmp 12) (Operand.tmp 17) (Operand.const (Value.bool false)), type := 4, pos := "table.go:32", after := #[{ on := 5, ground := Ground.data }, { on := 10, ground := Ground.data }], guard := none }) (v := .bool false) rfl (by kernel_rfl) (by kernel_rfl) (by kernel_rfl) (by kernel_rfl) (fun _ _ _ h => h) (Or.inl ⟨by rfl, ?_⟩) hHeld ?_
    · intro w hSw
      obtain ⟨q0, q1, q2⟩ := hSw
      first
        | rfl
        | (go_simp; done)
    try simp only [Act.put, List.setIfInBounds_toArray, List.set_cons_zero, List.set_cons_succ]
    refine wpAnyT_take (i := 12) (oi := { dst := some 19, op := Op.move (Operand.tmp 18), type := 4, pos := "table.go:32", after := #[{ on := 11, ground := Ground.data }, { on := 5, ground := Ground.chain }], guard := none }) (v := .bool false) rfl (by kernel_rfl) (by kernel_rfl) (by kernel_rfl) (by kernel_rfl) (fun _ _ _ h => h) (Or.inl ⟨by rfl, ?_⟩) hHeld ?_
    · intro w hSw
      obtain ⟨q0, q1, q2⟩ := hSw
      first
        | rfl
        | (go_simp; done)
    try simp only [Act.put, List.setIfInBounds_toArray, List.set_cons_zero, List.set_cons_succ]
    refine wpAnyT_take (i := 13) (oi := { dst := some 20, op := Op.fieldAddr 63 (Operand.tmp 3) 0, type := 0, pos := "table.go:32", after := #[{ on := 12, ground := Ground.guard }], guard := some (12, true) }) (v := undef) rfl (by kernel_rfl) (by kernel_rfl) (by kernel_rfl) (by kernel_rfl) (fun _ _ _ h => h) (Or.inr ⟨by rfl, rfl⟩) hHeld ?_
    try simp only [Act.put, List.setIfInBounds_toArray, List.set_cons_zero, List.set_cons_succ]
    refine wpAnyT_take (i := 14) (oi := { dst := some 21, op := Op.load 54 (Operand.tmp 20), type := 54, pos := "table.go:32", after := #[{ on := 13, ground := Ground.data }, { on := 12, ground := Ground.guard }], guard := some (12, true) }) (v := undef) rfl (by kernel_rfl) (by kernel_rfl) (by kernel_rfl) (by kernel_rfl) (fun _ _ _ h => h) (Or.inr ⟨by rfl, rfl⟩) hHeld ?_
    try simp only [Act.put, List.setIfInBounds_toArray, List.set_cons_zero, List.set_cons_succ]
    refine wpAnyT_take (i := 15) (oi := { dst := some 22, op := Op.move (Operand.tmp 1), type := 3, pos := "table.go:32", after := #[{ on := 12, ground := Ground.guard }], guard := some (12, true) }) (v := undef) rfl (by kernel_rfl) (by kernel_rfl) (by kernel_rfl) (by kernel_rfl) (fun _ _ _ h => h) (Or.inr ⟨by rfl, rfl⟩) hHeld ?_
    try simp only [Act.put, List.setIfInBounds_toArray, List.set_cons_zero, List.set_cons_succ]
    refine wpAnyT_take (i := 16) (oi := { dst := some 23, op := Op.indexAddr 54 (Operand.tmp 21) (Operand.tmp 22), type := 0, pos := "table.go:32", after := #[{ on := 14, ground := Ground.data }, { on := 15, ground := Ground.data }, { on := 12, ground := Ground.guard }], guard := some (12, true) }) (v := undef) rfl (by kernel_rfl) (by kernel_rfl) (by kernel_rfl) (by kernel_rfl) (fun _ _ _ h => h) (Or.inr ⟨by rfl, rfl⟩) hHeld ?_
    try simp only [Act.put, List.setIfInBounds_toArray, List.set_cons_zero, List.set_cons_succ]
    refine wpAnyT_take (i := 17) (oi := { dst := some 24, op := Op.load 21 (Operand.tmp 23), type := 21, pos := "table.go:32", after := #[{ on := 16, ground := Ground.data }, { on := 12, ground := Ground.guard }], guard := some (12, true) }) (v := undef) rfl (by kernel_rfl) (by kernel_rfl) (by kernel_rfl) (by kernel_rfl) (fun _ _ _ h => h) (Or.inr ⟨by rfl, rfl⟩) hHeld ?_
    try simp only [Act.put, List.setIfInBounds_toArray, List.set_cons_zero, List.set_cons_succ]
    refine wpAnyT_take (i := 18) (oi := { dst := some 25, op := Op.fieldAddr 63 (Operand.tmp 3) 1, type := 0, pos := "table.go:32", after := #[{ on := 12, ground := Ground.guard }], guard := some (12, true) }) (v := undef) rfl (by kernel_rfl) (by kernel_rfl) (by kernel_rfl) (by kernel_rfl) (fun _ _ _ h => h) (Or.inr ⟨by rfl, rfl⟩) hHeld ?_
    try simp only [Act.put, List.setIfInBounds_toArray, List.set_cons_zero, List.set_cons_succ]
    refine wpAnyT_take (i := 19) (oi := { dst := some 26, op := Op.load 54 (Operand.tmp 25), type := 54, pos := "table.go:32", after := #[{ on := 18, ground := Ground.data }, { on := 12, ground := Ground.guard }], guard := some (12, true) }) (v := undef) rfl (by kernel_rfl) (by kernel_rfl) (by kernel_rfl) (by kernel_rfl) (fun _ _ _ h => h) (Or.inr ⟨by rfl, rfl⟩) hHeld ?_
    try simp only [Act.put, List.setIfInBounds_toArray, List.set_cons_zero, List.set_cons_succ]
    refine wpAnyT_take (i := 20) (oi := { dst := some 27, op := Op.move (Operand.tmp 2), type := 3, pos := "table.go:32", after := #[{ on := 12, ground := Ground.guard }], guard := some (12, true) }) (v := undef) rfl (by kernel_rfl) (by kernel_rfl) (by kernel_rfl) (by kernel_rfl) (fun _ _ _ h => h) (Or.inr ⟨by rfl, rfl⟩) hHeld ?_
    try simp only [Act.put, List.setIfInBounds_toArray, List.set_cons_zero, List.set_cons_succ]
    refine wpAnyT_take (i := 21) (oi := { dst := some 28, op := Op.indexAddr 54 (Operand.tmp 26) (Operand.tmp 27), type := 0, pos := "table.go:32", after := #[{ on := 19, ground := Ground.data }, { on := 20, ground := Ground.data }, { on := 12, ground := Ground.guard }], guard := some (12, true) }) (v := undef) rfl (by kernel_rfl) (by kernel_rfl) (by kernel_rfl) (by kernel_rfl) (fun _ _ _ h => h) (Or.inr ⟨by rfl, rfl⟩) hHeld ?_
    try simp only [Act.put, List.setIfInBounds_toArray, List.set_cons_zero, List.set_cons_succ]
    refine wpAnyT_take (i := 22) (oi := { dst := some 29, op := Op.load 21 (Operand.tmp 28), type := 21, pos := "table.go:32", after := #[{ on := 21, ground := Ground.data }, { on := 12, ground := Ground.guard }], guard := some (12, true) }) (v := undef) rfl (by kernel_rfl) (by kernel_rfl) (by kernel_rfl) (by kernel_rfl) (fun _ _ _ h => h) (Or.inr ⟨by rfl, rfl⟩) hHeld ?_
    try simp only [Act.put, List.setIfInBounds_toArray, List.set_cons_zero, List.set_cons_succ]
    refine wpAnyT_take (i := 23) (oi := { dst := some 30, op := Op.binOp BinOp.eql 21 (Operand.tmp 24) (Operand.tmp 29) 21, type := 4, pos := "table.go:32", after := #[{ on := 17, ground := Ground.data }, { on := 22, ground := Ground.data }, { on := 12, ground := Ground.guard }], guard := some (12, true) }) (v := undef) rfl (by kernel_rfl) (by kernel_rfl) (by kernel_rfl) (by kernel_rfl) (fun _ _ _ h => h) (Or.inr ⟨by rfl, rfl⟩) hHeld ?_
    try simp only [Act.put, List.setIfInBounds_toArray, List.set_cons_zero, List.set_cons_succ]
    refine wpAnyT_take (i := 24) (oi := { dst := some 31, op := Op.pick (Operand.tmp 19) (Operand.tmp 30) (Operand.const (Value.bool false)), type := 4, pos := "table.go:32", after := #[{ on := 12, ground := Ground.data }, { on := 23, ground := Ground.data }], guard := none }) (v := .bool false) rfl (by kernel_rfl) (by kernel_rfl) (by kernel_rfl) (by kernel_rfl) (fun _ _ _ h => h) (Or.inl ⟨by rfl, ?_⟩) hHeld ?_
    · intro w hSw
      obtain ⟨q0, q1, q2⟩ := hSw
      first
        | rfl
        | (go_simp; done)
    try simp only [Act.put, List.setIfInBounds_toArray, List.set_cons_zero, List.set_cons_succ]
    refine wpAnyT_take (i := 25) (oi := { dst := some 6, op := Op.assign (Operand.tmp 31), type := 4, pos := "table.go:32", after := #[{ on := 24, ground := Ground.data }, { on := 12, ground := Ground.chain }, { on := 0, ground := Ground.phase }, { on := 1, ground := Ground.phase }, { on := 2, ground := Ground.phase }, { on := 3, ground := Ground.phase }, { on := 4, ground := Ground.phase }, { on := 5, ground := Ground.phase }, { on := 6, ground := Ground.phase }, { on := 7, ground := Ground.phase }, { on := 8, ground := Ground.phase }, { on := 9, ground := Ground.phase }, { on := 10, ground := Ground.phase }, { on := 11, ground := Ground.phase }, { on := 12, ground := Ground.phase }, { on := 13, ground := Ground.phase }, { on := 14, ground := Ground.phase }, { on := 15, ground := Ground.phase }, { on := 16, ground := Ground.phase }, { on := 17, ground := Ground.phase }, { on := 18, ground := Ground.phase }, { on := 19, ground := Ground.phase }, { on := 20, ground := Ground.phase }, { on := 21, ground := Ground.phase }, { on := 22, ground := Ground.phase }, { on := 23, ground := Ground.phase }, { on := 24, ground := Ground.phase }], guard := none }) (v := .bool false) rfl (by kernel_rfl) (by kernel_rfl) (by kernel_rfl) (by kernel_rfl) (fun _ _ _ h => h) (Or.inl ⟨by rfl, ?_⟩) hHeld ?_
    · intro w hSw
      obtain ⟨q0, q1, q2⟩ := hSw
      first
        | rfl
        | (go_simp; done)
    try simp only [Act.put, List.setIfInBounds_toArray, List.set_cons_zero, List.set_cons_succ]
    refine wpAnyT_done (by kernel_rfl) ?_ _
    have HB3 := hide ((unhide HB).trans (k0.mono (unhide HB).size))
    clear k0 HS
    go_wp2_with fail
    go_ret
    exact ⟨by first | rfl | (simp; done), unhide HB3⟩
end Go.Proofs.YtonabfpgdgnpnaaDoor
