/- The document's Word. -/
import Derived.Test.YtdnbhomjfgpcfaaDoorLWb
namespace Go.Proofs.YtdnbhomjfgpcfaaDoor
set_option linter.unusedVariables false
set_option linter.unusedSimpArgs false
open Go.ChangeShapes Go.WideShapes Go.ChangeAt Go.RowKit Go.Joins Go.Deep

set_option maxRecDepth 100000 in
set_option maxHeartbeats 4000000 in
theorem rword_ok {w : World} {B g : Nat} {vr : Value} {cs : List (List UInt8)} (h : RIx w B g vr cs) (i : Int) (hl : cs.length ≤ 1099511627776) : Calls Tryd.prog 28 #[.pointer (some ⟨g, 0, none⟩), .int .i64 i] w fun r w' => r = .returned (wordE cs i) ∧ Below w.heap.size w w' := by
  obtain ⟨ar, cr, e1, q0, hncr, hcm⟩ := h.one
  have HI := hide h
  have HE1 := hide e1
  clear h e1
  by_cases hi : 0 ≤ i ∧ i < (cs.length : Int)
  · obtain ⟨k, rfl⟩ : ∃ k : Nat, i = (k : Int) := ⟨i.toNat, by omega⟩
    have hk : k < cs.length := by omega
    rw [wordE_in hk]
    obtain ⟨x, hx⟩ : ∃ x, cs[k]? = some x := ⟨_, List.getElem?_eq_getElem hk⟩
    have hc := clsA_at hx
    obtain ⟨gr, cg, e, hcell, _, hcc, _⟩ := own_rd (unhide HI).r (rnv_at hx)
    rw [unhide HE1] at e
    injection e with e1 e2 e3
    clear e2
    subst e1 e3
    obtain ⟨y, hy⟩ : ∃ y : Int, (rn x : Int) = y := ⟨_, rfl⟩
    rw [hy] at hcell hc
    have HCE := hide hcell
    obtain ⟨c, hcc2⟩ : ∃ z, clsV y = z := ⟨_, rfl⟩
    have HCY := hide hcc2
    rw [hcc2] at hc
    have HC := hide hc
    rw [hc]
    obtain ⟨F, hF⟩ : ∃ z, wdF (clsA cs) c k = z := ⟨_, rfl⟩
    obtain ⟨E, hE⟩ : ∃ z, wdT (clsA cs) c (cs.length - (k + 1)) (k + 1) = z := ⟨_, rfl⟩
    have HF := hide hF
    rw [hF, hE]
    rw [← wdT_here hc hk] at hE
    have HE := hide hE
    obtain ⟨n, hn⟩ : ∃ z, cs.length = z := ⟨_, rfl⟩
    have HN := hide hn
    rw [hn] at q0 hl hk hi HE HE1 hncr
    have k0 : (0 : Int) ≤ (k : Int) := by omega
    have k1 : ¬ (k : Int) < 0 := by omega
    have k2 : (k : Int) < (n : Int) := by omega
    have k3 : ¬ (n : Int) ≤ (k : Int) := by omega
    clear hx hc hy hcc2 hF hE hn hi hcell hcc
    go_enter Tryd.func28, Tryd.ntmps28
    go_wp2_with fail
    go_loopw [7] (fun v wx => ∃ j : Nat, j ≤ k ∧ v = .int .i64 (j : Int) ∧ Hid (wdF (clsA cs) c j = F) ∧ Hid (Below w.heap.size w wx)) (fun v _ => (intOf v).toNat)
    case atStart => exact ⟨k, by omega, rfl, HF, hide (Below.refl _ _)⟩
    case round =>
      clear q0
      obtain ⟨j, hj, rfl, HJ, HB⟩ := hrel
      have HI3 := hide ((unhide HI).call (unhide HB))
      have q0 := (unhide HI3).row.cell 0
      simp only [List.getElem?_cons_zero] at q0
      rw [unhide HE1] at q0
      by_cases hj0 : j = 0
      · have HFJ0 : Hid (j = F) := hide (by rw [← unhide HJ, hj0]; rfl)
        have HJZ := hide hj0
        have hjI : ¬ (0 : Int) < (j : Int) := by omega
        have hjd : decide ((0 : Int) < (j : Int)) = false := by simp; omega
        have hB0 := unhide HB
        clear HJ hj0
        go_wp2_with fail
        refine wp_region_T (S := fun _ => True) (fun i => decide (i < 22)) (by kernel_rfl) trivial (fun hHeld => ?_)
        refine wpAnyT_take (i := 0) (oi := { dst := some 21, op := Op.move (Operand.tmp 7), type := 3, pos := "ref.go:115", after := #[], guard := none }) (v := .int .i64 (j : Int)) rfl (by kernel_rfl) (by kernel_rfl) (by kernel_rfl) (by kernel_rfl) (fun _ _ _ h => h) (Or.inl ⟨by rfl, ?_⟩) hHeld ?_
        · intro w hSw
          first
            | rfl
            | (go_simp; done)
        try simp only [Act.put, List.setIfInBounds_toArray, List.set_cons_zero, List.set_cons_succ]
        refine wpAnyT_take (i := 1) (oi := { dst := some 22, op := Op.binOp BinOp.gtr 3 (Operand.tmp 21) (Operand.const (Value.int IntKind.i64 0)) 3, type := 4, pos := "ref.go:115", after := #[{ on := 0, ground := Ground.data }], guard := none }) (v := .bool false) rfl (by kernel_rfl) (by kernel_rfl) (by kernel_rfl) (by kernel_rfl) (fun _ _ _ h => h) (Or.inl ⟨by rfl, ?_⟩) hHeld ?_
        · intro w hSw
          first
            | rfl
            | (go_simp; exact unhide HJZ)
        try simp only [Act.put, List.setIfInBounds_toArray, List.set_cons_zero, List.set_cons_succ]
        refine wpAnyT_take (i := 2) (oi := { dst := some 23, op := Op.move (Operand.tmp 22), type := 4, pos := "ref.go:115", after := #[{ on := 1, ground := Ground.data }], guard := none }) (v := .bool false) rfl (by kernel_rfl) (by kernel_rfl) (by kernel_rfl) (by kernel_rfl) (fun _ _ _ h => h) (Or.inl ⟨by rfl, ?_⟩) hHeld ?_
        · intro w hSw
          first
            | rfl
            | (go_simp; done)
        try simp only [Act.put, List.setIfInBounds_toArray, List.set_cons_zero, List.set_cons_succ]
        refine wpAnyT_take (i := 3) (oi := { dst := some 24, op := Op.move (Operand.tmp 0), type := 28, pos := "ref.go:115", after := #[{ on := 2, ground := Ground.guard }], guard := some (2, true) }) (v := undef) rfl (by kernel_rfl) (by kernel_rfl) (by kernel_rfl) (by kernel_rfl) (fun _ _ _ h => h) (Or.inr ⟨by rfl, rfl⟩) hHeld ?_
        try simp only [Act.put, List.setIfInBounds_toArray, List.set_cons_zero, List.set_cons_succ]
        refine wpAnyT_take (i := 4) (oi := { dst := some 25, op := Op.nilCheck (Operand.tmp 24), type := 0, pos := "ref.go:115", after := #[{ on := 3, ground := Ground.data }, { on := 2, ground := Ground.guard }], guard := some (2, true) }) (v := undef) rfl (by kernel_rfl) (by kernel_rfl) (by kernel_rfl) (by kernel_rfl) (fun _ _ _ h => h) (Or.inr ⟨by rfl, rfl⟩) hHeld ?_
        try simp only [Act.put, List.setIfInBounds_toArray, List.set_cons_zero, List.set_cons_succ]
        refine wpAnyT_take (i := 5) (oi := { dst := some 26, op := Op.fieldAddr 42 (Operand.tmp 25) 0, type := 0, pos := "ref.go:115", after := #[{ on := 4, ground := Ground.data }, { on := 2, ground := Ground.guard }], guard := some (2, true) }) (v := undef) rfl (by kernel_rfl) (by kernel_rfl) (by kernel_rfl) (by kernel_rfl) (fun _ _ _ h => h) (Or.inr ⟨by rfl, rfl⟩) hHeld ?_
        try simp only [Act.put, List.setIfInBounds_toArray, List.set_cons_zero, List.set_cons_succ]
        refine wpAnyT_take (i := 6) (oi := { dst := some 27, op := Op.load 40 (Operand.tmp 26), type := 40, pos := "ref.go:115", after := #[{ on := 5, ground := Ground.data }, { on := 2, ground := Ground.guard }], guard := some (2, true) }) (v := undef) rfl (by kernel_rfl) (by kernel_rfl) (by kernel_rfl) (by kernel_rfl) (fun _ _ _ h => h) (Or.inr ⟨by rfl, rfl⟩) hHeld ?_
        try simp only [Act.put, List.setIfInBounds_toArray, List.set_cons_zero, List.set_cons_succ]
        refine wpAnyT_take (i := 7) (oi := { dst := some 28, op := Op.move (Operand.tmp 7), type := 3, pos := "ref.go:115", after := #[{ on := 2, ground := Ground.guard }], guard := some (2, true) }) (v := undef) rfl (by kernel_rfl) (by kernel_rfl) (by kernel_rfl) (by kernel_rfl) (fun _ _ _ h => h) (Or.inr ⟨by rfl, rfl⟩) hHeld ?_
        try simp only [Act.put, List.setIfInBounds_toArray, List.set_cons_zero, List.set_cons_succ]
        refine wpAnyT_take (i := 8) (oi := { dst := some 29, op := Op.binOp BinOp.sub 3 (Operand.tmp 28) (Operand.const (Value.int IntKind.i64 1)) 3, type := 3, pos := "ref.go:115", after := #[{ on := 7, ground := Ground.data }, { on := 2, ground := Ground.guard }], guard := some (2, true) }) (v := undef) rfl (by kernel_rfl) (by kernel_rfl) (by kernel_rfl) (by kernel_rfl) (fun _ _ _ h => h) (Or.inr ⟨by rfl, rfl⟩) hHeld ?_
        try simp only [Act.put, List.setIfInBounds_toArray, List.set_cons_zero, List.set_cons_succ]
        refine wpAnyT_take (i := 9) (oi := { dst := some 30, op := Op.indexAddr 40 (Operand.tmp 27) (Operand.tmp 29), type := 0, pos := "ref.go:115", after := #[{ on := 6, ground := Ground.data }, { on := 8, ground := Ground.data }, { on := 2, ground := Ground.guard }], guard := some (2, true) }) (v := undef) rfl (by kernel_rfl) (by kernel_rfl) (by kernel_rfl) (by kernel_rfl) (fun _ _ _ h => h) (Or.inr ⟨by rfl, rfl⟩) hHeld ?_
        try simp only [Act.put, List.setIfInBounds_toArray, List.set_cons_zero, List.set_cons_succ]
        refine wpAnyT_take (i := 10) (oi := { dst := some 31, op := Op.load 21 (Operand.tmp 30), type := 21, pos := "ref.go:115", after := #[{ on := 9, ground := Ground.data }, { on := 2, ground := Ground.guard }], guard := some (2, true) }) (v := undef) rfl (by kernel_rfl) (by kernel_rfl) (by kernel_rfl) (by kernel_rfl) (fun _ _ _ h => h) (Or.inr ⟨by rfl, rfl⟩) hHeld ?_
        try simp only [Act.put, List.setIfInBounds_toArray, List.set_cons_zero, List.set_cons_succ]
        refine wpAnyT_take (i := 11) (oi := { dst := some 32, op := Op.call { callee := Callee.value (Operand.func 53), args := #[Operand.tmp 31], argTypes := #[21] }, type := 3, pos := "ref.go:115", after := #[{ on := 10, ground := Ground.data }, { on := 2, ground := Ground.chain }, { on := 2, ground := Ground.guard }], guard := some (2, true) }) (v := undef) rfl (by kernel_rfl) (by kernel_rfl) (by kernel_rfl) (by kernel_rfl) (fun _ _ _ h => h) (Or.inr ⟨by rfl, rfl⟩) hHeld ?_
        try simp only [Act.put, List.setIfInBounds_toArray, List.set_cons_zero, List.set_cons_succ]
        refine wpAnyT_take (i := 12) (oi := { dst := some 33, op := Op.move (Operand.tmp 0), type := 28, pos := "ref.go:115", after := #[{ on := 2, ground := Ground.guard }], guard := some (2, true) }) (v := undef) rfl (by kernel_rfl) (by kernel_rfl) (by kernel_rfl) (by kernel_rfl) (fun _ _ _ h => h) (Or.inr ⟨by rfl, rfl⟩) hHeld ?_
        try simp only [Act.put, List.setIfInBounds_toArray, List.set_cons_zero, List.set_cons_succ]
        refine wpAnyT_take (i := 13) (oi := { dst := some 34, op := Op.nilCheck (Operand.tmp 33), type := 0, pos := "ref.go:115", after := #[{ on := 12, ground := Ground.data }, { on := 2, ground := Ground.guard }], guard := some (2, true) }) (v := undef) rfl (by kernel_rfl) (by kernel_rfl) (by kernel_rfl) (by kernel_rfl) (fun _ _ _ h => h) (Or.inr ⟨by rfl, rfl⟩) hHeld ?_
        try simp only [Act.put, List.setIfInBounds_toArray, List.set_cons_zero, List.set_cons_succ]
        refine wpAnyT_take (i := 14) (oi := { dst := some 35, op := Op.fieldAddr 42 (Operand.tmp 34) 0, type := 0, pos := "ref.go:115", after := #[{ on := 13, ground := Ground.data }, { on := 2, ground := Ground.guard }], guard := some (2, true) }) (v := undef) rfl (by kernel_rfl) (by kernel_rfl) (by kernel_rfl) (by kernel_rfl) (fun _ _ _ h => h) (Or.inr ⟨by rfl, rfl⟩) hHeld ?_
        try simp only [Act.put, List.setIfInBounds_toArray, List.set_cons_zero, List.set_cons_succ]
        refine wpAnyT_take (i := 15) (oi := { dst := some 36, op := Op.load 40 (Operand.tmp 35), type := 40, pos := "ref.go:115", after := #[{ on := 14, ground := Ground.data }, { on := 2, ground := Ground.guard }], guard := some (2, true) }) (v := undef) rfl (by kernel_rfl) (by kernel_rfl) (by kernel_rfl) (by kernel_rfl) (fun _ _ _ h => h) (Or.inr ⟨by rfl, rfl⟩) hHeld ?_
        try simp only [Act.put, List.setIfInBounds_toArray, List.set_cons_zero, List.set_cons_succ]
        refine wpAnyT_take (i := 16) (oi := { dst := some 37, op := Op.move (Operand.tmp 1), type := 3, pos := "ref.go:115", after := #[{ on := 2, ground := Ground.guard }], guard := some (2, true) }) (v := undef) rfl (by kernel_rfl) (by kernel_rfl) (by kernel_rfl) (by kernel_rfl) (fun _ _ _ h => h) (Or.inr ⟨by rfl, rfl⟩) hHeld ?_
        try simp only [Act.put, List.setIfInBounds_toArray, List.set_cons_zero, List.set_cons_succ]
        refine wpAnyT_take (i := 17) (oi := { dst := some 38, op := Op.indexAddr 40 (Operand.tmp 36) (Operand.tmp 37), type := 0, pos := "ref.go:115", after := #[{ on := 15, ground := Ground.data }, { on := 16, ground := Ground.data }, { on := 2, ground := Ground.guard }], guard := some (2, true) }) (v := undef) rfl (by kernel_rfl) (by kernel_rfl) (by kernel_rfl) (by kernel_rfl) (fun _ _ _ h => h) (Or.inr ⟨by rfl, rfl⟩) hHeld ?_
        try simp only [Act.put, List.setIfInBounds_toArray, List.set_cons_zero, List.set_cons_succ]
        refine wpAnyT_take (i := 18) (oi := { dst := some 39, op := Op.load 21 (Operand.tmp 38), type := 21, pos := "ref.go:115", after := #[{ on := 17, ground := Ground.data }, { on := 2, ground := Ground.guard }], guard := some (2, true) }) (v := undef) rfl (by kernel_rfl) (by kernel_rfl) (by kernel_rfl) (by kernel_rfl) (fun _ _ _ h => h) (Or.inr ⟨by rfl, rfl⟩) hHeld ?_
        try simp only [Act.put, List.setIfInBounds_toArray, List.set_cons_zero, List.set_cons_succ]
        refine wpAnyT_take (i := 19) (oi := { dst := some 40, op := Op.call { callee := Callee.value (Operand.func 53), args := #[Operand.tmp 39], argTypes := #[21] }, type := 3, pos := "ref.go:115", after := #[{ on := 18, ground := Ground.data }, { on := 11, ground := Ground.chain }, { on := 2, ground := Ground.guard }], guard := some (2, true) }) (v := undef) rfl (by kernel_rfl) (by kernel_rfl) (by kernel_rfl) (by kernel_rfl) (fun _ _ _ h => h) (Or.inr ⟨by rfl, rfl⟩) hHeld ?_
        try simp only [Act.put, List.setIfInBounds_toArray, List.set_cons_zero, List.set_cons_succ]
        refine wpAnyT_take (i := 20) (oi := { dst := some 41, op := Op.binOp BinOp.eql 3 (Operand.tmp 32) (Operand.tmp 40) 3, type := 4, pos := "ref.go:115", after := #[{ on := 11, ground := Ground.data }, { on := 19, ground := Ground.data }, { on := 2, ground := Ground.guard }], guard := some (2, true) }) (v := undef) rfl (by kernel_rfl) (by kernel_rfl) (by kernel_rfl) (by kernel_rfl) (fun _ _ _ h => h) (Or.inr ⟨by rfl, rfl⟩) hHeld ?_
        try simp only [Act.put, List.setIfInBounds_toArray, List.set_cons_zero, List.set_cons_succ]
        refine wpAnyT_take (i := 21) (oi := { dst := some 42, op := Op.pick (Operand.tmp 23) (Operand.tmp 41) (Operand.const (Value.bool false)), type := 4, pos := "ref.go:115", after := #[{ on := 2, ground := Ground.data }, { on := 20, ground := Ground.data }], guard := none }) (v := .bool false) rfl (by kernel_rfl) (by kernel_rfl) (by kernel_rfl) (by kernel_rfl) (fun _ _ _ h => h) (Or.inl ⟨by rfl, ?_⟩) hHeld ?_
        · intro w hSw
          first
            | rfl
            | (go_simp; done)
        try simp only [Act.put, List.setIfInBounds_toArray, List.set_cons_zero, List.set_cons_succ]
        refine wpAnyT_done (by kernel_rfl) ?_ _
        have HB3 := hide ((unhide HB).drew)
        have hFJ := unhide HFJ0
        clear HB hB0 q0
        have HFJ : Hid (j = F) := hide hFJ
        clear hFJ
        go_wp2_with fail
        go_loopw [8] (fun v wx => ∃ q : Nat, q ≤ n ∧ v = .int .i64 (q : Int) ∧ Hid (wdT (clsA cs) c (n - q) q = E) ∧ Hid (Below w.heap.size w wx)) (fun v _ => ((n : Int) - intOf v).toNat)
        case atStart => exact ⟨k, by omega, by simp, HE, HB3⟩
        case round =>
          clear HB3
          obtain ⟨q, hq, rfl, HQ, HB⟩ := hrel
          have HI3 := hide ((unhide HI).call (unhide HB))
          have q0 := (unhide HI3).row.cell 0
          simp only [List.getElem?_cons_zero] at q0
          rw [unhide HE1] at q0
          by_cases hqn : (q : Int) < (n : Int)
          · obtain ⟨x2, hx2⟩ : ∃ x, cs[q]? = some x := ⟨_, List.getElem?_eq_getElem (by rw [unhide HN]; omega)⟩
            obtain ⟨gr2, cg2, e, hce2, _, _, _⟩ := own_rd (unhide HI3).r (rnv_at hx2)
            have hvr := unhide HE1
            rw [hvr] at e
            injection e with e1 e2 e3
            clear e2
            injection e1 with e1
            injection e1 with e1 z1 z2
            clear z1 z2
            subst e1 e3
            have hc2 := clsA_at hx2
            obtain ⟨y2, hy2⟩ : ∃ y : Int, (rn x2 : Int) = y := ⟨_, rfl⟩
            rw [hy2] at hce2 hc2
            clear hvr hy2 hx2
            have hce0 : wr.cell? ⟨gr, k, none⟩ = some (.int .i32 y) := kept (unhide HB) (unhide HCE)
            have HK := hide (fun (q : Nat) (r : Int) => (rclass_any r (wr.drewN q)).mono (fun _ _ x => And.intro x.1 x.2.symm))
            have k5 : (0 : Int) ≤ (q : Int) := by omega
            have hstep : wdT (clsA cs) c (n - q) q = if clsA cs q = c then wdT (clsA cs) c (n - (q + 1)) (q + 1) else q := by
              rw [show n - q = n - (q + 1) + 1 by omega, wdT]
            rw [hc2] at hstep
            have HST := hide hstep
            clear hc2 hstep
            by_cases hz : clsV y2 = c
            · have hz1 : (clsV y2 == clsV y) = true := by rw [unhide HCY]; simp [hz]
              rw [if_pos hz] at HST
              clear hz
              go_wp2_with fail
              go_quiet ((go_at_call 53; exact Calls.quiet_of_same (unhide HK _ _)))
              have HB5 := hide ((unhide HB).trans ((Go.Joins.below_draws wr.heap.size wr nq).mono (unhide HB).size))
              clear HK q0 hce2 hce0
              go_wp2_with fail
              exact ⟨⟨q + 1, by omega, by simp, hide (by rw [← unhide HQ, unhide HST]), HB5⟩, by simp [intOf]; omega⟩
            · have hz1 : (clsV y2 == clsV y) = false := by rw [unhide HCY]; simp [hz]
              rw [if_neg hz] at HST
              have HQE : Hid (q = E) := hide (by rw [← unhide HQ, unhide HST])
              clear hz
              go_wp2_with fail
              go_quiet ((go_at_call 53; exact Calls.quiet_of_same (unhide HK _ _)))
              have HB5 := hide ((unhide HB).trans ((Go.Joins.below_draws wr.heap.size wr nq).mono (unhide HB).size))
              clear HK q0 hce2 hce0
              go_wp2_with fail
              go_returns
              exact ⟨by rw [← unhide HFJ, ← unhide HQE]; first | rfl | simp, unhide HB5⟩
          · obtain rfl : n = q := by omega
            have HQE : Hid (n = E) := hide (by rw [← unhide HQ, Nat.sub_self, wdT])
            have hqd : decide ((n : Int) < (n : Int)) = false := by simp
            go_wp2_with fail
            have k9 : (wr.drew).cell? ⟨g, 0, none⟩ = some (.slice (some ⟨gr, 0, none⟩) n cr) := q0
            refine wp_region_T (S := fun W => W.cell? ⟨g, 0, none⟩ = some (.slice (some ⟨gr, 0, none⟩) n cr)) (fun i => decide (i < 26)) (by kernel_rfl) k9 (fun hHeld => ?_)
            refine wpAnyT_take (i := 0) (oi := { dst := some 46, op := Op.move (Operand.tmp 8), type := 3, pos := "ref.go:119", after := #[], guard := none }) (v := .int .i64 (n : Int)) rfl (by kernel_rfl) (by kernel_rfl) (by kernel_rfl) (by kernel_rfl) (fun _ _ _ h => h) (Or.inl ⟨by rfl, ?_⟩) hHeld ?_
            · intro w hSw
              have h9 := hSw
              first
                | rfl
                | (go_simp; done)
            try simp only [Act.put, List.setIfInBounds_toArray, List.set_cons_zero, List.set_cons_succ]
            refine wpAnyT_take (i := 1) (oi := { dst := some 47, op := Op.move (Operand.tmp 0), type := 28, pos := "ref.go:119", after := #[], guard := none }) (v := .pointer (some ⟨g, 0, none⟩)) rfl (by kernel_rfl) (by kernel_rfl) (by kernel_rfl) (by kernel_rfl) (fun _ _ _ h => h) (Or.inl ⟨by rfl, ?_⟩) hHeld ?_
            · intro w hSw
              have h9 := hSw
              first
                | rfl
                | (go_simp; done)
            try simp only [Act.put, List.setIfInBounds_toArray, List.set_cons_zero, List.set_cons_succ]
            refine wpAnyT_take (i := 2) (oi := { dst := some 48, op := Op.nilCheck (Operand.tmp 47), type := 0, pos := "ref.go:119", after := #[{ on := 1, ground := Ground.data }], guard := none }) (v := .pointer (some ⟨g, 0, none⟩)) rfl (by kernel_rfl) (by kernel_rfl) (by kernel_rfl) (by kernel_rfl) (fun _ _ _ h => h) (Or.inl ⟨by rfl, ?_⟩) hHeld ?_
            · intro w hSw
              have h9 := hSw
              first
                | rfl
                | (go_simp; done)
            try simp only [Act.put, List.setIfInBounds_toArray, List.set_cons_zero, List.set_cons_succ]
            refine wpAnyT_take (i := 3) (oi := { dst := some 49, op := Op.fieldAddr 42 (Operand.tmp 48) 0, type := 0, pos := "ref.go:119", after := #[{ on := 2, ground := Ground.data }], guard := none }) (v := .pointer (some ⟨g, 0, none⟩)) rfl (by kernel_rfl) (by kernel_rfl) (by kernel_rfl) (by kernel_rfl) (fun _ _ _ h => h) (Or.inl ⟨by rfl, ?_⟩) hHeld ?_
            · intro w hSw
              have h9 := hSw
              first
                | rfl
                | (go_simp; done)
            try simp only [Act.put, List.setIfInBounds_toArray, List.set_cons_zero, List.set_cons_succ]
            refine wpAnyT_take (i := 4) (oi := { dst := some 50, op := Op.load 40 (Operand.tmp 49), type := 40, pos := "ref.go:119", after := #[{ on := 3, ground := Ground.data }], guard := none }) (v := .slice (some ⟨gr, 0, none⟩) n cr) rfl (by kernel_rfl) (by kernel_rfl) (by kernel_rfl) (by kernel_rfl) (fun _ _ _ h => h) (Or.inl ⟨by rfl, ?_⟩) hHeld ?_
            · intro w hSw
              have h9 := hSw
              first
                | rfl
                | (go_simp; done)
            try simp only [Act.put, List.setIfInBounds_toArray, List.set_cons_zero, List.set_cons_succ]
            refine wpAnyT_take (i := 5) (oi := { dst := some 51, op := Op.call { callee := Callee.builtin Builtin.len, args := #[Operand.tmp 50], argTypes := #[40] }, type := 3, pos := "ref.go:119", after := #[{ on := 4, ground := Ground.data }], guard := none }) (v := .int .i64 (n : Int)) rfl (by kernel_rfl) (by kernel_rfl) (by kernel_rfl) (by kernel_rfl) (fun _ _ _ h => h) (Or.inl ⟨by rfl, ?_⟩) hHeld ?_
            · intro w hSw
              have h9 := hSw
              first
                | rfl
                | (go_simp; done)
            try simp only [Act.put, List.setIfInBounds_toArray, List.set_cons_zero, List.set_cons_succ]
            refine wpAnyT_take (i := 6) (oi := { dst := some 52, op := Op.binOp BinOp.lss 3 (Operand.tmp 46) (Operand.tmp 51) 3, type := 4, pos := "ref.go:119", after := #[{ on := 0, ground := Ground.data }, { on := 5, ground := Ground.data }], guard := none }) (v := .bool false) rfl (by kernel_rfl) (by kernel_rfl) (by kernel_rfl) (by kernel_rfl) (fun _ _ _ h => h) (Or.inl ⟨by rfl, ?_⟩) hHeld ?_
            · intro w hSw
              have h9 := hSw
              first
                | rfl
                | (go_simp; done)
            try simp only [Act.put, List.setIfInBounds_toArray, List.set_cons_zero, List.set_cons_succ]
            refine wpAnyT_take (i := 7) (oi := { dst := some 53, op := Op.move (Operand.tmp 52), type := 4, pos := "ref.go:119", after := #[{ on := 6, ground := Ground.data }], guard := none }) (v := .bool false) rfl (by kernel_rfl) (by kernel_rfl) (by kernel_rfl) (by kernel_rfl) (fun _ _ _ h => h) (Or.inl ⟨by rfl, ?_⟩) hHeld ?_
            · intro w hSw
              have h9 := hSw
              first
                | rfl
                | (go_simp; done)
            try simp only [Act.put, List.setIfInBounds_toArray, List.set_cons_zero, List.set_cons_succ]
            refine wpAnyT_take (i := 8) (oi := { dst := some 54, op := Op.move (Operand.tmp 0), type := 28, pos := "ref.go:119", after := #[{ on := 7, ground := Ground.guard }], guard := some (7, true) }) (v := undef) rfl (by kernel_rfl) (by kernel_rfl) (by kernel_rfl) (by kernel_rfl) (fun _ _ _ h => h) (Or.inr ⟨by rfl, rfl⟩) hHeld ?_
            try simp only [Act.put, List.setIfInBounds_toArray, List.set_cons_zero, List.set_cons_succ]
            refine wpAnyT_take (i := 9) (oi := { dst := some 55, op := Op.nilCheck (Operand.tmp 54), type := 0, pos := "ref.go:119", after := #[{ on := 8, ground := Ground.data }, { on := 7, ground := Ground.guard }], guard := some (7, true) }) (v := undef) rfl (by kernel_rfl) (by kernel_rfl) (by kernel_rfl) (by kernel_rfl) (fun _ _ _ h => h) (Or.inr ⟨by rfl, rfl⟩) hHeld ?_
            try simp only [Act.put, List.setIfInBounds_toArray, List.set_cons_zero, List.set_cons_succ]
            refine wpAnyT_take (i := 10) (oi := { dst := some 56, op := Op.fieldAddr 42 (Operand.tmp 55) 0, type := 0, pos := "ref.go:119", after := #[{ on := 9, ground := Ground.data }, { on := 7, ground := Ground.guard }], guard := some (7, true) }) (v := undef) rfl (by kernel_rfl) (by kernel_rfl) (by kernel_rfl) (by kernel_rfl) (fun _ _ _ h => h) (Or.inr ⟨by rfl, rfl⟩) hHeld ?_
            try simp only [Act.put, List.setIfInBounds_toArray, List.set_cons_zero, List.set_cons_succ]
            refine wpAnyT_take (i := 11) (oi := { dst := some 57, op := Op.load 40 (Operand.tmp 56), type := 40, pos := "ref.go:119", after := #[{ on := 10, ground := Ground.data }, { on := 7, ground := Ground.guard }], guard := some (7, true) }) (v := undef) rfl (by kernel_rfl) (by kernel_rfl) (by kernel_rfl) (by kernel_rfl) (fun _ _ _ h => h) (Or.inr ⟨by rfl, rfl⟩) hHeld ?_
            try simp only [Act.put, List.setIfInBounds_toArray, List.set_cons_zero, List.set_cons_succ]
            refine wpAnyT_take (i := 12) (oi := { dst := some 58, op := Op.move (Operand.tmp 8), type := 3, pos := "ref.go:119", after := #[{ on := 7, ground := Ground.guard }], guard := some (7, true) }) (v := undef) rfl (by kernel_rfl) (by kernel_rfl) (by kernel_rfl) (by kernel_rfl) (fun _ _ _ h => h) (Or.inr ⟨by rfl, rfl⟩) hHeld ?_
            try simp only [Act.put, List.setIfInBounds_toArray, List.set_cons_zero, List.set_cons_succ]
            refine wpAnyT_take (i := 13) (oi := { dst := some 59, op := Op.indexAddr 40 (Operand.tmp 57) (Operand.tmp 58), type := 0, pos := "ref.go:119", after := #[{ on := 11, ground := Ground.data }, { on := 12, ground := Ground.data }, { on := 7, ground := Ground.guard }], guard := some (7, true) }) (v := undef) rfl (by kernel_rfl) (by kernel_rfl) (by kernel_rfl) (by kernel_rfl) (fun _ _ _ h => h) (Or.inr ⟨by rfl, rfl⟩) hHeld ?_
            try simp only [Act.put, List.setIfInBounds_toArray, List.set_cons_zero, List.set_cons_succ]
            refine wpAnyT_take (i := 14) (oi := { dst := some 60, op := Op.load 21 (Operand.tmp 59), type := 21, pos := "ref.go:119", after := #[{ on := 13, ground := Ground.data }, { on := 7, ground := Ground.guard }], guard := some (7, true) }) (v := undef) rfl (by kernel_rfl) (by kernel_rfl) (by kernel_rfl) (by kernel_rfl) (fun _ _ _ h => h) (Or.inr ⟨by rfl, rfl⟩) hHeld ?_
            try simp only [Act.put, List.setIfInBounds_toArray, List.set_cons_zero, List.set_cons_succ]
            refine wpAnyT_take (i := 15) (oi := { dst := some 61, op := Op.call { callee := Callee.value (Operand.func 53), args := #[Operand.tmp 60], argTypes := #[21] }, type := 3, pos := "ref.go:119", after := #[{ on := 14, ground := Ground.data }, { on := 7, ground := Ground.chain }, { on := 7, ground := Ground.guard }], guard := some (7, true) }) (v := undef) rfl (by kernel_rfl) (by kernel_rfl) (by kernel_rfl) (by kernel_rfl) (fun _ _ _ h => h) (Or.inr ⟨by rfl, rfl⟩) hHeld ?_
            try simp only [Act.put, List.setIfInBounds_toArray, List.set_cons_zero, List.set_cons_succ]
            refine wpAnyT_take (i := 16) (oi := { dst := some 62, op := Op.move (Operand.tmp 0), type := 28, pos := "ref.go:119", after := #[{ on := 7, ground := Ground.guard }], guard := some (7, true) }) (v := undef) rfl (by kernel_rfl) (by kernel_rfl) (by kernel_rfl) (by kernel_rfl) (fun _ _ _ h => h) (Or.inr ⟨by rfl, rfl⟩) hHeld ?_
            try simp only [Act.put, List.setIfInBounds_toArray, List.set_cons_zero, List.set_cons_succ]
            refine wpAnyT_take (i := 17) (oi := { dst := some 63, op := Op.nilCheck (Operand.tmp 62), type := 0, pos := "ref.go:119", after := #[{ on := 16, ground := Ground.data }, { on := 7, ground := Ground.guard }], guard := some (7, true) }) (v := undef) rfl (by kernel_rfl) (by kernel_rfl) (by kernel_rfl) (by kernel_rfl) (fun _ _ _ h => h) (Or.inr ⟨by rfl, rfl⟩) hHeld ?_
            try simp only [Act.put, List.setIfInBounds_toArray, List.set_cons_zero, List.set_cons_succ]
            refine wpAnyT_take (i := 18) (oi := { dst := some 64, op := Op.fieldAddr 42 (Operand.tmp 63) 0, type := 0, pos := "ref.go:119", after := #[{ on := 17, ground := Ground.data }, { on := 7, ground := Ground.guard }], guard := some (7, true) }) (v := undef) rfl (by kernel_rfl) (by kernel_rfl) (by kernel_rfl) (by kernel_rfl) (fun _ _ _ h => h) (Or.inr ⟨by rfl, rfl⟩) hHeld ?_
            try simp only [Act.put, List.setIfInBounds_toArray, List.set_cons_zero, List.set_cons_succ]
            refine wpAnyT_take (i := 19) (oi := { dst := some 65, op := Op.load 40 (Operand.tmp 64), type := 40, pos := "ref.go:119", after := #[{ on := 18, ground := Ground.data }, { on := 7, ground := Ground.guard }], guard := some (7, true) }) (v := undef) rfl (by kernel_rfl) (by kernel_rfl) (by kernel_rfl) (by kernel_rfl) (fun _ _ _ h => h) (Or.inr ⟨by rfl, rfl⟩) hHeld ?_
            try simp only [Act.put, List.setIfInBounds_toArray, List.set_cons_zero, List.set_cons_succ]
            refine wpAnyT_take (i := 20) (oi := { dst := some 66, op := Op.move (Operand.tmp 1), type := 3, pos := "ref.go:119", after := #[{ on := 7, ground := Ground.guard }], guard := some (7, true) }) (v := undef) rfl (by kernel_rfl) (by kernel_rfl) (by kernel_rfl) (by kernel_rfl) (fun _ _ _ h => h) (Or.inr ⟨by rfl, rfl⟩) hHeld ?_
            try simp only [Act.put, List.setIfInBounds_toArray, List.set_cons_zero, List.set_cons_succ]
            refine wpAnyT_take (i := 21) (oi := { dst := some 67, op := Op.indexAddr 40 (Operand.tmp 65) (Operand.tmp 66), type := 0, pos := "ref.go:119", after := #[{ on := 19, ground := Ground.data }, { on := 20, ground := Ground.data }, { on := 7, ground := Ground.guard }], guard := some (7, true) }) (v := undef) rfl (by kernel_rfl) (by kernel_rfl) (by kernel_rfl) (by kernel_rfl) (fun _ _ _ h => h) (Or.inr ⟨by rfl, rfl⟩) hHeld ?_
            try simp only [Act.put, List.setIfInBounds_toArray, List.set_cons_zero, List.set_cons_succ]
            refine wpAnyT_take (i := 22) (oi := { dst := some 68, op := Op.load 21 (Operand.tmp 67), type := 21, pos := "ref.go:119", after := #[{ on := 21, ground := Ground.data }, { on := 7, ground := Ground.guard }], guard := some (7, true) }) (v := undef) rfl (by kernel_rfl) (by kernel_rfl) (by kernel_rfl) (by kernel_rfl) (fun _ _ _ h => h) (Or.inr ⟨by rfl, rfl⟩) hHeld ?_
            try simp only [Act.put, List.setIfInBounds_toArray, List.set_cons_zero, List.set_cons_succ]
            refine wpAnyT_take (i := 23) (oi := { dst := some 69, op := Op.call { callee := Callee.value (Operand.func 53), args := #[Operand.tmp 68], argTypes := #[21] }, type := 3, pos := "ref.go:119", after := #[{ on := 22, ground := Ground.data }, { on := 15, ground := Ground.chain }, { on := 7, ground := Ground.guard }], guard := some (7, true) }) (v := undef) rfl (by kernel_rfl) (by kernel_rfl) (by kernel_rfl) (by kernel_rfl) (fun _ _ _ h => h) (Or.inr ⟨by rfl, rfl⟩) hHeld ?_
            try simp only [Act.put, List.setIfInBounds_toArray, List.set_cons_zero, List.set_cons_succ]
            refine wpAnyT_take (i := 24) (oi := { dst := some 70, op := Op.binOp BinOp.eql 3 (Operand.tmp 61) (Operand.tmp 69) 3, type := 4, pos := "ref.go:119", after := #[{ on := 15, ground := Ground.data }, { on := 23, ground := Ground.data }, { on := 7, ground := Ground.guard }], guard := some (7, true) }) (v := undef) rfl (by kernel_rfl) (by kernel_rfl) (by kernel_rfl) (by kernel_rfl) (fun _ _ _ h => h) (Or.inr ⟨by rfl, rfl⟩) hHeld ?_
            try simp only [Act.put, List.setIfInBounds_toArray, List.set_cons_zero, List.set_cons_succ]
            refine wpAnyT_take (i := 25) (oi := { dst := some 71, op := Op.pick (Operand.tmp 53) (Operand.tmp 70) (Operand.const (Value.bool false)), type := 4, pos := "ref.go:119", after := #[{ on := 7, ground := Ground.data }, { on := 24, ground := Ground.data }], guard := none }) (v := .bool false) rfl (by kernel_rfl) (by kernel_rfl) (by kernel_rfl) (by kernel_rfl) (fun _ _ _ h => h) (Or.inl ⟨by rfl, ?_⟩) hHeld ?_
            · intro w hSw
              have h9 := hSw
              first
                | rfl
                | (go_simp; done)
            try simp only [Act.put, List.setIfInBounds_toArray, List.set_cons_zero, List.set_cons_succ]
            refine wpAnyT_done (by kernel_rfl) ?_ _
            have HB5 := hide ((unhide HB).drew)
            go_wp2_with fail
            go_returns
            exact ⟨by rw [← unhide HFJ, ← unhide HQE]; first | rfl | simp, unhide HB5⟩
      · obtain ⟨m, rfl⟩ : ∃ m, j = m + 1 := ⟨j - 1, by omega⟩
        obtain ⟨x1, hx1⟩ : ∃ x, cs[m]? = some x := ⟨_, List.getElem?_eq_getElem (by rw [unhide HN]; omega)⟩
        obtain ⟨gr1, cg1, e, hce1, _, _, _⟩ := own_rd (unhide HI3).r (rnv_at hx1)
        have hvr := unhide HE1
        rw [hvr] at e
        injection e with e1 e2 e3
        clear e2
        injection e1 with e1
        injection e1 with e1 z1 z2
        clear z1 z2
        subst e1 e3
        have hc1 := clsA_at hx1
        obtain ⟨y1, hy1⟩ : ∃ y : Int, (rn x1 : Int) = y := ⟨_, rfl⟩
        rw [hy1] at hce1 hc1
        clear hvr hy1 hx1
        have hce0 : wr.cell? ⟨gr, k, none⟩ = some (.int .i32 y) := kept (unhide HB) (unhide HCE)
        have HK := hide (fun (q : Nat) (r : Int) => (rclass_any r (wr.drewN q)).mono (fun _ _ x => And.intro x.1 x.2.symm))
        have hstep : wdF (clsA cs) c (m + 1) = if clsA cs m = c then wdF (clsA cs) c m else m + 1 := rfl
        rw [hc1] at hstep
        have HST := hide hstep
        have m0 : (0 : Int) ≤ (m : Int) := by omega
        have m1 : (m : Int) < (n : Int) := by omega
        clear hc1 hstep hj0
        by_cases hz : clsV y1 = c
        · have hz1 : (clsV y1 == clsV y) = true := by rw [unhide HCY]; simp [hz]
          rw [if_pos hz] at HST
          clear hz
          go_wp2_with fail
          go_quiet ((go_at_call 53; exact Calls.quiet_of_same (unhide HK _ _)))
          have HB5 := hide ((unhide HB).trans ((Go.Joins.below_draws wr.heap.size wr nq).mono (unhide HB).size))
          clear HK q0 hce1 hce0
          go_wp2_with fail
          exact ⟨⟨m, by omega, by simp, hide (by rw [← unhide HJ, unhide HST]), HB5⟩, by simp [intOf]⟩
        · have hz1 : (clsV y1 == clsV y) = false := by rw [unhide HCY]; simp [hz]
          rw [if_neg hz] at HST
          have HFJ0 : Hid (m + 1 = F) := hide (by rw [← unhide HJ, unhide HST])
          clear hz
          go_wp2_with fail
          go_quiet ((go_at_call 53; exact Calls.quiet_of_same (unhide HK _ _)))
          have HB3 := hide ((unhide HB).trans ((Go.Joins.below_draws wr.heap.size wr nq).mono (unhide HB).size))
          have hFJ := unhide HFJ0
          clear HK q0 hce1 hce0 HB HJ HST hz1
          have HFJ : Hid (m + 1 = F) := hide hFJ
          clear hFJ
          go_wp2_with fail
          go_loopw [8] (fun v wx => ∃ q : Nat, q ≤ n ∧ v = .int .i64 (q : Int) ∧ Hid (wdT (clsA cs) c (n - q) q = E) ∧ Hid (Below w.heap.size w wx)) (fun v _ => ((n : Int) - intOf v).toNat)
          case atStart => exact ⟨k, by omega, by simp, HE, HB3⟩
          case round =>
            clear HB3
            obtain ⟨q, hq, rfl, HQ, HB⟩ := hrel
            have HI3 := hide ((unhide HI).call (unhide HB))
            have q0 := (unhide HI3).row.cell 0
            simp only [List.getElem?_cons_zero] at q0
            rw [unhide HE1] at q0
            by_cases hqn : (q : Int) < (n : Int)
            · obtain ⟨x2, hx2⟩ : ∃ x, cs[q]? = some x := ⟨_, List.getElem?_eq_getElem (by rw [unhide HN]; omega)⟩
              obtain ⟨gr2, cg2, e, hce2, _, _, _⟩ := own_rd (unhide HI3).r (rnv_at hx2)
              have hvr := unhide HE1
              rw [hvr] at e
              injection e with e1 e2 e3
              clear e2
              injection e1 with e1
              injection e1 with e1 z1 z2
              clear z1 z2
              subst e1 e3
              have hc2 := clsA_at hx2
              obtain ⟨y2, hy2⟩ : ∃ y : Int, (rn x2 : Int) = y := ⟨_, rfl⟩
              rw [hy2] at hce2 hc2
              clear hvr hy2 hx2
              have hce0 : wr.cell? ⟨gr, k, none⟩ = some (.int .i32 y) := kept (unhide HB) (unhide HCE)
              have HK := hide (fun (q : Nat) (r : Int) => (rclass_any r (wr.drewN q)).mono (fun _ _ x => And.intro x.1 x.2.symm))
              have k5 : (0 : Int) ≤ (q : Int) := by omega
              have hstep : wdT (clsA cs) c (n - q) q = if clsA cs q = c then wdT (clsA cs) c (n - (q + 1)) (q + 1) else q := by
                rw [show n - q = n - (q + 1) + 1 by omega, wdT]
              rw [hc2] at hstep
              have HST := hide hstep
              clear hc2 hstep
              by_cases hz : clsV y2 = c
              · have hz1 : (clsV y2 == clsV y) = true := by rw [unhide HCY]; simp [hz]
                rw [if_pos hz] at HST
                clear hz
                go_wp2_with fail
                go_quiet ((go_at_call 53; exact Calls.quiet_of_same (unhide HK _ _)))
                have HB5 := hide ((unhide HB).trans ((Go.Joins.below_draws wr.heap.size wr nq).mono (unhide HB).size))
                clear HK q0 hce2 hce0
                go_wp2_with fail
                exact ⟨⟨q + 1, by omega, by simp, hide (by rw [← unhide HQ, unhide HST]), HB5⟩, by simp [intOf]; omega⟩
              · have hz1 : (clsV y2 == clsV y) = false := by rw [unhide HCY]; simp [hz]
                rw [if_neg hz] at HST
                have HQE : Hid (q = E) := hide (by rw [← unhide HQ, unhide HST])
                clear hz
                go_wp2_with fail
                go_quiet ((go_at_call 53; exact Calls.quiet_of_same (unhide HK _ _)))
                have HB5 := hide ((unhide HB).trans ((Go.Joins.below_draws wr.heap.size wr nq).mono (unhide HB).size))
                clear HK q0 hce2 hce0
                go_wp2_with fail
                go_returns
                exact ⟨by rw [← unhide HFJ, ← unhide HQE]; first | rfl | simp, unhide HB5⟩
            · obtain rfl : n = q := by omega
              have HQE : Hid (n = E) := hide (by rw [← unhide HQ, Nat.sub_self, wdT])
              have hqd : decide ((n : Int) < (n : Int)) = false := by simp
              go_wp2_with fail
              have k9 : (wr.drew).cell? ⟨g, 0, none⟩ = some (.slice (some ⟨gr, 0, none⟩) n cr) := q0
              refine wp_region_T (S := fun W => W.cell? ⟨g, 0, none⟩ = some (.slice (some ⟨gr, 0, none⟩) n cr)) (fun i => decide (i < 26)) (by kernel_rfl) k9 (fun hHeld => ?_)
              refine wpAnyT_take (i := 0) (oi := { dst := some 46, op := Op.move (Operand.tmp 8), type := 3, pos := "ref.go:119", after := #[], guard := none }) (v := .int .i64 (n : Int)) rfl (by kernel_rfl) (by kernel_rfl) (by kernel_rfl) (by kernel_rfl) (fun _ _ _ h => h) (Or.inl ⟨by rfl, ?_⟩) hHeld ?_
              · intro w hSw
                have h9 := hSw
                first
                  | rfl
                  | (go_simp; done)
              try simp only [Act.put, List.setIfInBounds_toArray, List.set_cons_zero, List.set_cons_succ]
              refine wpAnyT_take (i := 1) (oi := { dst := some 47, op := Op.move (Operand.tmp 0), type := 28, pos := "ref.go:119", after := #[], guard := none }) (v := .pointer (some ⟨g, 0, none⟩)) rfl (by kernel_rfl) (by kernel_rfl) (by kernel_rfl) (by kernel_rfl) (fun _ _ _ h => h) (Or.inl ⟨by rfl, ?_⟩) hHeld ?_
              · intro w hSw
                have h9 := hSw
                first
                  | rfl
                  | (go_simp; done)
              try simp only [Act.put, List.setIfInBounds_toArray, List.set_cons_zero, List.set_cons_succ]
              refine wpAnyT_take (i := 2) (oi := { dst := some 48, op := Op.nilCheck (Operand.tmp 47), type := 0, pos := "ref.go:119", after := #[{ on := 1, ground := Ground.data }], guard := none }) (v := .pointer (some ⟨g, 0, none⟩)) rfl (by kernel_rfl) (by kernel_rfl) (by kernel_rfl) (by kernel_rfl) (fun _ _ _ h => h) (Or.inl ⟨by rfl, ?_⟩) hHeld ?_
              · intro w hSw
                have h9 := hSw
                first
                  | rfl
                  | (go_simp; done)
              try simp only [Act.put, List.setIfInBounds_toArray, List.set_cons_zero, List.set_cons_succ]
              refine wpAnyT_take (i := 3) (oi := { dst := some 49, op := Op.fieldAddr 42 (Operand.tmp 48) 0, type := 0, pos := "ref.go:119", after := #[{ on := 2, ground := Ground.data }], guard := none }) (v := .pointer (some ⟨g, 0, none⟩)) rfl (by kernel_rfl) (by kernel_rfl) (by kernel_rfl) (by kernel_rfl) (fun _ _ _ h => h) (Or.inl ⟨by rfl, ?_⟩) hHeld ?_
              · intro w hSw
                have h9 := hSw
                first
                  | rfl
                  | (go_simp; done)
              try simp only [Act.put, List.setIfInBounds_toArray, List.set_cons_zero, List.set_cons_succ]
              refine wpAnyT_take (i := 4) (oi := { dst := some 50, op := Op.load 40 (Operand.tmp 49), type := 40, pos := "ref.go:119", after := #[{ on := 3, ground := Ground.data }], guard := none }) (v := .slice (some ⟨gr, 0, none⟩) n cr) rfl (by kernel_rfl) (by kernel_rfl) (by kernel_rfl) (by kernel_rfl) (fun _ _ _ h => h) (Or.inl ⟨by rfl, ?_⟩) hHeld ?_
              · intro w hSw
                have h9 := hSw
                first
                  | rfl
                  | (go_simp; done)
              try simp only [Act.put, List.setIfInBounds_toArray, List.set_cons_zero, List.set_cons_succ]
              refine wpAnyT_take (i := 5) (oi := { dst := some 51, op := Op.call { callee := Callee.builtin Builtin.len, args := #[Operand.tmp 50], argTypes := #[40] }, type := 3, pos := "ref.go:119", after := #[{ on := 4, ground := Ground.data }], guard := none }) (v := .int .i64 (n : Int)) rfl (by kernel_rfl) (by kernel_rfl) (by kernel_rfl) (by kernel_rfl) (fun _ _ _ h => h) (Or.inl ⟨by rfl, ?_⟩) hHeld ?_
              · intro w hSw
                have h9 := hSw
                first
                  | rfl
                  | (go_simp; done)
              try simp only [Act.put, List.setIfInBounds_toArray, List.set_cons_zero, List.set_cons_succ]
              refine wpAnyT_take (i := 6) (oi := { dst := some 52, op := Op.binOp BinOp.lss 3 (Operand.tmp 46) (Operand.tmp 51) 3, type := 4, pos := "ref.go:119", after := #[{ on := 0, ground := Ground.data }, { on := 5, ground := Ground.data }], guard := none }) (v := .bool false) rfl (by kernel_rfl) (by kernel_rfl) (by kernel_rfl) (by kernel_rfl) (fun _ _ _ h => h) (Or.inl ⟨by rfl, ?_⟩) hHeld ?_
              · intro w hSw
                have h9 := hSw
                first
                  | rfl
                  | (go_simp; done)
              try simp only [Act.put, List.setIfInBounds_toArray, List.set_cons_zero, List.set_cons_succ]
              refine wpAnyT_take (i := 7) (oi := { dst := some 53, op := Op.move (Operand.tmp 52), type := 4, pos := "ref.go:119", after := #[{ on := 6, ground := Ground.data }], guard := none }) (v := .bool false) rfl (by kernel_rfl) (by kernel_rfl) (by kernel_rfl) (by kernel_rfl) (fun _ _ _ h => h) (Or.inl ⟨by rfl, ?_⟩) hHeld ?_
              · intro w hSw
                have h9 := hSw
                first
                  | rfl
                  | (go_simp; done)
              try simp only [Act.put, List.setIfInBounds_toArray, List.set_cons_zero, List.set_cons_succ]
              refine wpAnyT_take (i := 8) (oi := { dst := some 54, op := Op.move (Operand.tmp 0), type := 28, pos := "ref.go:119", after := #[{ on := 7, ground := Ground.guard }], guard := some (7, true) }) (v := undef) rfl (by kernel_rfl) (by kernel_rfl) (by kernel_rfl) (by kernel_rfl) (fun _ _ _ h => h) (Or.inr ⟨by rfl, rfl⟩) hHeld ?_
              try simp only [Act.put, List.setIfInBounds_toArray, List.set_cons_zero, List.set_cons_succ]
              refine wpAnyT_take (i := 9) (oi := { dst := some 55, op := Op.nilCheck (Operand.tmp 54), type := 0, pos := "ref.go:119", after := #[{ on := 8, ground := Ground.data }, { on := 7, ground := Ground.guard }], guard := some (7, true) }) (v := undef) rfl (by kernel_rfl) (by kernel_rfl) (by kernel_rfl) (by kernel_rfl) (fun _ _ _ h => h) (Or.inr ⟨by rfl, rfl⟩) hHeld ?_
              try simp only [Act.put, List.setIfInBounds_toArray, List.set_cons_zero, List.set_cons_succ]
              refine wpAnyT_take (i := 10) (oi := { dst := some 56, op := Op.fieldAddr 42 (Operand.tmp 55) 0, type := 0, pos := "ref.go:119", after := #[{ on := 9, ground := Ground.data }, { on := 7, ground := Ground.guard }], guard := some (7, true) }) (v := undef) rfl (by kernel_rfl) (by kernel_rfl) (by kernel_rfl) (by kernel_rfl) (fun _ _ _ h => h) (Or.inr ⟨by rfl, rfl⟩) hHeld ?_
              try simp only [Act.put, List.setIfInBounds_toArray, List.set_cons_zero, List.set_cons_succ]
              refine wpAnyT_take (i := 11) (oi := { dst := some 57, op := Op.load 40 (Operand.tmp 56), type := 40, pos := "ref.go:119", after := #[{ on := 10, ground := Ground.data }, { on := 7, ground := Ground.guard }], guard := some (7, true) }) (v := undef) rfl (by kernel_rfl) (by kernel_rfl) (by kernel_rfl) (by kernel_rfl) (fun _ _ _ h => h) (Or.inr ⟨by rfl, rfl⟩) hHeld ?_
              try simp only [Act.put, List.setIfInBounds_toArray, List.set_cons_zero, List.set_cons_succ]
              refine wpAnyT_take (i := 12) (oi := { dst := some 58, op := Op.move (Operand.tmp 8), type := 3, pos := "ref.go:119", after := #[{ on := 7, ground := Ground.guard }], guard := some (7, true) }) (v := undef) rfl (by kernel_rfl) (by kernel_rfl) (by kernel_rfl) (by kernel_rfl) (fun _ _ _ h => h) (Or.inr ⟨by rfl, rfl⟩) hHeld ?_
              try simp only [Act.put, List.setIfInBounds_toArray, List.set_cons_zero, List.set_cons_succ]
              refine wpAnyT_take (i := 13) (oi := { dst := some 59, op := Op.indexAddr 40 (Operand.tmp 57) (Operand.tmp 58), type := 0, pos := "ref.go:119", after := #[{ on := 11, ground := Ground.data }, { on := 12, ground := Ground.data }, { on := 7, ground := Ground.guard }], guard := some (7, true) }) (v := undef) rfl (by kernel_rfl) (by kernel_rfl) (by kernel_rfl) (by kernel_rfl) (fun _ _ _ h => h) (Or.inr ⟨by rfl, rfl⟩) hHeld ?_
              try simp only [Act.put, List.setIfInBounds_toArray, List.set_cons_zero, List.set_cons_succ]
              refine wpAnyT_take (i := 14) (oi := { dst := some 60, op := Op.load 21 (Operand.tmp 59), type := 21, pos := "ref.go:119", after := #[{ on := 13, ground := Ground.data }, { on := 7, ground := Ground.guard }], guard := some (7, true) }) (v := undef) rfl (by kernel_rfl) (by kernel_rfl) (by kernel_rfl) (by kernel_rfl) (fun _ _ _ h => h) (Or.inr ⟨by rfl, rfl⟩) hHeld ?_
              try simp only [Act.put, List.setIfInBounds_toArray, List.set_cons_zero, List.set_cons_succ]
              refine wpAnyT_take (i := 15) (oi := { dst := some 61, op := Op.call { callee := Callee.value (Operand.func 53), args := #[Operand.tmp 60], argTypes := #[21] }, type := 3, pos := "ref.go:119", after := #[{ on := 14, ground := Ground.data }, { on := 7, ground := Ground.chain }, { on := 7, ground := Ground.guard }], guard := some (7, true) }) (v := undef) rfl (by kernel_rfl) (by kernel_rfl) (by kernel_rfl) (by kernel_rfl) (fun _ _ _ h => h) (Or.inr ⟨by rfl, rfl⟩) hHeld ?_
              try simp only [Act.put, List.setIfInBounds_toArray, List.set_cons_zero, List.set_cons_succ]
              refine wpAnyT_take (i := 16) (oi := { dst := some 62, op := Op.move (Operand.tmp 0), type := 28, pos := "ref.go:119", after := #[{ on := 7, ground := Ground.guard }], guard := some (7, true) }) (v := undef) rfl (by kernel_rfl) (by kernel_rfl) (by kernel_rfl) (by kernel_rfl) (fun _ _ _ h => h) (Or.inr ⟨by rfl, rfl⟩) hHeld ?_
              try simp only [Act.put, List.setIfInBounds_toArray, List.set_cons_zero, List.set_cons_succ]
              refine wpAnyT_take (i := 17) (oi := { dst := some 63, op := Op.nilCheck (Operand.tmp 62), type := 0, pos := "ref.go:119", after := #[{ on := 16, ground := Ground.data }, { on := 7, ground := Ground.guard }], guard := some (7, true) }) (v := undef) rfl (by kernel_rfl) (by kernel_rfl) (by kernel_rfl) (by kernel_rfl) (fun _ _ _ h => h) (Or.inr ⟨by rfl, rfl⟩) hHeld ?_
              try simp only [Act.put, List.setIfInBounds_toArray, List.set_cons_zero, List.set_cons_succ]
              refine wpAnyT_take (i := 18) (oi := { dst := some 64, op := Op.fieldAddr 42 (Operand.tmp 63) 0, type := 0, pos := "ref.go:119", after := #[{ on := 17, ground := Ground.data }, { on := 7, ground := Ground.guard }], guard := some (7, true) }) (v := undef) rfl (by kernel_rfl) (by kernel_rfl) (by kernel_rfl) (by kernel_rfl) (fun _ _ _ h => h) (Or.inr ⟨by rfl, rfl⟩) hHeld ?_
              try simp only [Act.put, List.setIfInBounds_toArray, List.set_cons_zero, List.set_cons_succ]
              refine wpAnyT_take (i := 19) (oi := { dst := some 65, op := Op.load 40 (Operand.tmp 64), type := 40, pos := "ref.go:119", after := #[{ on := 18, ground := Ground.data }, { on := 7, ground := Ground.guard }], guard := some (7, true) }) (v := undef) rfl (by kernel_rfl) (by kernel_rfl) (by kernel_rfl) (by kernel_rfl) (fun _ _ _ h => h) (Or.inr ⟨by rfl, rfl⟩) hHeld ?_
              try simp only [Act.put, List.setIfInBounds_toArray, List.set_cons_zero, List.set_cons_succ]
              refine wpAnyT_take (i := 20) (oi := { dst := some 66, op := Op.move (Operand.tmp 1), type := 3, pos := "ref.go:119", after := #[{ on := 7, ground := Ground.guard }], guard := some (7, true) }) (v := undef) rfl (by kernel_rfl) (by kernel_rfl) (by kernel_rfl) (by kernel_rfl) (fun _ _ _ h => h) (Or.inr ⟨by rfl, rfl⟩) hHeld ?_
              try simp only [Act.put, List.setIfInBounds_toArray, List.set_cons_zero, List.set_cons_succ]
              refine wpAnyT_take (i := 21) (oi := { dst := some 67, op := Op.indexAddr 40 (Operand.tmp 65) (Operand.tmp 66), type := 0, pos := "ref.go:119", after := #[{ on := 19, ground := Ground.data }, { on := 20, ground := Ground.data }, { on := 7, ground := Ground.guard }], guard := some (7, true) }) (v := undef) rfl (by kernel_rfl) (by kernel_rfl) (by kernel_rfl) (by kernel_rfl) (fun _ _ _ h => h) (Or.inr ⟨by rfl, rfl⟩) hHeld ?_
              try simp only [Act.put, List.setIfInBounds_toArray, List.set_cons_zero, List.set_cons_succ]
              refine wpAnyT_take (i := 22) (oi := { dst := some 68, op := Op.load 21 (Operand.tmp 67), type := 21, pos := "ref.go:119", after := #[{ on := 21, ground := Ground.data }, { on := 7, ground := Ground.guard }], guard := some (7, true) }) (v := undef) rfl (by kernel_rfl) (by kernel_rfl) (by kernel_rfl) (by kernel_rfl) (fun _ _ _ h => h) (Or.inr ⟨by rfl, rfl⟩) hHeld ?_
              try simp only [Act.put, List.setIfInBounds_toArray, List.set_cons_zero, List.set_cons_succ]
              refine wpAnyT_take (i := 23) (oi := { dst := some 69, op := Op.call { callee := Callee.value (Operand.func 53), args := #[Operand.tmp 68], argTypes := #[21] }, type := 3, pos := "ref.go:119", after := #[{ on := 22, ground := Ground.data }, { on := 15, ground := Ground.chain }, { on := 7, ground := Ground.guard }], guard := some (7, true) }) (v := undef) rfl (by kernel_rfl) (by kernel_rfl) (by kernel_rfl) (by kernel_rfl) (fun _ _ _ h => h) (Or.inr ⟨by rfl, rfl⟩) hHeld ?_
              try simp only [Act.put, List.setIfInBounds_toArray, List.set_cons_zero, List.set_cons_succ]
              refine wpAnyT_take (i := 24) (oi := { dst := some 70, op := Op.binOp BinOp.eql 3 (Operand.tmp 61) (Operand.tmp 69) 3, type := 4, pos := "ref.go:119", after := #[{ on := 15, ground := Ground.data }, { on := 23, ground := Ground.data }, { on := 7, ground := Ground.guard }], guard := some (7, true) }) (v := undef) rfl (by kernel_rfl) (by kernel_rfl) (by kernel_rfl) (by kernel_rfl) (fun _ _ _ h => h) (Or.inr ⟨by rfl, rfl⟩) hHeld ?_
              try simp only [Act.put, List.setIfInBounds_toArray, List.set_cons_zero, List.set_cons_succ]
              refine wpAnyT_take (i := 25) (oi := { dst := some 71, op := Op.pick (Operand.tmp 53) (Operand.tmp 70) (Operand.const (Value.bool false)), type := 4, pos := "ref.go:119", after := #[{ on := 7, ground := Ground.data }, { on := 24, ground := Ground.data }], guard := none }) (v := .bool false) rfl (by kernel_rfl) (by kernel_rfl) (by kernel_rfl) (by kernel_rfl) (fun _ _ _ h => h) (Or.inl ⟨by rfl, ?_⟩) hHeld ?_
              · intro w hSw
                have h9 := hSw
                first
                  | rfl
                  | (go_simp; done)
              try simp only [Act.put, List.setIfInBounds_toArray, List.set_cons_zero, List.set_cons_succ]
              refine wpAnyT_done (by kernel_rfl) ?_ _
              have HB5 := hide ((unhide HB).drew)
              go_wp2_with fail
              go_returns
              exact ⟨by rw [← unhide HFJ, ← unhide HQE]; first | rfl | simp, unhide HB5⟩
  · rw [wordE_out hi]
    obtain ⟨n, hn⟩ : ∃ z, cs.length = z := ⟨_, rfl⟩
    rw [hn] at q0 hl hi
    clear HI HE1 hn hncr
    by_cases h0 : i < 0
    · 
      go_enter Tryd.func28, Tryd.ntmps28
      go_wp2_with fail
      go_returns
      exact ⟨rfl, Below.refl _ _⟩
    · have h1 : (n : Int) ≤ i := by omega
      go_enter Tryd.func28, Tryd.ntmps28
      go_wp2_with fail
      go_returns
      exact ⟨rfl, Below.refl _ _⟩
end Go.Proofs.YtdnbhomjfgpcfaaDoor
