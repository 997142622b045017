/- The rounds over the program: what is counted. -/
import Derived.Test.YtmkpphkdaiienaaCRt
import Derived.Test.YtmkpphkdaiienaaCAn
namespace Go.Proofs.Ytmkpphkdaiienaa
set_option linter.unusedVariables false
set_option linter.unusedSimpArgs false
open Go.ChangeShapes Go.WideShapes Go.ChangeAt Go.RowKit Go.Joins Go.Deep

set_option maxRecDepth 100000 in
set_option maxHeartbeats 4000000 in
theorem right_big (B gp N : Nat) (P : PS) (w : World) (h : Pair w B gp P) (ho : Ordr N P) (hN : N ≤ 100000) :
    Calls Try.prog 33 #[.pointer (some ⟨gp, 0, none⟩)] w fun r w' => r = .returned (.bool true) ∧ Pair w' B gp P ∧ Below w.heap.size w w' := by
  have HI0 : Hid (Pair w B gp P ∧ Below w.heap.size w w) := hide ⟨h, Below.refl _ _⟩
  have HO := hide ho
  clear h ho
  go_enter Try.func33, Try.ntmps33
  go_wp2_with fail
  go_loopw [6] (fun s wr => ∃ k : Nat, k ≤ 2 ∧ s = .int .i64 (k : Int) ∧ Hid (Pair wr B gp P ∧ Below w.heap.size w wr)) (fun s _ => (2 - intOf s).toNat)
  case atStart => exact ⟨0, by omega, by simp, HI0⟩
  case round =>
    clear HI0
    obtain ⟨k, hk, rfl, HI⟩ := hrel
    obtain rfl | rfl | rfl : k = 0 ∨ k = 1 ∨ k = 2 := by omega
    · skip
      obtain ⟨ag, cg, hag⟩ := own_one ((unhide HI).1.rows 0 (by decide))
      obtain ⟨at', ct, hat⟩ := own_one ((unhide HI).1.rows 3 (by decide))
      obtain ⟨htl, hte⟩ := (unhide HO).d0.told
      have HAG := hide hag
      have HAT := hide hat
      obtain ⟨ng, hng⟩ : ∃ z, (P.X 0).length = z := ⟨_, rfl⟩
      obtain ⟨nt, hnt⟩ : ∃ z, (P.X 3).length = z := ⟨_, rfl⟩
      have HNG := hide hng
      have HNT := hide hnt
      have HTE := hide hte
      rw [show 2 + 1 = 3 from rfl] at htl
      rw [hng, hnt] at htl
      rw [hng] at HAG
      rw [hnt] at HAT
      have hcg : ng ≤ cg := by
        have h9 := (unhide HI).1.rows 0 (by decide)
        rcases h9.2 with ⟨_, h0⟩ | ⟨g9, c9, cur9, e9, _, _, h3, _⟩
        · omega
        · rw [unhide HAG] at e9; injection e9 with _ e8 e9; omega
      have hct : nt ≤ ct := by
        have h9 := (unhide HI).1.rows 3 (by decide)
        rcases h9.2 with ⟨_, h0⟩ | ⟨g9, c9, cur9, e9, _, _, h3, _⟩
        · omega
        · rw [unhide HAT] at e9; injection e9 with _ e8 e9; omega
      have hng2 : ng ≤ 100000 := by have := (unhide HO).good.len 0 (by decide); have := unhide HNG; omega
      clear hag hat hng hnt hte
      go_wp2_with fail
      refine wp_region_T (S := fun W => W.cell? ⟨gp, 4, none⟩ = some (.slice ag ng cg) ∧ W.cell? ⟨gp, 7, none⟩ = some (.slice at' nt ct)) (fun i => decide (i < 15)) (by kernel_rfl) ⟨by rw [← unhide HAG]; exact (unhide HI).1.row.cell 4, by rw [← unhide HAT]; exact (unhide HI).1.row.cell 7⟩ (fun hHeld => ?_)
      have bd : Below wr.heap.size wr wr.drew := Below.drew (Below.refl _ _)
      have HI2 := hide (And.intro ((unhide HI).1.call bd) ((unhide HI).2.trans (bd.mono (unhide HI).2.size)))
      obtain ⟨w2, hw2⟩ : ∃ z, wr.drew = z := ⟨_, rfl⟩
      rw [hw2] at HI2 hHeld ⊢
      clear hw2 bd HI
      refine wpAnyT_take (i := 0) (oi := { dst := some 9, op := Op.move (Operand.tmp 0), type := 59, pos := "law.go:168", after := #[], guard := none }) (v := .pointer (some ⟨gp, 0, none⟩)) rfl (by kernel_rfl) (by kernel_rfl) (by kernel_rfl) (by kernel_rfl) (fun _ _ _ h => h) (Or.inl ⟨by rfl, ?_⟩) hHeld ?_
      · intro w hSw
        obtain ⟨h0, h1⟩ := hSw
        first
          | rfl
          | (go_simp; done)
      try simp only [Act.put, List.setIfInBounds_toArray, List.set_cons_zero, List.set_cons_succ]
      refine wpAnyT_take (i := 1) (oi := { dst := some 10, op := Op.move (Operand.tmp 3), type := 3, pos := "law.go:168", after := #[], guard := none }) (v := .int .i64 0) rfl (by kernel_rfl) (by kernel_rfl) (by kernel_rfl) (by kernel_rfl) (fun _ _ _ h => h) (Or.inl ⟨by rfl, ?_⟩) hHeld ?_
      · intro w hSw
        obtain ⟨h0, h1⟩ := hSw
        first
          | rfl
          | (go_simp; done)
      try simp only [Act.put, List.setIfInBounds_toArray, List.set_cons_zero, List.set_cons_succ]
      refine wpAnyT_take (i := 2) (oi := { dst := some 11, op := Op.nilCheck (Operand.tmp 9), type := 0, pos := "law.go:168", after := #[{ on := 0, ground := Ground.data }], guard := none }) (v := .pointer (some ⟨gp, 0, none⟩)) rfl (by kernel_rfl) (by kernel_rfl) (by kernel_rfl) (by kernel_rfl) (fun _ _ _ h => h) (Or.inl ⟨by rfl, ?_⟩) hHeld ?_
      · intro w hSw
        obtain ⟨h0, h1⟩ := hSw
        first
          | rfl
          | (go_simp; done)
      try simp only [Act.put, List.setIfInBounds_toArray, List.set_cons_zero, List.set_cons_succ]
      refine wpAnyT_take (i := 3) (oi := { dst := some 12, op := Op.fieldAddr 65 (Operand.tmp 11) 2, type := 0, pos := "law.go:168", after := #[{ on := 2, ground := Ground.data }], guard := none }) (v := .pointer (some ⟨gp, 4, none⟩)) rfl (by kernel_rfl) (by kernel_rfl) (by kernel_rfl) (by kernel_rfl) (fun _ _ _ h => h) (Or.inl ⟨by rfl, ?_⟩) hHeld ?_
      · intro w hSw
        obtain ⟨h0, h1⟩ := hSw
        first
          | rfl
          | (go_simp; done)
      try simp only [Act.put, List.setIfInBounds_toArray, List.set_cons_zero, List.set_cons_succ]
      refine wpAnyT_take (i := 4) (oi := { dst := some 13, op := Op.indexAddr 63 (Operand.tmp 12) (Operand.tmp 10), type := 0, pos := "law.go:168", after := #[{ on := 3, ground := Ground.data }, { on := 1, ground := Ground.data }], guard := none }) (v := .pointer (some ⟨gp, 4, none⟩)) rfl (by kernel_rfl) (by kernel_rfl) (by kernel_rfl) (by kernel_rfl) (fun _ _ _ h => h) (Or.inl ⟨by rfl, ?_⟩) hHeld ?_
      · intro w hSw
        obtain ⟨h0, h1⟩ := hSw
        first
          | rfl
          | (go_simp; done)
      try simp only [Act.put, List.setIfInBounds_toArray, List.set_cons_zero, List.set_cons_succ]
      refine wpAnyT_take (i := 5) (oi := { dst := some 14, op := Op.load 40 (Operand.tmp 13), type := 40, pos := "law.go:168", after := #[{ on := 4, ground := Ground.data }], guard := none }) (v := .slice ag ng cg) rfl (by kernel_rfl) (by kernel_rfl) (by kernel_rfl) (by kernel_rfl) (fun _ _ _ h => h) (Or.inl ⟨by rfl, ?_⟩) hHeld ?_
      · intro w hSw
        obtain ⟨h0, h1⟩ := hSw
        first
          | rfl
          | (go_simp; done)
      try simp only [Act.put, List.setIfInBounds_toArray, List.set_cons_zero, List.set_cons_succ]
      refine wpAnyT_take (i := 6) (oi := { dst := some 15, op := Op.move (Operand.tmp 0), type := 59, pos := "law.go:168", after := #[{ on := 13, ground := Ground.gcOnly Departure.lateStores }], guard := none }) (v := .pointer (some ⟨gp, 0, none⟩)) rfl (by kernel_rfl) (by kernel_rfl) (by kernel_rfl) (by kernel_rfl) (fun _ _ _ h => h) (Or.inl ⟨by rfl, ?_⟩) hHeld ?_
      · intro w hSw
        obtain ⟨h0, h1⟩ := hSw
        first
          | rfl
          | (go_simp; done)
      try simp only [Act.put, List.setIfInBounds_toArray, List.set_cons_zero, List.set_cons_succ]
      refine wpAnyT_take (i := 7) (oi := { dst := some 16, op := Op.move (Operand.tmp 3), type := 3, pos := "law.go:168", after := #[{ on := 13, ground := Ground.gcOnly Departure.lateStores }], guard := none }) (v := .int .i64 0) rfl (by kernel_rfl) (by kernel_rfl) (by kernel_rfl) (by kernel_rfl) (fun _ _ _ h => h) (Or.inl ⟨by rfl, ?_⟩) hHeld ?_
      · intro w hSw
        obtain ⟨h0, h1⟩ := hSw
        first
          | rfl
          | (go_simp; done)
      try simp only [Act.put, List.setIfInBounds_toArray, List.set_cons_zero, List.set_cons_succ]
      refine wpAnyT_take (i := 8) (oi := { dst := some 17, op := Op.binOp BinOp.sub 3 (Operand.const (Value.int IntKind.i64 1)) (Operand.tmp 16) 3, type := 3, pos := "law.go:168", after := #[{ on := 7, ground := Ground.data }, { on := 13, ground := Ground.gcOnly Departure.lateStores }], guard := none }) (v := .int .i64 1) rfl (by kernel_rfl) (by kernel_rfl) (by kernel_rfl) (by kernel_rfl) (fun _ _ _ h => h) (Or.inl ⟨by rfl, ?_⟩) hHeld ?_
      · intro w hSw
        obtain ⟨h0, h1⟩ := hSw
        first
          | rfl
          | (go_simp; done)
      try simp only [Act.put, List.setIfInBounds_toArray, List.set_cons_zero, List.set_cons_succ]
      refine wpAnyT_take (i := 9) (oi := { dst := some 18, op := Op.nilCheck (Operand.tmp 15), type := 0, pos := "law.go:168", after := #[{ on := 6, ground := Ground.data }, { on := 13, ground := Ground.gcOnly Departure.lateStores }], guard := none }) (v := .pointer (some ⟨gp, 0, none⟩)) rfl (by kernel_rfl) (by kernel_rfl) (by kernel_rfl) (by kernel_rfl) (fun _ _ _ h => h) (Or.inl ⟨by rfl, ?_⟩) hHeld ?_
      · intro w hSw
        obtain ⟨h0, h1⟩ := hSw
        first
          | rfl
          | (go_simp; done)
      try simp only [Act.put, List.setIfInBounds_toArray, List.set_cons_zero, List.set_cons_succ]
      refine wpAnyT_take (i := 10) (oi := { dst := some 19, op := Op.fieldAddr 65 (Operand.tmp 18) 3, type := 0, pos := "law.go:168", after := #[{ on := 9, ground := Ground.data }, { on := 13, ground := Ground.gcOnly Departure.lateStores }], guard := none }) (v := .pointer (some ⟨gp, 6, none⟩)) rfl (by kernel_rfl) (by kernel_rfl) (by kernel_rfl) (by kernel_rfl) (fun _ _ _ h => h) (Or.inl ⟨by rfl, ?_⟩) hHeld ?_
      · intro w hSw
        obtain ⟨h0, h1⟩ := hSw
        first
          | rfl
          | (go_simp; done)
      try simp only [Act.put, List.setIfInBounds_toArray, List.set_cons_zero, List.set_cons_succ]
      refine wpAnyT_take (i := 11) (oi := { dst := some 20, op := Op.indexAddr 63 (Operand.tmp 19) (Operand.tmp 17), type := 0, pos := "law.go:168", after := #[{ on := 10, ground := Ground.data }, { on := 8, ground := Ground.data }, { on := 13, ground := Ground.gcOnly Departure.lateStores }], guard := none }) (v := .pointer (some ⟨gp, 7, none⟩)) rfl (by kernel_rfl) (by kernel_rfl) (by kernel_rfl) (by kernel_rfl) (fun _ _ _ h => h) (Or.inl ⟨by rfl, ?_⟩) hHeld ?_
      · intro w hSw
        obtain ⟨h0, h1⟩ := hSw
        first
          | rfl
          | (go_simp; done)
      try simp only [Act.put, List.setIfInBounds_toArray, List.set_cons_zero, List.set_cons_succ]
      refine wpAnyT_take (i := 12) (oi := { dst := some 21, op := Op.load 40 (Operand.tmp 20), type := 40, pos := "law.go:168", after := #[{ on := 11, ground := Ground.data }, { on := 13, ground := Ground.gcOnly Departure.lateStores }], guard := none }) (v := .slice at' nt ct) rfl (by kernel_rfl) (by kernel_rfl) (by kernel_rfl) (by kernel_rfl) (fun _ _ _ h => h) (Or.inl ⟨by rfl, ?_⟩) hHeld ?_
      · intro w hSw
        obtain ⟨h0, h1⟩ := hSw
        first
          | rfl
          | (go_simp; done)
      try simp only [Act.put, List.setIfInBounds_toArray, List.set_cons_zero, List.set_cons_succ]
      refine wpAnyT_take (i := 13) (oi := { dst := some 4, op := Op.assign (Operand.tmp 14), type := 40, pos := "law.go:168", after := #[{ on := 5, ground := Ground.data }, { on := 0, ground := Ground.phase }, { on := 1, ground := Ground.phase }, { on := 2, ground := Ground.phase }, { on := 3, ground := Ground.phase }, { on := 4, ground := Ground.phase }, { on := 5, ground := Ground.phase }, { on := 6, ground := Ground.textOnly Departure.lateStores }, { on := 7, ground := Ground.textOnly Departure.lateStores }, { on := 8, ground := Ground.textOnly Departure.lateStores }, { on := 9, ground := Ground.textOnly Departure.lateStores }, { on := 10, ground := Ground.textOnly Departure.lateStores }, { on := 11, ground := Ground.textOnly Departure.lateStores }, { on := 12, ground := Ground.textOnly Departure.lateStores }], guard := none }) (v := .slice ag ng cg) rfl (by kernel_rfl) (by kernel_rfl) (by kernel_rfl) (by kernel_rfl) (fun _ _ _ h => h) (Or.inl ⟨by rfl, ?_⟩) hHeld ?_
      · intro w hSw
        obtain ⟨h0, h1⟩ := hSw
        first
          | rfl
          | (go_simp; done)
      try simp only [Act.put, List.setIfInBounds_toArray, List.set_cons_zero, List.set_cons_succ]
      refine wpAnyT_take (i := 14) (oi := { dst := some 5, op := Op.assign (Operand.tmp 21), type := 40, pos := "law.go:168", after := #[{ on := 12, ground := Ground.data }, { on := 13, ground := Ground.chain }, { on := 0, ground := Ground.phase }, { on := 1, ground := Ground.phase }, { on := 2, ground := Ground.phase }, { on := 3, ground := Ground.phase }, { on := 4, ground := Ground.phase }, { on := 5, ground := Ground.phase }, { on := 6, ground := Ground.phase }, { on := 7, ground := Ground.phase }, { on := 8, ground := Ground.phase }, { on := 9, ground := Ground.phase }, { on := 10, ground := Ground.phase }, { on := 11, ground := Ground.phase }, { on := 12, ground := Ground.phase }, { on := 13, ground := Ground.phase }], guard := none }) (v := .slice at' nt ct) rfl (by kernel_rfl) (by kernel_rfl) (by kernel_rfl) (by kernel_rfl) (fun _ _ _ h => h) (Or.inl ⟨by rfl, ?_⟩) hHeld ?_
      · intro w hSw
        obtain ⟨h0, h1⟩ := hSw
        first
          | rfl
          | (go_simp; done)
      try simp only [Act.put, List.setIfInBounds_toArray, List.set_cons_zero, List.set_cons_succ]
      refine wpAnyT_done (by kernel_rfl) ?_ _
      have j1 : (nt : Int) ≤ (ng : Int) := by omega
      have j2 : (0 : Int) ≤ (nt : Int) := by omega
      have j3 : (nt : Int) ≤ (cg : Int) := by omega
      have HLT := hide (lsat_of (by have h9 := (unhide HI2).1.rows 3 (by decide); rw [unhide HAT] at h9; exact h9) ((unhide HI2).1.vb 3 (by decide)))
      have HLG := hide ((lsat_of (by have h9 := (unhide HI2).1.rows 0 (by decide); rw [unhide HAG] at h9; exact h9) ((unhide HI2).1.vb 0 (by decide))).take nt)
      have H256 : Hid (∀ x ∈ P.X 3, ∀ y ∈ x.2, y < 256) := hide (fun x hx y hy => by
        obtain ⟨m, hm⟩ := List.getElem?_of_mem hx
        have h9 := (unhide HO).d0.t m x hm
        rw [List.getElem?_map] at h9
        obtain ⟨z, hz, hz2⟩ := Option.map_eq_some_iff.1 h9
        exact (unhide HO).g256 0 (by decide) z (List.mem_of_getElem? hz) y (by rw [hz2]; exact hy))
      clear hHeld
      go_wp2_with fail
      refine Calls.mono (eqf_same at' ag nt ct cg (P.X 3) ((P.X 0).take nt) w2 (unhide HLT) (unhide HLG) (unhide HNT) (by rw [List.length_take, unhide HNG]; omega) (by have := unhide HTE; rw [show 2 + 1 = 3 from rfl, unhide HNT] at this; exact this) (unhide H256) hct (by omega) (by omega)) ?_
      rintro r w9 ⟨rfl, rfl⟩
      go_wp2_with fail
      go_roundw
      case rel => exact ⟨0 + 1, by omega, by simp, HI2⟩
      case measure => simp [intOf]
    · skip
      obtain ⟨ag, cg, hag⟩ := own_one ((unhide HI).1.rows 1 (by decide))
      obtain ⟨at', ct, hat⟩ := own_one ((unhide HI).1.rows 2 (by decide))
      obtain ⟨htl, hte⟩ := (unhide HO).d1.told
      have HAG := hide hag
      have HAT := hide hat
      obtain ⟨ng, hng⟩ : ∃ z, (P.X 1).length = z := ⟨_, rfl⟩
      obtain ⟨nt, hnt⟩ : ∃ z, (P.X 2).length = z := ⟨_, rfl⟩
      have HNG := hide hng
      have HNT := hide hnt
      have HTE := hide hte
      rw [show 2 + 0 = 2 from rfl] at htl
      rw [hng, hnt] at htl
      rw [hng] at HAG
      rw [hnt] at HAT
      have hcg : ng ≤ cg := by
        have h9 := (unhide HI).1.rows 1 (by decide)
        rcases h9.2 with ⟨_, h0⟩ | ⟨g9, c9, cur9, e9, _, _, h3, _⟩
        · omega
        · rw [unhide HAG] at e9; injection e9 with _ e8 e9; omega
      have hct : nt ≤ ct := by
        have h9 := (unhide HI).1.rows 2 (by decide)
        rcases h9.2 with ⟨_, h0⟩ | ⟨g9, c9, cur9, e9, _, _, h3, _⟩
        · omega
        · rw [unhide HAT] at e9; injection e9 with _ e8 e9; omega
      have hng2 : ng ≤ 100000 := by have := (unhide HO).good.len 1 (by decide); have := unhide HNG; omega
      clear hag hat hng hnt hte
      go_wp2_with fail
      refine wp_region_T (S := fun W => W.cell? ⟨gp, 5, none⟩ = some (.slice ag ng cg) ∧ W.cell? ⟨gp, 6, none⟩ = some (.slice at' nt ct)) (fun i => decide (i < 15)) (by kernel_rfl) ⟨by rw [← unhide HAG]; exact (unhide HI).1.row.cell 5, by rw [← unhide HAT]; exact (unhide HI).1.row.cell 6⟩ (fun hHeld => ?_)
      have bd : Below wr.heap.size wr wr.drew := Below.drew (Below.refl _ _)
      have HI2 := hide (And.intro ((unhide HI).1.call bd) ((unhide HI).2.trans (bd.mono (unhide HI).2.size)))
      obtain ⟨w2, hw2⟩ : ∃ z, wr.drew = z := ⟨_, rfl⟩
      rw [hw2] at HI2 hHeld ⊢
      clear hw2 bd HI
      refine wpAnyT_take (i := 0) (oi := { dst := some 9, op := Op.move (Operand.tmp 0), type := 59, pos := "law.go:168", after := #[], guard := none }) (v := .pointer (some ⟨gp, 0, none⟩)) rfl (by kernel_rfl) (by kernel_rfl) (by kernel_rfl) (by kernel_rfl) (fun _ _ _ h => h) (Or.inl ⟨by rfl, ?_⟩) hHeld ?_
      · intro w hSw
        obtain ⟨h0, h1⟩ := hSw
        first
          | rfl
          | (go_simp; done)
      try simp only [Act.put, List.setIfInBounds_toArray, List.set_cons_zero, List.set_cons_succ]
      refine wpAnyT_take (i := 1) (oi := { dst := some 10, op := Op.move (Operand.tmp 3), type := 3, pos := "law.go:168", after := #[], guard := none }) (v := .int .i64 1) rfl (by kernel_rfl) (by kernel_rfl) (by kernel_rfl) (by kernel_rfl) (fun _ _ _ h => h) (Or.inl ⟨by rfl, ?_⟩) hHeld ?_
      · intro w hSw
        obtain ⟨h0, h1⟩ := hSw
        first
          | rfl
          | (go_simp; done)
      try simp only [Act.put, List.setIfInBounds_toArray, List.set_cons_zero, List.set_cons_succ]
      refine wpAnyT_take (i := 2) (oi := { dst := some 11, op := Op.nilCheck (Operand.tmp 9), type := 0, pos := "law.go:168", after := #[{ on := 0, ground := Ground.data }], guard := none }) (v := .pointer (some ⟨gp, 0, none⟩)) rfl (by kernel_rfl) (by kernel_rfl) (by kernel_rfl) (by kernel_rfl) (fun _ _ _ h => h) (Or.inl ⟨by rfl, ?_⟩) hHeld ?_
      · intro w hSw
        obtain ⟨h0, h1⟩ := hSw
        first
          | rfl
          | (go_simp; done)
      try simp only [Act.put, List.setIfInBounds_toArray, List.set_cons_zero, List.set_cons_succ]
      refine wpAnyT_take (i := 3) (oi := { dst := some 12, op := Op.fieldAddr 65 (Operand.tmp 11) 2, type := 0, pos := "law.go:168", after := #[{ on := 2, ground := Ground.data }], guard := none }) (v := .pointer (some ⟨gp, 4, none⟩)) rfl (by kernel_rfl) (by kernel_rfl) (by kernel_rfl) (by kernel_rfl) (fun _ _ _ h => h) (Or.inl ⟨by rfl, ?_⟩) hHeld ?_
      · intro w hSw
        obtain ⟨h0, h1⟩ := hSw
        first
          | rfl
          | (go_simp; done)
      try simp only [Act.put, List.setIfInBounds_toArray, List.set_cons_zero, List.set_cons_succ]
      refine wpAnyT_take (i := 4) (oi := { dst := some 13, op := Op.indexAddr 63 (Operand.tmp 12) (Operand.tmp 10), type := 0, pos := "law.go:168", after := #[{ on := 3, ground := Ground.data }, { on := 1, ground := Ground.data }], guard := none }) (v := .pointer (some ⟨gp, 5, none⟩)) rfl (by kernel_rfl) (by kernel_rfl) (by kernel_rfl) (by kernel_rfl) (fun _ _ _ h => h) (Or.inl ⟨by rfl, ?_⟩) hHeld ?_
      · intro w hSw
        obtain ⟨h0, h1⟩ := hSw
        first
          | rfl
          | (go_simp; done)
      try simp only [Act.put, List.setIfInBounds_toArray, List.set_cons_zero, List.set_cons_succ]
      refine wpAnyT_take (i := 5) (oi := { dst := some 14, op := Op.load 40 (Operand.tmp 13), type := 40, pos := "law.go:168", after := #[{ on := 4, ground := Ground.data }], guard := none }) (v := .slice ag ng cg) rfl (by kernel_rfl) (by kernel_rfl) (by kernel_rfl) (by kernel_rfl) (fun _ _ _ h => h) (Or.inl ⟨by rfl, ?_⟩) hHeld ?_
      · intro w hSw
        obtain ⟨h0, h1⟩ := hSw
        first
          | rfl
          | (go_simp; done)
      try simp only [Act.put, List.setIfInBounds_toArray, List.set_cons_zero, List.set_cons_succ]
      refine wpAnyT_take (i := 6) (oi := { dst := some 15, op := Op.move (Operand.tmp 0), type := 59, pos := "law.go:168", after := #[{ on := 13, ground := Ground.gcOnly Departure.lateStores }], guard := none }) (v := .pointer (some ⟨gp, 0, none⟩)) rfl (by kernel_rfl) (by kernel_rfl) (by kernel_rfl) (by kernel_rfl) (fun _ _ _ h => h) (Or.inl ⟨by rfl, ?_⟩) hHeld ?_
      · intro w hSw
        obtain ⟨h0, h1⟩ := hSw
        first
          | rfl
          | (go_simp; done)
      try simp only [Act.put, List.setIfInBounds_toArray, List.set_cons_zero, List.set_cons_succ]
      refine wpAnyT_take (i := 7) (oi := { dst := some 16, op := Op.move (Operand.tmp 3), type := 3, pos := "law.go:168", after := #[{ on := 13, ground := Ground.gcOnly Departure.lateStores }], guard := none }) (v := .int .i64 1) rfl (by kernel_rfl) (by kernel_rfl) (by kernel_rfl) (by kernel_rfl) (fun _ _ _ h => h) (Or.inl ⟨by rfl, ?_⟩) hHeld ?_
      · intro w hSw
        obtain ⟨h0, h1⟩ := hSw
        first
          | rfl
          | (go_simp; done)
      try simp only [Act.put, List.setIfInBounds_toArray, List.set_cons_zero, List.set_cons_succ]
      refine wpAnyT_take (i := 8) (oi := { dst := some 17, op := Op.binOp BinOp.sub 3 (Operand.const (Value.int IntKind.i64 1)) (Operand.tmp 16) 3, type := 3, pos := "law.go:168", after := #[{ on := 7, ground := Ground.data }, { on := 13, ground := Ground.gcOnly Departure.lateStores }], guard := none }) (v := .int .i64 0) rfl (by kernel_rfl) (by kernel_rfl) (by kernel_rfl) (by kernel_rfl) (fun _ _ _ h => h) (Or.inl ⟨by rfl, ?_⟩) hHeld ?_
      · intro w hSw
        obtain ⟨h0, h1⟩ := hSw
        first
          | rfl
          | (go_simp; done)
      try simp only [Act.put, List.setIfInBounds_toArray, List.set_cons_zero, List.set_cons_succ]
      refine wpAnyT_take (i := 9) (oi := { dst := some 18, op := Op.nilCheck (Operand.tmp 15), type := 0, pos := "law.go:168", after := #[{ on := 6, ground := Ground.data }, { on := 13, ground := Ground.gcOnly Departure.lateStores }], guard := none }) (v := .pointer (some ⟨gp, 0, none⟩)) rfl (by kernel_rfl) (by kernel_rfl) (by kernel_rfl) (by kernel_rfl) (fun _ _ _ h => h) (Or.inl ⟨by rfl, ?_⟩) hHeld ?_
      · intro w hSw
        obtain ⟨h0, h1⟩ := hSw
        first
          | rfl
          | (go_simp; done)
      try simp only [Act.put, List.setIfInBounds_toArray, List.set_cons_zero, List.set_cons_succ]
      refine wpAnyT_take (i := 10) (oi := { dst := some 19, op := Op.fieldAddr 65 (Operand.tmp 18) 3, type := 0, pos := "law.go:168", after := #[{ on := 9, ground := Ground.data }, { on := 13, ground := Ground.gcOnly Departure.lateStores }], guard := none }) (v := .pointer (some ⟨gp, 6, none⟩)) rfl (by kernel_rfl) (by kernel_rfl) (by kernel_rfl) (by kernel_rfl) (fun _ _ _ h => h) (Or.inl ⟨by rfl, ?_⟩) hHeld ?_
      · intro w hSw
        obtain ⟨h0, h1⟩ := hSw
        first
          | rfl
          | (go_simp; done)
      try simp only [Act.put, List.setIfInBounds_toArray, List.set_cons_zero, List.set_cons_succ]
      refine wpAnyT_take (i := 11) (oi := { dst := some 20, op := Op.indexAddr 63 (Operand.tmp 19) (Operand.tmp 17), type := 0, pos := "law.go:168", after := #[{ on := 10, ground := Ground.data }, { on := 8, ground := Ground.data }, { on := 13, ground := Ground.gcOnly Departure.lateStores }], guard := none }) (v := .pointer (some ⟨gp, 6, none⟩)) rfl (by kernel_rfl) (by kernel_rfl) (by kernel_rfl) (by kernel_rfl) (fun _ _ _ h => h) (Or.inl ⟨by rfl, ?_⟩) hHeld ?_
      · intro w hSw
        obtain ⟨h0, h1⟩ := hSw
        first
          | rfl
          | (go_simp; done)
      try simp only [Act.put, List.setIfInBounds_toArray, List.set_cons_zero, List.set_cons_succ]
      refine wpAnyT_take (i := 12) (oi := { dst := some 21, op := Op.load 40 (Operand.tmp 20), type := 40, pos := "law.go:168", after := #[{ on := 11, ground := Ground.data }, { on := 13, ground := Ground.gcOnly Departure.lateStores }], guard := none }) (v := .slice at' nt ct) rfl (by kernel_rfl) (by kernel_rfl) (by kernel_rfl) (by kernel_rfl) (fun _ _ _ h => h) (Or.inl ⟨by rfl, ?_⟩) hHeld ?_
      · intro w hSw
        obtain ⟨h0, h1⟩ := hSw
        first
          | rfl
          | (go_simp; done)
      try simp only [Act.put, List.setIfInBounds_toArray, List.set_cons_zero, List.set_cons_succ]
      refine wpAnyT_take (i := 13) (oi := { dst := some 4, op := Op.assign (Operand.tmp 14), type := 40, pos := "law.go:168", after := #[{ on := 5, ground := Ground.data }, { on := 0, ground := Ground.phase }, { on := 1, ground := Ground.phase }, { on := 2, ground := Ground.phase }, { on := 3, ground := Ground.phase }, { on := 4, ground := Ground.phase }, { on := 5, ground := Ground.phase }, { on := 6, ground := Ground.textOnly Departure.lateStores }, { on := 7, ground := Ground.textOnly Departure.lateStores }, { on := 8, ground := Ground.textOnly Departure.lateStores }, { on := 9, ground := Ground.textOnly Departure.lateStores }, { on := 10, ground := Ground.textOnly Departure.lateStores }, { on := 11, ground := Ground.textOnly Departure.lateStores }, { on := 12, ground := Ground.textOnly Departure.lateStores }], guard := none }) (v := .slice ag ng cg) rfl (by kernel_rfl) (by kernel_rfl) (by kernel_rfl) (by kernel_rfl) (fun _ _ _ h => h) (Or.inl ⟨by rfl, ?_⟩) hHeld ?_
      · intro w hSw
        obtain ⟨h0, h1⟩ := hSw
        first
          | rfl
          | (go_simp; done)
      try simp only [Act.put, List.setIfInBounds_toArray, List.set_cons_zero, List.set_cons_succ]
      refine wpAnyT_take (i := 14) (oi := { dst := some 5, op := Op.assign (Operand.tmp 21), type := 40, pos := "law.go:168", after := #[{ on := 12, ground := Ground.data }, { on := 13, ground := Ground.chain }, { on := 0, ground := Ground.phase }, { on := 1, ground := Ground.phase }, { on := 2, ground := Ground.phase }, { on := 3, ground := Ground.phase }, { on := 4, ground := Ground.phase }, { on := 5, ground := Ground.phase }, { on := 6, ground := Ground.phase }, { on := 7, ground := Ground.phase }, { on := 8, ground := Ground.phase }, { on := 9, ground := Ground.phase }, { on := 10, ground := Ground.phase }, { on := 11, ground := Ground.phase }, { on := 12, ground := Ground.phase }, { on := 13, ground := Ground.phase }], guard := none }) (v := .slice at' nt ct) rfl (by kernel_rfl) (by kernel_rfl) (by kernel_rfl) (by kernel_rfl) (fun _ _ _ h => h) (Or.inl ⟨by rfl, ?_⟩) hHeld ?_
      · intro w hSw
        obtain ⟨h0, h1⟩ := hSw
        first
          | rfl
          | (go_simp; done)
      try simp only [Act.put, List.setIfInBounds_toArray, List.set_cons_zero, List.set_cons_succ]
      refine wpAnyT_done (by kernel_rfl) ?_ _
      have j1 : (nt : Int) ≤ (ng : Int) := by omega
      have j2 : (0 : Int) ≤ (nt : Int) := by omega
      have j3 : (nt : Int) ≤ (cg : Int) := by omega
      have HLT := hide (lsat_of (by have h9 := (unhide HI2).1.rows 2 (by decide); rw [unhide HAT] at h9; exact h9) ((unhide HI2).1.vb 2 (by decide)))
      have HLG := hide ((lsat_of (by have h9 := (unhide HI2).1.rows 1 (by decide); rw [unhide HAG] at h9; exact h9) ((unhide HI2).1.vb 1 (by decide))).take nt)
      have H256 : Hid (∀ x ∈ P.X 2, ∀ y ∈ x.2, y < 256) := hide (fun x hx y hy => by
        obtain ⟨m, hm⟩ := List.getElem?_of_mem hx
        have h9 := (unhide HO).d1.t m x hm
        rw [List.getElem?_map] at h9
        obtain ⟨z, hz, hz2⟩ := Option.map_eq_some_iff.1 h9
        exact (unhide HO).g256 1 (by decide) z (List.mem_of_getElem? hz) y (by rw [hz2]; exact hy))
      clear hHeld
      go_wp2_with fail
      refine Calls.mono (eqf_same at' ag nt ct cg (P.X 2) ((P.X 1).take nt) w2 (unhide HLT) (unhide HLG) (unhide HNT) (by rw [List.length_take, unhide HNG]; omega) (by have := unhide HTE; rw [show 2 + 0 = 2 from rfl, unhide HNT] at this; exact this) (unhide H256) hct (by omega) (by omega)) ?_
      rintro r w9 ⟨rfl, rfl⟩
      go_wp2_with fail
      go_roundw
      case rel => exact ⟨1 + 1, by omega, by simp, HI2⟩
      case measure => simp [intOf]
    · have q8 : wr.cell? ⟨gp, 8, none⟩ = some (.bool true) := by rw [← (unhide HO).good.ok]; exact (unhide HI).1.row.cell 8
      go_wp2_with fail
      go_ret
      exact ⟨rfl, unhide HI⟩
theorem took_snoc : ∀ {l : List Fm} {s s1 s' : CS} {f : Fm} {v : Value}, Took s l s1 → s' = takeS s1 f.conn f.seq f.ack f.body v → Took s (l ++ [f]) s'
  | [], s, s1, s', f, v, h, e => by obtain rfl : s1 = s := h; exact ⟨v, e⟩
  | g :: r, s, s1, s', f, v, ⟨u, h⟩, e => ⟨u, took_snoc h e⟩
def TA (P0 P : PS) (i : Nat) : Prop := ∃ L : List Fm, L.map Fm.key = outs (tickS (P0.s i)) ∧ P.s i = outS (tickS (P0.s i)) ∧ P.F i = P0.F i ++ L
def SA (P0 P : PS) (i : Nat) : Prop := P.s i = P0.s i ∧ P.F i = P0.F i
def TB (P1 P : PS) (i : Nat) : Prop := Took (P1.s (1 - i)) (P1.F i) (P.s (1 - i)) ∧ P.F i = []
def SB (P1 P : PS) (i : Nat) : Prop := P.s (1 - i) = P1.s (1 - i) ∧ P.F i = P1.F i
structure Cnt (N M : Nat) (P : PS) : Prop where
  ordr : Ordr N P
  adv : Adv P
  cnt : N + (P.F 0).length + (P.F 1).length ≤ M
theorem Cnt.bd {N M : Nat} {P : PS} (h : Cnt N M P) {i : Nat} (hi : i < 2) : Bd (P.s i) (P.s (1 - i)) := ⟨⟨N, h.ordr.good.inv i hi⟩, ⟨N, h.ordr.good.inv (1 - i) (by omega)⟩, (h.adv i hi).1⟩
theorem rd_of {N M : Nat} {P0 P1 P2 : PS} (a0 : TA P0 P1 0) (a1 : TA P0 P1 1) (b0 : TB P1 P2 0) (b1 : TB P1 P2 1) (h1 : Cnt N M P1) :
    (∃ Fa Fb La Lb, Rd (P0.s 0) (P0.s 1) (P2.s 0) (P2.s 1) Fa Fb La Lb) ∧ (∃ Fa Fb La Lb, Rd (P0.s 1) (P0.s 0) (P2.s 1) (P2.s 0) Fa Fb La Lb) := by
  obtain ⟨L0, k0, s0, f0⟩ := a0
  obtain ⟨L1, k1, s1, f1⟩ := a1
  obtain ⟨t0, -⟩ := b0
  obtain ⟨t1, -⟩ := b1
  have g0 := h1.ordr.good.fr 0 (by decide)
  have g1 := h1.ordr.good.fr 1 (by decide)
  rw [show 1 - 0 = 1 from rfl] at t0
  rw [show 1 - 1 = 0 from rfl] at t1
  rw [s1, f0] at t0
  rw [s0, f1] at t1
  rw [f0] at g0
  rw [f1] at g1
  exact ⟨⟨P0.F 0, P0.F 1, L0, L1, k0, k1, g0, g1, t1, t0⟩, ⟨P0.F 1, P0.F 0, L1, L0, k1, k0, g1, g0, t0, t1⟩⟩
structure Rnds (r N : Nat) (A P : PS) : Prop where
  cnt : Cnt N (1800 + 12 * r) P
  r0 : Rds r (A.s 0) (A.s 1) (P.s 0) (P.s 1)
  r1 : Rds r (A.s 1) (A.s 0) (P.s 1) (P.s 0)
theorem Rnds.next {r N N1 N2 : Nat} {A P P1 P2 : PS} (h : Rnds r N A P) (a0 : TA P P1 0) (a1 : TA P P1 1) (h1 : Cnt N1 (1800 + 12 * r + 12) P1) (b0 : TB P1 P2 0) (b1 : TB P1 P2 1) (h2 : Cnt N2 (1800 + 12 * r + 12) P2) : Rnds (r + 1) N2 A P2 := by
  obtain ⟨⟨Fa, Fb, La, Lb, p⟩, ⟨Ga, Gb, Ma, Mb, q⟩⟩ := rd_of a0 a1 b0 b1 h1
  exact ⟨⟨h2.ordr, h2.adv, by have := h2.cnt; omega⟩, h.r0.snoc p (h2.bd (i := 0) (by decide)), h.r1.snoc q (h2.bd (i := 1) (by decide))⟩
theorem Cnt.tick {N M : Nat} {P : PS} (h : Cnt N M P) {i : Nat} (hi : i < 2) : Cnt (N + 1) (M + 1) (Go.Proofs.Ytmkpphkdaiienaa.P1 P i (tickS (P.s i)) (P.vq i)) := by
  have st : Step P [] (Go.Proofs.Ytmkpphkdaiienaa.P1 P i (tickS (P.s i)) (P.vq i)) := .inr (.inr (.inr (.inl ⟨i, hi, rfl⟩)))
  exact ⟨h.ordr.step (fun y hy => by cases hy) st, h.adv.step h.ordr st, by have := h.cnt; show N + 1 + (P.F 0).length + (P.F 1).length ≤ M + 1; omega⟩
theorem Cnt.outI {N M : Nat} {P : PS} (h : Cnt N M P) {i : Nat} (hi : i < 2) (v : Value) {L : List Fm} (hL : L.map Fm.key = outs (P.s i)) : Cnt (N + 1) (M + 5) (P3 (Go.Proofs.Ytmkpphkdaiienaa.P1 P i (outS (P.s i)) (P.vq i)) i v (P.F i ++ L)) := by
  have st : Step P [] (P3 (Go.Proofs.Ytmkpphkdaiienaa.P1 P i (outS (P.s i)) (P.vq i)) i v (P.F i ++ L)) := .inr (.inr (.inr (.inr (.inl ⟨i, hi, v, L, rfl, hL⟩))))
  refine ⟨h.ordr.step (fun y hy => by cases hy) st, h.adv.step h.ordr st, ?_⟩
  have h1 := congrArg List.length hL
  rw [List.length_map] at h1
  have h2 := outs_len4 (P.s i)
  have h3 := h.cnt
  show N + 1 + (upd P.F i (P.F i ++ L) 0).length + (upd P.F i (P.F i ++ L) 1).length ≤ M + 5
  rcases two_cases hi with rfl | rfl
  · rw [upd_same, upd_other _ _ (by decide), List.length_append]; omega
  · rw [upd_same, upd_other _ _ (by decide), List.length_append]; omega
theorem turn_ta {P : PS} {i : Nat} (hi : i < 2) (v : Value) {L : List Fm} (hL : L.map Fm.key = outs (tickS (P.s i))) : TA P (P3 (Go.Proofs.Ytmkpphkdaiienaa.P1 (Go.Proofs.Ytmkpphkdaiienaa.P1 P i (tickS (P.s i)) (P.vq i)) i (outS (tickS (P.s i))) (P.vq i)) i v (P.F i ++ L)) i ∧ ∀ j, j ≠ i → (P3 (Go.Proofs.Ytmkpphkdaiienaa.P1 (Go.Proofs.Ytmkpphkdaiienaa.P1 P i (tickS (P.s i)) (P.vq i)) i (outS (tickS (P.s i))) (P.vq i)) i v (P.F i ++ L)).s j = P.s j ∧ (P3 (Go.Proofs.Ytmkpphkdaiienaa.P1 (Go.Proofs.Ytmkpphkdaiienaa.P1 P i (tickS (P.s i)) (P.vq i)) i (outS (tickS (P.s i))) (P.vq i)) i v (P.F i ++ L)).F j = P.F j := by
  refine ⟨⟨L, hL, ?_, ?_⟩, fun j hj => ⟨?_, ?_⟩⟩
  · show upd _ i _ i = _; rw [upd_same]
  · show upd _ i _ i = _; rw [upd_same]
  · show upd (upd _ i _) i _ j = _; rw [upd_other _ _ hj, upd_other _ _ hj]
  · show upd _ i _ j = _; rw [upd_other _ _ hj]; rfl
/-- the frames of side i come, m of them have -/
structure Coming (i m N M : Nat) (Q P : PS) : Prop where
  ordr : Ordr N P
  adv : Adv P
  cnt : N + (P.F 0).length + (P.F 1).length ≤ M + m
  F : P.F = Q.F
  W : P.W = Q.W
  s : P.s i = Q.s i
  took : Took (Q.s (1 - i)) ((Q.F i).take m) (P.s (1 - i))
theorem Cnt.coming {N M : Nat} {P : PS} (h : Cnt N M P) (i : Nat) : Coming i 0 N M P P := ⟨h.ordr, h.adv, h.cnt, rfl, rfl, rfl, by rw [List.take_zero]; rfl⟩
theorem Coming.next {i m N M : Nat} {Q P : PS} (h : Coming i m N M Q P) (hi : i < 2) {f : Fm} (hf : (Q.F i)[m]? = some f) (v vq tv : Value) : Coming i (m + 1) (N + 1) M Q (cameP P (1 - i) f.conn f.seq f.ack f.body v vq tv) := by
  have hf' : f ∈ P.F i := by rw [h.F]; exact List.mem_of_getElem? hf
  have st : Step P [] (cameP P (1 - i) f.conn f.seq f.ack f.body v vq tv) := .inr (.inr (.inr (.inr (.inr (.inr (.inl ⟨i, hi, f, hf', v, vq, tv, rfl⟩))))))
  refine ⟨h.ordr.step (fun y hy => by cases hy) st, h.adv.step h.ordr st, by have := h.cnt; show N + 1 + (P.F 0).length + (P.F 1).length ≤ M + (m + 1); omega, h.F, h.W, ?_, ?_⟩
  · show upd P.s (1 - i) _ i = _
    rw [upd_other _ _ (by omega)]
    exact h.s
  · have e : (Q.F i).take (m + 1) = (Q.F i).take m ++ [f] := by rw [List.take_add_one, hf]; rfl
    rw [e]
    refine took_snoc (v := v) h.took ?_
    show upd P.s (1 - i) _ (1 - i) = _
    rw [upd_same]
theorem Coming.clear {i m N M : Nat} {Q P : PS} (h : Coming i m N M Q P) (hi : i < 2) (hm : m = (Q.F i).length) : Cnt N M (P3 P i (.slice none 0 0) []) ∧ Took (Q.s (1 - i)) (Q.F i) ((P3 P i (.slice none 0 0) []).s (1 - i)) ∧ (P3 P i (.slice none 0 0) []).s i = Q.s i ∧ (P3 P i (.slice none 0 0) []).F i = [] ∧ (P3 P i (.slice none 0 0) []).F (1 - i) = Q.F (1 - i) := by
  have hF : ∀ j, j < 2 → ∀ f ∈ upd P.F i [] j, f ∈ P.F j := fun j hj f hf => by
    by_cases hji : j = i
    · subst hji; rw [upd_same] at hf; cases hf
    · rw [upd_other _ _ hji] at hf; exact hf
  have D : ∀ j k, j < 2 → Dir P j k → Dir (P3 P i (.slice none 0 0) []) j k := fun j k hj d => d.congr rfl rfl rfl (fun p hp => ⟨p, hp, rfl, rfl⟩) (fun f hf => d.f f (hF j hj f hf)) rfl rfl
  have g := h.ordr.good
  refine ⟨⟨⟨⟨g.inv, g.len, fun j hj => ?_, fun j hj f hf => g.fr j hj f (hF j hj f hf), g.ok⟩, D 0 1 (by decide) h.ordr.d0, D 1 0 (by decide) h.ordr.d1, h.ordr.g256⟩, h.adv.less _ _ hF, ?_⟩, ?_, h.s, upd_same _ _ _, ?_⟩
  · show (upd P.F i [] j).length ≤ 4 * N
    by_cases hji : j = i
    · subst hji; rw [upd_same]; exact Nat.zero_le _
    · rw [upd_other _ _ hji]; exact g.fl j hj
  · have h1 := h.cnt
    rw [← h.F] at hm
    show N + (upd P.F i [] 0).length + (upd P.F i [] 1).length ≤ M
    rcases two_cases hi with rfl | rfl
    · rw [upd_same, upd_other _ _ (by decide)]; simp only [List.length_nil]; omega
    · rw [upd_same, upd_other _ _ (by decide)]; simp only [List.length_nil]; omega
  · have := h.took
    rw [hm, List.take_length] at this
    exact this
  · show upd P.F i [] (1 - i) = _
    rw [upd_other _ _ (by omega), h.F]
/-- after sixty rounds -/
theorem Rnds.end_ {N : Nat} {A P : PS} {N0 M0 : Nat} (h : Rnds 60 N A P) (h0 : Cnt N0 M0 A) : (P.X 3).length = (P.X 0).length ∧ (P.X 2).length = (P.X 1).length ∧ (P.s 0).q.length = 0 ∧ (P.s 1).q.length = 0 := by
  have p := sixty h.r0 (h0.bd (i := 0) (by decide))
  have q := sixty h.r1 (h0.bd (i := 1) (by decide))
  have d0 := h.cnt.ordr.d0
  have d1 := h.cnt.ordr.d1
  have a0 := d0.nx
  have a1 := d0.tl
  have a2 := d0.told.1
  have b0 := d1.nx
  have b1 := d1.tl
  have b2 := d1.told.1
  simp only [Nat.reduceAdd] at a1 a2 b1 b2
  exact ⟨by omega, by omega, p.1, q.1⟩
theorem few_cnt {k : Nat} {P : PS} (h : Ordr k P) (ha : Adv P) (hk : k ≤ 200) : Cnt k 1800 P := ⟨h, ha, by have := h.good.fl 0 (by decide); have := h.good.fl 1 (by decide); omega⟩
theorem adv_new (g0 g1 m0 m1 : Nat) : Adv ⟨fun i => if i = 0 then g0 else g1, fun i => if i = 0 then m0 else m1, fun _ => .slice none 0 0, fun _ => newS 1, fun _ => .slice none 0 0, fun _ => [], fun _ => .slice none 0 0, fun _ => [], true⟩ := fun i hi => ⟨by show hd (newS 1) ≤ (newS 1).want; simp [hd, newS], fun f hf => by cases hf⟩
end Go.Proofs.Ytmkpphkdaiienaa
