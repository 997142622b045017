/- A move: what goes on its way. -/
import Derived.Test.YtmkpphkdaiienaaCMp
namespace Go.Proofs.Ytmkpphkdaiienaa
set_option linter.unusedVariables false
set_option linter.unusedSimpArgs false
open Go.ChangeShapes Go.WideShapes Go.ChangeAt Go.RowKit Go.Joins Go.Deep

set_option maxRecDepth 100000 in
set_option maxHeartbeats 4000000 in
theorem move3_ok (B gp N : Nat) (P : PS) (op n : Int) (b : List Nat) (vb : Value) (w : World) (h : Pair w B gp P) (hg : Good N P) (hN : N ≤ 1000) (hv : Vis w B vb b) (hbl : b.length ≤ 1000000000) (hop : wrap64 ((IntKind.u64.wrap op).tmod 12) = 3) :
    Calls Try.prog 32 #[.pointer (some ⟨gp, 0, none⟩), .agg #[.int .i64 op, .int .i64 n, vb]] w fun r w' => MoveR B gp P b w r w' := by
  obtain ⟨ab, cb, hvb⟩ := byt_shape hv.1
  subst hvb
  have b1 : Below w.heap.size w (w.alloc (.cells #[.int .i64 op, .int .i64 n, .slice ab b.length cb] 67)) := (Below.refl _ _).alloc (Nat.le_refl _) _
  have HI := hide (h.call b1)
  have HV := hide (hv.call b1)
  have HBX := hide (RowAt.new w 67 [.int .i64 op, .int .i64 n, .slice ab b.length cb])
  have HB := hide (b1.mono h.low)
  have HG := hide hg
  obtain ⟨gb, hgb⟩ : ∃ z, w.heap.size = z := ⟨_, rfl⟩
  have HGB := hide hgb
  clear h hg hv b1 hgb
  obtain ⟨gi, hgi⟩ : ∃ z, P.g 0 = z := ⟨_, rfl⟩
  have HGI := hide hgi
  obtain ⟨uw, huw⟩ : ∃ z, P.W 0 = z := ⟨_, rfl⟩
  have HUW := hide huw
  clear hgi huw
  go_enter Try.func32, Try.ntmps32
  go_wp2_with fail
  obtain ⟨w1, hw1⟩ : ∃ z, (w.alloc (.cells #[.int .i64 op, .int .i64 n, .slice ab b.length cb] 67)) = z := ⟨_, rfl⟩
  rw [hw1] at HI HV HBX HB ⊢
  rw [unhide HGB] at HBX ⊢
  clear hw1
  refine wp_region_T (S := fun W => W.cell? ⟨gp, 0, none⟩ = some (.pointer (some ⟨gi, 0, none⟩)) ∧ W.cell? ⟨gp, 2, none⟩ = some uw) (fun i => decide (1 ≤ i ∧ i < 19)) (by kernel_rfl) ⟨by rw [← unhide HGI]; exact (unhide HI).row.cell 0, by rw [← unhide HUW]; exact (unhide HI).row.cell 2⟩ (fun hHeld => ?_)
  have bd : Below w1.heap.size w1 w1.drew := Below.drew (Below.refl _ _)
  have HI1 := hide ((unhide HI).call bd)
  have HB1 := hide ((unhide HB).trans (bd.mono (unhide HI).low))
  obtain ⟨w2, hw2⟩ : ∃ z, w1.drew = z := ⟨_, rfl⟩
  rw [hw2] at HI1 HB1 hHeld ⊢
  clear hw2 bd HI HB
  refine wpAnyT_pure (i := 0) (oi := { dst := some 117, op := Op.move (Operand.tmp 0), type := 59, pos := "law.go:146", after := #[], guard := none }) (v := .pointer (some ⟨gp, 0, none⟩)) rfl (by kernel_rfl) (by kernel_rfl) (by kernel_rfl) rfl (fun _ _ _ h => h) (Or.inl ⟨by rfl, ?_⟩) ?_
  · intro w hSw
    first
      | rfl
      | (go_simp; done)
  try simp only [Act.put, List.setIfInBounds_toArray, List.set_cons_zero, List.set_cons_succ]
  refine wpAnyT_pure (i := 19) (oi := { dst := some 136, op := Op.nilCheck (Operand.tmp 117), type := 0, pos := "law.go:146", after := #[{ on := 0, ground := Ground.data }], guard := none }) (v := .pointer (some ⟨gp, 0, none⟩)) rfl (by kernel_rfl) (by kernel_rfl) (by kernel_rfl) rfl (fun _ _ _ h => h) (Or.inl ⟨by rfl, ?_⟩) ?_
  · intro w hSw
    first
      | rfl
      | (go_simp; done)
  try simp only [Act.put, List.setIfInBounds_toArray, List.set_cons_zero, List.set_cons_succ]
  refine wpAnyT_pure (i := 20) (oi := { dst := some 137, op := Op.fieldAddr 65 (Operand.tmp 136) 1, type := 0, pos := "law.go:146", after := #[{ on := 19, ground := Ground.data }], guard := none }) (v := .pointer (some ⟨gp, 2, none⟩)) rfl (by kernel_rfl) (by kernel_rfl) (by kernel_rfl) rfl (fun _ _ _ h => h) (Or.inl ⟨by rfl, ?_⟩) ?_
  · intro w hSw
    first
      | rfl
      | (go_simp; done)
  try simp only [Act.put, List.setIfInBounds_toArray, List.set_cons_zero, List.set_cons_succ]
  refine wpAnyT_take (i := 1) (oi := { dst := some 118, op := Op.move (Operand.tmp 4), type := 3, pos := "law.go:146", after := #[], guard := none }) (v := .int .i64 3) rfl (by kernel_rfl) (by kernel_rfl) (by kernel_rfl) (by kernel_rfl) (fun _ _ _ h => h) (Or.inl ⟨by rfl, ?_⟩) hHeld ?_
  · intro w hSw
    obtain ⟨h0, h1⟩ := hSw
    first
      | rfl
      | (go_simp; done)
  try simp only [Act.put, List.setIfInBounds_toArray, List.set_cons_zero, List.set_cons_succ]
  refine wpAnyT_take (i := 2) (oi := { dst := some 119, op := Op.binOp BinOp.sub 3 (Operand.tmp 118) (Operand.const (Value.int IntKind.i64 3)) 3, type := 3, pos := "law.go:146", after := #[{ on := 1, ground := Ground.data }], guard := none }) (v := .int .i64 0) rfl (by kernel_rfl) (by kernel_rfl) (by kernel_rfl) (by kernel_rfl) (fun _ _ _ h => h) (Or.inl ⟨by rfl, ?_⟩) hHeld ?_
  · intro w hSw
    obtain ⟨h0, h1⟩ := hSw
    first
      | rfl
      | (go_simp; done)
  try simp only [Act.put, List.setIfInBounds_toArray, List.set_cons_zero, List.set_cons_succ]
  refine wpAnyT_take (i := 3) (oi := { dst := some 120, op := Op.move (Operand.tmp 0), type := 59, pos := "law.go:146", after := #[], guard := none }) (v := .pointer (some ⟨gp, 0, none⟩)) rfl (by kernel_rfl) (by kernel_rfl) (by kernel_rfl) (by kernel_rfl) (fun _ _ _ h => h) (Or.inl ⟨by rfl, ?_⟩) hHeld ?_
  · intro w hSw
    obtain ⟨h0, h1⟩ := hSw
    first
      | rfl
      | (go_simp; done)
  try simp only [Act.put, List.setIfInBounds_toArray, List.set_cons_zero, List.set_cons_succ]
  refine wpAnyT_take (i := 4) (oi := { dst := some 121, op := Op.move (Operand.tmp 4), type := 3, pos := "law.go:146", after := #[], guard := none }) (v := .int .i64 3) rfl (by kernel_rfl) (by kernel_rfl) (by kernel_rfl) (by kernel_rfl) (fun _ _ _ h => h) (Or.inl ⟨by rfl, ?_⟩) hHeld ?_
  · intro w hSw
    obtain ⟨h0, h1⟩ := hSw
    first
      | rfl
      | (go_simp; done)
  try simp only [Act.put, List.setIfInBounds_toArray, List.set_cons_zero, List.set_cons_succ]
  refine wpAnyT_take (i := 5) (oi := { dst := some 122, op := Op.binOp BinOp.sub 3 (Operand.tmp 121) (Operand.const (Value.int IntKind.i64 3)) 3, type := 3, pos := "law.go:146", after := #[{ on := 4, ground := Ground.data }], guard := none }) (v := .int .i64 0) rfl (by kernel_rfl) (by kernel_rfl) (by kernel_rfl) (by kernel_rfl) (fun _ _ _ h => h) (Or.inl ⟨by rfl, ?_⟩) hHeld ?_
  · intro w hSw
    obtain ⟨h0, h1⟩ := hSw
    first
      | rfl
      | (go_simp; done)
  try simp only [Act.put, List.setIfInBounds_toArray, List.set_cons_zero, List.set_cons_succ]
  refine wpAnyT_take (i := 6) (oi := { dst := some 123, op := Op.nilCheck (Operand.tmp 120), type := 0, pos := "law.go:146", after := #[{ on := 3, ground := Ground.data }], guard := none }) (v := .pointer (some ⟨gp, 0, none⟩)) rfl (by kernel_rfl) (by kernel_rfl) (by kernel_rfl) (by kernel_rfl) (fun _ _ _ h => h) (Or.inl ⟨by rfl, ?_⟩) hHeld ?_
  · intro w hSw
    obtain ⟨h0, h1⟩ := hSw
    first
      | rfl
      | (go_simp; done)
  try simp only [Act.put, List.setIfInBounds_toArray, List.set_cons_zero, List.set_cons_succ]
  refine wpAnyT_take (i := 7) (oi := { dst := some 124, op := Op.fieldAddr 65 (Operand.tmp 123) 1, type := 0, pos := "law.go:146", after := #[{ on := 6, ground := Ground.data }], guard := none }) (v := .pointer (some ⟨gp, 2, none⟩)) rfl (by kernel_rfl) (by kernel_rfl) (by kernel_rfl) (by kernel_rfl) (fun _ _ _ h => h) (Or.inl ⟨by rfl, ?_⟩) hHeld ?_
  · intro w hSw
    obtain ⟨h0, h1⟩ := hSw
    first
      | rfl
      | (go_simp; done)
  try simp only [Act.put, List.setIfInBounds_toArray, List.set_cons_zero, List.set_cons_succ]
  refine wpAnyT_take (i := 8) (oi := { dst := some 125, op := Op.indexAddr 62 (Operand.tmp 124) (Operand.tmp 122), type := 0, pos := "law.go:146", after := #[{ on := 7, ground := Ground.data }, { on := 5, ground := Ground.data }], guard := none }) (v := .pointer (some ⟨gp, 2, none⟩)) rfl (by kernel_rfl) (by kernel_rfl) (by kernel_rfl) (by kernel_rfl) (fun _ _ _ h => h) (Or.inl ⟨by rfl, ?_⟩) hHeld ?_
  · intro w hSw
    obtain ⟨h0, h1⟩ := hSw
    first
      | rfl
      | (go_simp; done)
  try simp only [Act.put, List.setIfInBounds_toArray, List.set_cons_zero, List.set_cons_succ]
  refine wpAnyT_take (i := 9) (oi := { dst := some 126, op := Op.load 48 (Operand.tmp 125), type := 48, pos := "law.go:146", after := #[{ on := 8, ground := Ground.data }], guard := none }) (v := uw) rfl (by kernel_rfl) (by kernel_rfl) (by kernel_rfl) (by kernel_rfl) (fun _ _ _ h => h) (Or.inl ⟨by rfl, ?_⟩) hHeld ?_
  · intro w hSw
    obtain ⟨h0, h1⟩ := hSw
    first
      | rfl
      | (go_simp; done)
  try simp only [Act.put, List.setIfInBounds_toArray, List.set_cons_zero, List.set_cons_succ]
  refine wpAnyT_take (i := 10) (oi := { dst := some 127, op := Op.move (Operand.tmp 0), type := 59, pos := "law.go:146", after := #[], guard := none }) (v := .pointer (some ⟨gp, 0, none⟩)) rfl (by kernel_rfl) (by kernel_rfl) (by kernel_rfl) (by kernel_rfl) (fun _ _ _ h => h) (Or.inl ⟨by rfl, ?_⟩) hHeld ?_
  · intro w hSw
    obtain ⟨h0, h1⟩ := hSw
    first
      | rfl
      | (go_simp; done)
  try simp only [Act.put, List.setIfInBounds_toArray, List.set_cons_zero, List.set_cons_succ]
  refine wpAnyT_take (i := 11) (oi := { dst := some 128, op := Op.move (Operand.tmp 4), type := 3, pos := "law.go:146", after := #[], guard := none }) (v := .int .i64 3) rfl (by kernel_rfl) (by kernel_rfl) (by kernel_rfl) (by kernel_rfl) (fun _ _ _ h => h) (Or.inl ⟨by rfl, ?_⟩) hHeld ?_
  · intro w hSw
    obtain ⟨h0, h1⟩ := hSw
    first
      | rfl
      | (go_simp; done)
  try simp only [Act.put, List.setIfInBounds_toArray, List.set_cons_zero, List.set_cons_succ]
  refine wpAnyT_take (i := 12) (oi := { dst := some 129, op := Op.binOp BinOp.sub 3 (Operand.tmp 128) (Operand.const (Value.int IntKind.i64 3)) 3, type := 3, pos := "law.go:146", after := #[{ on := 11, ground := Ground.data }], guard := none }) (v := .int .i64 0) rfl (by kernel_rfl) (by kernel_rfl) (by kernel_rfl) (by kernel_rfl) (fun _ _ _ h => h) (Or.inl ⟨by rfl, ?_⟩) hHeld ?_
  · intro w hSw
    obtain ⟨h0, h1⟩ := hSw
    first
      | rfl
      | (go_simp; done)
  try simp only [Act.put, List.setIfInBounds_toArray, List.set_cons_zero, List.set_cons_succ]
  refine wpAnyT_take (i := 13) (oi := { dst := some 130, op := Op.nilCheck (Operand.tmp 127), type := 0, pos := "law.go:146", after := #[{ on := 10, ground := Ground.data }], guard := none }) (v := .pointer (some ⟨gp, 0, none⟩)) rfl (by kernel_rfl) (by kernel_rfl) (by kernel_rfl) (by kernel_rfl) (fun _ _ _ h => h) (Or.inl ⟨by rfl, ?_⟩) hHeld ?_
  · intro w hSw
    obtain ⟨h0, h1⟩ := hSw
    first
      | rfl
      | (go_simp; done)
  try simp only [Act.put, List.setIfInBounds_toArray, List.set_cons_zero, List.set_cons_succ]
  refine wpAnyT_take (i := 14) (oi := { dst := some 131, op := Op.fieldAddr 65 (Operand.tmp 130) 0, type := 0, pos := "law.go:146", after := #[{ on := 13, ground := Ground.data }], guard := none }) (v := .pointer (some ⟨gp, 0, none⟩)) rfl (by kernel_rfl) (by kernel_rfl) (by kernel_rfl) (by kernel_rfl) (fun _ _ _ h => h) (Or.inl ⟨by rfl, ?_⟩) hHeld ?_
  · intro w hSw
    obtain ⟨h0, h1⟩ := hSw
    first
      | rfl
      | (go_simp; done)
  try simp only [Act.put, List.setIfInBounds_toArray, List.set_cons_zero, List.set_cons_succ]
  refine wpAnyT_take (i := 15) (oi := { dst := some 132, op := Op.indexAddr 61 (Operand.tmp 131) (Operand.tmp 129), type := 0, pos := "law.go:146", after := #[{ on := 14, ground := Ground.data }, { on := 12, ground := Ground.data }], guard := none }) (v := .pointer (some ⟨gp, 0, none⟩)) rfl (by kernel_rfl) (by kernel_rfl) (by kernel_rfl) (by kernel_rfl) (fun _ _ _ h => h) (Or.inl ⟨by rfl, ?_⟩) hHeld ?_
  · intro w hSw
    obtain ⟨h0, h1⟩ := hSw
    first
      | rfl
      | (go_simp; done)
  try simp only [Act.put, List.setIfInBounds_toArray, List.set_cons_zero, List.set_cons_succ]
  refine wpAnyT_take (i := 16) (oi := { dst := some 133, op := Op.load 23 (Operand.tmp 132), type := 23, pos := "law.go:146", after := #[{ on := 15, ground := Ground.data }], guard := none }) (v := .pointer (some ⟨gi, 0, none⟩)) rfl (by kernel_rfl) (by kernel_rfl) (by kernel_rfl) (by kernel_rfl) (fun _ _ _ h => h) (Or.inl ⟨by rfl, ?_⟩) hHeld ?_
  · intro w hSw
    obtain ⟨h0, h1⟩ := hSw
    first
      | rfl
      | (go_simp; done)
  try simp only [Act.put, List.setIfInBounds_toArray, List.set_cons_zero, List.set_cons_succ]
  refine wpAnyT_one (i := 17) (o := { dst := some 134, op := Op.call { callee := Callee.value (Operand.func 22), args := #[Operand.tmp 133], argTypes := #[23] }, type := 48, pos := "law.go:146", after := #[{ on := 16, ground := Ground.data }], guard := none }) (by kernel_rfl) rfl (fun K hK => ?_)
  go_simp
  refine Calls.mono (out_any B gi (P.m 0) (P.vq 0) (P.s 0) w2 (by rw [← unhide HGI]; exact (unhide HI1).ch 0 (by decide)) (((unhide HG).inv 0 (by decide)).ok (by decide) (by omega)) (((unhide HG).inv 0 (by decide)).ti (by omega)) ((unhide HG).inv 0 (by decide)).bo) ?_
  intro r w3 h3
  rw [← unhide HGI] at h3
  obtain ⟨L, l, rfl, i3, h4, b4⟩ := out_endP (unhide HI1) (by decide) h3
  have HI3 := hide h4
  have HB3 := hide ((unhide HB1).trans b4)
  have HOW := hide i3.own
  have HKY := hide i3.key
  have HFB : Hid (∀ f ∈ L, Own w3 f.v f.body) := hide (fun f hf => own_base (i3.bod f hf))
  obtain ⟨al, cl, hal⟩ := own_one i3.own
  subst hal
  have hS3 := And.intro (show w3.cell? ⟨gp, 0, none⟩ = some (.pointer (some ⟨gi, 0, none⟩)) by rw [← unhide HGI]; exact (unhide HI3).row.cell 0) (show w3.cell? ⟨gp, 2, none⟩ = some uw by rw [← unhide HUW]; exact (unhide HI3).row.cell 2)
  have HL4 : Hid (L.length ≤ 4) := hide (by have := congrArg List.length (unhide HKY); rw [List.length_map] at this; have := outs_len4 (P.s 0); omega)
  clear h3 i3 h4 b4 HI1 HB1 hHeld
  go_wp2_with fail
  refine hK.out _ _ (fun _ => hS3) ?_
  clear hK K
  try simp only [Act.put, List.setIfInBounds_toArray, List.set_cons_zero, List.set_cons_succ]
  refine wpAnyT_one (i := 18) (o := { dst := some 135, op := Op.call { callee := Callee.builtin Builtin.append, args := #[Operand.tmp 126, Operand.tmp 134], argTypes := #[48, 48] }, type := 48, pos := "law.go:146", after := #[{ on := 9, ground := Ground.data }, { on := 17, ground := Ground.data }, { on := 17, ground := Ground.chain }], guard := none }) (by kernel_rfl) rfl (fun K hK => ?_)
  refine wp_app_src (Operand.tmp 126) (Operand.tmp 134) 48 34 _ 4 48 Try.underlying48 infoFr (by simp [Value.cells]) (by decide) rfl B uw (P.F 0).length (fcs (P.F 0)) rfl (by rw [← unhide HUW]; exact (unhide HI3).way 0 (by decide)) al L.length cl (fcs L) rfl (unhide HOW).1 (fun e => by have := unhide HOW; rw [e] at this; exact own_none this) (own_news (unhide HOW)) (fcs_one (fun f hf => (unhide HFB f hf).one)) (by have := (unhide HG).fl 0 (by decide); have := unhide HL4; unfold maxLen; omega) (by have := (unhide HG).fl 0 (by decide); have := unhide HL4; omega) (unhide HI3).low (fun tv w6 hv6 ho6 hk6 => ?_)
  obtain ⟨at6, ct6, htv⟩ := own_one hv6
  subst htv
  have ho6b : Only (fun k => (P.W 0).ownBlock = some k) w3 w6 := by rw [unhide HUW]; exact ho6
  have HI6 := hide ((unhide HI3).setW 0 (by decide) (x := P.F 0 ++ L) ho6b (by rw [List.length_append, fcs_app]; exact hv6) (by rw [← unhide HUW] at hk6; exact hk6) (fun f hf => ?_))
  rotate_left
  · rcases List.mem_append.1 hf with hf | hf
    · exact own_only ((unhide HI3).fb 0 (by decide) f hf) ho6b (avoid_own ((unhide HI3).way 0 (by decide)) (by decide) _ _ _ _ _ ((unhide HI3).fb 0 (by decide) f hf))
    · exact own_only (unhide HFB f hf) ho6b (avoid_own ((unhide HI3).way 0 (by decide)) (by decide) _ _ _ _ _ (unhide HFB f hf))
  have HB6 := hide ((unhide HB3).trans (ho6b.below (unhide HI3).low (fun k hk => (((unhide HI3).way 0 (by decide)).lt k hk).1)))
  have hr6 : RowAt w6 gp 65 _ := (unhide HI3).row.only ho6b (fun e => tag_ne ((unhide HI3).way 0 (by decide)) (unhide HI3).row (by decide) e)
  have hS6 := And.intro (show w6.cell? ⟨gp, 0, none⟩ = some (.pointer (some ⟨gi, 0, none⟩)) by rw [← unhide HGI]; exact hr6.cell 0) (show w6.cell? ⟨gp, 2, none⟩ = some uw by rw [← unhide HUW]; exact hr6.cell 2)
  have HF6 : Hid (w6.frozen? ⟨gp, 2, none⟩ = false) := hide (hr6.frozen 2)
  have HGBP := hide (unhide HI3).gB
  have HSZ6 := hide (Nat.le_trans (unhide HI3).low ho6.size)
  clear hv6 ho6 ho6b hk6 HI3 HB3 HOW HFB hr6 hS3
  refine hK.out _ _ (fun _ => hS6) ?_
  clear hK K
  try simp only [Act.put, List.setIfInBounds_toArray, List.set_cons_zero, List.set_cons_succ]
  refine wpAnyT_pure (i := 21) (oi := { dst := some 138, op := Op.indexAddr 62 (Operand.tmp 137) (Operand.tmp 119), type := 0, pos := "law.go:146", after := #[{ on := 20, ground := Ground.data }, { on := 2, ground := Ground.data }, { on := 0, ground := Ground.phase }, { on := 1, ground := Ground.phase }, { on := 2, ground := Ground.phase }, { on := 3, ground := Ground.phase }, { on := 4, ground := Ground.phase }, { on := 5, ground := Ground.phase }, { on := 6, ground := Ground.phase }, { on := 7, ground := Ground.phase }, { on := 8, ground := Ground.phase }, { on := 9, ground := Ground.phase }, { on := 10, ground := Ground.phase }, { on := 11, ground := Ground.phase }, { on := 12, ground := Ground.phase }, { on := 13, ground := Ground.phase }, { on := 14, ground := Ground.phase }, { on := 15, ground := Ground.phase }, { on := 16, ground := Ground.phase }, { on := 17, ground := Ground.phase }, { on := 18, ground := Ground.phase }], guard := none }) (v := .pointer (some ⟨gp, 2, none⟩)) rfl (by kernel_rfl) (by kernel_rfl) (by kernel_rfl) rfl (fun _ _ _ h => h) (Or.inl ⟨by rfl, ?_⟩) ?_
  · intro w hSw
    first
      | rfl
      | (go_simp; done)
  try simp only [Act.put, List.setIfInBounds_toArray, List.set_cons_zero, List.set_cons_succ]
  have f6 := unhide HF6
  have s6 := hS6.2
  refine wpAnyT_one (i := 22) (o := { dst := none, op := Op.store 48 (Operand.tmp 138) (Operand.tmp 135), type := 0, pos := "law.go:146", after := #[{ on := 21, ground := Ground.data }, { on := 18, ground := Ground.data }, { on := 18, ground := Ground.chain }, { on := 0, ground := Ground.phase }, { on := 1, ground := Ground.phase }, { on := 2, ground := Ground.phase }, { on := 3, ground := Ground.phase }, { on := 4, ground := Ground.phase }, { on := 5, ground := Ground.phase }, { on := 6, ground := Ground.phase }, { on := 7, ground := Ground.phase }, { on := 8, ground := Ground.phase }, { on := 9, ground := Ground.phase }, { on := 10, ground := Ground.phase }, { on := 11, ground := Ground.phase }, { on := 12, ground := Ground.phase }, { on := 13, ground := Ground.phase }, { on := 14, ground := Ground.phase }, { on := 15, ground := Ground.phase }, { on := 16, ground := Ground.phase }, { on := 17, ground := Ground.phase }, { on := 18, ground := Ground.phase }], guard := none }) (by kernel_rfl) rfl (fun K hK => ?_)
  go_simp
  refine hK.out _ _ (fun h => by cases h) ?_
  clear hK K
  try simp only [Act.put, List.setIfInBounds_toArray, List.set_cons_zero, List.set_cons_succ]
  refine wpAnyT_done (by kernel_rfl) ?_ _
  go_wp2_with fail
  go_end0
  have o7 : Only (· = gp) w6 (w6.setCell ⟨gp, 2, none⟩ (.slice at6 ((P.F 0).length + L.length) ct6)) := Only.set (p := (· = gp)) (Only.refl _ _) gp 2 _ rfl
  refine ⟨rfl, _, .inr (.inr (.inr (.inr (.inl ⟨0, by decide, .slice at6 ((P.F 0).length + L.length) ct6, L, rfl, unhide HKY⟩)))), unhide HI6, (unhide HB6).trans (o7.below (unhide HSZ6) (fun k hk => by rw [hk]; exact unhide HGBP))⟩
set_option maxRecDepth 100000 in
set_option maxHeartbeats 4000000 in
theorem move4_ok (B gp N : Nat) (P : PS) (op n : Int) (b : List Nat) (vb : Value) (w : World) (h : Pair w B gp P) (hg : Good N P) (hN : N ≤ 1000) (hv : Vis w B vb b) (hbl : b.length ≤ 1000000000) (hop : wrap64 ((IntKind.u64.wrap op).tmod 12) = 4) :
    Calls Try.prog 32 #[.pointer (some ⟨gp, 0, none⟩), .agg #[.int .i64 op, .int .i64 n, vb]] w fun r w' => MoveR B gp P b w r w' := by
  obtain ⟨ab, cb, hvb⟩ := byt_shape hv.1
  subst hvb
  have b1 : Below w.heap.size w (w.alloc (.cells #[.int .i64 op, .int .i64 n, .slice ab b.length cb] 67)) := (Below.refl _ _).alloc (Nat.le_refl _) _
  have HI := hide (h.call b1)
  have HV := hide (hv.call b1)
  have HBX := hide (RowAt.new w 67 [.int .i64 op, .int .i64 n, .slice ab b.length cb])
  have HB := hide (b1.mono h.low)
  have HG := hide hg
  obtain ⟨gb, hgb⟩ : ∃ z, w.heap.size = z := ⟨_, rfl⟩
  have HGB := hide hgb
  clear h hg hv b1 hgb
  obtain ⟨gi, hgi⟩ : ∃ z, P.g 1 = z := ⟨_, rfl⟩
  have HGI := hide hgi
  obtain ⟨uw, huw⟩ : ∃ z, P.W 1 = z := ⟨_, rfl⟩
  have HUW := hide huw
  clear hgi huw
  go_enter Try.func32, Try.ntmps32
  go_wp2_with fail
  obtain ⟨w1, hw1⟩ : ∃ z, (w.alloc (.cells #[.int .i64 op, .int .i64 n, .slice ab b.length cb] 67)) = z := ⟨_, rfl⟩
  rw [hw1] at HI HV HBX HB ⊢
  rw [unhide HGB] at HBX ⊢
  clear hw1
  refine wp_region_T (S := fun W => W.cell? ⟨gp, 1, none⟩ = some (.pointer (some ⟨gi, 0, none⟩)) ∧ W.cell? ⟨gp, 3, none⟩ = some uw) (fun i => decide (1 ≤ i ∧ i < 19)) (by kernel_rfl) ⟨by rw [← unhide HGI]; exact (unhide HI).row.cell 1, by rw [← unhide HUW]; exact (unhide HI).row.cell 3⟩ (fun hHeld => ?_)
  have bd : Below w1.heap.size w1 w1.drew := Below.drew (Below.refl _ _)
  have HI1 := hide ((unhide HI).call bd)
  have HB1 := hide ((unhide HB).trans (bd.mono (unhide HI).low))
  obtain ⟨w2, hw2⟩ : ∃ z, w1.drew = z := ⟨_, rfl⟩
  rw [hw2] at HI1 HB1 hHeld ⊢
  clear hw2 bd HI HB
  refine wpAnyT_pure (i := 0) (oi := { dst := some 117, op := Op.move (Operand.tmp 0), type := 59, pos := "law.go:146", after := #[], guard := none }) (v := .pointer (some ⟨gp, 0, none⟩)) rfl (by kernel_rfl) (by kernel_rfl) (by kernel_rfl) rfl (fun _ _ _ h => h) (Or.inl ⟨by rfl, ?_⟩) ?_
  · intro w hSw
    first
      | rfl
      | (go_simp; done)
  try simp only [Act.put, List.setIfInBounds_toArray, List.set_cons_zero, List.set_cons_succ]
  refine wpAnyT_pure (i := 19) (oi := { dst := some 136, op := Op.nilCheck (Operand.tmp 117), type := 0, pos := "law.go:146", after := #[{ on := 0, ground := Ground.data }], guard := none }) (v := .pointer (some ⟨gp, 0, none⟩)) rfl (by kernel_rfl) (by kernel_rfl) (by kernel_rfl) rfl (fun _ _ _ h => h) (Or.inl ⟨by rfl, ?_⟩) ?_
  · intro w hSw
    first
      | rfl
      | (go_simp; done)
  try simp only [Act.put, List.setIfInBounds_toArray, List.set_cons_zero, List.set_cons_succ]
  refine wpAnyT_pure (i := 20) (oi := { dst := some 137, op := Op.fieldAddr 65 (Operand.tmp 136) 1, type := 0, pos := "law.go:146", after := #[{ on := 19, ground := Ground.data }], guard := none }) (v := .pointer (some ⟨gp, 2, none⟩)) rfl (by kernel_rfl) (by kernel_rfl) (by kernel_rfl) rfl (fun _ _ _ h => h) (Or.inl ⟨by rfl, ?_⟩) ?_
  · intro w hSw
    first
      | rfl
      | (go_simp; done)
  try simp only [Act.put, List.setIfInBounds_toArray, List.set_cons_zero, List.set_cons_succ]
  refine wpAnyT_take (i := 1) (oi := { dst := some 118, op := Op.move (Operand.tmp 4), type := 3, pos := "law.go:146", after := #[], guard := none }) (v := .int .i64 4) rfl (by kernel_rfl) (by kernel_rfl) (by kernel_rfl) (by kernel_rfl) (fun _ _ _ h => h) (Or.inl ⟨by rfl, ?_⟩) hHeld ?_
  · intro w hSw
    obtain ⟨h0, h1⟩ := hSw
    first
      | rfl
      | (go_simp; done)
  try simp only [Act.put, List.setIfInBounds_toArray, List.set_cons_zero, List.set_cons_succ]
  refine wpAnyT_take (i := 2) (oi := { dst := some 119, op := Op.binOp BinOp.sub 3 (Operand.tmp 118) (Operand.const (Value.int IntKind.i64 3)) 3, type := 3, pos := "law.go:146", after := #[{ on := 1, ground := Ground.data }], guard := none }) (v := .int .i64 1) rfl (by kernel_rfl) (by kernel_rfl) (by kernel_rfl) (by kernel_rfl) (fun _ _ _ h => h) (Or.inl ⟨by rfl, ?_⟩) hHeld ?_
  · intro w hSw
    obtain ⟨h0, h1⟩ := hSw
    first
      | rfl
      | (go_simp; done)
  try simp only [Act.put, List.setIfInBounds_toArray, List.set_cons_zero, List.set_cons_succ]
  refine wpAnyT_take (i := 3) (oi := { dst := some 120, op := Op.move (Operand.tmp 0), type := 59, pos := "law.go:146", after := #[], guard := none }) (v := .pointer (some ⟨gp, 0, none⟩)) rfl (by kernel_rfl) (by kernel_rfl) (by kernel_rfl) (by kernel_rfl) (fun _ _ _ h => h) (Or.inl ⟨by rfl, ?_⟩) hHeld ?_
  · intro w hSw
    obtain ⟨h0, h1⟩ := hSw
    first
      | rfl
      | (go_simp; done)
  try simp only [Act.put, List.setIfInBounds_toArray, List.set_cons_zero, List.set_cons_succ]
  refine wpAnyT_take (i := 4) (oi := { dst := some 121, op := Op.move (Operand.tmp 4), type := 3, pos := "law.go:146", after := #[], guard := none }) (v := .int .i64 4) rfl (by kernel_rfl) (by kernel_rfl) (by kernel_rfl) (by kernel_rfl) (fun _ _ _ h => h) (Or.inl ⟨by rfl, ?_⟩) hHeld ?_
  · intro w hSw
    obtain ⟨h0, h1⟩ := hSw
    first
      | rfl
      | (go_simp; done)
  try simp only [Act.put, List.setIfInBounds_toArray, List.set_cons_zero, List.set_cons_succ]
  refine wpAnyT_take (i := 5) (oi := { dst := some 122, op := Op.binOp BinOp.sub 3 (Operand.tmp 121) (Operand.const (Value.int IntKind.i64 3)) 3, type := 3, pos := "law.go:146", after := #[{ on := 4, ground := Ground.data }], guard := none }) (v := .int .i64 1) rfl (by kernel_rfl) (by kernel_rfl) (by kernel_rfl) (by kernel_rfl) (fun _ _ _ h => h) (Or.inl ⟨by rfl, ?_⟩) hHeld ?_
  · intro w hSw
    obtain ⟨h0, h1⟩ := hSw
    first
      | rfl
      | (go_simp; done)
  try simp only [Act.put, List.setIfInBounds_toArray, List.set_cons_zero, List.set_cons_succ]
  refine wpAnyT_take (i := 6) (oi := { dst := some 123, op := Op.nilCheck (Operand.tmp 120), type := 0, pos := "law.go:146", after := #[{ on := 3, ground := Ground.data }], guard := none }) (v := .pointer (some ⟨gp, 0, none⟩)) rfl (by kernel_rfl) (by kernel_rfl) (by kernel_rfl) (by kernel_rfl) (fun _ _ _ h => h) (Or.inl ⟨by rfl, ?_⟩) hHeld ?_
  · intro w hSw
    obtain ⟨h0, h1⟩ := hSw
    first
      | rfl
      | (go_simp; done)
  try simp only [Act.put, List.setIfInBounds_toArray, List.set_cons_zero, List.set_cons_succ]
  refine wpAnyT_take (i := 7) (oi := { dst := some 124, op := Op.fieldAddr 65 (Operand.tmp 123) 1, type := 0, pos := "law.go:146", after := #[{ on := 6, ground := Ground.data }], guard := none }) (v := .pointer (some ⟨gp, 2, none⟩)) rfl (by kernel_rfl) (by kernel_rfl) (by kernel_rfl) (by kernel_rfl) (fun _ _ _ h => h) (Or.inl ⟨by rfl, ?_⟩) hHeld ?_
  · intro w hSw
    obtain ⟨h0, h1⟩ := hSw
    first
      | rfl
      | (go_simp; done)
  try simp only [Act.put, List.setIfInBounds_toArray, List.set_cons_zero, List.set_cons_succ]
  refine wpAnyT_take (i := 8) (oi := { dst := some 125, op := Op.indexAddr 62 (Operand.tmp 124) (Operand.tmp 122), type := 0, pos := "law.go:146", after := #[{ on := 7, ground := Ground.data }, { on := 5, ground := Ground.data }], guard := none }) (v := .pointer (some ⟨gp, 3, none⟩)) rfl (by kernel_rfl) (by kernel_rfl) (by kernel_rfl) (by kernel_rfl) (fun _ _ _ h => h) (Or.inl ⟨by rfl, ?_⟩) hHeld ?_
  · intro w hSw
    obtain ⟨h0, h1⟩ := hSw
    first
      | rfl
      | (go_simp; done)
  try simp only [Act.put, List.setIfInBounds_toArray, List.set_cons_zero, List.set_cons_succ]
  refine wpAnyT_take (i := 9) (oi := { dst := some 126, op := Op.load 48 (Operand.tmp 125), type := 48, pos := "law.go:146", after := #[{ on := 8, ground := Ground.data }], guard := none }) (v := uw) rfl (by kernel_rfl) (by kernel_rfl) (by kernel_rfl) (by kernel_rfl) (fun _ _ _ h => h) (Or.inl ⟨by rfl, ?_⟩) hHeld ?_
  · intro w hSw
    obtain ⟨h0, h1⟩ := hSw
    first
      | rfl
      | (go_simp; done)
  try simp only [Act.put, List.setIfInBounds_toArray, List.set_cons_zero, List.set_cons_succ]
  refine wpAnyT_take (i := 10) (oi := { dst := some 127, op := Op.move (Operand.tmp 0), type := 59, pos := "law.go:146", after := #[], guard := none }) (v := .pointer (some ⟨gp, 0, none⟩)) rfl (by kernel_rfl) (by kernel_rfl) (by kernel_rfl) (by kernel_rfl) (fun _ _ _ h => h) (Or.inl ⟨by rfl, ?_⟩) hHeld ?_
  · intro w hSw
    obtain ⟨h0, h1⟩ := hSw
    first
      | rfl
      | (go_simp; done)
  try simp only [Act.put, List.setIfInBounds_toArray, List.set_cons_zero, List.set_cons_succ]
  refine wpAnyT_take (i := 11) (oi := { dst := some 128, op := Op.move (Operand.tmp 4), type := 3, pos := "law.go:146", after := #[], guard := none }) (v := .int .i64 4) rfl (by kernel_rfl) (by kernel_rfl) (by kernel_rfl) (by kernel_rfl) (fun _ _ _ h => h) (Or.inl ⟨by rfl, ?_⟩) hHeld ?_
  · intro w hSw
    obtain ⟨h0, h1⟩ := hSw
    first
      | rfl
      | (go_simp; done)
  try simp only [Act.put, List.setIfInBounds_toArray, List.set_cons_zero, List.set_cons_succ]
  refine wpAnyT_take (i := 12) (oi := { dst := some 129, op := Op.binOp BinOp.sub 3 (Operand.tmp 128) (Operand.const (Value.int IntKind.i64 3)) 3, type := 3, pos := "law.go:146", after := #[{ on := 11, ground := Ground.data }], guard := none }) (v := .int .i64 1) rfl (by kernel_rfl) (by kernel_rfl) (by kernel_rfl) (by kernel_rfl) (fun _ _ _ h => h) (Or.inl ⟨by rfl, ?_⟩) hHeld ?_
  · intro w hSw
    obtain ⟨h0, h1⟩ := hSw
    first
      | rfl
      | (go_simp; done)
  try simp only [Act.put, List.setIfInBounds_toArray, List.set_cons_zero, List.set_cons_succ]
  refine wpAnyT_take (i := 13) (oi := { dst := some 130, op := Op.nilCheck (Operand.tmp 127), type := 0, pos := "law.go:146", after := #[{ on := 10, ground := Ground.data }], guard := none }) (v := .pointer (some ⟨gp, 0, none⟩)) rfl (by kernel_rfl) (by kernel_rfl) (by kernel_rfl) (by kernel_rfl) (fun _ _ _ h => h) (Or.inl ⟨by rfl, ?_⟩) hHeld ?_
  · intro w hSw
    obtain ⟨h0, h1⟩ := hSw
    first
      | rfl
      | (go_simp; done)
  try simp only [Act.put, List.setIfInBounds_toArray, List.set_cons_zero, List.set_cons_succ]
  refine wpAnyT_take (i := 14) (oi := { dst := some 131, op := Op.fieldAddr 65 (Operand.tmp 130) 0, type := 0, pos := "law.go:146", after := #[{ on := 13, ground := Ground.data }], guard := none }) (v := .pointer (some ⟨gp, 0, none⟩)) rfl (by kernel_rfl) (by kernel_rfl) (by kernel_rfl) (by kernel_rfl) (fun _ _ _ h => h) (Or.inl ⟨by rfl, ?_⟩) hHeld ?_
  · intro w hSw
    obtain ⟨h0, h1⟩ := hSw
    first
      | rfl
      | (go_simp; done)
  try simp only [Act.put, List.setIfInBounds_toArray, List.set_cons_zero, List.set_cons_succ]
  refine wpAnyT_take (i := 15) (oi := { dst := some 132, op := Op.indexAddr 61 (Operand.tmp 131) (Operand.tmp 129), type := 0, pos := "law.go:146", after := #[{ on := 14, ground := Ground.data }, { on := 12, ground := Ground.data }], guard := none }) (v := .pointer (some ⟨gp, 1, none⟩)) rfl (by kernel_rfl) (by kernel_rfl) (by kernel_rfl) (by kernel_rfl) (fun _ _ _ h => h) (Or.inl ⟨by rfl, ?_⟩) hHeld ?_
  · intro w hSw
    obtain ⟨h0, h1⟩ := hSw
    first
      | rfl
      | (go_simp; done)
  try simp only [Act.put, List.setIfInBounds_toArray, List.set_cons_zero, List.set_cons_succ]
  refine wpAnyT_take (i := 16) (oi := { dst := some 133, op := Op.load 23 (Operand.tmp 132), type := 23, pos := "law.go:146", after := #[{ on := 15, ground := Ground.data }], guard := none }) (v := .pointer (some ⟨gi, 0, none⟩)) rfl (by kernel_rfl) (by kernel_rfl) (by kernel_rfl) (by kernel_rfl) (fun _ _ _ h => h) (Or.inl ⟨by rfl, ?_⟩) hHeld ?_
  · intro w hSw
    obtain ⟨h0, h1⟩ := hSw
    first
      | rfl
      | (go_simp; done)
  try simp only [Act.put, List.setIfInBounds_toArray, List.set_cons_zero, List.set_cons_succ]
  refine wpAnyT_one (i := 17) (o := { dst := some 134, op := Op.call { callee := Callee.value (Operand.func 22), args := #[Operand.tmp 133], argTypes := #[23] }, type := 48, pos := "law.go:146", after := #[{ on := 16, ground := Ground.data }], guard := none }) (by kernel_rfl) rfl (fun K hK => ?_)
  go_simp
  refine Calls.mono (out_any B gi (P.m 1) (P.vq 1) (P.s 1) w2 (by rw [← unhide HGI]; exact (unhide HI1).ch 1 (by decide)) (((unhide HG).inv 1 (by decide)).ok (by decide) (by omega)) (((unhide HG).inv 1 (by decide)).ti (by omega)) ((unhide HG).inv 1 (by decide)).bo) ?_
  intro r w3 h3
  rw [← unhide HGI] at h3
  obtain ⟨L, l, rfl, i3, h4, b4⟩ := out_endP (unhide HI1) (by decide) h3
  have HI3 := hide h4
  have HB3 := hide ((unhide HB1).trans b4)
  have HOW := hide i3.own
  have HKY := hide i3.key
  have HFB : Hid (∀ f ∈ L, Own w3 f.v f.body) := hide (fun f hf => own_base (i3.bod f hf))
  obtain ⟨al, cl, hal⟩ := own_one i3.own
  subst hal
  have hS3 := And.intro (show w3.cell? ⟨gp, 1, none⟩ = some (.pointer (some ⟨gi, 0, none⟩)) by rw [← unhide HGI]; exact (unhide HI3).row.cell 1) (show w3.cell? ⟨gp, 3, none⟩ = some uw by rw [← unhide HUW]; exact (unhide HI3).row.cell 3)
  have HL4 : Hid (L.length ≤ 4) := hide (by have := congrArg List.length (unhide HKY); rw [List.length_map] at this; have := outs_len4 (P.s 1); omega)
  clear h3 i3 h4 b4 HI1 HB1 hHeld
  go_wp2_with fail
  refine hK.out _ _ (fun _ => hS3) ?_
  clear hK K
  try simp only [Act.put, List.setIfInBounds_toArray, List.set_cons_zero, List.set_cons_succ]
  refine wpAnyT_one (i := 18) (o := { dst := some 135, op := Op.call { callee := Callee.builtin Builtin.append, args := #[Operand.tmp 126, Operand.tmp 134], argTypes := #[48, 48] }, type := 48, pos := "law.go:146", after := #[{ on := 9, ground := Ground.data }, { on := 17, ground := Ground.data }, { on := 17, ground := Ground.chain }], guard := none }) (by kernel_rfl) rfl (fun K hK => ?_)
  refine wp_app_src (Operand.tmp 126) (Operand.tmp 134) 48 34 _ 4 48 Try.underlying48 infoFr (by simp [Value.cells]) (by decide) rfl B uw (P.F 1).length (fcs (P.F 1)) rfl (by rw [← unhide HUW]; exact (unhide HI3).way 1 (by decide)) al L.length cl (fcs L) rfl (unhide HOW).1 (fun e => by have := unhide HOW; rw [e] at this; exact own_none this) (own_news (unhide HOW)) (fcs_one (fun f hf => (unhide HFB f hf).one)) (by have := (unhide HG).fl 1 (by decide); have := unhide HL4; unfold maxLen; omega) (by have := (unhide HG).fl 1 (by decide); have := unhide HL4; omega) (unhide HI3).low (fun tv w6 hv6 ho6 hk6 => ?_)
  obtain ⟨at6, ct6, htv⟩ := own_one hv6
  subst htv
  have ho6b : Only (fun k => (P.W 1).ownBlock = some k) w3 w6 := by rw [unhide HUW]; exact ho6
  have HI6 := hide ((unhide HI3).setW 1 (by decide) (x := P.F 1 ++ L) ho6b (by rw [List.length_append, fcs_app]; exact hv6) (by rw [← unhide HUW] at hk6; exact hk6) (fun f hf => ?_))
  rotate_left
  · rcases List.mem_append.1 hf with hf | hf
    · exact own_only ((unhide HI3).fb 1 (by decide) f hf) ho6b (avoid_own ((unhide HI3).way 1 (by decide)) (by decide) _ _ _ _ _ ((unhide HI3).fb 1 (by decide) f hf))
    · exact own_only (unhide HFB f hf) ho6b (avoid_own ((unhide HI3).way 1 (by decide)) (by decide) _ _ _ _ _ (unhide HFB f hf))
  have HB6 := hide ((unhide HB3).trans (ho6b.below (unhide HI3).low (fun k hk => (((unhide HI3).way 1 (by decide)).lt k hk).1)))
  have hr6 : RowAt w6 gp 65 _ := (unhide HI3).row.only ho6b (fun e => tag_ne ((unhide HI3).way 1 (by decide)) (unhide HI3).row (by decide) e)
  have hS6 := And.intro (show w6.cell? ⟨gp, 1, none⟩ = some (.pointer (some ⟨gi, 0, none⟩)) by rw [← unhide HGI]; exact hr6.cell 1) (show w6.cell? ⟨gp, 3, none⟩ = some uw by rw [← unhide HUW]; exact hr6.cell 3)
  have HF6 : Hid (w6.frozen? ⟨gp, 3, none⟩ = false) := hide (hr6.frozen 3)
  have HGBP := hide (unhide HI3).gB
  have HSZ6 := hide (Nat.le_trans (unhide HI3).low ho6.size)
  clear hv6 ho6 ho6b hk6 HI3 HB3 HOW HFB hr6 hS3
  refine hK.out _ _ (fun _ => hS6) ?_
  clear hK K
  try simp only [Act.put, List.setIfInBounds_toArray, List.set_cons_zero, List.set_cons_succ]
  refine wpAnyT_pure (i := 21) (oi := { dst := some 138, op := Op.indexAddr 62 (Operand.tmp 137) (Operand.tmp 119), type := 0, pos := "law.go:146", after := #[{ on := 20, ground := Ground.data }, { on := 2, ground := Ground.data }, { on := 0, ground := Ground.phase }, { on := 1, ground := Ground.phase }, { on := 2, ground := Ground.phase }, { on := 3, ground := Ground.phase }, { on := 4, ground := Ground.phase }, { on := 5, ground := Ground.phase }, { on := 6, ground := Ground.phase }, { on := 7, ground := Ground.phase }, { on := 8, ground := Ground.phase }, { on := 9, ground := Ground.phase }, { on := 10, ground := Ground.phase }, { on := 11, ground := Ground.phase }, { on := 12, ground := Ground.phase }, { on := 13, ground := Ground.phase }, { on := 14, ground := Ground.phase }, { on := 15, ground := Ground.phase }, { on := 16, ground := Ground.phase }, { on := 17, ground := Ground.phase }, { on := 18, ground := Ground.phase }], guard := none }) (v := .pointer (some ⟨gp, 3, none⟩)) rfl (by kernel_rfl) (by kernel_rfl) (by kernel_rfl) rfl (fun _ _ _ h => h) (Or.inl ⟨by rfl, ?_⟩) ?_
  · intro w hSw
    first
      | rfl
      | (go_simp; done)
  try simp only [Act.put, List.setIfInBounds_toArray, List.set_cons_zero, List.set_cons_succ]
  have f6 := unhide HF6
  have s6 := hS6.2
  refine wpAnyT_one (i := 22) (o := { dst := none, op := Op.store 48 (Operand.tmp 138) (Operand.tmp 135), type := 0, pos := "law.go:146", after := #[{ on := 21, ground := Ground.data }, { on := 18, ground := Ground.data }, { on := 18, ground := Ground.chain }, { on := 0, ground := Ground.phase }, { on := 1, ground := Ground.phase }, { on := 2, ground := Ground.phase }, { on := 3, ground := Ground.phase }, { on := 4, ground := Ground.phase }, { on := 5, ground := Ground.phase }, { on := 6, ground := Ground.phase }, { on := 7, ground := Ground.phase }, { on := 8, ground := Ground.phase }, { on := 9, ground := Ground.phase }, { on := 10, ground := Ground.phase }, { on := 11, ground := Ground.phase }, { on := 12, ground := Ground.phase }, { on := 13, ground := Ground.phase }, { on := 14, ground := Ground.phase }, { on := 15, ground := Ground.phase }, { on := 16, ground := Ground.phase }, { on := 17, ground := Ground.phase }, { on := 18, ground := Ground.phase }], guard := none }) (by kernel_rfl) rfl (fun K hK => ?_)
  go_simp
  refine hK.out _ _ (fun h => by cases h) ?_
  clear hK K
  try simp only [Act.put, List.setIfInBounds_toArray, List.set_cons_zero, List.set_cons_succ]
  refine wpAnyT_done (by kernel_rfl) ?_ _
  go_wp2_with fail
  go_end0
  have o7 : Only (· = gp) w6 (w6.setCell ⟨gp, 3, none⟩ (.slice at6 ((P.F 1).length + L.length) ct6)) := Only.set (p := (· = gp)) (Only.refl _ _) gp 3 _ rfl
  refine ⟨rfl, _, .inr (.inr (.inr (.inr (.inl ⟨1, by decide, .slice at6 ((P.F 1).length + L.length) ct6, L, rfl, unhide HKY⟩)))), unhide HI6, (unhide HB6).trans (o7.below (unhide HSZ6) (fun k hk => by rw [hk]; exact unhide HGBP))⟩
end Go.Proofs.Ytmkpphkdaiienaa
