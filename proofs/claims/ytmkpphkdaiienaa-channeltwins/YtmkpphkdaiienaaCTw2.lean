/- A clone of the sending side. -/
import Derived.Test.YtmkpphkdaiienaaCTw1
import Derived.Test.YtmkpphkdaiienaaCTk
namespace Go.Proofs.Ytmkpphkdaiienaa
set_option linter.unusedVariables false
set_option linter.unusedSimpArgs false
open Go.ChangeShapes Go.WideShapes Go.ChangeAt Go.RowKit Go.Joins Go.Deep

set_option maxRecDepth 100000 in
set_option maxHeartbeats 4000000 in
theorem twinS_any (B g m : Nat) (vq : Value) (s : CS) (w : World) (h : Ch w B g m vq s) (hq : s.q.length ≤ 32) :
    Calls Try.prog 54 #[.pointer (some ⟨g, 0, none⟩)] w fun r w' => ∃ v', r = .returned (.agg #[.int .i64 s.next, v']) ∧ w'.ownsRow w.heap.size 96 4 v' s.q.length (qcs s.q) ∧ Below w.heap.size w w' := by
  have b1 : Below w.heap.size w (w.alloc (.cells #[.int .i64 0, .slice none 0 0] 75)) := (Below.refl _ _).alloc (Nat.le_refl _) _
  have HC := hide (h.call b1)
  have HX := hide (RowAt.new w 75 [.int .i64 0, .slice none 0 0])
  have HB := hide b1
  obtain ⟨gt, hgt⟩ : ∃ z, w.heap.size = z := ⟨_, rfl⟩
  have HGT := hide hgt
  clear h b1 hgt
  go_enter Try.func54, Try.ntmps54
  go_wp2_with fail
  obtain ⟨w1, hw1⟩ : ∃ z, (w.alloc (.cells #[.int .i64 0, .slice none 0 0] 75)) = z := ⟨_, rfl⟩
  rw [hw1] at HC HX HB ⊢
  rw [unhide HGT] at HX ⊢
  clear hw1
  refine wp_region_T (S := fun W => W.cell? ⟨g, 0, none⟩ = some (.int .i64 s.next) ∧ W.cell? ⟨g, 1, none⟩ = some vq) (fun i => decide (i < 10)) (by kernel_rfl) ⟨(unhide HC).row.cell 0, (unhide HC).row.cell 1⟩ (fun hHeld => ?_)
  have bd : Below w1.heap.size w1 w1.drew := Below.drew (Below.refl _ _)
  have HC1 := hide ((unhide HC).call bd)
  have HX1 := hide ((unhide HX).drew)
  have HB1 := hide ((unhide HB).trans (bd.mono (unhide HB).size))
  obtain ⟨w2, hw2⟩ : ∃ z, w1.drew = z := ⟨_, rfl⟩
  rw [hw2] at HC1 HX1 HB1 hHeld ⊢
  clear hw2 bd HC HX HB
  refine wpAnyT_take (i := 0) (oi := { dst := some 3, op := Op.move (Operand.tmp 0), type := 101, pos := "sender.go:70", after := #[], guard := none }) (v := .pointer (some ⟨g, 0, none⟩)) rfl (by kernel_rfl) (by kernel_rfl) (by kernel_rfl) (by kernel_rfl) (fun _ _ _ h => h) (Or.inl ⟨by rfl, ?_⟩) hHeld ?_
  · intro w hSw
    obtain ⟨h0, h1⟩ := hSw
    first
      | rfl
      | (go_simp; done)
  try simp only [Act.put, List.setIfInBounds_toArray, List.set_cons_zero, List.set_cons_succ]
  refine wpAnyT_take (i := 1) (oi := { dst := some 4, op := Op.nilCheck (Operand.tmp 3), type := 0, pos := "sender.go:70", after := #[{ on := 0, ground := Ground.data }], guard := none }) (v := .pointer (some ⟨g, 0, none⟩)) rfl (by kernel_rfl) (by kernel_rfl) (by kernel_rfl) (by kernel_rfl) (fun _ _ _ h => h) (Or.inl ⟨by rfl, ?_⟩) hHeld ?_
  · intro w hSw
    obtain ⟨h0, h1⟩ := hSw
    first
      | rfl
      | (go_simp; done)
  try simp only [Act.put, List.setIfInBounds_toArray, List.set_cons_zero, List.set_cons_succ]
  refine wpAnyT_take (i := 2) (oi := { dst := some 5, op := Op.fieldAddr 75 (Operand.tmp 4) 0, type := 0, pos := "sender.go:70", after := #[{ on := 1, ground := Ground.data }], guard := none }) (v := .pointer (some ⟨g, 0, none⟩)) rfl (by kernel_rfl) (by kernel_rfl) (by kernel_rfl) (by kernel_rfl) (fun _ _ _ h => h) (Or.inl ⟨by rfl, ?_⟩) hHeld ?_
  · intro w hSw
    obtain ⟨h0, h1⟩ := hSw
    first
      | rfl
      | (go_simp; done)
  try simp only [Act.put, List.setIfInBounds_toArray, List.set_cons_zero, List.set_cons_succ]
  refine wpAnyT_take (i := 3) (oi := { dst := some 6, op := Op.load 3 (Operand.tmp 5), type := 3, pos := "sender.go:70", after := #[{ on := 2, ground := Ground.data }], guard := none }) (v := .int .i64 s.next) rfl (by kernel_rfl) (by kernel_rfl) (by kernel_rfl) (by kernel_rfl) (fun _ _ _ h => h) (Or.inl ⟨by rfl, ?_⟩) hHeld ?_
  · intro w hSw
    obtain ⟨h0, h1⟩ := hSw
    first
      | rfl
      | (go_simp; done)
  try simp only [Act.put, List.setIfInBounds_toArray, List.set_cons_zero, List.set_cons_succ]
  refine wpAnyT_take (i := 4) (oi := { dst := some 7, op := Op.move (Operand.tmp 0), type := 101, pos := "sender.go:70", after := #[], guard := none }) (v := .pointer (some ⟨g, 0, none⟩)) rfl (by kernel_rfl) (by kernel_rfl) (by kernel_rfl) (by kernel_rfl) (fun _ _ _ h => h) (Or.inl ⟨by rfl, ?_⟩) hHeld ?_
  · intro w hSw
    obtain ⟨h0, h1⟩ := hSw
    first
      | rfl
      | (go_simp; done)
  try simp only [Act.put, List.setIfInBounds_toArray, List.set_cons_zero, List.set_cons_succ]
  refine wpAnyT_take (i := 5) (oi := { dst := some 8, op := Op.nilCheck (Operand.tmp 7), type := 0, pos := "sender.go:70", after := #[{ on := 4, ground := Ground.data }], guard := none }) (v := .pointer (some ⟨g, 0, none⟩)) rfl (by kernel_rfl) (by kernel_rfl) (by kernel_rfl) (by kernel_rfl) (fun _ _ _ h => h) (Or.inl ⟨by rfl, ?_⟩) hHeld ?_
  · intro w hSw
    obtain ⟨h0, h1⟩ := hSw
    first
      | rfl
      | (go_simp; done)
  try simp only [Act.put, List.setIfInBounds_toArray, List.set_cons_zero, List.set_cons_succ]
  refine wpAnyT_take (i := 6) (oi := { dst := some 9, op := Op.fieldAddr 75 (Operand.tmp 8) 1, type := 0, pos := "sender.go:70", after := #[{ on := 5, ground := Ground.data }], guard := none }) (v := .pointer (some ⟨g, 1, none⟩)) rfl (by kernel_rfl) (by kernel_rfl) (by kernel_rfl) (by kernel_rfl) (fun _ _ _ h => h) (Or.inl ⟨by rfl, ?_⟩) hHeld ?_
  · intro w hSw
    obtain ⟨h0, h1⟩ := hSw
    first
      | rfl
      | (go_simp; done)
  try simp only [Act.put, List.setIfInBounds_toArray, List.set_cons_zero, List.set_cons_succ]
  refine wpAnyT_take (i := 7) (oi := { dst := some 10, op := Op.load 73 (Operand.tmp 9), type := 73, pos := "sender.go:70", after := #[{ on := 6, ground := Ground.data }], guard := none }) (v := vq) rfl (by kernel_rfl) (by kernel_rfl) (by kernel_rfl) (by kernel_rfl) (fun _ _ _ h => h) (Or.inl ⟨by rfl, ?_⟩) hHeld ?_
  · intro w hSw
    obtain ⟨h0, h1⟩ := hSw
    first
      | rfl
      | (go_simp; done)
  try simp only [Act.put, List.setIfInBounds_toArray, List.set_cons_zero, List.set_cons_succ]
  refine wpAnyT_one (i := 8) (o := { dst := some 11, op := Op.call { callee := Callee.value (Operand.func 58), args := #[Operand.tmp 10], argTypes := #[73] }, type := 73, pos := "sender.go:70", after := #[{ on := 7, ground := Ground.data }], guard := none }) (by kernel_rfl) rfl (fun K hK => ?_)
  go_simp
  refine Calls.mono (pclone_any vq s.q.length B (qcs s.q) w2 (unhide HC1).own (by omega) (qcs_one _ (fun p hp => ((unhide HC1).bod p hp).one))) ?_
  rintro r9 w3 ⟨v9, rfl, o9, b9⟩
  have HO := hide o9
  have hS3 := And.intro (((unhide HC1).call b9).row.cell 0) (((unhide HC1).call b9).row.cell 1)
  have hx3 := (unhide HX1).below b9 (unhide HX1).lt
  have HB3 := hide ((unhide HB1).trans (b9.mono (unhide HB1).size))
  have HSZ := hide (unhide HB1).size
  have HX3 := hide hx3
  obtain ⟨av, cv, hv9⟩ := own_one o9
  subst hv9
  clear o9 b9 hx3 HC1 HX1 HB1 hHeld
  go_wp2_with fail
  refine hK.out _ _ (fun _ => hS3) ?_
  clear hK K
  try simp only [Act.put, List.setIfInBounds_toArray, List.set_cons_zero, List.set_cons_succ]
  refine wpAnyT_take (i := 9) (oi := { dst := some 12, op := Op.build 75 #[(0, Operand.tmp 6), (1, Operand.tmp 11)], type := 75, pos := "sender.go:70", after := #[{ on := 3, ground := Ground.data }, { on := 8, ground := Ground.data }], guard := none }) (v := .agg #[.int .i64 s.next, .slice av s.q.length cv]) rfl (by kernel_rfl) (by kernel_rfl) (by kernel_rfl) (by kernel_rfl) (fun _ _ _ h => h) (Or.inl ⟨by rfl, ?_⟩) hS3 ?_
  · intro w hSw
    obtain ⟨h0, h1⟩ := hSw
    first
      | rfl
      | (go_simp; done)
  try simp only [Act.put, List.setIfInBounds_toArray, List.set_cons_zero, List.set_cons_succ]
  have c0 := (unhide HX3).cell 0
  have c1 := (unhide HX3).cell 1
  have f0 := (unhide HX3).frozen 0
  have f1 := (unhide HX3).frozen 1
  refine wpAnyT_one (i := 10) (o := { dst := none, op := Op.store 75 (Operand.tmp 2) (Operand.tmp 12), type := 0, pos := "sender.go:70", after := #[{ on := 9, ground := Ground.data }, { on := 8, ground := Ground.chain }, { on := 0, ground := Ground.phase }, { on := 1, ground := Ground.phase }, { on := 2, ground := Ground.phase }, { on := 3, ground := Ground.phase }, { on := 4, ground := Ground.phase }, { on := 5, ground := Ground.phase }, { on := 6, ground := Ground.phase }, { on := 7, ground := Ground.phase }, { on := 8, ground := Ground.phase }, { on := 9, ground := Ground.phase }], guard := none }) (by kernel_rfl) rfl (fun K hK => ?_)
  go_simp
  refine hK.out _ _ (fun h => by cases h) ?_
  clear hK K
  try simp only [Act.put, List.setIfInBounds_toArray, List.set_cons_zero, List.set_cons_succ]
  refine wpAnyT_done (by kernel_rfl) ?_ _
  go_wp2_with fail
  have hr := ((unhide HX3).set 0 (.int .i64 s.next)).set 1 (.slice av s.q.length cv)
  have o4 : Only (· = gt) w3 ((w3.setCell ⟨gt, 0, none⟩ (.int .i64 s.next)).setCell ⟨gt, 1, none⟩ (.slice av s.q.length cv)) := Only.set (p := (· = gt)) (Only.set (p := (· = gt)) (Only.refl _ _) gt 0 _ rfl) gt 1 _ rfl
  have ho3 := own_mono (unhide HO) (unhide HSZ)
  (try simp only [Exit.inBlock, Exit.then])
  refine bodyPost_ret (results_cell_row Try.results54 _ _ gt 75 #[.int .i64 s.next, .slice av s.q.length cv] _ _ rfl hr Try.underlying75 rfl (by kernel_rfl)) rfl ⟨_, rfl, own_only ho3 o4 (fun k hk e => tag_ne ho3 (unhide HX3) (by decide) (e ▸ hk)), (unhide HB3).trans (o4.below (unhide HB3).size (fun k hk => by rw [hk, ← unhide HGT]; exact Nat.le_refl _))⟩
end Go.Proofs.Ytmkpphkdaiienaa
