/- A patch: Edit. -/
import Derived.Test.YtdnbhomjfgpcfaaDoorLPt
namespace Go.Proofs.YtdnbhomjfgpcfaaDoor
set_option linter.unusedVariables false
set_option linter.unusedSimpArgs false
open Go.ChangeShapes Go.WideShapes Go.ChangeAt Go.RowKit Go.Joins Go.Deep

theorem kept {w w' : World} (hb : Below w.heap.size w w') {p : Addr} {v : Value} (h : w.cell? p = some v) : w'.cell? p = some v := by
  refine (hb.cell ?_).trans h
  unfold World.cell? at h
  split at h
  · rename_i h1
    exact (Array.getElem?_eq_some_iff.1 h1).1
  · cases h
theorem sumT_app (l : List Pt) (p : Pt) : sumT (l ++ [p]) = sumT l + p.text.size := sumT_snoc l p
def edL (L : List Pt) (A S : Nat) : List Pt := normL (L ++ [⟨1, (S : Int) - (A : Int), ⟨#[]⟩⟩])
def EdtR (B : Nat) (L : List Pt) (A S : Nat) (w : World) (r : Ending) (w' : World) : Prop := ∃ v, r = .returned v ∧ OwnP w' B v (edL L A S) ∧ Below B w w'
theorem own_ge {w : World} {b s n k : Nat} {e : TypeId} {v : Value} {xs : List Value} (h : w.ownsRow b e s v n xs) (hk : v.ownBlock = some k) : b ≤ k := by
  rcases h.2 with ⟨rfl, _⟩ | ⟨g, cap, cur, rfl, e2, e3, e4, e5, e6⟩
  · cases hk
  · cases hk
    exact e2
set_option maxRecDepth 100000 in
set_option maxHeartbeats 4000000 in
theorem edit_ok (B gp A S : Nat) (v : Value) (L : List Pt) (w : World) (hT : ∀ W, Below B w W → UT W) (h : Pa w B gp v A L) (h1 : A ≤ S) (h3 : S ≤ 1099511627776) (hl : L.length ≤ 4398046511) (ht : sumT L ≤ 140737488355328) :
    Calls Tryd.prog 57 #[.pointer (some ⟨gp, 0, none⟩), .int .i64 (S : Int)] w fun r w' => EdtR B L A S w r w' := by
  obtain ⟨ap, cp, rfl, hpc, hpm⟩ := own_sl3 h.parts
  obtain ⟨nl, hnl⟩ : ∃ z, L.length = z := ⟨_, rfl⟩
  have HU : Hid (∀ W, Below B w W → UT W) := hide hT
  rw [hnl] at h hpc hl
  have HNL := hide hnl
  have H := hide h
  have q1 : w.cell? ⟨gp, 1, none⟩ = some (.slice ap nl cp) := h.row.cell 1
  have q0 : w.cell? ⟨gp, 0, none⟩ = some (.int .i64 (A : Int)) := h.row.cell 0
  clear h hnl
  have b0 : Below w.heap.size w (w.alloc (.cells #[.int .i64 1, .int .i64 ((S : Int) - (A : Int)), .string ⟨#[]⟩] 91)) := (Below.refl _ _).alloc (Nat.le_refl _) _
  have N0 := RowAt.new w 91 [.int .i64 1, .int .i64 ((S : Int) - (A : Int)), .string ⟨#[]⟩]
  have q1' : (w.alloc (.cells #[.int .i64 1, .int .i64 ((S : Int) - (A : Int)), .string ⟨#[]⟩] 91)).cell? ⟨gp, 1, none⟩ = some (.slice ap nl cp) := ((unhide H).call b0).row.cell 1
  obtain ⟨w0, hw0⟩ : ∃ z, w.alloc (.cells #[.int .i64 1, .int .i64 ((S : Int) - (A : Int)), .string ⟨#[]⟩] 91) = z := ⟨_, rfl⟩
  obtain ⟨g5, hg5⟩ : ∃ z, w.heap.size = z := ⟨_, rfl⟩
  have hBw : B ≤ w.heap.size := Nat.le_trans (unhide H).gB (Nat.le_of_lt (unhide H).row.lt)
  rw [hw0] at b0
  have H1 := hide (((unhide H).call b0).call (Below.refl _ _).drew)
  have B1 := hide ((b0.mono hBw).drew)
  have HBS1 : Hid (B ≤ w0.drew.heap.size) := hide (Nat.le_trans hBw (unhide B1).size)
  rw [hw0] at N0 q1'
  have HBW := hide hBw
  rw [hg5] at N0
  clear hBw
  have p0 := N0.cell 0
  have p1 := N0.cell 1
  have p2 := N0.cell 2
  simp only [List.getElem?_cons_zero, List.getElem?_cons_succ] at p0 p1 p2
  have HN5 := hide (N0.below (Below.refl _ _).drew N0.lt)
  have HLT : Hid (∀ k, (Value.slice ap nl cp).ownBlock = some k → k < g5) := hide (fun k hk => by rw [← hg5]; exact ((unhide H).parts.lt k hk).2)
  have HW0 := hide hw0
  have HG5 := hide hg5
  clear b0 N0 hw0 hg5
  go_enter Tryd.func57, Tryd.ntmps57
  go_wp2_with fail
  try rw [unhide HW0]
  try rw [unhide HG5]
  clear HW0 HG5 q0 q1
  refine wp_region_T (S := fun W => W.cell? ⟨gp, 1, none⟩ = some (.slice ap nl cp) ∧ (W.cell? ⟨g5, 0, none⟩ = some (.int .i64 1) ∧ W.cell? ⟨g5, 1, none⟩ = some (.int .i64 ((S : Int) - (A : Int))) ∧ W.cell? ⟨g5, 2, none⟩ = some (.string ⟨#[]⟩))) (fun i => decide (i < 8)) (by kernel_rfl) ⟨q1', p0, p1, p2⟩ (fun hHeld => ?_)
  obtain ⟨w1, hw1⟩ : ∃ z, w0.drew = z := ⟨_, rfl⟩
  rw [hw1] at H1 B1 HBS1 HN5 hHeld ⊢
  clear hw1
  refine wpAnyT_take (i := 0) (oi := { dst := some 13, op := Op.move (Operand.tmp 0), type := 119, pos := "text.go:40", after := #[], guard := none }) (v := .pointer (some ⟨gp, 0, none⟩)) rfl (by kernel_rfl) (by kernel_rfl) (by kernel_rfl) (by kernel_rfl) (fun _ _ _ h => h) (Or.inl ⟨by rfl, ?_⟩) hHeld ?_
  · intro w hSw
    obtain ⟨hp1, h50, h51, h52⟩ := hSw
    first
      | rfl
      | (go_simp; done)
  try simp only [Act.put, List.setIfInBounds_toArray, List.set_cons_zero, List.set_cons_succ]
  refine wpAnyT_take (i := 1) (oi := { dst := some 14, op := Op.nilCheck (Operand.tmp 13), type := 0, pos := "text.go:40", after := #[{ on := 0, ground := Ground.data }], guard := none }) (v := .pointer (some ⟨gp, 0, none⟩)) rfl (by kernel_rfl) (by kernel_rfl) (by kernel_rfl) (by kernel_rfl) (fun _ _ _ h => h) (Or.inl ⟨by rfl, ?_⟩) hHeld ?_
  · intro w hSw
    obtain ⟨hp1, h50, h51, h52⟩ := hSw
    first
      | rfl
      | (go_simp; done)
  try simp only [Act.put, List.setIfInBounds_toArray, List.set_cons_zero, List.set_cons_succ]
  refine wpAnyT_take (i := 2) (oi := { dst := some 15, op := Op.fieldAddr 87 (Operand.tmp 14) 1, type := 0, pos := "text.go:40", after := #[{ on := 1, ground := Ground.data }], guard := none }) (v := .pointer (some ⟨gp, 1, none⟩)) rfl (by kernel_rfl) (by kernel_rfl) (by kernel_rfl) (by kernel_rfl) (fun _ _ _ h => h) (Or.inl ⟨by rfl, ?_⟩) hHeld ?_
  · intro w hSw
    obtain ⟨hp1, h50, h51, h52⟩ := hSw
    first
      | rfl
      | (go_simp; done)
  try simp only [Act.put, List.setIfInBounds_toArray, List.set_cons_zero, List.set_cons_succ]
  refine wpAnyT_take (i := 3) (oi := { dst := some 16, op := Op.load 51 (Operand.tmp 15), type := 51, pos := "text.go:40", after := #[{ on := 2, ground := Ground.data }], guard := none }) (v := .slice ap nl cp) rfl (by kernel_rfl) (by kernel_rfl) (by kernel_rfl) (by kernel_rfl) (fun _ _ _ h => h) (Or.inl ⟨by rfl, ?_⟩) hHeld ?_
  · intro w hSw
    obtain ⟨hp1, h50, h51, h52⟩ := hSw
    first
      | rfl
      | (go_simp; done)
  try simp only [Act.put, List.setIfInBounds_toArray, List.set_cons_zero, List.set_cons_succ]
  refine wpAnyT_take (i := 4) (oi := { dst := some 17, op := Op.load 91 (Operand.tmp 5), type := 91, pos := "text.go:40", after := #[], guard := none }) (v := .agg #[.int .i64 1, .int .i64 ((S : Int) - (A : Int)), .string ⟨#[]⟩]) rfl (by kernel_rfl) (by kernel_rfl) (by kernel_rfl) (by kernel_rfl) (fun _ _ _ h => h) (Or.inl ⟨by rfl, ?_⟩) hHeld ?_
  · intro w hSw
    obtain ⟨hp1, h50, h51, h52⟩ := hSw
    first
      | rfl
      | (go_simp; done)
  try simp only [Act.put, List.setIfInBounds_toArray, List.set_cons_zero, List.set_cons_succ]
  refine wpAnyT_one (i := 5) (o := { dst := some 18, op := Op.buildSlice 51 1 #[(0, Operand.tmp 17)], type := 51, pos := "text.go:40", after := #[{ on := 4, ground := Ground.data }], guard := none }) (by kernel_rfl) rfl (fun K hK => ?_)
  go_simp
  have b3 : Below w1.heap.size w1 (w1.alloc (.cells #[.int .i64 1, .int .i64 ((S : Int) - (A : Int)), .string ⟨#[]⟩] 91)) := (Below.refl _ _).alloc (Nat.le_refl _) _
  have HN := hide (RowAt.new w1 91 [.int .i64 1, .int .i64 ((S : Int) - (A : Int)), .string ⟨#[]⟩])
  have H3 := hide ((unhide H1).call b3)
  have HP5 : Hid ((w1.alloc (.cells #[.int .i64 1, .int .i64 ((S : Int) - (A : Int)), .string ⟨#[]⟩] 91)).cell? ⟨g5, 0, none⟩ = some (.int .i64 1) ∧ (w1.alloc (.cells #[.int .i64 1, .int .i64 ((S : Int) - (A : Int)), .string ⟨#[]⟩] 91)).cell? ⟨g5, 1, none⟩ = some (.int .i64 ((S : Int) - (A : Int))) ∧ (w1.alloc (.cells #[.int .i64 1, .int .i64 ((S : Int) - (A : Int)), .string ⟨#[]⟩] 91)).cell? ⟨g5, 2, none⟩ = some (.string ⟨#[]⟩)) := hide (by have h5 := ((unhide HN5).below b3 (unhide HN5).lt); exact ⟨h5.cell 0, h5.cell 1, h5.cell 2⟩)
  have B3 := hide ((unhide B1).trans (b3.mono (unhide HBS1)))
  obtain ⟨w3, hw3⟩ : ∃ z, w1.alloc (.cells #[.int .i64 1, .int .i64 ((S : Int) - (A : Int)), .string ⟨#[]⟩] 91) = z := ⟨_, rfl⟩
  obtain ⟨g2, hg2⟩ : ∃ z, w1.heap.size = z := ⟨_, rfl⟩
  try rw [hw3]
  rw [hw3] at HN H3 B3 HP5
  try rw [hg2]
  rw [hg2] at HN
  have hS3 : w3.cell? ⟨gp, 1, none⟩ = some (.slice ap nl cp) ∧ (w3.cell? ⟨g5, 0, none⟩ = some (.int .i64 1) ∧ w3.cell? ⟨g5, 1, none⟩ = some (.int .i64 ((S : Int) - (A : Int))) ∧ w3.cell? ⟨g5, 2, none⟩ = some (.string ⟨#[]⟩)) := ⟨(unhide H3).row.cell 1, (unhide HP5).1, (unhide HP5).2.1, (unhide HP5).2.2⟩
  clear b3 hw3 hg2
  refine hK.out _ _ (fun _ => hS3) ?_
  clear hK K
  try simp only [Act.put, List.setIfInBounds_toArray, List.set_cons_zero, List.set_cons_succ]
  refine wpAnyT_one (i := 6) (o := { dst := some 19, op := Op.call { callee := Callee.builtin Builtin.append, args := #[Operand.tmp 16, Operand.tmp 18], argTypes := #[51, 51] }, type := 51, pos := "text.go:40", after := #[{ on := 3, ground := Ground.data }, { on := 5, ground := Ground.data }], guard := none }) (by kernel_rfl) rfl (fun K hK => ?_)
  refine wp_app_src (Operand.tmp 16) (Operand.tmp 18) 51 91 _ 3 32 Tryd.underlying51 infoPt (by simp [Value.cells]) (by decide) rfl B (.slice ap nl cp) nl (ptc L) rfl (by have h9 := (unhide H3).parts; rw [unhide HNL] at h9; exact h9) (some ⟨g2, 0, none⟩) 1 1 [.int .i64 1, .int .i64 ((S : Int) - (A : Int)), .string ⟨#[]⟩] rfl rfl (fun e => by cases e) (fun b9 hb9 j u hu => by injection hb9 with hb9; subst hb9; rw [Addr.add_lit, Nat.zero_add, (unhide HN).cell]; exact hu) (fun u hu => by simp at hu; rcases hu with rfl | rfl | rfl <;> rfl) (by unfold maxLen; omega) (by omega) (Nat.le_trans (unhide H3).gB (Nat.le_of_lt (unhide H3).row.lt)) (fun v4 w4 ho4 on4 _ => ?_)
  have e2 : ptc L ++ [.int .i64 1, .int .i64 ((S : Int) - (A : Int)), .string ⟨#[]⟩] = ptc (L ++ [⟨1, (S : Int) - (A : Int), ⟨#[]⟩⟩]) := by simp [ptc, pcs]
  have e1 : nl + 1 = (L ++ [(⟨1, (S : Int) - (A : Int), ⟨#[]⟩⟩ : Pt)]).length := by rw [← unhide HNL]; simp
  rw [e2] at ho4
  obtain ⟨a4, c4, hv4, hpt, hc4, hm4⟩ := OwnP.slice (l := L ++ [⟨1, (S : Int) - (A : Int), ⟨#[]⟩⟩]) (by unfold OwnP; rw [← e1]; exact ho4)
  have KN := hide (norm_any a4 _ c4 w4 (unhide HU _ ((unhide B3).trans (on4.below (Nat.le_trans (unhide H3).gB (Nat.le_of_lt (unhide H3).row.lt)) (fun k hk => own_ge (unhide H3).parts hk)))) hpt (by rw [← e1]; omega) (by rw [sumT_app]; show sumT L + 0 ≤ _; omega))
  subst hv4
  rw [← e1] at KN
  try rw [← e1]
  have HR4 := hide ((unhide H3).row.only on4 (fun e => tag_ne (unhide H3).parts (unhide H3).row (by decide) e))
  have hS4 : w4.cell? ⟨gp, 1, none⟩ = some (.slice ap nl cp) ∧ (w4.cell? ⟨g5, 0, none⟩ = some (.int .i64 1) ∧ w4.cell? ⟨g5, 1, none⟩ = some (.int .i64 ((S : Int) - (A : Int))) ∧ w4.cell? ⟨g5, 2, none⟩ = some (.string ⟨#[]⟩)) := ⟨(unhide HR4).cell 1, on4.cell (fun e => absurd (unhide HLT _ e) (Nat.lt_irrefl _)) hS3.2.1, on4.cell (fun e => absurd (unhide HLT _ e) (Nat.lt_irrefl _)) hS3.2.2.1, on4.cell (fun e => absurd (unhide HLT _ e) (Nat.lt_irrefl _)) hS3.2.2.2⟩
  have B4 := hide ((unhide B3).trans (on4.below (Nat.le_trans (unhide H3).gB (Nat.le_of_lt (unhide H3).row.lt)) (fun k hk => own_ge (unhide H3).parts hk)))
  clear ho4 on4 hpt e1 e2 hc4 hm4 HR4
  refine hK.out _ _ (fun _ => hS4) ?_
  clear hK K
  try simp only [Act.put, List.setIfInBounds_toArray, List.set_cons_zero, List.set_cons_succ]
  refine wpAnyT_one (i := 7) (o := { dst := some 20, op := Op.call { callee := Callee.value (Operand.func 77), args := #[Operand.tmp 19], argTypes := #[51] }, type := 51, pos := "text.go:40", after := #[{ on := 6, ground := Ground.data }, { on := 6, ground := Ground.chain }], guard := none }) (by kernel_rfl) rfl (fun K hK => ?_)
  go_simp
  refine Calls.mono (unhide KN) ?_
  rintro r w5 ⟨v5, rfl, ho5, b5⟩
  have B5 := hide ((unhide B4).trans (b5.mono (Nat.le_trans (unhide HBW) (unhide B4).size)))
  have HO5 := hide (own_base ho5 (Nat.le_trans (unhide HBW) (unhide B4).size))
  have hS5 : w5.cell? ⟨gp, 1, none⟩ = some (.slice ap nl cp) ∧ (w5.cell? ⟨g5, 0, none⟩ = some (.int .i64 1) ∧ w5.cell? ⟨g5, 1, none⟩ = some (.int .i64 ((S : Int) - (A : Int))) ∧ w5.cell? ⟨g5, 2, none⟩ = some (.string ⟨#[]⟩)) := ⟨kept b5 hS4.1, kept b5 hS4.2.1, kept b5 hS4.2.2.1, kept b5 hS4.2.2.2⟩
  clear b5 ho5 KN
  go_wp2_with fail
  refine hK.out _ _ (fun _ => hS5) ?_
  clear hK K
  try simp only [Act.put, List.setIfInBounds_toArray, List.set_cons_zero, List.set_cons_succ]
  refine wpAnyT_pure (i := 8) (oi := { dst := some 4, op := Op.assign (Operand.tmp 20), type := 51, pos := "text.go:40", after := #[{ on := 7, ground := Ground.data }, { on := 7, ground := Ground.chain }, { on := 0, ground := Ground.phase }, { on := 1, ground := Ground.phase }, { on := 2, ground := Ground.phase }, { on := 3, ground := Ground.phase }, { on := 4, ground := Ground.phase }, { on := 5, ground := Ground.phase }, { on := 6, ground := Ground.phase }, { on := 7, ground := Ground.phase }], guard := none }) (v := v5) rfl (by kernel_rfl) (by kernel_rfl) (by kernel_rfl) rfl (fun _ _ _ h => h) (Or.inl ⟨by rfl, ?_⟩) ?_
  · intro w hSw
    first
      | rfl
      | (go_simp; done)
  try simp only [Act.put, List.setIfInBounds_toArray, List.set_cons_zero, List.set_cons_succ]
  refine wpAnyT_done (by kernel_rfl) ?_ _
  go_wp2_with fail
  go_ret
  exact ⟨_, rfl, unhide HO5, unhide B5⟩
end Go.Proofs.YtdnbhomjfgpcfaaDoor
