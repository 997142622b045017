/- A new desk, by the document. -/
import Derived.Test.YthgacmlbmcehmaaDRt
namespace Go.Proofs.Ythgacmlbmcehmaa
set_option linter.unusedVariables false
set_option linter.unusedSimpArgs false
open Go.ChangeShapes Go.WideShapes Go.ChangeAt Go.RowKit Go.Joins Go.Deep

theorem made_rgs : ∀ n : Nat, n ≤ 8 → (madeCells #[.int .i64 0, .bool false, .int .i64 0, .int .i64 0, .int .i64 0] (n * 5)).toList = rsv (List.replicate n ⟨0, false, 0, 0, 0⟩)
  | 0, _ => by kernel_rfl
  | 1, _ => by kernel_rfl
  | 2, _ => by kernel_rfl
  | 3, _ => by kernel_rfl
  | 4, _ => by kernel_rfl
  | 5, _ => by kernel_rfl
  | 6, _ => by kernel_rfl
  | 7, _ => by kernel_rfl
  | 8, _ => by kernel_rfl
  | n + 9, h => by omega
theorem Only.below_new {w w' : World} (h : Only (fun _ => False) w.drew w') : Below w.heap.size w w' := (Below.refl _ _).drew.trans (h.below (Nat.le_refl _) (fun _ h => h.elim))
theorem wp_make_rgs {o : Oper} {a : Act} {K : Act → World → Prop} {Q : Exit → Act → World → Prop} {W : World} (l c : Operand) (hop : o.op = Op.makeSlice 49 l c) (n : Nat) (hl : a.eval l = .int .i64 (n : Int)) (hc : a.eval c = .int .i64 (n : Int)) (hn : n ≤ 8)
    (h : ∀ w', w'.ownsRow W.heap.size 53 5 (.slice (some ⟨W.heap.size, 0, none⟩) n n) n (rsv (List.replicate n ⟨0, false, 0, 0, 0⟩)) → Only (fun _ => False) W w' → K (a.put o.dst (.slice (some ⟨W.heap.size, 0, none⟩) n n)) w') : o.wp Try.prog a W K Q := by
  obtain ⟨i0, hi, hz, hsz, hb⟩ := info_parts info53
  obtain ⟨w', hrun, r1, r2⟩ := run_make_full (P := Try.prog) W W.heap.size 49 53 i0 _ 5 Try.underlying49 hi hz hsz .i64 .i64 n (by rw [hb]; omega) (by unfold maxLen; omega) (Nat.le_refl _)
  unfold Oper.wp
  simp [execOp, hop, hl, hc, hrun, Result.andThen]
  refine h w' ?_ ((grown_only r2).mono (fun i hi => by cases hi))
  rw [← made_rgs n hn]
  exact r1
set_option maxRecDepth 100000 in
set_option maxHeartbeats 4000000 in
theorem rnew_bad (a0 a1 a2 : Option Addr) (n0 n1 n2 c0 c1 c2 : Nat) (L C Q1 Q2 Q3 E : Nat → Int) (S : Nat → ByteArray) (Dw : Nat → Bool) (w : World) (pl : PolLabs w a0 n0 L C) (pq : PolQuos w a1 n1 Q1 Q2 Q3) (pe : PolEnts w a2 n2 E S Dw) (hr : rightN n0 n1 n2 L C Q1 Q2 Q3 E S = 11) : Calls Try.prog 13 #[.agg #[.slice a0 n0 c0, .slice a1 n1 c1, .slice a2 n2 c2]] w fun e w' => e = .returned (.tuple #[.pointer none, .int .i64 11]) ∧ Below w.heap.size w w' := by
  have hb : Below w.heap.size w (w.alloc (.cells #[.slice a0 n0 c0, .slice a1 n1 c1, .slice a2 n2 c2] 26)) := (Below.refl _ _).alloc (Nat.le_refl _) _
  have HR := hide (refright_any a0 a1 a2 n0 n1 n2 c0 c1 c2 L C Q1 Q2 Q3 E S Dw _ (pl.call hb) (pq.call hb) (pe.call hb))
  rw [hr] at HR
  have HB := hide hb
  clear pl pq pe hr hb
  go_enter Try.func13, Try.ntmps13
  go_wp2_with fail
  refine Calls.mono (unhide HR) ?_
  rintro r w1 ⟨rfl, hb1⟩
  have HB1 := hide ((unhide HB).trans (hb1.mono (unhide HB).size))
  clear hb1
  go_wp2_with fail
  go_ret2
  exact ⟨rfl, unhide HB1⟩
set_option maxRecDepth 100000 in
set_option maxHeartbeats 4000000 in
theorem rnew_ok (a0 a1 a2 : Option Addr) (n0 n1 n2 c0 c1 c2 : Nat) (L C Q1 Q2 Q3 E : Nat → Int) (S : Nat → ByteArray) (Dw : Nat → Bool) (w : World) (pl : PolLabs w a0 n0 L C) (pq : PolQuos w a1 n1 Q1 Q2 Q3) (pe : PolEnts w a2 n2 E S Dw) (hr : rightN n0 n1 n2 L C Q1 Q2 Q3 E S = 0) : Calls Try.prog 13 #[.agg #[.slice a0 n0 c0, .slice a1 n1 c1, .slice a2 n2 c2]] w fun e w' => ∃ g gg c ex, e = .returned (.tuple #[.pointer (some ⟨g, 0, none⟩), .int .i64 0]) ∧ Rk w' g gg c (.slice a0 n0 c0) (.slice a1 n1 c1) (.slice a2 n2 c2) ex (List.replicate n2 ⟨0, false, 0, 0, 0⟩) ∧ Below w.heap.size w w' ∧ w.heap.size < g := by
  have hb : Below w.heap.size w (w.alloc (.cells #[.slice a0 n0 c0, .slice a1 n1 c1, .slice a2 n2 c2] 26)) := (Below.refl _ _).alloc (Nat.le_refl _) _
  have HR := hide (refright_any a0 a1 a2 n0 n1 n2 c0 c1 c2 L C Q1 Q2 Q3 E S Dw _ (pl.call hb) (pq.call hb) (pe.call hb))
  rw [hr] at HR
  obtain ⟨-, ⟨q3, q4⟩, -⟩ := right_has hr
  have n2I : (n2 : Int) ≤ 8 := by omega
  have HRW := hide (RowAt.new w 26 [.slice a0 n0 c0, .slice a1 n1 c1, .slice a2 n2 c2])
  have HB := hide hb
  clear pl pq pe hr hb
  go_enter Try.func13, Try.ntmps13
  go_wp2_with fail
  refine Calls.mono (unhide HR) ?_
  rintro r w1 ⟨rfl, hb1⟩
  have HB1 := hide ((unhide HB).trans (hb1.mono (unhide HB).size))
  have hrw := (unhide HRW).below hb1 (unhide HRW).lt
  have p0 : w1.cell? ⟨w.heap.size, 0, none⟩ = some (.slice a0 n0 c0) := hrw.cell 0
  have p1 : w1.cell? ⟨w.heap.size, 1, none⟩ = some (.slice a1 n1 c1) := hrw.cell 1
  have p2 : w1.cell? ⟨w.heap.size, 2, none⟩ = some (.slice a2 n2 c2) := hrw.cell 2
  have HLT := hide hrw.lt
  clear hb1 hrw
  go_wp2_with fail
  have HS : Hid (∀ W, Below w1.heap.size w1 W → (W.cell? ⟨w.heap.size, 0, none⟩ = some (.slice a0 n0 c0) ∧ W.cell? ⟨w.heap.size, 1, none⟩ = some (.slice a1 n1 c1)) ∧ W.cell? ⟨w.heap.size, 2, none⟩ = some (.slice a2 n2 c2)) := hide (fun W hW => ⟨⟨by rw [hW.cell (p := ⟨w.heap.size, _, none⟩) (unhide HLT)]; exact p0, by rw [hW.cell (p := ⟨w.heap.size, _, none⟩) (unhide HLT)]; exact p1⟩, by rw [hW.cell (p := ⟨w.heap.size, _, none⟩) (unhide HLT)]; exact p2⟩)
  refine wp_region_T (S := fun w' => (w'.cell? ⟨w.heap.size, 0, none⟩ = some (.slice a0 n0 c0) ∧ w'.cell? ⟨w.heap.size, 1, none⟩ = some (.slice a1 n1 c1)) ∧ w'.cell? ⟨w.heap.size, 2, none⟩ = some (.slice a2 n2 c2)) (fun i => decide (i < 9)) (by kernel_rfl) ⟨⟨p0, p1⟩, p2⟩ (fun hHeld => ?_)
  refine wpAnyT_take (i := 0) (oi := { dst := some 10, op := Op.load 26 (Operand.tmp 1), type := 26, pos := "ref.go:38", after := #[], guard := none }) (v := .agg #[.slice a0 n0 c0, .slice a1 n1 c1, .slice a2 n2 c2]) rfl (by kernel_rfl) (by kernel_rfl) (by kernel_rfl) (by kernel_rfl) (fun _ _ _ h => h) (Or.inl ⟨by rfl, ?_⟩) hHeld ?_
  · intro w hSw
    obtain ⟨⟨h0, h1⟩, h2⟩ := hSw
    first
      | rfl
      | (go_simp; done)
  try simp only [Act.put, List.setIfInBounds_toArray, List.set_cons_zero, List.set_cons_succ]
  refine wpAnyT_take (i := 1) (oi := { dst := some 11, op := Op.fieldAddr 26 (Operand.tmp 1) 2, type := 0, pos := "ref.go:38", after := #[], guard := none }) (v := .pointer (some ⟨w.heap.size, 2, none⟩)) rfl (by kernel_rfl) (by kernel_rfl) (by kernel_rfl) (by kernel_rfl) (fun _ _ _ h => h) (Or.inl ⟨by rfl, ?_⟩) hHeld ?_
  · intro w hSw
    obtain ⟨⟨h0, h1⟩, h2⟩ := hSw
    first
      | rfl
      | (go_simp; done)
  try simp only [Act.put, List.setIfInBounds_toArray, List.set_cons_zero, List.set_cons_succ]
  refine wpAnyT_take (i := 2) (oi := { dst := some 12, op := Op.load 24 (Operand.tmp 11), type := 24, pos := "ref.go:38", after := #[{ on := 1, ground := Ground.data }], guard := none }) (v := .slice a2 n2 c2) rfl (by kernel_rfl) (by kernel_rfl) (by kernel_rfl) (by kernel_rfl) (fun _ _ _ h => h) (Or.inl ⟨by rfl, ?_⟩) hHeld ?_
  · intro w hSw
    obtain ⟨⟨h0, h1⟩, h2⟩ := hSw
    first
      | rfl
      | (go_simp; done)
  try simp only [Act.put, List.setIfInBounds_toArray, List.set_cons_zero, List.set_cons_succ]
  refine wpAnyT_take (i := 3) (oi := { dst := some 13, op := Op.call { callee := Callee.builtin Builtin.len, args := #[Operand.tmp 12], argTypes := #[24] }, type := 3, pos := "ref.go:38", after := #[{ on := 2, ground := Ground.data }], guard := none }) (v := .int .i64 (n2 : Int)) rfl (by kernel_rfl) (by kernel_rfl) (by kernel_rfl) (by kernel_rfl) (fun _ _ _ h => h) (Or.inl ⟨by rfl, ?_⟩) hHeld ?_
  · intro w hSw
    obtain ⟨⟨h0, h1⟩, h2⟩ := hSw
    first
      | rfl
      | (go_simp; done)
  try simp only [Act.put, List.setIfInBounds_toArray, List.set_cons_zero, List.set_cons_succ]
  refine wpAnyT_one (i := 4) (o := { dst := some 14, op := Op.makeSlice 49 (Operand.tmp 13) (Operand.tmp 13), type := 49, pos := "ref.go:38", after := #[{ on := 3, ground := Ground.data }, { on := 3, ground := Ground.data }], guard := none }) (by kernel_rfl) rfl (fun K hK => ?_)
  rw [if_pos (by rfl)]
  refine wp_make_rgs (W := w1.drew) _ _ rfl n2 rfl rfl q4 (fun w3 how hon => ?_)
  have HB3 := hide (hon.below_new : Below w1.heap.size w1 w3)
  refine hK.out _ _ (fun _ => unhide HS w3 (unhide HB3)) ?_
  clear hK K
  have HOW := hide how
  clear how hon
  try simp only [Act.put, List.setIfInBounds_toArray, List.set_cons_zero, List.set_cons_succ]
  refine wpAnyT_take (i := 5) (oi := { dst := some 15, op := Op.build 51 #[(0, Operand.tmp 10), (1, Operand.tmp 14)], type := 51, pos := "ref.go:38", after := #[{ on := 0, ground := Ground.data }, { on := 4, ground := Ground.data }], guard := none }) (v := .agg #[.slice a0 n0 c0, .slice a1 n1 c1, .slice a2 n2 c2, .slice (some ⟨w1.drew.heap.size, 0, none⟩) n2 n2]) rfl (by kernel_rfl) (by kernel_rfl) (by kernel_rfl) (by kernel_rfl) (fun _ _ _ h => h) (Or.inl ⟨by rfl, ?_⟩) (unhide HS w3 (unhide HB3)) ?_
  · intro w hSw
    obtain ⟨⟨h0, h1⟩, h2⟩ := hSw
    first
      | rfl
      | (go_simp; done)
  try simp only [Act.put, List.setIfInBounds_toArray, List.set_cons_zero, List.set_cons_succ]
  refine wpAnyT_one (i := 6) (o := { dst := some 16, op := Op.box 51 (Operand.tmp 15), type := 34, pos := "ref.go:38", after := #[{ on := 5, ground := Ground.data }], guard := none }) (by kernel_rfl) rfl (fun K hK => ?_)
  go_simp
  have hba : Below w3.heap.size w3 (w3.alloc (.cells #[.slice a0 n0 c0, .slice a1 n1 c1, .slice a2 n2 c2, .slice (some ⟨w1.heap.size, 0, none⟩) n2 n2] 51)) := (Below.refl _ _).alloc (Nat.le_refl _) _
  have HB4 := hide ((unhide HB3).trans (hba.mono (unhide HB3).size))
  have HOB := hide (RowAt.new w3 51 [.slice a0 n0 c0, .slice a1 n1 c1, .slice a2 n2 c2, .slice (some ⟨w1.heap.size, 0, none⟩) n2 n2])
  have HBA := hide hba
  refine hK.out _ _ (fun _ => unhide HS _ (unhide HB4)) ?_
  clear hK K hba
  try simp only [Act.put, List.setIfInBounds_toArray, List.set_cons_zero, List.set_cons_succ]
  refine wpAnyT_take (i := 7) (oi := { dst := some 2, op := Op.assign (Operand.tmp 16), type := 34, pos := "ref.go:38", after := #[{ on := 6, ground := Ground.data }, { on := 0, ground := Ground.phase }, { on := 1, ground := Ground.phase }, { on := 2, ground := Ground.phase }, { on := 3, ground := Ground.phase }, { on := 4, ground := Ground.phase }, { on := 5, ground := Ground.phase }, { on := 6, ground := Ground.phase }], guard := none }) (v := .pointer (some ⟨w3.heap.size, 0, none⟩)) rfl (by kernel_rfl) (by kernel_rfl) (by kernel_rfl) (by kernel_rfl) (fun _ _ _ h => h) (Or.inl ⟨by rfl, ?_⟩) (unhide HS _ (unhide HB4)) ?_
  · intro w hSw
    obtain ⟨⟨h0, h1⟩, h2⟩ := hSw
    first
      | rfl
      | (go_simp; done)
  try simp only [Act.put, List.setIfInBounds_toArray, List.set_cons_zero, List.set_cons_succ]
  refine wpAnyT_take (i := 8) (oi := { dst := some 3, op := Op.assign (Operand.const (Value.int IntKind.i64 0)), type := 31, pos := "ref.go:38", after := #[{ on := 7, ground := Ground.chain }, { on := 0, ground := Ground.phase }, { on := 1, ground := Ground.phase }, { on := 2, ground := Ground.phase }, { on := 3, ground := Ground.phase }, { on := 4, ground := Ground.phase }, { on := 5, ground := Ground.phase }, { on := 6, ground := Ground.phase }, { on := 7, ground := Ground.phase }], guard := none }) (v := .int .i64 0) rfl (by kernel_rfl) (by kernel_rfl) (by kernel_rfl) (by kernel_rfl) (fun _ _ _ h => h) (Or.inl ⟨by rfl, ?_⟩) (unhide HS _ (unhide HB4)) ?_
  · intro w hSw
    obtain ⟨⟨h0, h1⟩, h2⟩ := hSw
    first
      | rfl
      | (go_simp; done)
  try simp only [Act.put, List.setIfInBounds_toArray, List.set_cons_zero, List.set_cons_succ]
  refine wpAnyT_done (by kernel_rfl) ?_ _
  go_wp2_with fail
  go_ret2
  obtain ⟨ex, hrow, hc1, hc2, -⟩ := own_row (unhide HOW) q3
  have hrow2 := hrow.below (unhide HBA) hrow.lt
  refine ⟨w3.heap.size, w1.heap.size, n2, ex, rfl, ⟨?_, hrow2, ?_, ?_, ?_⟩, ?_, ?_⟩
  · rw [List.length_replicate]; exact unhide HOB
  · rw [List.length_replicate]; exact q3
  · rw [List.length_replicate]; exact q4
  · rw [List.length_replicate]; exact ⟨Nat.le_refl _, by unfold maxLen; omega⟩
  · exact (unhide HB1).trans ((unhide HB4).mono (unhide HB1).size)
  · have := unhide HLT
    have h3 : w1.heap.size ≤ w3.heap.size := (unhide HB3).size
    omega
end Go.Proofs.Ythgacmlbmcehmaa
