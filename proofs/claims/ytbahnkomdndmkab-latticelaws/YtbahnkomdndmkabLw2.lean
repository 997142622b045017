/- Join and meet hang neither on order nor on repetition, go together in any way, and each takes up the other: the walk. -/
import Derived.Test.YtbahnkomdndmkabLw1
namespace Go.Proofs.Ytbahnkomdndmkab
set_option linter.unusedVariables false
set_option linter.unusedSimpArgs false
open Go.ChangeShapes Go.WideShapes Go.ChangeAt Go.RowKit

theorem row_set_ne {w : World} {g h i : Nat} (v : Value) (hne : g ≠ h) : (w.setCell ⟨g, i, none⟩ v).heap[h]? = w.heap[h]? := by
  unfold World.setCell
  simp [Array.getElem?_modify, hne]
theorem check_or (l : Int) : checkN l = 0 ∨ checkN l = 10 := by unfold checkN; split <;> simp
set_option maxRecDepth 100000 in
set_option maxHeartbeats 4000000 in
theorem laws_law (la ca lb cb lc cc : Int) (w : World) (ha : U32 ca) (hb : U32 cb) (hc : U32 cc) :
    Calls Try.prog 3 #[.agg #[.int .i64 la, .int .u32 ca], .agg #[.int .i64 lb, .int .u32 cb], .agg #[.int .i64 lc, .int .u32 cc]] w fun e w' => e = .returned (.bool true) ∧ Below w.heap.size w w' := by
  -- what each call answers
  have HJ1 : Hid (∀ W g, RowAt W g 24 [.int .i64 lb, .int .u32 cb, .int .i64 la, .int .u32 ca] → Calls Try.prog 8 #[.slice (some ⟨g, 0, none⟩) 2 2] W fun e w' => e = .returned (.agg #[.int .i64 (mx la lb), .int .u32 (oc ca cb)]) ∧ Below W.heap.size W w') := hide (fun W g h => by have q := jn2 h; rw [mx_comm, oc_comm hb ha] at q; exact q)
  have HJ2 : Hid (∀ W g, RowAt W g 24 [.int .i64 la, .int .u32 ca, .int .i64 lb, .int .u32 cb, .int .i64 la, .int .u32 ca, .int .i64 lb, .int .u32 cb] → Calls Try.prog 8 #[.slice (some ⟨g, 0, none⟩) 4 4] W fun e w' => e = .returned (.agg #[.int .i64 (mx la lb), .int .u32 (oc ca cb)]) ∧ Below W.heap.size W w') := hide (fun W g h => by have q := jn4 h; rw [mx_four, oc_four ha hb] at q; exact q)
  have HJ3 : Hid (∀ W g, RowAt W g 24 [.int .i64 (mx la lb), .int .u32 (oc ca cb), .int .i64 lc, .int .u32 cc] → Calls Try.prog 8 #[.slice (some ⟨g, 0, none⟩) 2 2] W fun e w' => e = .returned (.agg #[.int .i64 (mx (mx la lb) lc), .int .u32 (oc (oc ca cb) cc)]) ∧ Below W.heap.size W w') := hide (fun W g h => jn2 h)
  have HJ4 : Hid (∀ W g, RowAt W g 24 [.int .i64 lb, .int .u32 cb, .int .i64 lc, .int .u32 cc] → Calls Try.prog 8 #[.slice (some ⟨g, 0, none⟩) 2 2] W fun e w' => e = .returned (.agg #[.int .i64 (mx lb lc), .int .u32 (oc cb cc)]) ∧ Below W.heap.size W w') := hide (fun W g h => jn2 h)
  have HJ5 : Hid (∀ W g, RowAt W g 24 [.int .i64 la, .int .u32 ca, .int .i64 (mx lb lc), .int .u32 (oc cb cc)] → Calls Try.prog 8 #[.slice (some ⟨g, 0, none⟩) 2 2] W fun e w' => e = .returned (.agg #[.int .i64 (mx (mx la lb) lc), .int .u32 (oc (oc ca cb) cc)]) ∧ Below W.heap.size W w') := hide (fun W g h => by have q := jn2 h; rw [← mx_assoc, ← oc_assoc ha hb hc] at q; exact q)
  have HM1 : Hid (∀ W g, RowAt W g 24 [.int .i64 lb, .int .u32 cb, .int .i64 la, .int .u32 ca] → Calls Try.prog 9 #[.slice (some ⟨g, 0, none⟩) 2 2] W fun e w' => e = .returned (.agg #[.int .i64 (mn la lb), .int .u32 (ac ca cb)]) ∧ Below W.heap.size W w') := hide (fun W g h => by have q := mt2 h; rw [mn_comm, ac_comm hb ha] at q; exact q)
  have HM2 : Hid (∀ W g, RowAt W g 24 [.int .i64 la, .int .u32 ca, .int .i64 lb, .int .u32 cb, .int .i64 la, .int .u32 ca] → Calls Try.prog 9 #[.slice (some ⟨g, 0, none⟩) 3 3] W fun e w' => e = .returned (.agg #[.int .i64 (mn la lb), .int .u32 (ac ca cb)]) ∧ Below W.heap.size W w') := hide (fun W g h => by have q := mt3 h; rw [mn_three, ac_three ha hb] at q; exact q)
  have HM3 : Hid (∀ W g, RowAt W g 24 [.int .i64 (mn la lb), .int .u32 (ac ca cb), .int .i64 lc, .int .u32 cc] → Calls Try.prog 9 #[.slice (some ⟨g, 0, none⟩) 2 2] W fun e w' => e = .returned (.agg #[.int .i64 (mn (mn la lb) lc), .int .u32 (ac (ac ca cb) cc)]) ∧ Below W.heap.size W w') := hide (fun W g h => mt2 h)
  have HM4 : Hid (∀ W g, RowAt W g 24 [.int .i64 lb, .int .u32 cb, .int .i64 lc, .int .u32 cc] → Calls Try.prog 9 #[.slice (some ⟨g, 0, none⟩) 2 2] W fun e w' => e = .returned (.agg #[.int .i64 (mn lb lc), .int .u32 (ac cb cc)]) ∧ Below W.heap.size W w') := hide (fun W g h => mt2 h)
  have HM5 : Hid (∀ W g, RowAt W g 24 [.int .i64 la, .int .u32 ca, .int .i64 (mn lb lc), .int .u32 (ac cb cc)] → Calls Try.prog 9 #[.slice (some ⟨g, 0, none⟩) 2 2] W fun e w' => e = .returned (.agg #[.int .i64 (mn (mn la lb) lc), .int .u32 (ac (ac ca cb) cc)]) ∧ Below W.heap.size W w') := hide (fun W g h => by have q := mt2 h; rw [← mn_assoc, ← ac_assoc ha hb hc] at q; exact q)
  have HX1 : Hid (∀ W g, RowAt W g 24 [.int .i64 la, .int .u32 ca, .int .i64 (mn la lb), .int .u32 (ac ca cb)] → Calls Try.prog 8 #[.slice (some ⟨g, 0, none⟩) 2 2] W fun e w' => e = .returned (.agg #[.int .i64 la, .int .u32 ca]) ∧ Below W.heap.size W w') := hide (fun W g h => by have q := jn2 h; rw [mx_mn, oc_ac ha hb] at q; exact q)
  have HX2 : Hid (∀ W g, RowAt W g 24 [.int .i64 la, .int .u32 ca, .int .i64 (mx la lb), .int .u32 (oc ca cb)] → Calls Try.prog 9 #[.slice (some ⟨g, 0, none⟩) 2 2] W fun e w' => e = .returned (.agg #[.int .i64 la, .int .u32 ca]) ∧ Below W.heap.size W w') := hide (fun W g h => by have q := mt2 h; rw [mn_mx, ac_oc ha hb] at q; exact q)
  clear ha hb hc
  have HBX : Hid (Below w.heap.size w (((w.alloc (.cells #[.int .i64 la, .int .u32 ca] 24)).alloc (.cells #[.int .i64 lb, .int .u32 cb] 24)).alloc (.cells #[.int .i64 lc, .int .u32 cc] 24)) ∧ RowAt (((w.alloc (.cells #[.int .i64 la, .int .u32 ca] 24)).alloc (.cells #[.int .i64 lb, .int .u32 cb] 24)).alloc (.cells #[.int .i64 lc, .int .u32 cc] 24)) w.heap.size 24 [.int .i64 la, .int .u32 ca] ∧ RowAt (((w.alloc (.cells #[.int .i64 la, .int .u32 ca] 24)).alloc (.cells #[.int .i64 lb, .int .u32 cb] 24)).alloc (.cells #[.int .i64 lc, .int .u32 cc] 24)) (w.heap.size + 1) 24 [.int .i64 lb, .int .u32 cb] ∧ RowAt (((w.alloc (.cells #[.int .i64 la, .int .u32 ca] 24)).alloc (.cells #[.int .i64 lb, .int .u32 cb] 24)).alloc (.cells #[.int .i64 lc, .int .u32 cc] 24)) (w.heap.size + 1 + 1) 24 [.int .i64 lc, .int .u32 cc]) := hide (by
    obtain ⟨w1, h1⟩ : ∃ z, w.alloc (.cells #[.int .i64 la, .int .u32 ca] 24) = z := ⟨_, rfl⟩
    have b1 : Below w.heap.size w w1 := by rw [← h1]; exact (Below.refl _ _).alloc (Nat.le_refl _) _
    have s1 : w1.heap.size = w.heap.size + 1 := by rw [← h1, size_alloc]
    have r1 : RowAt w1 w.heap.size 24 [.int .i64 la, .int .u32 ca] := by rw [← h1]; exact RowAt.new w 24 [.int .i64 la, .int .u32 ca]
    rw [h1]
    obtain ⟨w2, h2⟩ : ∃ z, w1.alloc (.cells #[.int .i64 lb, .int .u32 cb] 24) = z := ⟨_, rfl⟩
    have b2 : Below w1.heap.size w1 w2 := by rw [← h2]; exact (Below.refl _ _).alloc (Nat.le_refl _) _
    have s2 : w2.heap.size = w.heap.size + 1 + 1 := by rw [← h2, size_alloc, s1]
    have r2 : RowAt w2 (w.heap.size + 1) 24 [.int .i64 lb, .int .u32 cb] := by rw [← h2, ← s1]; exact RowAt.new w1 24 [.int .i64 lb, .int .u32 cb]
    rw [h2]
    obtain ⟨w3, h3⟩ : ∃ z, w2.alloc (.cells #[.int .i64 lc, .int .u32 cc] 24) = z := ⟨_, rfl⟩
    have b3 : Below w2.heap.size w2 w3 := by rw [← h3]; exact (Below.refl _ _).alloc (Nat.le_refl _) _
    have r3 : RowAt w3 (w.heap.size + 1 + 1) 24 [.int .i64 lc, .int .u32 cc] := by rw [← h3, ← s2]; exact RowAt.new w2 24 [.int .i64 lc, .int .u32 cc]
    rw [h3]
    have b13 := b2.trans (b3.mono b2.size)
    exact ⟨b1.trans (b13.mono b1.size), r1.below b13 r1.lt, r2.below b3 r2.lt, r3⟩)
  go_enter Try.func3, Try.ntmps3
  go_wp2_with fail
  obtain ⟨wA, hA⟩ : ∃ z, ((w.alloc (.cells #[.int .i64 la, .int .u32 ca] 24)).alloc (.cells #[.int .i64 lb, .int .u32 cb] 24)).alloc (.cells #[.int .i64 lc, .int .u32 cc] 24) = z := ⟨_, rfl⟩
  rw [hA] at HBX
  simp only [hA]
  obtain ⟨gC, hgC⟩ : ∃ z, w.heap.size + 1 + 1 = z := ⟨_, rfl⟩
  rw [hgC] at HBX
  simp only [hgC]
  obtain ⟨gB, hgB⟩ : ∃ z, w.heap.size + 1 = z := ⟨_, rfl⟩
  rw [hgB] at HBX
  simp only [hgB]
  obtain ⟨gA, hgA⟩ : ∃ z, w.heap.size = z := ⟨_, rfl⟩
  have HBX : Hid (Below w.heap.size w wA ∧ RowAt wA gA 24 [.int .i64 la, .int .u32 ca] ∧ RowAt wA gB 24 [.int .i64 lb, .int .u32 cb] ∧ RowAt wA gC 24 [.int .i64 lc, .int .u32 cc]) := hide (by have h := unhide HBX; exact ⟨h.1, by rw [← hgA]; exact h.2.1, h.2.2.1, h.2.2.2⟩)
  rw [show (Value.pointer (some ({ block := w.heap.size, off := 0 } : Addr))) = Value.pointer (some ({ block := gA, off := 0 } : Addr)) by rw [hgA]]
  clear hA hgA hgB hgC
  have HO : Hid (∀ W, Below wA.heap.size wA W → lS la ca lb cb gA gB W) := hide (fun W hW => ⟨((unhide HBX).2.1.below hW (unhide HBX).2.1.lt).cell 0, ((unhide HBX).2.1.below hW (unhide HBX).2.1.lt).cell 1, ((unhide HBX).2.2.1.below hW (unhide HBX).2.2.1.lt).cell 0, ((unhide HBX).2.2.1.below hW (unhide HBX).2.2.1.lt).cell 1⟩)
  refine wp_region_T (S := lS la ca lb cb gA gB) (fun i => decide (i < 12)) (by kernel_rfl) (unhide HO _ (Below.refl _ _).drew) (fun hHeld => ?_)
  refine wpAnyT_take (i := 0) (oi := { dst := some 9, op := Op.load 24 (Operand.tmp 3), type := 24, pos := "law.go:84", after := #[], guard := none }) (v := .agg #[.int .i64 la, .int .u32 ca]) rfl (by kernel_rfl) (by kernel_rfl) (by kernel_rfl) (by kernel_rfl) (fun _ _ _ h => h) (Or.inl ⟨by rfl, ?_⟩) hHeld ?_
  · intro w hSw
    obtain ⟨s0, s1, s2, s3⟩ := hSw
    first
      | rfl
      | (go_simp; done)
  try simp only [Act.put, List.setIfInBounds_toArray, List.set_cons_zero, List.set_cons_succ]
  refine wpAnyT_take (i := 1) (oi := { dst := some 10, op := Op.load 24 (Operand.tmp 4), type := 24, pos := "law.go:84", after := #[], guard := none }) (v := .agg #[.int .i64 lb, .int .u32 cb]) rfl (by kernel_rfl) (by kernel_rfl) (by kernel_rfl) (by kernel_rfl) (fun _ _ _ h => h) (Or.inl ⟨by rfl, ?_⟩) hHeld ?_
  · intro w hSw
    obtain ⟨s0, s1, s2, s3⟩ := hSw
    first
      | rfl
      | (go_simp; done)
  try simp only [Act.put, List.setIfInBounds_toArray, List.set_cons_zero, List.set_cons_succ]
  refine wpAnyT_take (i := 4) (oi := { dst := some 13, op := Op.load 24 (Operand.tmp 3), type := 24, pos := "law.go:84", after := #[], guard := none }) (v := .agg #[.int .i64 la, .int .u32 ca]) rfl (by kernel_rfl) (by kernel_rfl) (by kernel_rfl) (by kernel_rfl) (fun _ _ _ h => h) (Or.inl ⟨by rfl, ?_⟩) hHeld ?_
  · intro w hSw
    obtain ⟨s0, s1, s2, s3⟩ := hSw
    first
      | rfl
      | (go_simp; done)
  try simp only [Act.put, List.setIfInBounds_toArray, List.set_cons_zero, List.set_cons_succ]
  refine wpAnyT_take (i := 5) (oi := { dst := some 14, op := Op.load 24 (Operand.tmp 4), type := 24, pos := "law.go:84", after := #[], guard := none }) (v := .agg #[.int .i64 lb, .int .u32 cb]) rfl (by kernel_rfl) (by kernel_rfl) (by kernel_rfl) (by kernel_rfl) (fun _ _ _ h => h) (Or.inl ⟨by rfl, ?_⟩) hHeld ?_
  · intro w hSw
    obtain ⟨s0, s1, s2, s3⟩ := hSw
    first
      | rfl
      | (go_simp; done)
  try simp only [Act.put, List.setIfInBounds_toArray, List.set_cons_zero, List.set_cons_succ]
  refine lx0_0000 (unhide HO) (fun g7 g8 x11 x15 W l2 l6 hN => ?_) (LX.start la ca lb cb wA)
  have HN := hide hN
  obtain ⟨r7, b7⟩ := hN.a8_ g7 rfl
  obtain ⟨r8, b8⟩ := hN.a9_ g8 rfl
  have hne := hN.ne g7 g8 rfl rfl
  have f70 := r7.frozen 0
  have f71 := r7.frozen 1
  have c70 : W.cell? ⟨g7, 0, none⟩ = some (.int .i64 0) := r7.cell 0
  have c71 : W.cell? ⟨g7, 1, none⟩ = some (.int .u32 0) := r7.cell 1
  have HFB : Hid (RowAt ((((W.setCell ⟨g7, 0, none⟩ (.int .i64 (mx la lb))).setCell ⟨g7, 1, none⟩ (.int .u32 (oc ca cb))).setCell ⟨g8, 0, none⟩ (.int .i64 (mn la lb))).setCell ⟨g8, 1, none⟩ (.int .u32 (ac ca cb))) g7 24 [.int .i64 (mx la lb), .int .u32 (oc ca cb)] ∧ RowAt ((((W.setCell ⟨g7, 0, none⟩ (.int .i64 (mx la lb))).setCell ⟨g7, 1, none⟩ (.int .u32 (oc ca cb))).setCell ⟨g8, 0, none⟩ (.int .i64 (mn la lb))).setCell ⟨g8, 1, none⟩ (.int .u32 (ac ca cb))) g8 24 [.int .i64 (mn la lb), .int .u32 (ac ca cb)] ∧ Below wA.heap.size wA ((((W.setCell ⟨g7, 0, none⟩ (.int .i64 (mx la lb))).setCell ⟨g7, 1, none⟩ (.int .u32 (oc ca cb))).setCell ⟨g8, 0, none⟩ (.int .i64 (mn la lb))).setCell ⟨g8, 1, none⟩ (.int .u32 (ac ca cb)))) := hide (by
    have q7 := (r7.set 0 (.int .i64 (mx la lb))).set 1 (.int .u32 (oc ca cb))
    have q8 : RowAt ((W.setCell ⟨g7, 0, none⟩ (.int .i64 (mx la lb))).setCell ⟨g7, 1, none⟩ (.int .u32 (oc ca cb))) g8 24 [.int .i64 0, .int .u32 0] := by
      unfold RowAt
      rw [row_set_ne _ hne, row_set_ne _ hne]
      exact r8
    refine ⟨?_, (q8.set 0 (.int .i64 (mn la lb))).set 1 (.int .u32 (ac ca cb)), ?_⟩
    · unfold RowAt
      rw [row_set_ne _ (Ne.symm hne), row_set_ne _ (Ne.symm hne)]
      exact q7
    · exact (((hN.bel.setCell (by show wA.heap.size ≤ g7; exact b7) _).setCell (by show wA.heap.size ≤ g7; exact b7) _).setCell (by show wA.heap.size ≤ g8; exact b8) _).setCell (by show wA.heap.size ≤ g8; exact b8) _)
  have HB10 : Hid (Below wA.heap.size wA ((W.setCell ⟨g7, 0, none⟩ (.int .i64 (mx la lb))).setCell ⟨g7, 1, none⟩ (.int .u32 (oc ca cb)))) := hide ((hN.bel.setCell (by show wA.heap.size ≤ g7; exact b7) _).setCell (by show wA.heap.size ≤ g7; exact b7) _)
  have HW1 : Hid (RowAt ((W.setCell ⟨g7, 0, none⟩ (.int .i64 (mx la lb))).setCell ⟨g7, 1, none⟩ (.int .u32 (oc ca cb))) g8 24 [.int .i64 0, .int .u32 0]) := hide (by
      unfold RowAt
      rw [row_set_ne _ hne, row_set_ne _ hne]
      exact r8)
  clear hN r8 b7 b8 hne r7
  refine wpAnyT_one (i := 10) (o := { dst := none, op := Op.store 24 (Operand.tmp 7) (Operand.tmp 12), type := 0, pos := "law.go:84", after := #[{ on := 8, ground := Ground.data }, { on := 3, ground := Ground.data }, { on := 7, ground := Ground.chain }, { on := 0, ground := Ground.phase }, { on := 1, ground := Ground.phase }, { on := 2, ground := Ground.phase }, { on := 3, ground := Ground.phase }, { on := 4, ground := Ground.textOnly Departure.lateStores }, { on := 5, ground := Ground.textOnly Departure.lateStores }, { on := 6, ground := Ground.textOnly Departure.lateStores }, { on := 7, ground := Ground.textOnly Departure.lateStoresUnsure }, { on := 8, ground := Ground.phase }, { on := 9, ground := Ground.phase }], guard := none }) (by kernel_rfl) rfl (fun K hK => ?_)
  go_simp
  refine hK.out _ _ (fun _ => (unhide HO _ (unhide HB10))) ?_
  clear hK K
  clear f70 f71 c70 c71
  obtain ⟨W1, hW1⟩ : ∃ z, (W.setCell ⟨g7, 0, none⟩ (.int .i64 (mx la lb))).setCell ⟨g7, 1, none⟩ (.int .u32 (oc ca cb)) = z := ⟨_, rfl⟩
  simp only [hW1] at HFB HW1 ⊢
  clear hW1
  have f80 := (unhide HW1).frozen 0
  have f81 := (unhide HW1).frozen 1
  have c80 : W1.cell? ⟨g8, 0, none⟩ = some (.int .i64 0) := (unhide HW1).cell 0
  have c81 : W1.cell? ⟨g8, 1, none⟩ = some (.int .u32 0) := (unhide HW1).cell 1
  try simp only [Act.put, List.setIfInBounds_toArray, List.set_cons_zero, List.set_cons_succ]
  refine wpAnyT_one (i := 11) (o := { dst := none, op := Op.store 24 (Operand.tmp 8) (Operand.tmp 16), type := 0, pos := "law.go:84", after := #[{ on := 9, ground := Ground.data }, { on := 7, ground := Ground.data }, { on := 10, ground := Ground.chain }, { on := 0, ground := Ground.phase }, { on := 1, ground := Ground.phase }, { on := 2, ground := Ground.phase }, { on := 3, ground := Ground.phase }, { on := 4, ground := Ground.phase }, { on := 5, ground := Ground.phase }, { on := 6, ground := Ground.phase }, { on := 7, ground := Ground.phase }, { on := 8, ground := Ground.phase }, { on := 9, ground := Ground.phase }, { on := 10, ground := Ground.phase }], guard := none }) (by kernel_rfl) rfl (fun K hK => ?_)
  go_simp
  refine hK.out _ _ (fun _ => (unhide HO _ (unhide HFB).2.2)) ?_
  clear hK K
  try simp only [Act.put, List.setIfInBounds_toArray, List.set_cons_zero, List.set_cons_succ]
  refine wpAnyT_done (by kernel_rfl) ?_ _
  obtain ⟨wB, hB⟩ : ∃ z, (W1.setCell ⟨g8, 0, none⟩ (.int .i64 (mn la lb))).setCell ⟨g8, 1, none⟩ (.int .u32 (ac ca cb)) = z := ⟨_, rfl⟩
  simp only [hB] at HFB ⊢
  clear hB HW1 f80 f81 c80 c81
  obtain ⟨jL, hjL⟩ : ∃ z, mx la lb = z := ⟨_, rfl⟩
  obtain ⟨jC, hjC⟩ : ∃ z, oc ca cb = z := ⟨_, rfl⟩
  obtain ⟨mL, hmL⟩ : ∃ z, mn la lb = z := ⟨_, rfl⟩
  obtain ⟨mC, hmC⟩ : ∃ z, ac ca cb = z := ⟨_, rfl⟩
  obtain ⟨kL, hkL⟩ : ∃ z, mx jL lc = z := ⟨_, rfl⟩
  obtain ⟨kC, hkC⟩ : ∃ z, oc jC cc = z := ⟨_, rfl⟩
  obtain ⟨nL, hnL⟩ : ∃ z, mn mL lc = z := ⟨_, rfl⟩
  obtain ⟨nC, hnC⟩ : ∃ z, ac mC cc = z := ⟨_, rfl⟩
  obtain ⟨pL, hpL⟩ : ∃ z, mx lb lc = z := ⟨_, rfl⟩
  obtain ⟨pC, hpC⟩ : ∃ z, oc cb cc = z := ⟨_, rfl⟩
  obtain ⟨qL, hqL⟩ : ∃ z, mn lb lc = z := ⟨_, rfl⟩
  obtain ⟨qC, hqC⟩ : ∃ z, ac cb cc = z := ⟨_, rfl⟩
  simp only [hjL, hjC, hmL, hmC, hkL, hkC, hnL, hnC, hpL, hpC, hqL, hqC] at HJ1 HJ2 HJ3 HJ4 HJ5 HM1 HM2 HM3 HM4 HM5 HX1 HX2 HFB ⊢
  clear hjL hjC hmL hmC hkL hkC hnL hnC hpL hpC hqL hqC
  have HBB : Hid (Below w.heap.size w wB) := hide ((unhide HBX).1.trans ((unhide HFB).2.2.mono (unhide HBX).1.size))
  have HS5 : Hid (∀ W, Below wB.heap.size wB W → W.cell? ⟨gA, 0, none⟩ = some (.int .i64 la) ∧ W.cell? ⟨gA, 1, none⟩ = some (.int .u32 ca) ∧ W.cell? ⟨gB, 0, none⟩ = some (.int .i64 lb) ∧ W.cell? ⟨gB, 1, none⟩ = some (.int .u32 cb) ∧ W.cell? ⟨gC, 0, none⟩ = some (.int .i64 lc) ∧ W.cell? ⟨gC, 1, none⟩ = some (.int .u32 cc) ∧ W.cell? ⟨g7, 0, none⟩ = some (.int .i64 jL) ∧ W.cell? ⟨g7, 1, none⟩ = some (.int .u32 jC) ∧ W.cell? ⟨g8, 0, none⟩ = some (.int .i64 mL) ∧ W.cell? ⟨g8, 1, none⟩ = some (.int .u32 mC)) := hide (fun W hW => by
    have a1 := ((unhide HBX).2.1.below (unhide HFB).2.2 (unhide HBX).2.1.lt)
    have a2 := ((unhide HBX).2.2.1.below (unhide HFB).2.2 (unhide HBX).2.2.1.lt)
    have a3 := ((unhide HBX).2.2.2.below (unhide HFB).2.2 (unhide HBX).2.2.2.lt)
    have a1 := a1.below hW a1.lt
    have a2 := a2.below hW a2.lt
    have a3 := a3.below hW a3.lt
    have a4 := (unhide HFB).1.below hW (unhide HFB).1.lt
    have a5 := (unhide HFB).2.1.below hW (unhide HFB).2.1.lt
    exact ⟨a1.cell 0, a1.cell 1, a2.cell 0, a2.cell 1, a3.cell 0, a3.cell 1, a4.cell 0, a4.cell 1, a5.cell 0, a5.cell 1⟩)
  clear HFB HBX HO HN
  go_wp2_with fail
  refine reg_post (fun a_ w_ => ∃ z20 z29 z36 z41 z43, a_ = ({ tmps := #[.agg #[.int .i64 la, .int .u32 ca], .agg #[.int .i64 lb, .int .u32 cb], .agg #[.int .i64 lc, .int .u32 cc], .pointer (some ⟨gA, 0, none⟩), .pointer (some ⟨gB, 0, none⟩), .pointer (some ⟨gC, 0, none⟩), .bool false, .pointer (some ⟨g7, 0, none⟩), .pointer (some ⟨g8, 0, none⟩), .agg #[.int .i64 la, .int .u32 ca], .agg #[.int .i64 lb, .int .u32 cb], x11, .agg #[.int .i64 jL, .int .u32 jC], .agg #[.int .i64 la, .int .u32 ca], .agg #[.int .i64 lb, .int .u32 cb], x15, .agg #[.int .i64 mL, .int .u32 mC], .agg #[.int .i64 jL, .int .u32 jC], .agg #[.int .i64 lb, .int .u32 cb], .agg #[.int .i64 la, .int .u32 ca], z20, .agg #[.int .i64 jL, .int .u32 jC], .bool false, .bool false, .agg #[.int .i64 jL, .int .u32 jC], .agg #[.int .i64 la, .int .u32 ca], .agg #[.int .i64 lb, .int .u32 cb], .agg #[.int .i64 la, .int .u32 ca], .agg #[.int .i64 lb, .int .u32 cb], z29, .agg #[.int .i64 jL, .int .u32 jC], .bool false, .bool false, .bool false, .agg #[.int .i64 jL, .int .u32 jC], .agg #[.int .i64 lc, .int .u32 cc], z36, .agg #[.int .i64 kL, .int .u32 kC], .agg #[.int .i64 la, .int .u32 ca], .agg #[.int .i64 lb, .int .u32 cb], .agg #[.int .i64 lc, .int .u32 cc], z41, .agg #[.int .i64 pL, .int .u32 pC], z43, .agg #[.int .i64 kL, .int .u32 kC], .bool false, .bool false, undef, undef, undef, undef, undef, undef, undef, undef, undef, undef, undef, undef, undef, undef, undef, undef, undef, undef, undef, undef, undef, undef, undef, undef, undef, undef, undef, undef, undef, undef, undef, undef, undef, undef, undef, undef, undef, undef, undef, undef, undef, undef, undef, undef, undef, undef, undef, undef, undef, undef, undef, undef, undef, undef, undef, undef, undef, undef, undef, undef, undef, undef], defers := [] } : Act) ∧ Below wB.heap.size wB w_) ?_ ?_
  · refine wp_region_T (S := fun W => W.cell? ⟨gA, 0, none⟩ = some (.int .i64 la) ∧ W.cell? ⟨gA, 1, none⟩ = some (.int .u32 ca) ∧ W.cell? ⟨gB, 0, none⟩ = some (.int .i64 lb) ∧ W.cell? ⟨gB, 1, none⟩ = some (.int .u32 cb) ∧ W.cell? ⟨gC, 0, none⟩ = some (.int .i64 lc) ∧ W.cell? ⟨gC, 1, none⟩ = some (.int .u32 cc) ∧ W.cell? ⟨g7, 0, none⟩ = some (.int .i64 jL) ∧ W.cell? ⟨g7, 1, none⟩ = some (.int .u32 jC) ∧ W.cell? ⟨g8, 0, none⟩ = some (.int .i64 mL) ∧ W.cell? ⟨g8, 1, none⟩ = some (.int .u32 mC)) (fun i => decide (i < 30)) (by kernel_rfl) (unhide HS5 _ (Below.refl _ _).drew) (fun hHeld => ?_)
    have HB20 : Hid (Below wB.heap.size wB wB.drew) := hide (Below.refl _ _).drew
    obtain ⟨w20, h20⟩ : ∃ z, wB.drew = z := ⟨_, rfl⟩
    rw [h20] at HB20 hHeld ⊢
    clear h20
    refine wpAnyT_take (i := 0) (oi := { dst := some 17, op := Op.load 24 (Operand.tmp 7), type := 24, pos := "law.go:85", after := #[], guard := none }) (v := .agg #[.int .i64 jL, .int .u32 jC]) rfl (by kernel_rfl) (by kernel_rfl) (by kernel_rfl) (by kernel_rfl) (fun _ _ _ h => by cases h.1) (Or.inl ⟨by rfl, ?_⟩) (unhide HS5 _ (unhide HB20)) ?_
    · intro w hSw
      obtain ⟨s0, s1, s2, s3, s4, s5, s6, s7, s8, s9⟩ := hSw
      first
        | rfl
        | (go_simp; done)
    try simp only [Act.put, List.setIfInBounds_toArray, List.set_cons_zero, List.set_cons_succ]
    refine wpAnyT_take (i := 1) (oi := { dst := some 18, op := Op.load 24 (Operand.tmp 4), type := 24, pos := "law.go:85", after := #[], guard := none }) (v := .agg #[.int .i64 lb, .int .u32 cb]) rfl (by kernel_rfl) (by kernel_rfl) (by kernel_rfl) (by kernel_rfl) (fun _ _ _ h => by cases h.1) (Or.inl ⟨by rfl, ?_⟩) (unhide HS5 _ (unhide HB20)) ?_
    · intro w hSw
      obtain ⟨s0, s1, s2, s3, s4, s5, s6, s7, s8, s9⟩ := hSw
      first
        | rfl
        | (go_simp; done)
    try simp only [Act.put, List.setIfInBounds_toArray, List.set_cons_zero, List.set_cons_succ]
    refine wpAnyT_take (i := 2) (oi := { dst := some 19, op := Op.load 24 (Operand.tmp 3), type := 24, pos := "law.go:85", after := #[], guard := none }) (v := .agg #[.int .i64 la, .int .u32 ca]) rfl (by kernel_rfl) (by kernel_rfl) (by kernel_rfl) (by kernel_rfl) (fun _ _ _ h => by cases h.1) (Or.inl ⟨by rfl, ?_⟩) (unhide HS5 _ (unhide HB20)) ?_
    · intro w hSw
      obtain ⟨s0, s1, s2, s3, s4, s5, s6, s7, s8, s9⟩ := hSw
      first
        | rfl
        | (go_simp; done)
    try simp only [Act.put, List.setIfInBounds_toArray, List.set_cons_zero, List.set_cons_succ]
    refine wpAnyT_one (i := 3) (o := { dst := some 20, op := Op.buildSlice 30 2 #[(0, Operand.tmp 18), (1, Operand.tmp 19)], type := 30, pos := "law.go:85", after := #[{ on := 1, ground := Ground.data }, { on := 2, ground := Ground.data }], guard := none }) (by kernel_rfl) rfl (fun K hK => ?_)
    go_simp
    have HR3 := hide (RowAt.new w20 24 [.int .i64 lb, .int .u32 cb, .int .i64 la, .int .u32 ca])
    have HB3 := hide ((unhide HB20).alloc (unhide HB20).size (.cells #[.int .i64 lb, .int .u32 cb, .int .i64 la, .int .u32 ca] 24))
    refine hK.out _ _ (fun _ => unhide HS5 _ (unhide HB3)) ?_
    clear hK K
    obtain ⟨y3, hy3⟩ : ∃ z, w20.alloc (.cells #[.int .i64 lb, .int .u32 cb, .int .i64 la, .int .u32 ca] 24) = z := ⟨_, rfl⟩
    rw [hy3] at HR3 HB3
    simp only [hy3]
    obtain ⟨p3, hp3⟩ : ∃ z, w20.heap.size = z := ⟨_, rfl⟩
    rw [hp3] at HR3
    simp only [hp3]
    clear hy3 hp3
    try simp only [Act.put, List.setIfInBounds_toArray, List.set_cons_zero, List.set_cons_succ]
    refine wpAnyT_one (i := 4) (o := { dst := some 21, op := Op.call { callee := Callee.value (Operand.func 8), args := #[Operand.tmp 20], argTypes := #[30] }, type := 24, pos := "law.go:85", after := #[{ on := 3, ground := Ground.data }], guard := none }) (by kernel_rfl) rfl (fun K hK => ?_)
    go_simp
    refine Calls.mono (unhide HJ1 _ _ (unhide HR3)) ?_
    rintro e v4 ⟨rfl, hb4⟩
    have HB4 := hide ((unhide HB3).trans (hb4.mono (unhide HB3).size))
    have HR3 := hide ((unhide HR3).below hb4 (unhide HR3).lt)
    clear hb4
    go_wp2_with fail
    refine hK.out _ _ (fun _ => unhide HS5 _ (unhide HB4)) ?_
    clear hK K
    try simp only [Act.put, List.setIfInBounds_toArray, List.set_cons_zero, List.set_cons_succ]
    refine wpAnyT_take (i := 5) (oi := { dst := some 22, op := Op.binOp BinOp.neq 24 (Operand.tmp 17) (Operand.tmp 21) 24, type := 4, pos := "law.go:85", after := #[{ on := 0, ground := Ground.data }, { on := 4, ground := Ground.data }], guard := none }) (v := .bool false) rfl (by kernel_rfl) (by kernel_rfl) (by kernel_rfl) (by kernel_rfl) (fun _ _ _ h => by cases h.1) (Or.inl ⟨by rfl, ?_⟩) (unhide HS5 _ (unhide HB4)) ?_
    · intro w hSw
      obtain ⟨s0, s1, s2, s3, s4, s5, s6, s7, s8, s9⟩ := hSw
      go_simp
      try rfl
      try trivial
    try simp only [Act.put, List.setIfInBounds_toArray, List.set_cons_zero, List.set_cons_succ]
    refine wpAnyT_take (i := 6) (oi := { dst := some 23, op := Op.move (Operand.tmp 22), type := 4, pos := "law.go:85", after := #[{ on := 5, ground := Ground.data }, { on := 4, ground := Ground.chain }], guard := none }) (v := .bool false) rfl (by kernel_rfl) (by kernel_rfl) (by kernel_rfl) (by kernel_rfl) (fun _ _ _ h => by cases h.1) (Or.inl ⟨by rfl, ?_⟩) (unhide HS5 _ (unhide HB4)) ?_
    · intro w hSw
      obtain ⟨s0, s1, s2, s3, s4, s5, s6, s7, s8, s9⟩ := hSw
      first
        | rfl
        | (go_simp; done)
    try simp only [Act.put, List.setIfInBounds_toArray, List.set_cons_zero, List.set_cons_succ]
    refine wpAnyT_take (i := 7) (oi := { dst := some 24, op := Op.load 24 (Operand.tmp 7), type := 24, pos := "law.go:85", after := #[{ on := 6, ground := Ground.guard }], guard := some (6, false) }) (v := .agg #[.int .i64 jL, .int .u32 jC]) rfl (by kernel_rfl) (by kernel_rfl) (by kernel_rfl) (by kernel_rfl) (fun _ _ _ h => by cases h.1) (Or.inl ⟨by rfl, ?_⟩) (unhide HS5 _ (unhide HB4)) ?_
    · intro w hSw
      obtain ⟨s0, s1, s2, s3, s4, s5, s6, s7, s8, s9⟩ := hSw
      first
        | rfl
        | (go_simp; done)
    try simp only [Act.put, List.setIfInBounds_toArray, List.set_cons_zero, List.set_cons_succ]
    refine wpAnyT_take (i := 8) (oi := { dst := some 25, op := Op.load 24 (Operand.tmp 3), type := 24, pos := "law.go:85", after := #[{ on := 6, ground := Ground.guard }], guard := some (6, false) }) (v := .agg #[.int .i64 la, .int .u32 ca]) rfl (by kernel_rfl) (by kernel_rfl) (by kernel_rfl) (by kernel_rfl) (fun _ _ _ h => by cases h.1) (Or.inl ⟨by rfl, ?_⟩) (unhide HS5 _ (unhide HB4)) ?_
    · intro w hSw
      obtain ⟨s0, s1, s2, s3, s4, s5, s6, s7, s8, s9⟩ := hSw
      first
        | rfl
        | (go_simp; done)
    try simp only [Act.put, List.setIfInBounds_toArray, List.set_cons_zero, List.set_cons_succ]
    refine wpAnyT_take (i := 9) (oi := { dst := some 26, op := Op.load 24 (Operand.tmp 4), type := 24, pos := "law.go:85", after := #[{ on := 6, ground := Ground.guard }], guard := some (6, false) }) (v := .agg #[.int .i64 lb, .int .u32 cb]) rfl (by kernel_rfl) (by kernel_rfl) (by kernel_rfl) (by kernel_rfl) (fun _ _ _ h => by cases h.1) (Or.inl ⟨by rfl, ?_⟩) (unhide HS5 _ (unhide HB4)) ?_
    · intro w hSw
      obtain ⟨s0, s1, s2, s3, s4, s5, s6, s7, s8, s9⟩ := hSw
      first
        | rfl
        | (go_simp; done)
    try simp only [Act.put, List.setIfInBounds_toArray, List.set_cons_zero, List.set_cons_succ]
    refine wpAnyT_take (i := 10) (oi := { dst := some 27, op := Op.load 24 (Operand.tmp 3), type := 24, pos := "law.go:85", after := #[{ on := 6, ground := Ground.guard }], guard := some (6, false) }) (v := .agg #[.int .i64 la, .int .u32 ca]) rfl (by kernel_rfl) (by kernel_rfl) (by kernel_rfl) (by kernel_rfl) (fun _ _ _ h => by cases h.1) (Or.inl ⟨by rfl, ?_⟩) (unhide HS5 _ (unhide HB4)) ?_
    · intro w hSw
      obtain ⟨s0, s1, s2, s3, s4, s5, s6, s7, s8, s9⟩ := hSw
      first
        | rfl
        | (go_simp; done)
    try simp only [Act.put, List.setIfInBounds_toArray, List.set_cons_zero, List.set_cons_succ]
    refine wpAnyT_take (i := 11) (oi := { dst := some 28, op := Op.load 24 (Operand.tmp 4), type := 24, pos := "law.go:85", after := #[{ on := 6, ground := Ground.guard }], guard := some (6, false) }) (v := .agg #[.int .i64 lb, .int .u32 cb]) rfl (by kernel_rfl) (by kernel_rfl) (by kernel_rfl) (by kernel_rfl) (fun _ _ _ h => by cases h.1) (Or.inl ⟨by rfl, ?_⟩) (unhide HS5 _ (unhide HB4)) ?_
    · intro w hSw
      obtain ⟨s0, s1, s2, s3, s4, s5, s6, s7, s8, s9⟩ := hSw
      first
        | rfl
        | (go_simp; done)
    try simp only [Act.put, List.setIfInBounds_toArray, List.set_cons_zero, List.set_cons_succ]
    refine wpAnyT_one (i := 12) (o := { dst := some 29, op := Op.buildSlice 30 4 #[(0, Operand.tmp 25), (1, Operand.tmp 26), (2, Operand.tmp 27), (3, Operand.tmp 28)], type := 30, pos := "law.go:85", after := #[{ on := 8, ground := Ground.data }, { on := 9, ground := Ground.data }, { on := 10, ground := Ground.data }, { on := 11, ground := Ground.data }, { on := 6, ground := Ground.guard }], guard := some (6, false) }) (by kernel_rfl) rfl (fun K hK => ?_)
    have HR3 := hide ((unhide HR3).below ((Below.refl v4.heap.size v4).alloc (Nat.le_refl _) (.cells #[.int .i64 la, .int .u32 ca, .int .i64 lb, .int .u32 cb, .int .i64 la, .int .u32 ca, .int .i64 lb, .int .u32 cb] 24)) (unhide HR3).lt)
    go_simp
    have HR12 := hide (RowAt.new v4 24 [.int .i64 la, .int .u32 ca, .int .i64 lb, .int .u32 cb, .int .i64 la, .int .u32 ca, .int .i64 lb, .int .u32 cb])
    have HB12 := hide ((unhide HB4).alloc (unhide HB4).size (.cells #[.int .i64 la, .int .u32 ca, .int .i64 lb, .int .u32 cb, .int .i64 la, .int .u32 ca, .int .i64 lb, .int .u32 cb] 24))
    refine hK.out _ _ (fun _ => unhide HS5 _ (unhide HB12)) ?_
    clear hK K
    obtain ⟨y12, hy12⟩ : ∃ z, v4.alloc (.cells #[.int .i64 la, .int .u32 ca, .int .i64 lb, .int .u32 cb, .int .i64 la, .int .u32 ca, .int .i64 lb, .int .u32 cb] 24) = z := ⟨_, rfl⟩
    rw [hy12] at HR12 HB12 HR3
    simp only [hy12]
    obtain ⟨p12, hp12⟩ : ∃ z, v4.heap.size = z := ⟨_, rfl⟩
    rw [hp12] at HR12
    simp only [hp12]
    clear hy12 hp12
    try simp only [Act.put, List.setIfInBounds_toArray, List.set_cons_zero, List.set_cons_succ]
    refine wpAnyT_one (i := 13) (o := { dst := some 30, op := Op.call { callee := Callee.value (Operand.func 8), args := #[Operand.tmp 29], argTypes := #[30] }, type := 24, pos := "law.go:85", after := #[{ on := 12, ground := Ground.data }, { on := 6, ground := Ground.chain }, { on := 6, ground := Ground.guard }], guard := some (6, false) }) (by kernel_rfl) rfl (fun K hK => ?_)
    go_simp
    refine Calls.mono (unhide HJ2 _ _ (unhide HR12)) ?_
    rintro e v13 ⟨rfl, hb13⟩
    have HB13 := hide ((unhide HB12).trans (hb13.mono (unhide HB12).size))
    have HR3 := hide ((unhide HR3).below hb13 (unhide HR3).lt)
    have HR12 := hide ((unhide HR12).below hb13 (unhide HR12).lt)
    clear hb13
    go_wp2_with fail
    refine hK.out _ _ (fun _ => unhide HS5 _ (unhide HB13)) ?_
    clear hK K
    try simp only [Act.put, List.setIfInBounds_toArray, List.set_cons_zero, List.set_cons_succ]
    refine wpAnyT_take (i := 14) (oi := { dst := some 31, op := Op.binOp BinOp.neq 24 (Operand.tmp 24) (Operand.tmp 30) 24, type := 4, pos := "law.go:85", after := #[{ on := 7, ground := Ground.data }, { on := 13, ground := Ground.data }, { on := 6, ground := Ground.guard }], guard := some (6, false) }) (v := .bool false) rfl (by kernel_rfl) (by kernel_rfl) (by kernel_rfl) (by kernel_rfl) (fun _ _ _ h => by cases h.1) (Or.inl ⟨by rfl, ?_⟩) (unhide HS5 _ (unhide HB13)) ?_
    · intro w hSw
      obtain ⟨s0, s1, s2, s3, s4, s5, s6, s7, s8, s9⟩ := hSw
      go_simp
      try rfl
      try trivial
    try simp only [Act.put, List.setIfInBounds_toArray, List.set_cons_zero, List.set_cons_succ]
    refine wpAnyT_take (i := 15) (oi := { dst := some 32, op := Op.pick (Operand.tmp 23) (Operand.const (Value.bool true)) (Operand.tmp 31), type := 4, pos := "law.go:85", after := #[{ on := 6, ground := Ground.data }, { on := 14, ground := Ground.data }], guard := none }) (v := .bool false) rfl (by kernel_rfl) (by kernel_rfl) (by kernel_rfl) (by kernel_rfl) (fun _ _ _ h => by cases h.1) (Or.inl ⟨by rfl, ?_⟩) (unhide HS5 _ (unhide HB13)) ?_
    · intro w hSw
      obtain ⟨s0, s1, s2, s3, s4, s5, s6, s7, s8, s9⟩ := hSw
      first
        | rfl
        | (go_simp; done)
    try simp only [Act.put, List.setIfInBounds_toArray, List.set_cons_zero, List.set_cons_succ]
    refine wpAnyT_take (i := 16) (oi := { dst := some 33, op := Op.move (Operand.tmp 32), type := 4, pos := "law.go:85", after := #[{ on := 15, ground := Ground.data }, { on := 13, ground := Ground.chain }], guard := none }) (v := .bool false) rfl (by kernel_rfl) (by kernel_rfl) (by kernel_rfl) (by kernel_rfl) (fun _ _ _ h => by cases h.1) (Or.inl ⟨by rfl, ?_⟩) (unhide HS5 _ (unhide HB13)) ?_
    · intro w hSw
      obtain ⟨s0, s1, s2, s3, s4, s5, s6, s7, s8, s9⟩ := hSw
      first
        | rfl
        | (go_simp; done)
    try simp only [Act.put, List.setIfInBounds_toArray, List.set_cons_zero, List.set_cons_succ]
    refine wpAnyT_take (i := 17) (oi := { dst := some 34, op := Op.load 24 (Operand.tmp 7), type := 24, pos := "law.go:85", after := #[{ on := 16, ground := Ground.guard }], guard := some (16, false) }) (v := .agg #[.int .i64 jL, .int .u32 jC]) rfl (by kernel_rfl) (by kernel_rfl) (by kernel_rfl) (by kernel_rfl) (fun _ _ _ h => by cases h.1) (Or.inl ⟨by rfl, ?_⟩) (unhide HS5 _ (unhide HB13)) ?_
    · intro w hSw
      obtain ⟨s0, s1, s2, s3, s4, s5, s6, s7, s8, s9⟩ := hSw
      first
        | rfl
        | (go_simp; done)
    try simp only [Act.put, List.setIfInBounds_toArray, List.set_cons_zero, List.set_cons_succ]
    refine wpAnyT_take (i := 18) (oi := { dst := some 35, op := Op.load 24 (Operand.tmp 5), type := 24, pos := "law.go:85", after := #[{ on := 16, ground := Ground.guard }], guard := some (16, false) }) (v := .agg #[.int .i64 lc, .int .u32 cc]) rfl (by kernel_rfl) (by kernel_rfl) (by kernel_rfl) (by kernel_rfl) (fun _ _ _ h => by cases h.1) (Or.inl ⟨by rfl, ?_⟩) (unhide HS5 _ (unhide HB13)) ?_
    · intro w hSw
      obtain ⟨s0, s1, s2, s3, s4, s5, s6, s7, s8, s9⟩ := hSw
      first
        | rfl
        | (go_simp; done)
    try simp only [Act.put, List.setIfInBounds_toArray, List.set_cons_zero, List.set_cons_succ]
    refine wpAnyT_take (i := 21) (oi := { dst := some 38, op := Op.load 24 (Operand.tmp 3), type := 24, pos := "law.go:85", after := #[{ on := 16, ground := Ground.guard }], guard := some (16, false) }) (v := .agg #[.int .i64 la, .int .u32 ca]) rfl (by kernel_rfl) (by kernel_rfl) (by kernel_rfl) (by kernel_rfl) (fun _ _ _ h => by cases h.1) (Or.inl ⟨by rfl, ?_⟩) (unhide HS5 _ (unhide HB13)) ?_
    · intro w hSw
      obtain ⟨s0, s1, s2, s3, s4, s5, s6, s7, s8, s9⟩ := hSw
      first
        | rfl
        | (go_simp; done)
    try simp only [Act.put, List.setIfInBounds_toArray, List.set_cons_zero, List.set_cons_succ]
    refine wpAnyT_take (i := 22) (oi := { dst := some 39, op := Op.load 24 (Operand.tmp 4), type := 24, pos := "law.go:85", after := #[{ on := 16, ground := Ground.guard }], guard := some (16, false) }) (v := .agg #[.int .i64 lb, .int .u32 cb]) rfl (by kernel_rfl) (by kernel_rfl) (by kernel_rfl) (by kernel_rfl) (fun _ _ _ h => by cases h.1) (Or.inl ⟨by rfl, ?_⟩) (unhide HS5 _ (unhide HB13)) ?_
    · intro w hSw
      obtain ⟨s0, s1, s2, s3, s4, s5, s6, s7, s8, s9⟩ := hSw
      first
        | rfl
        | (go_simp; done)
    try simp only [Act.put, List.setIfInBounds_toArray, List.set_cons_zero, List.set_cons_succ]
    refine wpAnyT_take (i := 23) (oi := { dst := some 40, op := Op.load 24 (Operand.tmp 5), type := 24, pos := "law.go:85", after := #[{ on := 16, ground := Ground.guard }], guard := some (16, false) }) (v := .agg #[.int .i64 lc, .int .u32 cc]) rfl (by kernel_rfl) (by kernel_rfl) (by kernel_rfl) (by kernel_rfl) (fun _ _ _ h => by cases h.1) (Or.inl ⟨by rfl, ?_⟩) (unhide HS5 _ (unhide HB13)) ?_
    · intro w hSw
      obtain ⟨s0, s1, s2, s3, s4, s5, s6, s7, s8, s9⟩ := hSw
      first
        | rfl
        | (go_simp; done)
    try simp only [Act.put, List.setIfInBounds_toArray, List.set_cons_zero, List.set_cons_succ]
    refine anyU_two (i := 19) (j := 24) (oi := { dst := some 36, op := Op.buildSlice 30 2 #[(0, Operand.tmp 34), (1, Operand.tmp 35)], type := 30, pos := "law.go:85", after := #[{ on := 17, ground := Ground.data }, { on := 18, ground := Ground.data }, { on := 16, ground := Ground.guard }], guard := some (16, false) }) (oj := { dst := some 41, op := Op.buildSlice 30 2 #[(0, Operand.tmp 39), (1, Operand.tmp 40)], type := 30, pos := "law.go:85", after := #[{ on := 22, ground := Ground.data }, { on := 23, ground := Ground.data }, { on := 16, ground := Ground.guard }], guard := some (16, false) }) (by kernel_rfl) rfl rfl (fun K hK => ?_) (fun K hK => ?_)
    · go_simp
      have HR19 := hide (RowAt.new v13 24 [.int .i64 jL, .int .u32 jC, .int .i64 lc, .int .u32 cc])
      have HB19 := hide ((unhide HB13).alloc (unhide HB13).size (.cells #[.int .i64 jL, .int .u32 jC, .int .i64 lc, .int .u32 cc] 24))
      refine hK.out _ _ (fun _ => unhide HS5 _ (unhide HB19)) ?_
      clear hK K
      obtain ⟨y19, hy19⟩ : ∃ z, v13.alloc (.cells #[.int .i64 jL, .int .u32 jC, .int .i64 lc, .int .u32 cc] 24) = z := ⟨_, rfl⟩
      rw [hy19] at HR19 HB19
      simp only [hy19]
      obtain ⟨p19, hp19⟩ : ∃ z, v13.heap.size = z := ⟨_, rfl⟩
      rw [hp19] at HR19
      simp only [hp19]
      clear hy19 hp19
      try simp only [Act.put, List.setIfInBounds_toArray, List.set_cons_zero, List.set_cons_succ]
      refine anyU_two (i := 20) (j := 24) (oi := { dst := some 37, op := Op.call { callee := Callee.value (Operand.func 8), args := #[Operand.tmp 36], argTypes := #[30] }, type := 24, pos := "law.go:85", after := #[{ on := 19, ground := Ground.data }, { on := 16, ground := Ground.chain }, { on := 16, ground := Ground.guard }], guard := some (16, false) }) (oj := { dst := some 41, op := Op.buildSlice 30 2 #[(0, Operand.tmp 39), (1, Operand.tmp 40)], type := 30, pos := "law.go:85", after := #[{ on := 22, ground := Ground.data }, { on := 23, ground := Ground.data }, { on := 16, ground := Ground.guard }], guard := some (16, false) }) (by kernel_rfl) rfl rfl (fun K hK => ?_) (fun K hK => ?_)
      · go_simp
        refine Calls.mono (unhide HJ3 _ _ (unhide HR19)) ?_
        rintro e v20 ⟨rfl, hb20⟩
        have HB20 := hide ((unhide HB19).trans (hb20.mono (unhide HB19).size))
        have HR19 := hide ((unhide HR19).below hb20 (unhide HR19).lt)
        clear hb20
        go_wp2_with fail
        refine hK.out _ _ (fun _ => unhide HS5 _ (unhide HB20)) ?_
        clear hK K
        try simp only [Act.put, List.setIfInBounds_toArray, List.set_cons_zero, List.set_cons_succ]
        refine wpAnyT_one (i := 24) (o := { dst := some 41, op := Op.buildSlice 30 2 #[(0, Operand.tmp 39), (1, Operand.tmp 40)], type := 30, pos := "law.go:85", after := #[{ on := 22, ground := Ground.data }, { on := 23, ground := Ground.data }, { on := 16, ground := Ground.guard }], guard := some (16, false) }) (by kernel_rfl) rfl (fun K hK => ?_)
        have HR19 := hide ((unhide HR19).below ((Below.refl v20.heap.size v20).alloc (Nat.le_refl _) (.cells #[.int .i64 lb, .int .u32 cb, .int .i64 lc, .int .u32 cc] 24)) (unhide HR19).lt)
        go_simp
        have HR24 := hide (RowAt.new v20 24 [.int .i64 lb, .int .u32 cb, .int .i64 lc, .int .u32 cc])
        have HB24 := hide ((unhide HB20).alloc (unhide HB20).size (.cells #[.int .i64 lb, .int .u32 cb, .int .i64 lc, .int .u32 cc] 24))
        refine hK.out _ _ (fun _ => unhide HS5 _ (unhide HB24)) ?_
        clear hK K
        obtain ⟨y24, hy24⟩ : ∃ z, v20.alloc (.cells #[.int .i64 lb, .int .u32 cb, .int .i64 lc, .int .u32 cc] 24) = z := ⟨_, rfl⟩
        rw [hy24] at HR24 HB24 HR19
        simp only [hy24]
        obtain ⟨p24, hp24⟩ : ∃ z, v20.heap.size = z := ⟨_, rfl⟩
        rw [hp24] at HR24
        simp only [hp24]
        clear hy24 hp24
        try simp only [Act.put, List.setIfInBounds_toArray, List.set_cons_zero, List.set_cons_succ]
        refine wpAnyT_one (i := 25) (o := { dst := some 42, op := Op.call { callee := Callee.value (Operand.func 8), args := #[Operand.tmp 41], argTypes := #[30] }, type := 24, pos := "law.go:85", after := #[{ on := 24, ground := Ground.data }, { on := 20, ground := Ground.chain }, { on := 16, ground := Ground.guard }], guard := some (16, false) }) (by kernel_rfl) rfl (fun K hK => ?_)
        go_simp
        refine Calls.mono (unhide HJ4 _ _ (unhide HR24)) ?_
        rintro e v25 ⟨rfl, hb25⟩
        have HB25 := hide ((unhide HB24).trans (hb25.mono (unhide HB24).size))
        have HR19 := hide ((unhide HR19).below hb25 (unhide HR19).lt)
        have HR24 := hide ((unhide HR24).below hb25 (unhide HR24).lt)
        clear hb25
        go_wp2_with fail
        refine hK.out _ _ (fun _ => unhide HS5 _ (unhide HB25)) ?_
        clear hK K
        try simp only [Act.put, List.setIfInBounds_toArray, List.set_cons_zero, List.set_cons_succ]
        refine wpAnyT_one (i := 26) (o := { dst := some 43, op := Op.buildSlice 30 2 #[(0, Operand.tmp 38), (1, Operand.tmp 42)], type := 30, pos := "law.go:85", after := #[{ on := 21, ground := Ground.data }, { on := 25, ground := Ground.data }, { on := 16, ground := Ground.guard }], guard := some (16, false) }) (by kernel_rfl) rfl (fun K hK => ?_)
        have HR19 := hide ((unhide HR19).below ((Below.refl v25.heap.size v25).alloc (Nat.le_refl _) (.cells #[.int .i64 la, .int .u32 ca, .int .i64 pL, .int .u32 pC] 24)) (unhide HR19).lt)
        have HR24 := hide ((unhide HR24).below ((Below.refl v25.heap.size v25).alloc (Nat.le_refl _) (.cells #[.int .i64 la, .int .u32 ca, .int .i64 pL, .int .u32 pC] 24)) (unhide HR24).lt)
        go_simp
        have HR26 := hide (RowAt.new v25 24 [.int .i64 la, .int .u32 ca, .int .i64 pL, .int .u32 pC])
        have HB26 := hide ((unhide HB25).alloc (unhide HB25).size (.cells #[.int .i64 la, .int .u32 ca, .int .i64 pL, .int .u32 pC] 24))
        refine hK.out _ _ (fun _ => unhide HS5 _ (unhide HB26)) ?_
        clear hK K
        obtain ⟨y26, hy26⟩ : ∃ z, v25.alloc (.cells #[.int .i64 la, .int .u32 ca, .int .i64 pL, .int .u32 pC] 24) = z := ⟨_, rfl⟩
        rw [hy26] at HR26 HB26 HR19 HR24
        simp only [hy26]
        obtain ⟨p26, hp26⟩ : ∃ z, v25.heap.size = z := ⟨_, rfl⟩
        rw [hp26] at HR26
        simp only [hp26]
        clear hy26 hp26
        try simp only [Act.put, List.setIfInBounds_toArray, List.set_cons_zero, List.set_cons_succ]
        refine wpAnyT_one (i := 27) (o := { dst := some 44, op := Op.call { callee := Callee.value (Operand.func 8), args := #[Operand.tmp 43], argTypes := #[30] }, type := 24, pos := "law.go:85", after := #[{ on := 26, ground := Ground.data }, { on := 25, ground := Ground.chain }, { on := 16, ground := Ground.guard }], guard := some (16, false) }) (by kernel_rfl) rfl (fun K hK => ?_)
        go_simp
        refine Calls.mono (unhide HJ5 _ _ (unhide HR26)) ?_
        rintro e v27 ⟨rfl, hb27⟩
        have HB27 := hide ((unhide HB26).trans (hb27.mono (unhide HB26).size))
        have HR19 := hide ((unhide HR19).below hb27 (unhide HR19).lt)
        have HR24 := hide ((unhide HR24).below hb27 (unhide HR24).lt)
        have HR26 := hide ((unhide HR26).below hb27 (unhide HR26).lt)
        clear hb27
        go_wp2_with fail
        refine hK.out _ _ (fun _ => unhide HS5 _ (unhide HB27)) ?_
        clear hK K
        try simp only [Act.put, List.setIfInBounds_toArray, List.set_cons_zero, List.set_cons_succ]
        refine wpAnyT_take (i := 28) (oi := { dst := some 45, op := Op.binOp BinOp.neq 24 (Operand.tmp 37) (Operand.tmp 44) 24, type := 4, pos := "law.go:85", after := #[{ on := 20, ground := Ground.data }, { on := 27, ground := Ground.data }, { on := 16, ground := Ground.guard }], guard := some (16, false) }) (v := .bool false) rfl (by kernel_rfl) (by kernel_rfl) (by kernel_rfl) (by kernel_rfl) (fun _ _ _ h => by cases h.1) (Or.inl ⟨by rfl, ?_⟩) (unhide HS5 _ (unhide HB27)) ?_
        · intro w hSw
          obtain ⟨s0, s1, s2, s3, s4, s5, s6, s7, s8, s9⟩ := hSw
          go_simp
          try rfl
          try trivial
        try simp only [Act.put, List.setIfInBounds_toArray, List.set_cons_zero, List.set_cons_succ]
        refine wpAnyT_take (i := 29) (oi := { dst := some 46, op := Op.pick (Operand.tmp 33) (Operand.const (Value.bool true)) (Operand.tmp 45), type := 4, pos := "law.go:85", after := #[{ on := 16, ground := Ground.data }, { on := 28, ground := Ground.data }], guard := none }) (v := .bool false) rfl (by kernel_rfl) (by kernel_rfl) (by kernel_rfl) (by kernel_rfl) (fun _ _ _ h => by cases h.1) (Or.inl ⟨by rfl, ?_⟩) (unhide HS5 _ (unhide HB27)) ?_
        · intro w hSw
          obtain ⟨s0, s1, s2, s3, s4, s5, s6, s7, s8, s9⟩ := hSw
          first
            | rfl
            | (go_simp; done)
        try simp only [Act.put, List.setIfInBounds_toArray, List.set_cons_zero, List.set_cons_succ]
        refine wpAnyT_done (by kernel_rfl) ?_ _
        exact ⟨rfl, _, _, _, _, _, rfl, unhide HB27⟩
      · have HR19 := hide ((unhide HR19).below ((Below.refl y19.heap.size y19).alloc (Nat.le_refl _) (.cells #[.int .i64 lb, .int .u32 cb, .int .i64 lc, .int .u32 cc] 24)) (unhide HR19).lt)
        go_simp
        have HR24 := hide (RowAt.new y19 24 [.int .i64 lb, .int .u32 cb, .int .i64 lc, .int .u32 cc])
        have HB24 := hide ((unhide HB19).alloc (unhide HB19).size (.cells #[.int .i64 lb, .int .u32 cb, .int .i64 lc, .int .u32 cc] 24))
        refine hK.out _ _ (fun _ => unhide HS5 _ (unhide HB24)) ?_
        clear hK K
        obtain ⟨y24, hy24⟩ : ∃ z, y19.alloc (.cells #[.int .i64 lb, .int .u32 cb, .int .i64 lc, .int .u32 cc] 24) = z := ⟨_, rfl⟩
        rw [hy24] at HR24 HB24 HR19
        simp only [hy24]
        obtain ⟨p24, hp24⟩ : ∃ z, y19.heap.size = z := ⟨_, rfl⟩
        rw [hp24] at HR24
        simp only [hp24]
        clear hy24 hp24
        try simp only [Act.put, List.setIfInBounds_toArray, List.set_cons_zero, List.set_cons_succ]
        refine wpAnyT_one (i := 20) (o := { dst := some 37, op := Op.call { callee := Callee.value (Operand.func 8), args := #[Operand.tmp 36], argTypes := #[30] }, type := 24, pos := "law.go:85", after := #[{ on := 19, ground := Ground.data }, { on := 16, ground := Ground.chain }, { on := 16, ground := Ground.guard }], guard := some (16, false) }) (by kernel_rfl) rfl (fun K hK => ?_)
        go_simp
        refine Calls.mono (unhide HJ3 _ _ (unhide HR19)) ?_
        rintro e v20 ⟨rfl, hb20⟩
        have HB20 := hide ((unhide HB24).trans (hb20.mono (unhide HB24).size))
        have HR19 := hide ((unhide HR19).below hb20 (unhide HR19).lt)
        have HR24 := hide ((unhide HR24).below hb20 (unhide HR24).lt)
        clear hb20
        go_wp2_with fail
        refine hK.out _ _ (fun _ => unhide HS5 _ (unhide HB20)) ?_
        clear hK K
        try simp only [Act.put, List.setIfInBounds_toArray, List.set_cons_zero, List.set_cons_succ]
        refine wpAnyT_one (i := 25) (o := { dst := some 42, op := Op.call { callee := Callee.value (Operand.func 8), args := #[Operand.tmp 41], argTypes := #[30] }, type := 24, pos := "law.go:85", after := #[{ on := 24, ground := Ground.data }, { on := 20, ground := Ground.chain }, { on := 16, ground := Ground.guard }], guard := some (16, false) }) (by kernel_rfl) rfl (fun K hK => ?_)
        go_simp
        refine Calls.mono (unhide HJ4 _ _ (unhide HR24)) ?_
        rintro e v25 ⟨rfl, hb25⟩
        have HB25 := hide ((unhide HB20).trans (hb25.mono (unhide HB20).size))
        have HR19 := hide ((unhide HR19).below hb25 (unhide HR19).lt)
        have HR24 := hide ((unhide HR24).below hb25 (unhide HR24).lt)
        clear hb25
        go_wp2_with fail
        refine hK.out _ _ (fun _ => unhide HS5 _ (unhide HB25)) ?_
        clear hK K
        try simp only [Act.put, List.setIfInBounds_toArray, List.set_cons_zero, List.set_cons_succ]
        refine wpAnyT_one (i := 26) (o := { dst := some 43, op := Op.buildSlice 30 2 #[(0, Operand.tmp 38), (1, Operand.tmp 42)], type := 30, pos := "law.go:85", after := #[{ on := 21, ground := Ground.data }, { on := 25, ground := Ground.data }, { on := 16, ground := Ground.guard }], guard := some (16, false) }) (by kernel_rfl) rfl (fun K hK => ?_)
        have HR19 := hide ((unhide HR19).below ((Below.refl v25.heap.size v25).alloc (Nat.le_refl _) (.cells #[.int .i64 la, .int .u32 ca, .int .i64 pL, .int .u32 pC] 24)) (unhide HR19).lt)
        have HR24 := hide ((unhide HR24).below ((Below.refl v25.heap.size v25).alloc (Nat.le_refl _) (.cells #[.int .i64 la, .int .u32 ca, .int .i64 pL, .int .u32 pC] 24)) (unhide HR24).lt)
        go_simp
        have HR26 := hide (RowAt.new v25 24 [.int .i64 la, .int .u32 ca, .int .i64 pL, .int .u32 pC])
        have HB26 := hide ((unhide HB25).alloc (unhide HB25).size (.cells #[.int .i64 la, .int .u32 ca, .int .i64 pL, .int .u32 pC] 24))
        refine hK.out _ _ (fun _ => unhide HS5 _ (unhide HB26)) ?_
        clear hK K
        obtain ⟨y26, hy26⟩ : ∃ z, v25.alloc (.cells #[.int .i64 la, .int .u32 ca, .int .i64 pL, .int .u32 pC] 24) = z := ⟨_, rfl⟩
        rw [hy26] at HR26 HB26 HR19 HR24
        simp only [hy26]
        obtain ⟨p26, hp26⟩ : ∃ z, v25.heap.size = z := ⟨_, rfl⟩
        rw [hp26] at HR26
        simp only [hp26]
        clear hy26 hp26
        try simp only [Act.put, List.setIfInBounds_toArray, List.set_cons_zero, List.set_cons_succ]
        refine wpAnyT_one (i := 27) (o := { dst := some 44, op := Op.call { callee := Callee.value (Operand.func 8), args := #[Operand.tmp 43], argTypes := #[30] }, type := 24, pos := "law.go:85", after := #[{ on := 26, ground := Ground.data }, { on := 25, ground := Ground.chain }, { on := 16, ground := Ground.guard }], guard := some (16, false) }) (by kernel_rfl) rfl (fun K hK => ?_)
        go_simp
        refine Calls.mono (unhide HJ5 _ _ (unhide HR26)) ?_
        rintro e v27 ⟨rfl, hb27⟩
        have HB27 := hide ((unhide HB26).trans (hb27.mono (unhide HB26).size))
        have HR19 := hide ((unhide HR19).below hb27 (unhide HR19).lt)
        have HR24 := hide ((unhide HR24).below hb27 (unhide HR24).lt)
        have HR26 := hide ((unhide HR26).below hb27 (unhide HR26).lt)
        clear hb27
        go_wp2_with fail
        refine hK.out _ _ (fun _ => unhide HS5 _ (unhide HB27)) ?_
        clear hK K
        try simp only [Act.put, List.setIfInBounds_toArray, List.set_cons_zero, List.set_cons_succ]
        refine wpAnyT_take (i := 28) (oi := { dst := some 45, op := Op.binOp BinOp.neq 24 (Operand.tmp 37) (Operand.tmp 44) 24, type := 4, pos := "law.go:85", after := #[{ on := 20, ground := Ground.data }, { on := 27, ground := Ground.data }, { on := 16, ground := Ground.guard }], guard := some (16, false) }) (v := .bool false) rfl (by kernel_rfl) (by kernel_rfl) (by kernel_rfl) (by kernel_rfl) (fun _ _ _ h => by cases h.1) (Or.inl ⟨by rfl, ?_⟩) (unhide HS5 _ (unhide HB27)) ?_
        · intro w hSw
          obtain ⟨s0, s1, s2, s3, s4, s5, s6, s7, s8, s9⟩ := hSw
          go_simp
          try rfl
          try trivial
        try simp only [Act.put, List.setIfInBounds_toArray, List.set_cons_zero, List.set_cons_succ]
        refine wpAnyT_take (i := 29) (oi := { dst := some 46, op := Op.pick (Operand.tmp 33) (Operand.const (Value.bool true)) (Operand.tmp 45), type := 4, pos := "law.go:85", after := #[{ on := 16, ground := Ground.data }, { on := 28, ground := Ground.data }], guard := none }) (v := .bool false) rfl (by kernel_rfl) (by kernel_rfl) (by kernel_rfl) (by kernel_rfl) (fun _ _ _ h => by cases h.1) (Or.inl ⟨by rfl, ?_⟩) (unhide HS5 _ (unhide HB27)) ?_
        · intro w hSw
          obtain ⟨s0, s1, s2, s3, s4, s5, s6, s7, s8, s9⟩ := hSw
          first
            | rfl
            | (go_simp; done)
        try simp only [Act.put, List.setIfInBounds_toArray, List.set_cons_zero, List.set_cons_succ]
        refine wpAnyT_done (by kernel_rfl) ?_ _
        exact ⟨rfl, _, _, _, _, _, rfl, unhide HB27⟩
    · go_simp
      have HR24 := hide (RowAt.new v13 24 [.int .i64 lb, .int .u32 cb, .int .i64 lc, .int .u32 cc])
      have HB24 := hide ((unhide HB13).alloc (unhide HB13).size (.cells #[.int .i64 lb, .int .u32 cb, .int .i64 lc, .int .u32 cc] 24))
      refine hK.out _ _ (fun _ => unhide HS5 _ (unhide HB24)) ?_
      clear hK K
      obtain ⟨y24, hy24⟩ : ∃ z, v13.alloc (.cells #[.int .i64 lb, .int .u32 cb, .int .i64 lc, .int .u32 cc] 24) = z := ⟨_, rfl⟩
      rw [hy24] at HR24 HB24
      simp only [hy24]
      obtain ⟨p24, hp24⟩ : ∃ z, v13.heap.size = z := ⟨_, rfl⟩
      rw [hp24] at HR24
      simp only [hp24]
      clear hy24 hp24
      try simp only [Act.put, List.setIfInBounds_toArray, List.set_cons_zero, List.set_cons_succ]
      refine wpAnyT_one (i := 19) (o := { dst := some 36, op := Op.buildSlice 30 2 #[(0, Operand.tmp 34), (1, Operand.tmp 35)], type := 30, pos := "law.go:85", after := #[{ on := 17, ground := Ground.data }, { on := 18, ground := Ground.data }, { on := 16, ground := Ground.guard }], guard := some (16, false) }) (by kernel_rfl) rfl (fun K hK => ?_)
      have HR24 := hide ((unhide HR24).below ((Below.refl y24.heap.size y24).alloc (Nat.le_refl _) (.cells #[.int .i64 jL, .int .u32 jC, .int .i64 lc, .int .u32 cc] 24)) (unhide HR24).lt)
      go_simp
      have HR19 := hide (RowAt.new y24 24 [.int .i64 jL, .int .u32 jC, .int .i64 lc, .int .u32 cc])
      have HB19 := hide ((unhide HB24).alloc (unhide HB24).size (.cells #[.int .i64 jL, .int .u32 jC, .int .i64 lc, .int .u32 cc] 24))
      refine hK.out _ _ (fun _ => unhide HS5 _ (unhide HB19)) ?_
      clear hK K
      obtain ⟨y19, hy19⟩ : ∃ z, y24.alloc (.cells #[.int .i64 jL, .int .u32 jC, .int .i64 lc, .int .u32 cc] 24) = z := ⟨_, rfl⟩
      rw [hy19] at HR19 HB19 HR24
      simp only [hy19]
      obtain ⟨p19, hp19⟩ : ∃ z, y24.heap.size = z := ⟨_, rfl⟩
      rw [hp19] at HR19
      simp only [hp19]
      clear hy19 hp19
      try simp only [Act.put, List.setIfInBounds_toArray, List.set_cons_zero, List.set_cons_succ]
      refine wpAnyT_one (i := 20) (o := { dst := some 37, op := Op.call { callee := Callee.value (Operand.func 8), args := #[Operand.tmp 36], argTypes := #[30] }, type := 24, pos := "law.go:85", after := #[{ on := 19, ground := Ground.data }, { on := 16, ground := Ground.chain }, { on := 16, ground := Ground.guard }], guard := some (16, false) }) (by kernel_rfl) rfl (fun K hK => ?_)
      go_simp
      refine Calls.mono (unhide HJ3 _ _ (unhide HR19)) ?_
      rintro e v20 ⟨rfl, hb20⟩
      have HB20 := hide ((unhide HB19).trans (hb20.mono (unhide HB19).size))
      have HR24 := hide ((unhide HR24).below hb20 (unhide HR24).lt)
      have HR19 := hide ((unhide HR19).below hb20 (unhide HR19).lt)
      clear hb20
      go_wp2_with fail
      refine hK.out _ _ (fun _ => unhide HS5 _ (unhide HB20)) ?_
      clear hK K
      try simp only [Act.put, List.setIfInBounds_toArray, List.set_cons_zero, List.set_cons_succ]
      refine wpAnyT_one (i := 25) (o := { dst := some 42, op := Op.call { callee := Callee.value (Operand.func 8), args := #[Operand.tmp 41], argTypes := #[30] }, type := 24, pos := "law.go:85", after := #[{ on := 24, ground := Ground.data }, { on := 20, ground := Ground.chain }, { on := 16, ground := Ground.guard }], guard := some (16, false) }) (by kernel_rfl) rfl (fun K hK => ?_)
      go_simp
      refine Calls.mono (unhide HJ4 _ _ (unhide HR24)) ?_
      rintro e v25 ⟨rfl, hb25⟩
      have HB25 := hide ((unhide HB20).trans (hb25.mono (unhide HB20).size))
      have HR24 := hide ((unhide HR24).below hb25 (unhide HR24).lt)
      have HR19 := hide ((unhide HR19).below hb25 (unhide HR19).lt)
      clear hb25
      go_wp2_with fail
      refine hK.out _ _ (fun _ => unhide HS5 _ (unhide HB25)) ?_
      clear hK K
      try simp only [Act.put, List.setIfInBounds_toArray, List.set_cons_zero, List.set_cons_succ]
      refine wpAnyT_one (i := 26) (o := { dst := some 43, op := Op.buildSlice 30 2 #[(0, Operand.tmp 38), (1, Operand.tmp 42)], type := 30, pos := "law.go:85", after := #[{ on := 21, ground := Ground.data }, { on := 25, ground := Ground.data }, { on := 16, ground := Ground.guard }], guard := some (16, false) }) (by kernel_rfl) rfl (fun K hK => ?_)
      have HR24 := hide ((unhide HR24).below ((Below.refl v25.heap.size v25).alloc (Nat.le_refl _) (.cells #[.int .i64 la, .int .u32 ca, .int .i64 pL, .int .u32 pC] 24)) (unhide HR24).lt)
      have HR19 := hide ((unhide HR19).below ((Below.refl v25.heap.size v25).alloc (Nat.le_refl _) (.cells #[.int .i64 la, .int .u32 ca, .int .i64 pL, .int .u32 pC] 24)) (unhide HR19).lt)
      go_simp
      have HR26 := hide (RowAt.new v25 24 [.int .i64 la, .int .u32 ca, .int .i64 pL, .int .u32 pC])
      have HB26 := hide ((unhide HB25).alloc (unhide HB25).size (.cells #[.int .i64 la, .int .u32 ca, .int .i64 pL, .int .u32 pC] 24))
      refine hK.out _ _ (fun _ => unhide HS5 _ (unhide HB26)) ?_
      clear hK K
      obtain ⟨y26, hy26⟩ : ∃ z, v25.alloc (.cells #[.int .i64 la, .int .u32 ca, .int .i64 pL, .int .u32 pC] 24) = z := ⟨_, rfl⟩
      rw [hy26] at HR26 HB26 HR24 HR19
      simp only [hy26]
      obtain ⟨p26, hp26⟩ : ∃ z, v25.heap.size = z := ⟨_, rfl⟩
      rw [hp26] at HR26
      simp only [hp26]
      clear hy26 hp26
      try simp only [Act.put, List.setIfInBounds_toArray, List.set_cons_zero, List.set_cons_succ]
      refine wpAnyT_one (i := 27) (o := { dst := some 44, op := Op.call { callee := Callee.value (Operand.func 8), args := #[Operand.tmp 43], argTypes := #[30] }, type := 24, pos := "law.go:85", after := #[{ on := 26, ground := Ground.data }, { on := 25, ground := Ground.chain }, { on := 16, ground := Ground.guard }], guard := some (16, false) }) (by kernel_rfl) rfl (fun K hK => ?_)
      go_simp
      refine Calls.mono (unhide HJ5 _ _ (unhide HR26)) ?_
      rintro e v27 ⟨rfl, hb27⟩
      have HB27 := hide ((unhide HB26).trans (hb27.mono (unhide HB26).size))
      have HR24 := hide ((unhide HR24).below hb27 (unhide HR24).lt)
      have HR19 := hide ((unhide HR19).below hb27 (unhide HR19).lt)
      have HR26 := hide ((unhide HR26).below hb27 (unhide HR26).lt)
      clear hb27
      go_wp2_with fail
      refine hK.out _ _ (fun _ => unhide HS5 _ (unhide HB27)) ?_
      clear hK K
      try simp only [Act.put, List.setIfInBounds_toArray, List.set_cons_zero, List.set_cons_succ]
      refine wpAnyT_take (i := 28) (oi := { dst := some 45, op := Op.binOp BinOp.neq 24 (Operand.tmp 37) (Operand.tmp 44) 24, type := 4, pos := "law.go:85", after := #[{ on := 20, ground := Ground.data }, { on := 27, ground := Ground.data }, { on := 16, ground := Ground.guard }], guard := some (16, false) }) (v := .bool false) rfl (by kernel_rfl) (by kernel_rfl) (by kernel_rfl) (by kernel_rfl) (fun _ _ _ h => by cases h.1) (Or.inl ⟨by rfl, ?_⟩) (unhide HS5 _ (unhide HB27)) ?_
      · intro w hSw
        obtain ⟨s0, s1, s2, s3, s4, s5, s6, s7, s8, s9⟩ := hSw
        go_simp
        try rfl
        try trivial
      try simp only [Act.put, List.setIfInBounds_toArray, List.set_cons_zero, List.set_cons_succ]
      refine wpAnyT_take (i := 29) (oi := { dst := some 46, op := Op.pick (Operand.tmp 33) (Operand.const (Value.bool true)) (Operand.tmp 45), type := 4, pos := "law.go:85", after := #[{ on := 16, ground := Ground.data }, { on := 28, ground := Ground.data }], guard := none }) (v := .bool false) rfl (by kernel_rfl) (by kernel_rfl) (by kernel_rfl) (by kernel_rfl) (fun _ _ _ h => by cases h.1) (Or.inl ⟨by rfl, ?_⟩) (unhide HS5 _ (unhide HB27)) ?_
      · intro w hSw
        obtain ⟨s0, s1, s2, s3, s4, s5, s6, s7, s8, s9⟩ := hSw
        first
          | rfl
          | (go_simp; done)
      try simp only [Act.put, List.setIfInBounds_toArray, List.set_cons_zero, List.set_cons_succ]
      refine wpAnyT_done (by kernel_rfl) ?_ _
      exact ⟨rfl, _, _, _, _, _, rfl, unhide HB27⟩
  rintro _ w3 ⟨z20, z29, z36, z41, z43, rfl, hb3⟩
  have HB3 := hide hb3
  clear hb3
  dsimp only
  have HS6 : Hid (∀ W, Below w3.heap.size w3 W → W.cell? ⟨gA, 0, none⟩ = some (.int .i64 la) ∧ W.cell? ⟨gA, 1, none⟩ = some (.int .u32 ca) ∧ W.cell? ⟨gB, 0, none⟩ = some (.int .i64 lb) ∧ W.cell? ⟨gB, 1, none⟩ = some (.int .u32 cb) ∧ W.cell? ⟨gC, 0, none⟩ = some (.int .i64 lc) ∧ W.cell? ⟨gC, 1, none⟩ = some (.int .u32 cc) ∧ W.cell? ⟨g7, 0, none⟩ = some (.int .i64 jL) ∧ W.cell? ⟨g7, 1, none⟩ = some (.int .u32 jC) ∧ W.cell? ⟨g8, 0, none⟩ = some (.int .i64 mL) ∧ W.cell? ⟨g8, 1, none⟩ = some (.int .u32 mC)) := hide (fun W hW => unhide HS5 W ((unhide HB3).trans (hW.mono (unhide HB3).size)))
  have e0 : w3.cell? ⟨gA, 0, none⟩ = some (.int .i64 la) := (unhide HS5 _ (unhide HB3)).1
  have e1 : w3.cell? ⟨gA, 1, none⟩ = some (.int .u32 ca) := (unhide HS5 _ (unhide HB3)).2.1
  go_wp2_with fail
  refine Calls.mono (check_any la ca _) ?_
  rintro e w4 ⟨rfl, hb4⟩
  have HB4 := hide ((unhide HB3).trans (hb4.mono (unhide HB3).size))
  clear hb4 e0 e1
  rcases check_or la with hz | hz
  rotate_left
  · rw [hz]
    go_wp2_with fail
    refine Calls.mono (awake_any _) ?_
    rintro e wx ⟨rfl, hbx⟩
    have HBx := hide ((unhide HB4).trans (hbx.mono (unhide HB4).size))
    clear hbx
    go_wp2_with fail
    go_ret
    exact ⟨rfl, (unhide HBB).trans ((unhide HBx).mono (unhide HBB).size)⟩
  rw [hz]
  clear hz
  have e0 : w4.cell? ⟨gB, 0, none⟩ = some (.int .i64 lb) := (unhide HS5 _ (unhide HB4)).2.2.1
  have e1 : w4.cell? ⟨gB, 1, none⟩ = some (.int .u32 cb) := (unhide HS5 _ (unhide HB4)).2.2.2.1
  go_wp2_with fail
  refine Calls.mono (check_any lb cb _) ?_
  rintro e w5 ⟨rfl, hb5⟩
  have HB5 := hide ((unhide HB4).trans (hb5.mono (unhide HB4).size))
  clear hb5 e0 e1
  rcases check_or lb with hz | hz
  rotate_left
  · rw [hz]
    go_wp2_with fail
    refine Calls.mono (awake_any _) ?_
    rintro e wx ⟨rfl, hbx⟩
    have HBx := hide ((unhide HB5).trans (hbx.mono (unhide HB5).size))
    clear hbx
    go_wp2_with fail
    go_ret
    exact ⟨rfl, (unhide HBB).trans ((unhide HBx).mono (unhide HBB).size)⟩
  rw [hz]
  clear hz
  have e0 : w5.cell? ⟨gC, 0, none⟩ = some (.int .i64 lc) := (unhide HS5 _ (unhide HB5)).2.2.2.2.1
  have e1 : w5.cell? ⟨gC, 1, none⟩ = some (.int .u32 cc) := (unhide HS5 _ (unhide HB5)).2.2.2.2.2.1
  go_wp2_with fail
  refine Calls.mono (check_any lc cc _) ?_
  rintro e w6 ⟨rfl, hb6⟩
  have HB6 := hide ((unhide HB5).trans (hb6.mono (unhide HB5).size))
  clear hb6 e0 e1
  rcases check_or lc with hz | hz
  rotate_left
  · rw [hz]
    go_wp2_with fail
    refine Calls.mono (awake_any _) ?_
    rintro e wx ⟨rfl, hbx⟩
    have HBx := hide ((unhide HB6).trans (hbx.mono (unhide HB6).size))
    clear hbx
    go_wp2_with fail
    go_ret
    exact ⟨rfl, (unhide HBB).trans ((unhide HBx).mono (unhide HBB).size)⟩
  rw [hz]
  clear hz
  go_wp2_with fail
  refine wp_region_T (S := fun W => W.cell? ⟨gA, 0, none⟩ = some (.int .i64 la) ∧ W.cell? ⟨gA, 1, none⟩ = some (.int .u32 ca) ∧ W.cell? ⟨gB, 0, none⟩ = some (.int .i64 lb) ∧ W.cell? ⟨gB, 1, none⟩ = some (.int .u32 cb) ∧ W.cell? ⟨gC, 0, none⟩ = some (.int .i64 lc) ∧ W.cell? ⟨gC, 1, none⟩ = some (.int .u32 cc) ∧ W.cell? ⟨g7, 0, none⟩ = some (.int .i64 jL) ∧ W.cell? ⟨g7, 1, none⟩ = some (.int .u32 jC) ∧ W.cell? ⟨g8, 0, none⟩ = some (.int .i64 mL) ∧ W.cell? ⟨g8, 1, none⟩ = some (.int .u32 mC)) (fun i => decide (i < 49)) (by kernel_rfl) (unhide HS5 _ ((unhide HB6).trans (Below.refl _ _).drew)) (fun hHeld => ?_)
  have HB60 : Hid (Below wB.heap.size wB w6.drew) := hide ((unhide HB6).trans (Below.refl _ _).drew)
  obtain ⟨w60, h60⟩ : ∃ z, w6.drew = z := ⟨_, rfl⟩
  rw [h60] at HB60 hHeld ⊢
  clear h60
  refine wpAnyT_take (i := 0) (oi := { dst := some 61, op := Op.load 24 (Operand.tmp 8), type := 24, pos := "law.go:91", after := #[], guard := none }) (v := .agg #[.int .i64 mL, .int .u32 mC]) rfl (by kernel_rfl) (by kernel_rfl) (by kernel_rfl) (by kernel_rfl) (fun _ _ _ h => h) (Or.inl ⟨by rfl, ?_⟩) (unhide HS5 _ (unhide HB60)) ?_
  · intro w hSw
    obtain ⟨s0, s1, s2, s3, s4, s5, s6, s7, s8, s9⟩ := hSw
    first
      | rfl
      | (go_simp; done)
  try simp only [Act.put, List.setIfInBounds_toArray, List.set_cons_zero, List.set_cons_succ]
  refine wpAnyT_take (i := 1) (oi := { dst := some 62, op := Op.load 24 (Operand.tmp 4), type := 24, pos := "law.go:91", after := #[], guard := none }) (v := .agg #[.int .i64 lb, .int .u32 cb]) rfl (by kernel_rfl) (by kernel_rfl) (by kernel_rfl) (by kernel_rfl) (fun _ _ _ h => h) (Or.inl ⟨by rfl, ?_⟩) (unhide HS5 _ (unhide HB60)) ?_
  · intro w hSw
    obtain ⟨s0, s1, s2, s3, s4, s5, s6, s7, s8, s9⟩ := hSw
    first
      | rfl
      | (go_simp; done)
  try simp only [Act.put, List.setIfInBounds_toArray, List.set_cons_zero, List.set_cons_succ]
  refine wpAnyT_take (i := 2) (oi := { dst := some 63, op := Op.load 24 (Operand.tmp 3), type := 24, pos := "law.go:91", after := #[], guard := none }) (v := .agg #[.int .i64 la, .int .u32 ca]) rfl (by kernel_rfl) (by kernel_rfl) (by kernel_rfl) (by kernel_rfl) (fun _ _ _ h => h) (Or.inl ⟨by rfl, ?_⟩) (unhide HS5 _ (unhide HB60)) ?_
  · intro w hSw
    obtain ⟨s0, s1, s2, s3, s4, s5, s6, s7, s8, s9⟩ := hSw
    first
      | rfl
      | (go_simp; done)
  try simp only [Act.put, List.setIfInBounds_toArray, List.set_cons_zero, List.set_cons_succ]
  refine wpAnyT_one (i := 3) (o := { dst := some 64, op := Op.buildSlice 30 2 #[(0, Operand.tmp 62), (1, Operand.tmp 63)], type := 30, pos := "law.go:91", after := #[{ on := 1, ground := Ground.data }, { on := 2, ground := Ground.data }], guard := none }) (by kernel_rfl) rfl (fun K hK => ?_)
  go_simp
  have HR3 := hide (RowAt.new w60 24 [.int .i64 lb, .int .u32 cb, .int .i64 la, .int .u32 ca])
  have HB3 := hide ((unhide HB60).alloc (unhide HB60).size (.cells #[.int .i64 lb, .int .u32 cb, .int .i64 la, .int .u32 ca] 24))
  refine hK.out _ _ (fun _ => unhide HS5 _ (unhide HB3)) ?_
  clear hK K
  obtain ⟨y3, hy3⟩ : ∃ z, w60.alloc (.cells #[.int .i64 lb, .int .u32 cb, .int .i64 la, .int .u32 ca] 24) = z := ⟨_, rfl⟩
  rw [hy3] at HR3 HB3
  simp only [hy3]
  obtain ⟨p3, hp3⟩ : ∃ z, w60.heap.size = z := ⟨_, rfl⟩
  rw [hp3] at HR3
  simp only [hp3]
  clear hy3 hp3
  try simp only [Act.put, List.setIfInBounds_toArray, List.set_cons_zero, List.set_cons_succ]
  refine wpAnyT_one (i := 4) (o := { dst := some 65, op := Op.call { callee := Callee.value (Operand.func 9), args := #[Operand.tmp 64], argTypes := #[30] }, type := 24, pos := "law.go:91", after := #[{ on := 3, ground := Ground.data }], guard := none }) (by kernel_rfl) rfl (fun K hK => ?_)
  go_simp
  refine Calls.mono (unhide HM1 _ _ (unhide HR3)) ?_
  rintro e v4 ⟨rfl, hb4⟩
  have HB4 := hide ((unhide HB3).trans (hb4.mono (unhide HB3).size))
  have HR3 := hide ((unhide HR3).below hb4 (unhide HR3).lt)
  clear hb4
  go_wp2_with fail
  refine hK.out _ _ (fun _ => unhide HS5 _ (unhide HB4)) ?_
  clear hK K
  try simp only [Act.put, List.setIfInBounds_toArray, List.set_cons_zero, List.set_cons_succ]
  refine wpAnyT_take (i := 5) (oi := { dst := some 66, op := Op.binOp BinOp.eql 24 (Operand.tmp 61) (Operand.tmp 65) 24, type := 4, pos := "law.go:91", after := #[{ on := 0, ground := Ground.data }, { on := 4, ground := Ground.data }], guard := none }) (v := .bool true) rfl (by kernel_rfl) (by kernel_rfl) (by kernel_rfl) (by kernel_rfl) (fun _ _ _ h => h) (Or.inl ⟨by rfl, ?_⟩) (unhide HS5 _ (unhide HB4)) ?_
  · intro w hSw
    obtain ⟨s0, s1, s2, s3, s4, s5, s6, s7, s8, s9⟩ := hSw
    go_simp
    try rfl
    try trivial
  try simp only [Act.put, List.setIfInBounds_toArray, List.set_cons_zero, List.set_cons_succ]
  refine wpAnyT_take (i := 6) (oi := { dst := some 67, op := Op.move (Operand.tmp 66), type := 4, pos := "law.go:91", after := #[{ on := 5, ground := Ground.data }, { on := 4, ground := Ground.chain }], guard := none }) (v := .bool true) rfl (by kernel_rfl) (by kernel_rfl) (by kernel_rfl) (by kernel_rfl) (fun _ _ _ h => h) (Or.inl ⟨by rfl, ?_⟩) (unhide HS5 _ (unhide HB4)) ?_
  · intro w hSw
    obtain ⟨s0, s1, s2, s3, s4, s5, s6, s7, s8, s9⟩ := hSw
    first
      | rfl
      | (go_simp; done)
  try simp only [Act.put, List.setIfInBounds_toArray, List.set_cons_zero, List.set_cons_succ]
  refine wpAnyT_take (i := 7) (oi := { dst := some 68, op := Op.load 24 (Operand.tmp 8), type := 24, pos := "law.go:91", after := #[{ on := 6, ground := Ground.guard }], guard := some (6, true) }) (v := .agg #[.int .i64 mL, .int .u32 mC]) rfl (by kernel_rfl) (by kernel_rfl) (by kernel_rfl) (by kernel_rfl) (fun _ _ _ h => h) (Or.inl ⟨by rfl, ?_⟩) (unhide HS5 _ (unhide HB4)) ?_
  · intro w hSw
    obtain ⟨s0, s1, s2, s3, s4, s5, s6, s7, s8, s9⟩ := hSw
    first
      | rfl
      | (go_simp; done)
  try simp only [Act.put, List.setIfInBounds_toArray, List.set_cons_zero, List.set_cons_succ]
  refine wpAnyT_take (i := 8) (oi := { dst := some 69, op := Op.load 24 (Operand.tmp 3), type := 24, pos := "law.go:91", after := #[{ on := 6, ground := Ground.guard }], guard := some (6, true) }) (v := .agg #[.int .i64 la, .int .u32 ca]) rfl (by kernel_rfl) (by kernel_rfl) (by kernel_rfl) (by kernel_rfl) (fun _ _ _ h => h) (Or.inl ⟨by rfl, ?_⟩) (unhide HS5 _ (unhide HB4)) ?_
  · intro w hSw
    obtain ⟨s0, s1, s2, s3, s4, s5, s6, s7, s8, s9⟩ := hSw
    first
      | rfl
      | (go_simp; done)
  try simp only [Act.put, List.setIfInBounds_toArray, List.set_cons_zero, List.set_cons_succ]
  refine wpAnyT_take (i := 9) (oi := { dst := some 70, op := Op.load 24 (Operand.tmp 4), type := 24, pos := "law.go:91", after := #[{ on := 6, ground := Ground.guard }], guard := some (6, true) }) (v := .agg #[.int .i64 lb, .int .u32 cb]) rfl (by kernel_rfl) (by kernel_rfl) (by kernel_rfl) (by kernel_rfl) (fun _ _ _ h => h) (Or.inl ⟨by rfl, ?_⟩) (unhide HS5 _ (unhide HB4)) ?_
  · intro w hSw
    obtain ⟨s0, s1, s2, s3, s4, s5, s6, s7, s8, s9⟩ := hSw
    first
      | rfl
      | (go_simp; done)
  try simp only [Act.put, List.setIfInBounds_toArray, List.set_cons_zero, List.set_cons_succ]
  refine wpAnyT_take (i := 10) (oi := { dst := some 71, op := Op.load 24 (Operand.tmp 3), type := 24, pos := "law.go:91", after := #[{ on := 6, ground := Ground.guard }], guard := some (6, true) }) (v := .agg #[.int .i64 la, .int .u32 ca]) rfl (by kernel_rfl) (by kernel_rfl) (by kernel_rfl) (by kernel_rfl) (fun _ _ _ h => h) (Or.inl ⟨by rfl, ?_⟩) (unhide HS5 _ (unhide HB4)) ?_
  · intro w hSw
    obtain ⟨s0, s1, s2, s3, s4, s5, s6, s7, s8, s9⟩ := hSw
    first
      | rfl
      | (go_simp; done)
  try simp only [Act.put, List.setIfInBounds_toArray, List.set_cons_zero, List.set_cons_succ]
  refine wpAnyT_one (i := 11) (o := { dst := some 72, op := Op.buildSlice 30 3 #[(0, Operand.tmp 69), (1, Operand.tmp 70), (2, Operand.tmp 71)], type := 30, pos := "law.go:91", after := #[{ on := 8, ground := Ground.data }, { on := 9, ground := Ground.data }, { on := 10, ground := Ground.data }, { on := 6, ground := Ground.guard }], guard := some (6, true) }) (by kernel_rfl) rfl (fun K hK => ?_)
  have HR3 := hide ((unhide HR3).below ((Below.refl v4.heap.size v4).alloc (Nat.le_refl _) (.cells #[.int .i64 la, .int .u32 ca, .int .i64 lb, .int .u32 cb, .int .i64 la, .int .u32 ca] 24)) (unhide HR3).lt)
  go_simp
  have HR11 := hide (RowAt.new v4 24 [.int .i64 la, .int .u32 ca, .int .i64 lb, .int .u32 cb, .int .i64 la, .int .u32 ca])
  have HB11 := hide ((unhide HB4).alloc (unhide HB4).size (.cells #[.int .i64 la, .int .u32 ca, .int .i64 lb, .int .u32 cb, .int .i64 la, .int .u32 ca] 24))
  refine hK.out _ _ (fun _ => unhide HS5 _ (unhide HB11)) ?_
  clear hK K
  obtain ⟨y11, hy11⟩ : ∃ z, v4.alloc (.cells #[.int .i64 la, .int .u32 ca, .int .i64 lb, .int .u32 cb, .int .i64 la, .int .u32 ca] 24) = z := ⟨_, rfl⟩
  rw [hy11] at HR11 HB11 HR3
  simp only [hy11]
  obtain ⟨p11, hp11⟩ : ∃ z, v4.heap.size = z := ⟨_, rfl⟩
  rw [hp11] at HR11
  simp only [hp11]
  clear hy11 hp11
  try simp only [Act.put, List.setIfInBounds_toArray, List.set_cons_zero, List.set_cons_succ]
  refine wpAnyT_one (i := 12) (o := { dst := some 73, op := Op.call { callee := Callee.value (Operand.func 9), args := #[Operand.tmp 72], argTypes := #[30] }, type := 24, pos := "law.go:91", after := #[{ on := 11, ground := Ground.data }, { on := 6, ground := Ground.chain }, { on := 6, ground := Ground.guard }], guard := some (6, true) }) (by kernel_rfl) rfl (fun K hK => ?_)
  go_simp
  refine Calls.mono (unhide HM2 _ _ (unhide HR11)) ?_
  rintro e v12 ⟨rfl, hb12⟩
  have HB12 := hide ((unhide HB11).trans (hb12.mono (unhide HB11).size))
  have HR3 := hide ((unhide HR3).below hb12 (unhide HR3).lt)
  have HR11 := hide ((unhide HR11).below hb12 (unhide HR11).lt)
  clear hb12
  go_wp2_with fail
  refine hK.out _ _ (fun _ => unhide HS5 _ (unhide HB12)) ?_
  clear hK K
  try simp only [Act.put, List.setIfInBounds_toArray, List.set_cons_zero, List.set_cons_succ]
  refine wpAnyT_take (i := 13) (oi := { dst := some 74, op := Op.binOp BinOp.eql 24 (Operand.tmp 68) (Operand.tmp 73) 24, type := 4, pos := "law.go:91", after := #[{ on := 7, ground := Ground.data }, { on := 12, ground := Ground.data }, { on := 6, ground := Ground.guard }], guard := some (6, true) }) (v := .bool true) rfl (by kernel_rfl) (by kernel_rfl) (by kernel_rfl) (by kernel_rfl) (fun _ _ _ h => h) (Or.inl ⟨by rfl, ?_⟩) (unhide HS5 _ (unhide HB12)) ?_
  · intro w hSw
    obtain ⟨s0, s1, s2, s3, s4, s5, s6, s7, s8, s9⟩ := hSw
    go_simp
    try rfl
    try trivial
  try simp only [Act.put, List.setIfInBounds_toArray, List.set_cons_zero, List.set_cons_succ]
  refine wpAnyT_take (i := 14) (oi := { dst := some 75, op := Op.pick (Operand.tmp 67) (Operand.tmp 74) (Operand.const (Value.bool false)), type := 4, pos := "law.go:91", after := #[{ on := 6, ground := Ground.data }, { on := 13, ground := Ground.data }], guard := none }) (v := .bool true) rfl (by kernel_rfl) (by kernel_rfl) (by kernel_rfl) (by kernel_rfl) (fun _ _ _ h => h) (Or.inl ⟨by rfl, ?_⟩) (unhide HS5 _ (unhide HB12)) ?_
  · intro w hSw
    obtain ⟨s0, s1, s2, s3, s4, s5, s6, s7, s8, s9⟩ := hSw
    first
      | rfl
      | (go_simp; done)
  try simp only [Act.put, List.setIfInBounds_toArray, List.set_cons_zero, List.set_cons_succ]
  refine wpAnyT_take (i := 15) (oi := { dst := some 76, op := Op.move (Operand.tmp 75), type := 4, pos := "law.go:91", after := #[{ on := 14, ground := Ground.data }, { on := 12, ground := Ground.chain }], guard := none }) (v := .bool true) rfl (by kernel_rfl) (by kernel_rfl) (by kernel_rfl) (by kernel_rfl) (fun _ _ _ h => h) (Or.inl ⟨by rfl, ?_⟩) (unhide HS5 _ (unhide HB12)) ?_
  · intro w hSw
    obtain ⟨s0, s1, s2, s3, s4, s5, s6, s7, s8, s9⟩ := hSw
    first
      | rfl
      | (go_simp; done)
  try simp only [Act.put, List.setIfInBounds_toArray, List.set_cons_zero, List.set_cons_succ]
  refine wpAnyT_take (i := 16) (oi := { dst := some 77, op := Op.load 24 (Operand.tmp 8), type := 24, pos := "law.go:91", after := #[{ on := 15, ground := Ground.guard }], guard := some (15, true) }) (v := .agg #[.int .i64 mL, .int .u32 mC]) rfl (by kernel_rfl) (by kernel_rfl) (by kernel_rfl) (by kernel_rfl) (fun _ _ _ h => h) (Or.inl ⟨by rfl, ?_⟩) (unhide HS5 _ (unhide HB12)) ?_
  · intro w hSw
    obtain ⟨s0, s1, s2, s3, s4, s5, s6, s7, s8, s9⟩ := hSw
    first
      | rfl
      | (go_simp; done)
  try simp only [Act.put, List.setIfInBounds_toArray, List.set_cons_zero, List.set_cons_succ]
  refine wpAnyT_take (i := 17) (oi := { dst := some 78, op := Op.load 24 (Operand.tmp 5), type := 24, pos := "law.go:91", after := #[{ on := 15, ground := Ground.guard }], guard := some (15, true) }) (v := .agg #[.int .i64 lc, .int .u32 cc]) rfl (by kernel_rfl) (by kernel_rfl) (by kernel_rfl) (by kernel_rfl) (fun _ _ _ h => h) (Or.inl ⟨by rfl, ?_⟩) (unhide HS5 _ (unhide HB12)) ?_
  · intro w hSw
    obtain ⟨s0, s1, s2, s3, s4, s5, s6, s7, s8, s9⟩ := hSw
    first
      | rfl
      | (go_simp; done)
  try simp only [Act.put, List.setIfInBounds_toArray, List.set_cons_zero, List.set_cons_succ]
  refine wpAnyT_take (i := 20) (oi := { dst := some 81, op := Op.load 24 (Operand.tmp 3), type := 24, pos := "law.go:91", after := #[{ on := 15, ground := Ground.guard }], guard := some (15, true) }) (v := .agg #[.int .i64 la, .int .u32 ca]) rfl (by kernel_rfl) (by kernel_rfl) (by kernel_rfl) (by kernel_rfl) (fun _ _ _ h => h) (Or.inl ⟨by rfl, ?_⟩) (unhide HS5 _ (unhide HB12)) ?_
  · intro w hSw
    obtain ⟨s0, s1, s2, s3, s4, s5, s6, s7, s8, s9⟩ := hSw
    first
      | rfl
      | (go_simp; done)
  try simp only [Act.put, List.setIfInBounds_toArray, List.set_cons_zero, List.set_cons_succ]
  refine wpAnyT_take (i := 21) (oi := { dst := some 82, op := Op.load 24 (Operand.tmp 4), type := 24, pos := "law.go:91", after := #[{ on := 15, ground := Ground.guard }], guard := some (15, true) }) (v := .agg #[.int .i64 lb, .int .u32 cb]) rfl (by kernel_rfl) (by kernel_rfl) (by kernel_rfl) (by kernel_rfl) (fun _ _ _ h => h) (Or.inl ⟨by rfl, ?_⟩) (unhide HS5 _ (unhide HB12)) ?_
  · intro w hSw
    obtain ⟨s0, s1, s2, s3, s4, s5, s6, s7, s8, s9⟩ := hSw
    first
      | rfl
      | (go_simp; done)
  try simp only [Act.put, List.setIfInBounds_toArray, List.set_cons_zero, List.set_cons_succ]
  refine wpAnyT_take (i := 22) (oi := { dst := some 83, op := Op.load 24 (Operand.tmp 5), type := 24, pos := "law.go:91", after := #[{ on := 15, ground := Ground.guard }], guard := some (15, true) }) (v := .agg #[.int .i64 lc, .int .u32 cc]) rfl (by kernel_rfl) (by kernel_rfl) (by kernel_rfl) (by kernel_rfl) (fun _ _ _ h => h) (Or.inl ⟨by rfl, ?_⟩) (unhide HS5 _ (unhide HB12)) ?_
  · intro w hSw
    obtain ⟨s0, s1, s2, s3, s4, s5, s6, s7, s8, s9⟩ := hSw
    first
      | rfl
      | (go_simp; done)
  try simp only [Act.put, List.setIfInBounds_toArray, List.set_cons_zero, List.set_cons_succ]
  refine anyU_two (i := 18) (j := 23) (oi := { dst := some 79, op := Op.buildSlice 30 2 #[(0, Operand.tmp 77), (1, Operand.tmp 78)], type := 30, pos := "law.go:91", after := #[{ on := 16, ground := Ground.data }, { on := 17, ground := Ground.data }, { on := 15, ground := Ground.guard }], guard := some (15, true) }) (oj := { dst := some 84, op := Op.buildSlice 30 2 #[(0, Operand.tmp 82), (1, Operand.tmp 83)], type := 30, pos := "law.go:91", after := #[{ on := 21, ground := Ground.data }, { on := 22, ground := Ground.data }, { on := 15, ground := Ground.guard }], guard := some (15, true) }) (by kernel_rfl) rfl rfl (fun K hK => ?_) (fun K hK => ?_)
  · go_simp
    have HR18 := hide (RowAt.new v12 24 [.int .i64 mL, .int .u32 mC, .int .i64 lc, .int .u32 cc])
    have HB18 := hide ((unhide HB12).alloc (unhide HB12).size (.cells #[.int .i64 mL, .int .u32 mC, .int .i64 lc, .int .u32 cc] 24))
    refine hK.out _ _ (fun _ => unhide HS5 _ (unhide HB18)) ?_
    clear hK K
    obtain ⟨y18, hy18⟩ : ∃ z, v12.alloc (.cells #[.int .i64 mL, .int .u32 mC, .int .i64 lc, .int .u32 cc] 24) = z := ⟨_, rfl⟩
    rw [hy18] at HR18 HB18
    simp only [hy18]
    obtain ⟨p18, hp18⟩ : ∃ z, v12.heap.size = z := ⟨_, rfl⟩
    rw [hp18] at HR18
    simp only [hp18]
    clear hy18 hp18
    try simp only [Act.put, List.setIfInBounds_toArray, List.set_cons_zero, List.set_cons_succ]
    refine anyU_two (i := 19) (j := 23) (oi := { dst := some 80, op := Op.call { callee := Callee.value (Operand.func 9), args := #[Operand.tmp 79], argTypes := #[30] }, type := 24, pos := "law.go:91", after := #[{ on := 18, ground := Ground.data }, { on := 15, ground := Ground.chain }, { on := 15, ground := Ground.guard }], guard := some (15, true) }) (oj := { dst := some 84, op := Op.buildSlice 30 2 #[(0, Operand.tmp 82), (1, Operand.tmp 83)], type := 30, pos := "law.go:91", after := #[{ on := 21, ground := Ground.data }, { on := 22, ground := Ground.data }, { on := 15, ground := Ground.guard }], guard := some (15, true) }) (by kernel_rfl) rfl rfl (fun K hK => ?_) (fun K hK => ?_)
    · go_simp
      refine Calls.mono (unhide HM3 _ _ (unhide HR18)) ?_
      rintro e v19 ⟨rfl, hb19⟩
      have HB19 := hide ((unhide HB18).trans (hb19.mono (unhide HB18).size))
      have HR18 := hide ((unhide HR18).below hb19 (unhide HR18).lt)
      clear hb19
      go_wp2_with fail
      refine hK.out _ _ (fun _ => unhide HS5 _ (unhide HB19)) ?_
      clear hK K
      try simp only [Act.put, List.setIfInBounds_toArray, List.set_cons_zero, List.set_cons_succ]
      refine wpAnyT_one (i := 23) (o := { dst := some 84, op := Op.buildSlice 30 2 #[(0, Operand.tmp 82), (1, Operand.tmp 83)], type := 30, pos := "law.go:91", after := #[{ on := 21, ground := Ground.data }, { on := 22, ground := Ground.data }, { on := 15, ground := Ground.guard }], guard := some (15, true) }) (by kernel_rfl) rfl (fun K hK => ?_)
      have HR18 := hide ((unhide HR18).below ((Below.refl v19.heap.size v19).alloc (Nat.le_refl _) (.cells #[.int .i64 lb, .int .u32 cb, .int .i64 lc, .int .u32 cc] 24)) (unhide HR18).lt)
      go_simp
      have HR23 := hide (RowAt.new v19 24 [.int .i64 lb, .int .u32 cb, .int .i64 lc, .int .u32 cc])
      have HB23 := hide ((unhide HB19).alloc (unhide HB19).size (.cells #[.int .i64 lb, .int .u32 cb, .int .i64 lc, .int .u32 cc] 24))
      refine hK.out _ _ (fun _ => unhide HS5 _ (unhide HB23)) ?_
      clear hK K
      obtain ⟨y23, hy23⟩ : ∃ z, v19.alloc (.cells #[.int .i64 lb, .int .u32 cb, .int .i64 lc, .int .u32 cc] 24) = z := ⟨_, rfl⟩
      rw [hy23] at HR23 HB23 HR18
      simp only [hy23]
      obtain ⟨p23, hp23⟩ : ∃ z, v19.heap.size = z := ⟨_, rfl⟩
      rw [hp23] at HR23
      simp only [hp23]
      clear hy23 hp23
      try simp only [Act.put, List.setIfInBounds_toArray, List.set_cons_zero, List.set_cons_succ]
      refine wpAnyT_one (i := 24) (o := { dst := some 85, op := Op.call { callee := Callee.value (Operand.func 9), args := #[Operand.tmp 84], argTypes := #[30] }, type := 24, pos := "law.go:91", after := #[{ on := 23, ground := Ground.data }, { on := 19, ground := Ground.chain }, { on := 15, ground := Ground.guard }], guard := some (15, true) }) (by kernel_rfl) rfl (fun K hK => ?_)
      go_simp
      refine Calls.mono (unhide HM4 _ _ (unhide HR23)) ?_
      rintro e v24 ⟨rfl, hb24⟩
      have HB24 := hide ((unhide HB23).trans (hb24.mono (unhide HB23).size))
      have HR18 := hide ((unhide HR18).below hb24 (unhide HR18).lt)
      have HR23 := hide ((unhide HR23).below hb24 (unhide HR23).lt)
      clear hb24
      go_wp2_with fail
      refine hK.out _ _ (fun _ => unhide HS5 _ (unhide HB24)) ?_
      clear hK K
      try simp only [Act.put, List.setIfInBounds_toArray, List.set_cons_zero, List.set_cons_succ]
      refine wpAnyT_one (i := 25) (o := { dst := some 86, op := Op.buildSlice 30 2 #[(0, Operand.tmp 81), (1, Operand.tmp 85)], type := 30, pos := "law.go:91", after := #[{ on := 20, ground := Ground.data }, { on := 24, ground := Ground.data }, { on := 15, ground := Ground.guard }], guard := some (15, true) }) (by kernel_rfl) rfl (fun K hK => ?_)
      have HR18 := hide ((unhide HR18).below ((Below.refl v24.heap.size v24).alloc (Nat.le_refl _) (.cells #[.int .i64 la, .int .u32 ca, .int .i64 qL, .int .u32 qC] 24)) (unhide HR18).lt)
      have HR23 := hide ((unhide HR23).below ((Below.refl v24.heap.size v24).alloc (Nat.le_refl _) (.cells #[.int .i64 la, .int .u32 ca, .int .i64 qL, .int .u32 qC] 24)) (unhide HR23).lt)
      go_simp
      have HR25 := hide (RowAt.new v24 24 [.int .i64 la, .int .u32 ca, .int .i64 qL, .int .u32 qC])
      have HB25 := hide ((unhide HB24).alloc (unhide HB24).size (.cells #[.int .i64 la, .int .u32 ca, .int .i64 qL, .int .u32 qC] 24))
      refine hK.out _ _ (fun _ => unhide HS5 _ (unhide HB25)) ?_
      clear hK K
      obtain ⟨y25, hy25⟩ : ∃ z, v24.alloc (.cells #[.int .i64 la, .int .u32 ca, .int .i64 qL, .int .u32 qC] 24) = z := ⟨_, rfl⟩
      rw [hy25] at HR25 HB25 HR18 HR23
      simp only [hy25]
      obtain ⟨p25, hp25⟩ : ∃ z, v24.heap.size = z := ⟨_, rfl⟩
      rw [hp25] at HR25
      simp only [hp25]
      clear hy25 hp25
      try simp only [Act.put, List.setIfInBounds_toArray, List.set_cons_zero, List.set_cons_succ]
      refine wpAnyT_one (i := 26) (o := { dst := some 87, op := Op.call { callee := Callee.value (Operand.func 9), args := #[Operand.tmp 86], argTypes := #[30] }, type := 24, pos := "law.go:91", after := #[{ on := 25, ground := Ground.data }, { on := 24, ground := Ground.chain }, { on := 15, ground := Ground.guard }], guard := some (15, true) }) (by kernel_rfl) rfl (fun K hK => ?_)
      go_simp
      refine Calls.mono (unhide HM5 _ _ (unhide HR25)) ?_
      rintro e v26 ⟨rfl, hb26⟩
      have HB26 := hide ((unhide HB25).trans (hb26.mono (unhide HB25).size))
      have HR18 := hide ((unhide HR18).below hb26 (unhide HR18).lt)
      have HR23 := hide ((unhide HR23).below hb26 (unhide HR23).lt)
      have HR25 := hide ((unhide HR25).below hb26 (unhide HR25).lt)
      clear hb26
      go_wp2_with fail
      refine hK.out _ _ (fun _ => unhide HS5 _ (unhide HB26)) ?_
      clear hK K
      try simp only [Act.put, List.setIfInBounds_toArray, List.set_cons_zero, List.set_cons_succ]
      refine wpAnyT_take (i := 27) (oi := { dst := some 88, op := Op.binOp BinOp.eql 24 (Operand.tmp 80) (Operand.tmp 87) 24, type := 4, pos := "law.go:91", after := #[{ on := 19, ground := Ground.data }, { on := 26, ground := Ground.data }, { on := 15, ground := Ground.guard }], guard := some (15, true) }) (v := .bool true) rfl (by kernel_rfl) (by kernel_rfl) (by kernel_rfl) (by kernel_rfl) (fun _ _ _ h => h) (Or.inl ⟨by rfl, ?_⟩) (unhide HS5 _ (unhide HB26)) ?_
      · intro w hSw
        obtain ⟨s0, s1, s2, s3, s4, s5, s6, s7, s8, s9⟩ := hSw
        go_simp
        try rfl
        try trivial
      try simp only [Act.put, List.setIfInBounds_toArray, List.set_cons_zero, List.set_cons_succ]
      refine wpAnyT_take (i := 28) (oi := { dst := some 89, op := Op.pick (Operand.tmp 76) (Operand.tmp 88) (Operand.const (Value.bool false)), type := 4, pos := "law.go:91", after := #[{ on := 15, ground := Ground.data }, { on := 27, ground := Ground.data }], guard := none }) (v := .bool true) rfl (by kernel_rfl) (by kernel_rfl) (by kernel_rfl) (by kernel_rfl) (fun _ _ _ h => h) (Or.inl ⟨by rfl, ?_⟩) (unhide HS5 _ (unhide HB26)) ?_
      · intro w hSw
        obtain ⟨s0, s1, s2, s3, s4, s5, s6, s7, s8, s9⟩ := hSw
        first
          | rfl
          | (go_simp; done)
      try simp only [Act.put, List.setIfInBounds_toArray, List.set_cons_zero, List.set_cons_succ]
      refine wpAnyT_take (i := 29) (oi := { dst := some 90, op := Op.move (Operand.tmp 89), type := 4, pos := "law.go:91", after := #[{ on := 28, ground := Ground.data }, { on := 26, ground := Ground.chain }], guard := none }) (v := .bool true) rfl (by kernel_rfl) (by kernel_rfl) (by kernel_rfl) (by kernel_rfl) (fun _ _ _ h => h) (Or.inl ⟨by rfl, ?_⟩) (unhide HS5 _ (unhide HB26)) ?_
      · intro w hSw
        obtain ⟨s0, s1, s2, s3, s4, s5, s6, s7, s8, s9⟩ := hSw
        first
          | rfl
          | (go_simp; done)
      try simp only [Act.put, List.setIfInBounds_toArray, List.set_cons_zero, List.set_cons_succ]
      refine wpAnyT_take (i := 30) (oi := { dst := some 91, op := Op.load 24 (Operand.tmp 3), type := 24, pos := "law.go:91", after := #[{ on := 29, ground := Ground.guard }], guard := some (29, true) }) (v := .agg #[.int .i64 la, .int .u32 ca]) rfl (by kernel_rfl) (by kernel_rfl) (by kernel_rfl) (by kernel_rfl) (fun _ _ _ h => h) (Or.inl ⟨by rfl, ?_⟩) (unhide HS5 _ (unhide HB26)) ?_
      · intro w hSw
        obtain ⟨s0, s1, s2, s3, s4, s5, s6, s7, s8, s9⟩ := hSw
        first
          | rfl
          | (go_simp; done)
      try simp only [Act.put, List.setIfInBounds_toArray, List.set_cons_zero, List.set_cons_succ]
      refine wpAnyT_take (i := 31) (oi := { dst := some 92, op := Op.load 24 (Operand.tmp 8), type := 24, pos := "law.go:91", after := #[{ on := 29, ground := Ground.guard }], guard := some (29, true) }) (v := .agg #[.int .i64 mL, .int .u32 mC]) rfl (by kernel_rfl) (by kernel_rfl) (by kernel_rfl) (by kernel_rfl) (fun _ _ _ h => h) (Or.inl ⟨by rfl, ?_⟩) (unhide HS5 _ (unhide HB26)) ?_
      · intro w hSw
        obtain ⟨s0, s1, s2, s3, s4, s5, s6, s7, s8, s9⟩ := hSw
        first
          | rfl
          | (go_simp; done)
      try simp only [Act.put, List.setIfInBounds_toArray, List.set_cons_zero, List.set_cons_succ]
      refine wpAnyT_take (i := 34) (oi := { dst := some 95, op := Op.load 24 (Operand.tmp 3), type := 24, pos := "law.go:91", after := #[{ on := 29, ground := Ground.guard }], guard := some (29, true) }) (v := .agg #[.int .i64 la, .int .u32 ca]) rfl (by kernel_rfl) (by kernel_rfl) (by kernel_rfl) (by kernel_rfl) (fun _ _ _ h => h) (Or.inl ⟨by rfl, ?_⟩) (unhide HS5 _ (unhide HB26)) ?_
      · intro w hSw
        obtain ⟨s0, s1, s2, s3, s4, s5, s6, s7, s8, s9⟩ := hSw
        first
          | rfl
          | (go_simp; done)
      try simp only [Act.put, List.setIfInBounds_toArray, List.set_cons_zero, List.set_cons_succ]
      refine wpAnyT_one (i := 32) (o := { dst := some 93, op := Op.buildSlice 30 2 #[(0, Operand.tmp 91), (1, Operand.tmp 92)], type := 30, pos := "law.go:91", after := #[{ on := 30, ground := Ground.data }, { on := 31, ground := Ground.data }, { on := 29, ground := Ground.guard }], guard := some (29, true) }) (by kernel_rfl) rfl (fun K hK => ?_)
      go_simp
      have HR32 := hide (RowAt.new v26 24 [.int .i64 la, .int .u32 ca, .int .i64 mL, .int .u32 mC])
      have HB32 := hide ((unhide HB26).alloc (unhide HB26).size (.cells #[.int .i64 la, .int .u32 ca, .int .i64 mL, .int .u32 mC] 24))
      refine hK.out _ _ (fun _ => unhide HS5 _ (unhide HB32)) ?_
      clear hK K
      obtain ⟨y32, hy32⟩ : ∃ z, v26.alloc (.cells #[.int .i64 la, .int .u32 ca, .int .i64 mL, .int .u32 mC] 24) = z := ⟨_, rfl⟩
      rw [hy32] at HR32 HB32
      simp only [hy32]
      obtain ⟨p32, hp32⟩ : ∃ z, v26.heap.size = z := ⟨_, rfl⟩
      rw [hp32] at HR32
      simp only [hp32]
      clear hy32 hp32
      try simp only [Act.put, List.setIfInBounds_toArray, List.set_cons_zero, List.set_cons_succ]
      refine wpAnyT_one (i := 33) (o := { dst := some 94, op := Op.call { callee := Callee.value (Operand.func 8), args := #[Operand.tmp 93], argTypes := #[30] }, type := 24, pos := "law.go:91", after := #[{ on := 32, ground := Ground.data }, { on := 29, ground := Ground.chain }, { on := 29, ground := Ground.guard }], guard := some (29, true) }) (by kernel_rfl) rfl (fun K hK => ?_)
      go_simp
      refine Calls.mono (unhide HX1 _ _ (unhide HR32)) ?_
      rintro e v33 ⟨rfl, hb33⟩
      have HB33 := hide ((unhide HB32).trans (hb33.mono (unhide HB32).size))
      have HR32 := hide ((unhide HR32).below hb33 (unhide HR32).lt)
      clear hb33
      go_wp2_with fail
      refine hK.out _ _ (fun _ => unhide HS5 _ (unhide HB33)) ?_
      clear hK K
      try simp only [Act.put, List.setIfInBounds_toArray, List.set_cons_zero, List.set_cons_succ]
      refine wpAnyT_take (i := 35) (oi := { dst := some 96, op := Op.binOp BinOp.eql 24 (Operand.tmp 94) (Operand.tmp 95) 24, type := 4, pos := "law.go:91", after := #[{ on := 33, ground := Ground.data }, { on := 34, ground := Ground.data }, { on := 29, ground := Ground.guard }], guard := some (29, true) }) (v := .bool true) rfl (by kernel_rfl) (by kernel_rfl) (by kernel_rfl) (by kernel_rfl) (fun _ _ _ h => h) (Or.inl ⟨by rfl, ?_⟩) (unhide HS5 _ (unhide HB33)) ?_
      · intro w hSw
        obtain ⟨s0, s1, s2, s3, s4, s5, s6, s7, s8, s9⟩ := hSw
        go_simp
        try rfl
        try trivial
      try simp only [Act.put, List.setIfInBounds_toArray, List.set_cons_zero, List.set_cons_succ]
      refine wpAnyT_take (i := 36) (oi := { dst := some 97, op := Op.pick (Operand.tmp 90) (Operand.tmp 96) (Operand.const (Value.bool false)), type := 4, pos := "law.go:91", after := #[{ on := 29, ground := Ground.data }, { on := 35, ground := Ground.data }], guard := none }) (v := .bool true) rfl (by kernel_rfl) (by kernel_rfl) (by kernel_rfl) (by kernel_rfl) (fun _ _ _ h => h) (Or.inl ⟨by rfl, ?_⟩) (unhide HS5 _ (unhide HB33)) ?_
      · intro w hSw
        obtain ⟨s0, s1, s2, s3, s4, s5, s6, s7, s8, s9⟩ := hSw
        first
          | rfl
          | (go_simp; done)
      try simp only [Act.put, List.setIfInBounds_toArray, List.set_cons_zero, List.set_cons_succ]
      refine wpAnyT_take (i := 37) (oi := { dst := some 98, op := Op.move (Operand.tmp 97), type := 4, pos := "law.go:91", after := #[{ on := 36, ground := Ground.data }, { on := 33, ground := Ground.chain }], guard := none }) (v := .bool true) rfl (by kernel_rfl) (by kernel_rfl) (by kernel_rfl) (by kernel_rfl) (fun _ _ _ h => h) (Or.inl ⟨by rfl, ?_⟩) (unhide HS5 _ (unhide HB33)) ?_
      · intro w hSw
        obtain ⟨s0, s1, s2, s3, s4, s5, s6, s7, s8, s9⟩ := hSw
        first
          | rfl
          | (go_simp; done)
      try simp only [Act.put, List.setIfInBounds_toArray, List.set_cons_zero, List.set_cons_succ]
      refine wpAnyT_take (i := 38) (oi := { dst := some 99, op := Op.load 24 (Operand.tmp 3), type := 24, pos := "law.go:91", after := #[{ on := 37, ground := Ground.guard }], guard := some (37, true) }) (v := .agg #[.int .i64 la, .int .u32 ca]) rfl (by kernel_rfl) (by kernel_rfl) (by kernel_rfl) (by kernel_rfl) (fun _ _ _ h => h) (Or.inl ⟨by rfl, ?_⟩) (unhide HS5 _ (unhide HB33)) ?_
      · intro w hSw
        obtain ⟨s0, s1, s2, s3, s4, s5, s6, s7, s8, s9⟩ := hSw
        first
          | rfl
          | (go_simp; done)
      try simp only [Act.put, List.setIfInBounds_toArray, List.set_cons_zero, List.set_cons_succ]
      refine wpAnyT_take (i := 39) (oi := { dst := some 100, op := Op.load 24 (Operand.tmp 7), type := 24, pos := "law.go:91", after := #[{ on := 37, ground := Ground.guard }], guard := some (37, true) }) (v := .agg #[.int .i64 jL, .int .u32 jC]) rfl (by kernel_rfl) (by kernel_rfl) (by kernel_rfl) (by kernel_rfl) (fun _ _ _ h => h) (Or.inl ⟨by rfl, ?_⟩) (unhide HS5 _ (unhide HB33)) ?_
      · intro w hSw
        obtain ⟨s0, s1, s2, s3, s4, s5, s6, s7, s8, s9⟩ := hSw
        first
          | rfl
          | (go_simp; done)
      try simp only [Act.put, List.setIfInBounds_toArray, List.set_cons_zero, List.set_cons_succ]
      refine wpAnyT_take (i := 42) (oi := { dst := some 103, op := Op.load 24 (Operand.tmp 3), type := 24, pos := "law.go:91", after := #[{ on := 37, ground := Ground.guard }], guard := some (37, true) }) (v := .agg #[.int .i64 la, .int .u32 ca]) rfl (by kernel_rfl) (by kernel_rfl) (by kernel_rfl) (by kernel_rfl) (fun _ _ _ h => h) (Or.inl ⟨by rfl, ?_⟩) (unhide HS5 _ (unhide HB33)) ?_
      · intro w hSw
        obtain ⟨s0, s1, s2, s3, s4, s5, s6, s7, s8, s9⟩ := hSw
        first
          | rfl
          | (go_simp; done)
      try simp only [Act.put, List.setIfInBounds_toArray, List.set_cons_zero, List.set_cons_succ]
      refine wpAnyT_one (i := 40) (o := { dst := some 101, op := Op.buildSlice 30 2 #[(0, Operand.tmp 99), (1, Operand.tmp 100)], type := 30, pos := "law.go:91", after := #[{ on := 38, ground := Ground.data }, { on := 39, ground := Ground.data }, { on := 37, ground := Ground.guard }], guard := some (37, true) }) (by kernel_rfl) rfl (fun K hK => ?_)
      go_simp
      have HR40 := hide (RowAt.new v33 24 [.int .i64 la, .int .u32 ca, .int .i64 jL, .int .u32 jC])
      have HB40 := hide ((unhide HB33).alloc (unhide HB33).size (.cells #[.int .i64 la, .int .u32 ca, .int .i64 jL, .int .u32 jC] 24))
      refine hK.out _ _ (fun _ => unhide HS5 _ (unhide HB40)) ?_
      clear hK K
      obtain ⟨y40, hy40⟩ : ∃ z, v33.alloc (.cells #[.int .i64 la, .int .u32 ca, .int .i64 jL, .int .u32 jC] 24) = z := ⟨_, rfl⟩
      rw [hy40] at HR40 HB40
      simp only [hy40]
      obtain ⟨p40, hp40⟩ : ∃ z, v33.heap.size = z := ⟨_, rfl⟩
      rw [hp40] at HR40
      simp only [hp40]
      clear hy40 hp40
      try simp only [Act.put, List.setIfInBounds_toArray, List.set_cons_zero, List.set_cons_succ]
      refine wpAnyT_one (i := 41) (o := { dst := some 102, op := Op.call { callee := Callee.value (Operand.func 9), args := #[Operand.tmp 101], argTypes := #[30] }, type := 24, pos := "law.go:91", after := #[{ on := 40, ground := Ground.data }, { on := 37, ground := Ground.chain }, { on := 37, ground := Ground.guard }], guard := some (37, true) }) (by kernel_rfl) rfl (fun K hK => ?_)
      go_simp
      refine Calls.mono (unhide HX2 _ _ (unhide HR40)) ?_
      rintro e v41 ⟨rfl, hb41⟩
      have HB41 := hide ((unhide HB40).trans (hb41.mono (unhide HB40).size))
      have HR40 := hide ((unhide HR40).below hb41 (unhide HR40).lt)
      clear hb41
      go_wp2_with fail
      refine hK.out _ _ (fun _ => unhide HS5 _ (unhide HB41)) ?_
      clear hK K
      try simp only [Act.put, List.setIfInBounds_toArray, List.set_cons_zero, List.set_cons_succ]
      refine wpAnyT_take (i := 43) (oi := { dst := some 104, op := Op.binOp BinOp.eql 24 (Operand.tmp 102) (Operand.tmp 103) 24, type := 4, pos := "law.go:91", after := #[{ on := 41, ground := Ground.data }, { on := 42, ground := Ground.data }, { on := 37, ground := Ground.guard }], guard := some (37, true) }) (v := .bool true) rfl (by kernel_rfl) (by kernel_rfl) (by kernel_rfl) (by kernel_rfl) (fun _ _ _ h => h) (Or.inl ⟨by rfl, ?_⟩) (unhide HS5 _ (unhide HB41)) ?_
      · intro w hSw
        obtain ⟨s0, s1, s2, s3, s4, s5, s6, s7, s8, s9⟩ := hSw
        go_simp
        try rfl
        try trivial
      try simp only [Act.put, List.setIfInBounds_toArray, List.set_cons_zero, List.set_cons_succ]
      refine wpAnyT_take (i := 44) (oi := { dst := some 105, op := Op.pick (Operand.tmp 98) (Operand.tmp 104) (Operand.const (Value.bool false)), type := 4, pos := "law.go:91", after := #[{ on := 37, ground := Ground.data }, { on := 43, ground := Ground.data }], guard := none }) (v := .bool true) rfl (by kernel_rfl) (by kernel_rfl) (by kernel_rfl) (by kernel_rfl) (fun _ _ _ h => h) (Or.inl ⟨by rfl, ?_⟩) (unhide HS5 _ (unhide HB41)) ?_
      · intro w hSw
        obtain ⟨s0, s1, s2, s3, s4, s5, s6, s7, s8, s9⟩ := hSw
        first
          | rfl
          | (go_simp; done)
      try simp only [Act.put, List.setIfInBounds_toArray, List.set_cons_zero, List.set_cons_succ]
      refine wpAnyT_take (i := 45) (oi := { dst := some 106, op := Op.move (Operand.tmp 105), type := 4, pos := "law.go:91", after := #[{ on := 44, ground := Ground.data }, { on := 41, ground := Ground.chain }], guard := none }) (v := .bool true) rfl (by kernel_rfl) (by kernel_rfl) (by kernel_rfl) (by kernel_rfl) (fun _ _ _ h => h) (Or.inl ⟨by rfl, ?_⟩) (unhide HS5 _ (unhide HB41)) ?_
      · intro w hSw
        obtain ⟨s0, s1, s2, s3, s4, s5, s6, s7, s8, s9⟩ := hSw
        first
          | rfl
          | (go_simp; done)
      try simp only [Act.put, List.setIfInBounds_toArray, List.set_cons_zero, List.set_cons_succ]
      refine wpAnyT_one (i := 46) (o := { dst := some 107, op := Op.call { callee := Callee.value (Operand.func 11), args := #[], argTypes := #[] }, type := 4, pos := "law.go:91", after := #[{ on := 45, ground := Ground.chain }, { on := 45, ground := Ground.guard }], guard := some (45, true) }) (by kernel_rfl) rfl (fun K hK => ?_)
      go_simp
      refine Calls.mono (awake_any _) ?_
      rintro e v46 ⟨rfl, hb46⟩
      have HB46 := hide ((unhide HB41).trans (hb46.mono (unhide HB41).size))
      clear hb46
      go_wp2_with fail
      refine hK.out _ _ (fun _ => unhide HS5 _ (unhide HB46)) ?_
      clear hK K
      try simp only [Act.put, List.setIfInBounds_toArray, List.set_cons_zero, List.set_cons_succ]
      refine wpAnyT_take (i := 47) (oi := { dst := some 108, op := Op.pick (Operand.tmp 106) (Operand.tmp 107) (Operand.const (Value.bool false)), type := 4, pos := "law.go:91", after := #[{ on := 45, ground := Ground.data }, { on := 46, ground := Ground.data }], guard := none }) (v := .bool true) rfl (by kernel_rfl) (by kernel_rfl) (by kernel_rfl) (by kernel_rfl) (fun _ _ _ h => h) (Or.inl ⟨by rfl, ?_⟩) (unhide HS5 _ (unhide HB46)) ?_
      · intro w hSw
        obtain ⟨s0, s1, s2, s3, s4, s5, s6, s7, s8, s9⟩ := hSw
        first
          | rfl
          | (go_simp; done)
      try simp only [Act.put, List.setIfInBounds_toArray, List.set_cons_zero, List.set_cons_succ]
      refine wpAnyT_take (i := 48) (oi := { dst := some 6, op := Op.assign (Operand.tmp 108), type := 4, pos := "law.go:91", after := #[{ on := 47, ground := Ground.data }, { on := 46, ground := Ground.chain }, { on := 0, ground := Ground.phase }, { on := 1, ground := Ground.phase }, { on := 2, ground := Ground.phase }, { on := 3, ground := Ground.phase }, { on := 4, ground := Ground.phase }, { on := 5, ground := Ground.phase }, { on := 6, ground := Ground.phase }, { on := 7, ground := Ground.phase }, { on := 8, ground := Ground.phase }, { on := 9, ground := Ground.phase }, { on := 10, ground := Ground.phase }, { on := 11, ground := Ground.phase }, { on := 12, ground := Ground.phase }, { on := 13, ground := Ground.phase }, { on := 14, ground := Ground.phase }, { on := 15, ground := Ground.phase }, { on := 16, ground := Ground.phase }, { on := 17, ground := Ground.phase }, { on := 18, ground := Ground.phase }, { on := 19, ground := Ground.phase }, { on := 20, ground := Ground.phase }, { on := 21, ground := Ground.phase }, { on := 22, ground := Ground.phase }, { on := 23, ground := Ground.phase }, { on := 24, ground := Ground.phase }, { on := 25, ground := Ground.phase }, { on := 26, ground := Ground.phase }, { on := 27, ground := Ground.phase }, { on := 28, ground := Ground.phase }, { on := 29, ground := Ground.phase }, { on := 30, ground := Ground.phase }, { on := 31, ground := Ground.phase }, { on := 32, ground := Ground.phase }, { on := 33, ground := Ground.phase }, { on := 34, ground := Ground.phase }, { on := 35, ground := Ground.phase }, { on := 36, ground := Ground.phase }, { on := 37, ground := Ground.phase }, { on := 38, ground := Ground.phase }, { on := 39, ground := Ground.phase }, { on := 40, ground := Ground.phase }, { on := 41, ground := Ground.phase }, { on := 42, ground := Ground.phase }, { on := 43, ground := Ground.phase }, { on := 44, ground := Ground.phase }, { on := 45, ground := Ground.phase }, { on := 46, ground := Ground.phase }, { on := 47, ground := Ground.phase }], guard := none }) (v := .bool true) rfl (by kernel_rfl) (by kernel_rfl) (by kernel_rfl) (by kernel_rfl) (fun _ _ _ h => h) (Or.inl ⟨by rfl, ?_⟩) (unhide HS5 _ (unhide HB46)) ?_
      · intro w hSw
        obtain ⟨s0, s1, s2, s3, s4, s5, s6, s7, s8, s9⟩ := hSw
        first
          | rfl
          | (go_simp; done)
      try simp only [Act.put, List.setIfInBounds_toArray, List.set_cons_zero, List.set_cons_succ]
      refine wpAnyT_done (by kernel_rfl) ?_ _
      go_wp2_with fail
      go_ret
      exact ⟨rfl, (unhide HBB).trans ((unhide HB46).mono (unhide HBB).size)⟩
    · have HR18 := hide ((unhide HR18).below ((Below.refl y18.heap.size y18).alloc (Nat.le_refl _) (.cells #[.int .i64 lb, .int .u32 cb, .int .i64 lc, .int .u32 cc] 24)) (unhide HR18).lt)
      go_simp
      have HR23 := hide (RowAt.new y18 24 [.int .i64 lb, .int .u32 cb, .int .i64 lc, .int .u32 cc])
      have HB23 := hide ((unhide HB18).alloc (unhide HB18).size (.cells #[.int .i64 lb, .int .u32 cb, .int .i64 lc, .int .u32 cc] 24))
      refine hK.out _ _ (fun _ => unhide HS5 _ (unhide HB23)) ?_
      clear hK K
      obtain ⟨y23, hy23⟩ : ∃ z, y18.alloc (.cells #[.int .i64 lb, .int .u32 cb, .int .i64 lc, .int .u32 cc] 24) = z := ⟨_, rfl⟩
      rw [hy23] at HR23 HB23 HR18
      simp only [hy23]
      obtain ⟨p23, hp23⟩ : ∃ z, y18.heap.size = z := ⟨_, rfl⟩
      rw [hp23] at HR23
      simp only [hp23]
      clear hy23 hp23
      try simp only [Act.put, List.setIfInBounds_toArray, List.set_cons_zero, List.set_cons_succ]
      refine wpAnyT_one (i := 19) (o := { dst := some 80, op := Op.call { callee := Callee.value (Operand.func 9), args := #[Operand.tmp 79], argTypes := #[30] }, type := 24, pos := "law.go:91", after := #[{ on := 18, ground := Ground.data }, { on := 15, ground := Ground.chain }, { on := 15, ground := Ground.guard }], guard := some (15, true) }) (by kernel_rfl) rfl (fun K hK => ?_)
      go_simp
      refine Calls.mono (unhide HM3 _ _ (unhide HR18)) ?_
      rintro e v19 ⟨rfl, hb19⟩
      have HB19 := hide ((unhide HB23).trans (hb19.mono (unhide HB23).size))
      have HR18 := hide ((unhide HR18).below hb19 (unhide HR18).lt)
      have HR23 := hide ((unhide HR23).below hb19 (unhide HR23).lt)
      clear hb19
      go_wp2_with fail
      refine hK.out _ _ (fun _ => unhide HS5 _ (unhide HB19)) ?_
      clear hK K
      try simp only [Act.put, List.setIfInBounds_toArray, List.set_cons_zero, List.set_cons_succ]
      refine wpAnyT_one (i := 24) (o := { dst := some 85, op := Op.call { callee := Callee.value (Operand.func 9), args := #[Operand.tmp 84], argTypes := #[30] }, type := 24, pos := "law.go:91", after := #[{ on := 23, ground := Ground.data }, { on := 19, ground := Ground.chain }, { on := 15, ground := Ground.guard }], guard := some (15, true) }) (by kernel_rfl) rfl (fun K hK => ?_)
      go_simp
      refine Calls.mono (unhide HM4 _ _ (unhide HR23)) ?_
      rintro e v24 ⟨rfl, hb24⟩
      have HB24 := hide ((unhide HB19).trans (hb24.mono (unhide HB19).size))
      have HR18 := hide ((unhide HR18).below hb24 (unhide HR18).lt)
      have HR23 := hide ((unhide HR23).below hb24 (unhide HR23).lt)
      clear hb24
      go_wp2_with fail
      refine hK.out _ _ (fun _ => unhide HS5 _ (unhide HB24)) ?_
      clear hK K
      try simp only [Act.put, List.setIfInBounds_toArray, List.set_cons_zero, List.set_cons_succ]
      refine wpAnyT_one (i := 25) (o := { dst := some 86, op := Op.buildSlice 30 2 #[(0, Operand.tmp 81), (1, Operand.tmp 85)], type := 30, pos := "law.go:91", after := #[{ on := 20, ground := Ground.data }, { on := 24, ground := Ground.data }, { on := 15, ground := Ground.guard }], guard := some (15, true) }) (by kernel_rfl) rfl (fun K hK => ?_)
      have HR18 := hide ((unhide HR18).below ((Below.refl v24.heap.size v24).alloc (Nat.le_refl _) (.cells #[.int .i64 la, .int .u32 ca, .int .i64 qL, .int .u32 qC] 24)) (unhide HR18).lt)
      have HR23 := hide ((unhide HR23).below ((Below.refl v24.heap.size v24).alloc (Nat.le_refl _) (.cells #[.int .i64 la, .int .u32 ca, .int .i64 qL, .int .u32 qC] 24)) (unhide HR23).lt)
      go_simp
      have HR25 := hide (RowAt.new v24 24 [.int .i64 la, .int .u32 ca, .int .i64 qL, .int .u32 qC])
      have HB25 := hide ((unhide HB24).alloc (unhide HB24).size (.cells #[.int .i64 la, .int .u32 ca, .int .i64 qL, .int .u32 qC] 24))
      refine hK.out _ _ (fun _ => unhide HS5 _ (unhide HB25)) ?_
      clear hK K
      obtain ⟨y25, hy25⟩ : ∃ z, v24.alloc (.cells #[.int .i64 la, .int .u32 ca, .int .i64 qL, .int .u32 qC] 24) = z := ⟨_, rfl⟩
      rw [hy25] at HR25 HB25 HR18 HR23
      simp only [hy25]
      obtain ⟨p25, hp25⟩ : ∃ z, v24.heap.size = z := ⟨_, rfl⟩
      rw [hp25] at HR25
      simp only [hp25]
      clear hy25 hp25
      try simp only [Act.put, List.setIfInBounds_toArray, List.set_cons_zero, List.set_cons_succ]
      refine wpAnyT_one (i := 26) (o := { dst := some 87, op := Op.call { callee := Callee.value (Operand.func 9), args := #[Operand.tmp 86], argTypes := #[30] }, type := 24, pos := "law.go:91", after := #[{ on := 25, ground := Ground.data }, { on := 24, ground := Ground.chain }, { on := 15, ground := Ground.guard }], guard := some (15, true) }) (by kernel_rfl) rfl (fun K hK => ?_)
      go_simp
      refine Calls.mono (unhide HM5 _ _ (unhide HR25)) ?_
      rintro e v26 ⟨rfl, hb26⟩
      have HB26 := hide ((unhide HB25).trans (hb26.mono (unhide HB25).size))
      have HR18 := hide ((unhide HR18).below hb26 (unhide HR18).lt)
      have HR23 := hide ((unhide HR23).below hb26 (unhide HR23).lt)
      have HR25 := hide ((unhide HR25).below hb26 (unhide HR25).lt)
      clear hb26
      go_wp2_with fail
      refine hK.out _ _ (fun _ => unhide HS5 _ (unhide HB26)) ?_
      clear hK K
      try simp only [Act.put, List.setIfInBounds_toArray, List.set_cons_zero, List.set_cons_succ]
      refine wpAnyT_take (i := 27) (oi := { dst := some 88, op := Op.binOp BinOp.eql 24 (Operand.tmp 80) (Operand.tmp 87) 24, type := 4, pos := "law.go:91", after := #[{ on := 19, ground := Ground.data }, { on := 26, ground := Ground.data }, { on := 15, ground := Ground.guard }], guard := some (15, true) }) (v := .bool true) rfl (by kernel_rfl) (by kernel_rfl) (by kernel_rfl) (by kernel_rfl) (fun _ _ _ h => h) (Or.inl ⟨by rfl, ?_⟩) (unhide HS5 _ (unhide HB26)) ?_
      · intro w hSw
        obtain ⟨s0, s1, s2, s3, s4, s5, s6, s7, s8, s9⟩ := hSw
        go_simp
        try rfl
        try trivial
      try simp only [Act.put, List.setIfInBounds_toArray, List.set_cons_zero, List.set_cons_succ]
      refine wpAnyT_take (i := 28) (oi := { dst := some 89, op := Op.pick (Operand.tmp 76) (Operand.tmp 88) (Operand.const (Value.bool false)), type := 4, pos := "law.go:91", after := #[{ on := 15, ground := Ground.data }, { on := 27, ground := Ground.data }], guard := none }) (v := .bool true) rfl (by kernel_rfl) (by kernel_rfl) (by kernel_rfl) (by kernel_rfl) (fun _ _ _ h => h) (Or.inl ⟨by rfl, ?_⟩) (unhide HS5 _ (unhide HB26)) ?_
      · intro w hSw
        obtain ⟨s0, s1, s2, s3, s4, s5, s6, s7, s8, s9⟩ := hSw
        first
          | rfl
          | (go_simp; done)
      try simp only [Act.put, List.setIfInBounds_toArray, List.set_cons_zero, List.set_cons_succ]
      refine wpAnyT_take (i := 29) (oi := { dst := some 90, op := Op.move (Operand.tmp 89), type := 4, pos := "law.go:91", after := #[{ on := 28, ground := Ground.data }, { on := 26, ground := Ground.chain }], guard := none }) (v := .bool true) rfl (by kernel_rfl) (by kernel_rfl) (by kernel_rfl) (by kernel_rfl) (fun _ _ _ h => h) (Or.inl ⟨by rfl, ?_⟩) (unhide HS5 _ (unhide HB26)) ?_
      · intro w hSw
        obtain ⟨s0, s1, s2, s3, s4, s5, s6, s7, s8, s9⟩ := hSw
        first
          | rfl
          | (go_simp; done)
      try simp only [Act.put, List.setIfInBounds_toArray, List.set_cons_zero, List.set_cons_succ]
      refine wpAnyT_take (i := 30) (oi := { dst := some 91, op := Op.load 24 (Operand.tmp 3), type := 24, pos := "law.go:91", after := #[{ on := 29, ground := Ground.guard }], guard := some (29, true) }) (v := .agg #[.int .i64 la, .int .u32 ca]) rfl (by kernel_rfl) (by kernel_rfl) (by kernel_rfl) (by kernel_rfl) (fun _ _ _ h => h) (Or.inl ⟨by rfl, ?_⟩) (unhide HS5 _ (unhide HB26)) ?_
      · intro w hSw
        obtain ⟨s0, s1, s2, s3, s4, s5, s6, s7, s8, s9⟩ := hSw
        first
          | rfl
          | (go_simp; done)
      try simp only [Act.put, List.setIfInBounds_toArray, List.set_cons_zero, List.set_cons_succ]
      refine wpAnyT_take (i := 31) (oi := { dst := some 92, op := Op.load 24 (Operand.tmp 8), type := 24, pos := "law.go:91", after := #[{ on := 29, ground := Ground.guard }], guard := some (29, true) }) (v := .agg #[.int .i64 mL, .int .u32 mC]) rfl (by kernel_rfl) (by kernel_rfl) (by kernel_rfl) (by kernel_rfl) (fun _ _ _ h => h) (Or.inl ⟨by rfl, ?_⟩) (unhide HS5 _ (unhide HB26)) ?_
      · intro w hSw
        obtain ⟨s0, s1, s2, s3, s4, s5, s6, s7, s8, s9⟩ := hSw
        first
          | rfl
          | (go_simp; done)
      try simp only [Act.put, List.setIfInBounds_toArray, List.set_cons_zero, List.set_cons_succ]
      refine wpAnyT_take (i := 34) (oi := { dst := some 95, op := Op.load 24 (Operand.tmp 3), type := 24, pos := "law.go:91", after := #[{ on := 29, ground := Ground.guard }], guard := some (29, true) }) (v := .agg #[.int .i64 la, .int .u32 ca]) rfl (by kernel_rfl) (by kernel_rfl) (by kernel_rfl) (by kernel_rfl) (fun _ _ _ h => h) (Or.inl ⟨by rfl, ?_⟩) (unhide HS5 _ (unhide HB26)) ?_
      · intro w hSw
        obtain ⟨s0, s1, s2, s3, s4, s5, s6, s7, s8, s9⟩ := hSw
        first
          | rfl
          | (go_simp; done)
      try simp only [Act.put, List.setIfInBounds_toArray, List.set_cons_zero, List.set_cons_succ]
      refine wpAnyT_one (i := 32) (o := { dst := some 93, op := Op.buildSlice 30 2 #[(0, Operand.tmp 91), (1, Operand.tmp 92)], type := 30, pos := "law.go:91", after := #[{ on := 30, ground := Ground.data }, { on := 31, ground := Ground.data }, { on := 29, ground := Ground.guard }], guard := some (29, true) }) (by kernel_rfl) rfl (fun K hK => ?_)
      go_simp
      have HR32 := hide (RowAt.new v26 24 [.int .i64 la, .int .u32 ca, .int .i64 mL, .int .u32 mC])
      have HB32 := hide ((unhide HB26).alloc (unhide HB26).size (.cells #[.int .i64 la, .int .u32 ca, .int .i64 mL, .int .u32 mC] 24))
      refine hK.out _ _ (fun _ => unhide HS5 _ (unhide HB32)) ?_
      clear hK K
      obtain ⟨y32, hy32⟩ : ∃ z, v26.alloc (.cells #[.int .i64 la, .int .u32 ca, .int .i64 mL, .int .u32 mC] 24) = z := ⟨_, rfl⟩
      rw [hy32] at HR32 HB32
      simp only [hy32]
      obtain ⟨p32, hp32⟩ : ∃ z, v26.heap.size = z := ⟨_, rfl⟩
      rw [hp32] at HR32
      simp only [hp32]
      clear hy32 hp32
      try simp only [Act.put, List.setIfInBounds_toArray, List.set_cons_zero, List.set_cons_succ]
      refine wpAnyT_one (i := 33) (o := { dst := some 94, op := Op.call { callee := Callee.value (Operand.func 8), args := #[Operand.tmp 93], argTypes := #[30] }, type := 24, pos := "law.go:91", after := #[{ on := 32, ground := Ground.data }, { on := 29, ground := Ground.chain }, { on := 29, ground := Ground.guard }], guard := some (29, true) }) (by kernel_rfl) rfl (fun K hK => ?_)
      go_simp
      refine Calls.mono (unhide HX1 _ _ (unhide HR32)) ?_
      rintro e v33 ⟨rfl, hb33⟩
      have HB33 := hide ((unhide HB32).trans (hb33.mono (unhide HB32).size))
      have HR32 := hide ((unhide HR32).below hb33 (unhide HR32).lt)
      clear hb33
      go_wp2_with fail
      refine hK.out _ _ (fun _ => unhide HS5 _ (unhide HB33)) ?_
      clear hK K
      try simp only [Act.put, List.setIfInBounds_toArray, List.set_cons_zero, List.set_cons_succ]
      refine wpAnyT_take (i := 35) (oi := { dst := some 96, op := Op.binOp BinOp.eql 24 (Operand.tmp 94) (Operand.tmp 95) 24, type := 4, pos := "law.go:91", after := #[{ on := 33, ground := Ground.data }, { on := 34, ground := Ground.data }, { on := 29, ground := Ground.guard }], guard := some (29, true) }) (v := .bool true) rfl (by kernel_rfl) (by kernel_rfl) (by kernel_rfl) (by kernel_rfl) (fun _ _ _ h => h) (Or.inl ⟨by rfl, ?_⟩) (unhide HS5 _ (unhide HB33)) ?_
      · intro w hSw
        obtain ⟨s0, s1, s2, s3, s4, s5, s6, s7, s8, s9⟩ := hSw
        go_simp
        try rfl
        try trivial
      try simp only [Act.put, List.setIfInBounds_toArray, List.set_cons_zero, List.set_cons_succ]
      refine wpAnyT_take (i := 36) (oi := { dst := some 97, op := Op.pick (Operand.tmp 90) (Operand.tmp 96) (Operand.const (Value.bool false)), type := 4, pos := "law.go:91", after := #[{ on := 29, ground := Ground.data }, { on := 35, ground := Ground.data }], guard := none }) (v := .bool true) rfl (by kernel_rfl) (by kernel_rfl) (by kernel_rfl) (by kernel_rfl) (fun _ _ _ h => h) (Or.inl ⟨by rfl, ?_⟩) (unhide HS5 _ (unhide HB33)) ?_
      · intro w hSw
        obtain ⟨s0, s1, s2, s3, s4, s5, s6, s7, s8, s9⟩ := hSw
        first
          | rfl
          | (go_simp; done)
      try simp only [Act.put, List.setIfInBounds_toArray, List.set_cons_zero, List.set_cons_succ]
      refine wpAnyT_take (i := 37) (oi := { dst := some 98, op := Op.move (Operand.tmp 97), type := 4, pos := "law.go:91", after := #[{ on := 36, ground := Ground.data }, { on := 33, ground := Ground.chain }], guard := none }) (v := .bool true) rfl (by kernel_rfl) (by kernel_rfl) (by kernel_rfl) (by kernel_rfl) (fun _ _ _ h => h) (Or.inl ⟨by rfl, ?_⟩) (unhide HS5 _ (unhide HB33)) ?_
      · intro w hSw
        obtain ⟨s0, s1, s2, s3, s4, s5, s6, s7, s8, s9⟩ := hSw
        first
          | rfl
          | (go_simp; done)
      try simp only [Act.put, List.setIfInBounds_toArray, List.set_cons_zero, List.set_cons_succ]
      refine wpAnyT_take (i := 38) (oi := { dst := some 99, op := Op.load 24 (Operand.tmp 3), type := 24, pos := "law.go:91", after := #[{ on := 37, ground := Ground.guard }], guard := some (37, true) }) (v := .agg #[.int .i64 la, .int .u32 ca]) rfl (by kernel_rfl) (by kernel_rfl) (by kernel_rfl) (by kernel_rfl) (fun _ _ _ h => h) (Or.inl ⟨by rfl, ?_⟩) (unhide HS5 _ (unhide HB33)) ?_
      · intro w hSw
        obtain ⟨s0, s1, s2, s3, s4, s5, s6, s7, s8, s9⟩ := hSw
        first
          | rfl
          | (go_simp; done)
      try simp only [Act.put, List.setIfInBounds_toArray, List.set_cons_zero, List.set_cons_succ]
      refine wpAnyT_take (i := 39) (oi := { dst := some 100, op := Op.load 24 (Operand.tmp 7), type := 24, pos := "law.go:91", after := #[{ on := 37, ground := Ground.guard }], guard := some (37, true) }) (v := .agg #[.int .i64 jL, .int .u32 jC]) rfl (by kernel_rfl) (by kernel_rfl) (by kernel_rfl) (by kernel_rfl) (fun _ _ _ h => h) (Or.inl ⟨by rfl, ?_⟩) (unhide HS5 _ (unhide HB33)) ?_
      · intro w hSw
        obtain ⟨s0, s1, s2, s3, s4, s5, s6, s7, s8, s9⟩ := hSw
        first
          | rfl
          | (go_simp; done)
      try simp only [Act.put, List.setIfInBounds_toArray, List.set_cons_zero, List.set_cons_succ]
      refine wpAnyT_take (i := 42) (oi := { dst := some 103, op := Op.load 24 (Operand.tmp 3), type := 24, pos := "law.go:91", after := #[{ on := 37, ground := Ground.guard }], guard := some (37, true) }) (v := .agg #[.int .i64 la, .int .u32 ca]) rfl (by kernel_rfl) (by kernel_rfl) (by kernel_rfl) (by kernel_rfl) (fun _ _ _ h => h) (Or.inl ⟨by rfl, ?_⟩) (unhide HS5 _ (unhide HB33)) ?_
      · intro w hSw
        obtain ⟨s0, s1, s2, s3, s4, s5, s6, s7, s8, s9⟩ := hSw
        first
          | rfl
          | (go_simp; done)
      try simp only [Act.put, List.setIfInBounds_toArray, List.set_cons_zero, List.set_cons_succ]
      refine wpAnyT_one (i := 40) (o := { dst := some 101, op := Op.buildSlice 30 2 #[(0, Operand.tmp 99), (1, Operand.tmp 100)], type := 30, pos := "law.go:91", after := #[{ on := 38, ground := Ground.data }, { on := 39, ground := Ground.data }, { on := 37, ground := Ground.guard }], guard := some (37, true) }) (by kernel_rfl) rfl (fun K hK => ?_)
      go_simp
      have HR40 := hide (RowAt.new v33 24 [.int .i64 la, .int .u32 ca, .int .i64 jL, .int .u32 jC])
      have HB40 := hide ((unhide HB33).alloc (unhide HB33).size (.cells #[.int .i64 la, .int .u32 ca, .int .i64 jL, .int .u32 jC] 24))
      refine hK.out _ _ (fun _ => unhide HS5 _ (unhide HB40)) ?_
      clear hK K
      obtain ⟨y40, hy40⟩ : ∃ z, v33.alloc (.cells #[.int .i64 la, .int .u32 ca, .int .i64 jL, .int .u32 jC] 24) = z := ⟨_, rfl⟩
      rw [hy40] at HR40 HB40
      simp only [hy40]
      obtain ⟨p40, hp40⟩ : ∃ z, v33.heap.size = z := ⟨_, rfl⟩
      rw [hp40] at HR40
      simp only [hp40]
      clear hy40 hp40
      try simp only [Act.put, List.setIfInBounds_toArray, List.set_cons_zero, List.set_cons_succ]
      refine wpAnyT_one (i := 41) (o := { dst := some 102, op := Op.call { callee := Callee.value (Operand.func 9), args := #[Operand.tmp 101], argTypes := #[30] }, type := 24, pos := "law.go:91", after := #[{ on := 40, ground := Ground.data }, { on := 37, ground := Ground.chain }, { on := 37, ground := Ground.guard }], guard := some (37, true) }) (by kernel_rfl) rfl (fun K hK => ?_)
      go_simp
      refine Calls.mono (unhide HX2 _ _ (unhide HR40)) ?_
      rintro e v41 ⟨rfl, hb41⟩
      have HB41 := hide ((unhide HB40).trans (hb41.mono (unhide HB40).size))
      have HR40 := hide ((unhide HR40).below hb41 (unhide HR40).lt)
      clear hb41
      go_wp2_with fail
      refine hK.out _ _ (fun _ => unhide HS5 _ (unhide HB41)) ?_
      clear hK K
      try simp only [Act.put, List.setIfInBounds_toArray, List.set_cons_zero, List.set_cons_succ]
      refine wpAnyT_take (i := 43) (oi := { dst := some 104, op := Op.binOp BinOp.eql 24 (Operand.tmp 102) (Operand.tmp 103) 24, type := 4, pos := "law.go:91", after := #[{ on := 41, ground := Ground.data }, { on := 42, ground := Ground.data }, { on := 37, ground := Ground.guard }], guard := some (37, true) }) (v := .bool true) rfl (by kernel_rfl) (by kernel_rfl) (by kernel_rfl) (by kernel_rfl) (fun _ _ _ h => h) (Or.inl ⟨by rfl, ?_⟩) (unhide HS5 _ (unhide HB41)) ?_
      · intro w hSw
        obtain ⟨s0, s1, s2, s3, s4, s5, s6, s7, s8, s9⟩ := hSw
        go_simp
        try rfl
        try trivial
      try simp only [Act.put, List.setIfInBounds_toArray, List.set_cons_zero, List.set_cons_succ]
      refine wpAnyT_take (i := 44) (oi := { dst := some 105, op := Op.pick (Operand.tmp 98) (Operand.tmp 104) (Operand.const (Value.bool false)), type := 4, pos := "law.go:91", after := #[{ on := 37, ground := Ground.data }, { on := 43, ground := Ground.data }], guard := none }) (v := .bool true) rfl (by kernel_rfl) (by kernel_rfl) (by kernel_rfl) (by kernel_rfl) (fun _ _ _ h => h) (Or.inl ⟨by rfl, ?_⟩) (unhide HS5 _ (unhide HB41)) ?_
      · intro w hSw
        obtain ⟨s0, s1, s2, s3, s4, s5, s6, s7, s8, s9⟩ := hSw
        first
          | rfl
          | (go_simp; done)
      try simp only [Act.put, List.setIfInBounds_toArray, List.set_cons_zero, List.set_cons_succ]
      refine wpAnyT_take (i := 45) (oi := { dst := some 106, op := Op.move (Operand.tmp 105), type := 4, pos := "law.go:91", after := #[{ on := 44, ground := Ground.data }, { on := 41, ground := Ground.chain }], guard := none }) (v := .bool true) rfl (by kernel_rfl) (by kernel_rfl) (by kernel_rfl) (by kernel_rfl) (fun _ _ _ h => h) (Or.inl ⟨by rfl, ?_⟩) (unhide HS5 _ (unhide HB41)) ?_
      · intro w hSw
        obtain ⟨s0, s1, s2, s3, s4, s5, s6, s7, s8, s9⟩ := hSw
        first
          | rfl
          | (go_simp; done)
      try simp only [Act.put, List.setIfInBounds_toArray, List.set_cons_zero, List.set_cons_succ]
      refine wpAnyT_one (i := 46) (o := { dst := some 107, op := Op.call { callee := Callee.value (Operand.func 11), args := #[], argTypes := #[] }, type := 4, pos := "law.go:91", after := #[{ on := 45, ground := Ground.chain }, { on := 45, ground := Ground.guard }], guard := some (45, true) }) (by kernel_rfl) rfl (fun K hK => ?_)
      go_simp
      refine Calls.mono (awake_any _) ?_
      rintro e v46 ⟨rfl, hb46⟩
      have HB46 := hide ((unhide HB41).trans (hb46.mono (unhide HB41).size))
      clear hb46
      go_wp2_with fail
      refine hK.out _ _ (fun _ => unhide HS5 _ (unhide HB46)) ?_
      clear hK K
      try simp only [Act.put, List.setIfInBounds_toArray, List.set_cons_zero, List.set_cons_succ]
      refine wpAnyT_take (i := 47) (oi := { dst := some 108, op := Op.pick (Operand.tmp 106) (Operand.tmp 107) (Operand.const (Value.bool false)), type := 4, pos := "law.go:91", after := #[{ on := 45, ground := Ground.data }, { on := 46, ground := Ground.data }], guard := none }) (v := .bool true) rfl (by kernel_rfl) (by kernel_rfl) (by kernel_rfl) (by kernel_rfl) (fun _ _ _ h => h) (Or.inl ⟨by rfl, ?_⟩) (unhide HS5 _ (unhide HB46)) ?_
      · intro w hSw
        obtain ⟨s0, s1, s2, s3, s4, s5, s6, s7, s8, s9⟩ := hSw
        first
          | rfl
          | (go_simp; done)
      try simp only [Act.put, List.setIfInBounds_toArray, List.set_cons_zero, List.set_cons_succ]
      refine wpAnyT_take (i := 48) (oi := { dst := some 6, op := Op.assign (Operand.tmp 108), type := 4, pos := "law.go:91", after := #[{ on := 47, ground := Ground.data }, { on := 46, ground := Ground.chain }, { on := 0, ground := Ground.phase }, { on := 1, ground := Ground.phase }, { on := 2, ground := Ground.phase }, { on := 3, ground := Ground.phase }, { on := 4, ground := Ground.phase }, { on := 5, ground := Ground.phase }, { on := 6, ground := Ground.phase }, { on := 7, ground := Ground.phase }, { on := 8, ground := Ground.phase }, { on := 9, ground := Ground.phase }, { on := 10, ground := Ground.phase }, { on := 11, ground := Ground.phase }, { on := 12, ground := Ground.phase }, { on := 13, ground := Ground.phase }, { on := 14, ground := Ground.phase }, { on := 15, ground := Ground.phase }, { on := 16, ground := Ground.phase }, { on := 17, ground := Ground.phase }, { on := 18, ground := Ground.phase }, { on := 19, ground := Ground.phase }, { on := 20, ground := Ground.phase }, { on := 21, ground := Ground.phase }, { on := 22, ground := Ground.phase }, { on := 23, ground := Ground.phase }, { on := 24, ground := Ground.phase }, { on := 25, ground := Ground.phase }, { on := 26, ground := Ground.phase }, { on := 27, ground := Ground.phase }, { on := 28, ground := Ground.phase }, { on := 29, ground := Ground.phase }, { on := 30, ground := Ground.phase }, { on := 31, ground := Ground.phase }, { on := 32, ground := Ground.phase }, { on := 33, ground := Ground.phase }, { on := 34, ground := Ground.phase }, { on := 35, ground := Ground.phase }, { on := 36, ground := Ground.phase }, { on := 37, ground := Ground.phase }, { on := 38, ground := Ground.phase }, { on := 39, ground := Ground.phase }, { on := 40, ground := Ground.phase }, { on := 41, ground := Ground.phase }, { on := 42, ground := Ground.phase }, { on := 43, ground := Ground.phase }, { on := 44, ground := Ground.phase }, { on := 45, ground := Ground.phase }, { on := 46, ground := Ground.phase }, { on := 47, ground := Ground.phase }], guard := none }) (v := .bool true) rfl (by kernel_rfl) (by kernel_rfl) (by kernel_rfl) (by kernel_rfl) (fun _ _ _ h => h) (Or.inl ⟨by rfl, ?_⟩) (unhide HS5 _ (unhide HB46)) ?_
      · intro w hSw
        obtain ⟨s0, s1, s2, s3, s4, s5, s6, s7, s8, s9⟩ := hSw
        first
          | rfl
          | (go_simp; done)
      try simp only [Act.put, List.setIfInBounds_toArray, List.set_cons_zero, List.set_cons_succ]
      refine wpAnyT_done (by kernel_rfl) ?_ _
      go_wp2_with fail
      go_ret
      exact ⟨rfl, (unhide HBB).trans ((unhide HB46).mono (unhide HBB).size)⟩
  · go_simp
    have HR23 := hide (RowAt.new v12 24 [.int .i64 lb, .int .u32 cb, .int .i64 lc, .int .u32 cc])
    have HB23 := hide ((unhide HB12).alloc (unhide HB12).size (.cells #[.int .i64 lb, .int .u32 cb, .int .i64 lc, .int .u32 cc] 24))
    refine hK.out _ _ (fun _ => unhide HS5 _ (unhide HB23)) ?_
    clear hK K
    obtain ⟨y23, hy23⟩ : ∃ z, v12.alloc (.cells #[.int .i64 lb, .int .u32 cb, .int .i64 lc, .int .u32 cc] 24) = z := ⟨_, rfl⟩
    rw [hy23] at HR23 HB23
    simp only [hy23]
    obtain ⟨p23, hp23⟩ : ∃ z, v12.heap.size = z := ⟨_, rfl⟩
    rw [hp23] at HR23
    simp only [hp23]
    clear hy23 hp23
    try simp only [Act.put, List.setIfInBounds_toArray, List.set_cons_zero, List.set_cons_succ]
    refine wpAnyT_one (i := 18) (o := { dst := some 79, op := Op.buildSlice 30 2 #[(0, Operand.tmp 77), (1, Operand.tmp 78)], type := 30, pos := "law.go:91", after := #[{ on := 16, ground := Ground.data }, { on := 17, ground := Ground.data }, { on := 15, ground := Ground.guard }], guard := some (15, true) }) (by kernel_rfl) rfl (fun K hK => ?_)
    have HR23 := hide ((unhide HR23).below ((Below.refl y23.heap.size y23).alloc (Nat.le_refl _) (.cells #[.int .i64 mL, .int .u32 mC, .int .i64 lc, .int .u32 cc] 24)) (unhide HR23).lt)
    go_simp
    have HR18 := hide (RowAt.new y23 24 [.int .i64 mL, .int .u32 mC, .int .i64 lc, .int .u32 cc])
    have HB18 := hide ((unhide HB23).alloc (unhide HB23).size (.cells #[.int .i64 mL, .int .u32 mC, .int .i64 lc, .int .u32 cc] 24))
    refine hK.out _ _ (fun _ => unhide HS5 _ (unhide HB18)) ?_
    clear hK K
    obtain ⟨y18, hy18⟩ : ∃ z, y23.alloc (.cells #[.int .i64 mL, .int .u32 mC, .int .i64 lc, .int .u32 cc] 24) = z := ⟨_, rfl⟩
    rw [hy18] at HR18 HB18 HR23
    simp only [hy18]
    obtain ⟨p18, hp18⟩ : ∃ z, y23.heap.size = z := ⟨_, rfl⟩
    rw [hp18] at HR18
    simp only [hp18]
    clear hy18 hp18
    try simp only [Act.put, List.setIfInBounds_toArray, List.set_cons_zero, List.set_cons_succ]
    refine wpAnyT_one (i := 19) (o := { dst := some 80, op := Op.call { callee := Callee.value (Operand.func 9), args := #[Operand.tmp 79], argTypes := #[30] }, type := 24, pos := "law.go:91", after := #[{ on := 18, ground := Ground.data }, { on := 15, ground := Ground.chain }, { on := 15, ground := Ground.guard }], guard := some (15, true) }) (by kernel_rfl) rfl (fun K hK => ?_)
    go_simp
    refine Calls.mono (unhide HM3 _ _ (unhide HR18)) ?_
    rintro e v19 ⟨rfl, hb19⟩
    have HB19 := hide ((unhide HB18).trans (hb19.mono (unhide HB18).size))
    have HR23 := hide ((unhide HR23).below hb19 (unhide HR23).lt)
    have HR18 := hide ((unhide HR18).below hb19 (unhide HR18).lt)
    clear hb19
    go_wp2_with fail
    refine hK.out _ _ (fun _ => unhide HS5 _ (unhide HB19)) ?_
    clear hK K
    try simp only [Act.put, List.setIfInBounds_toArray, List.set_cons_zero, List.set_cons_succ]
    refine wpAnyT_one (i := 24) (o := { dst := some 85, op := Op.call { callee := Callee.value (Operand.func 9), args := #[Operand.tmp 84], argTypes := #[30] }, type := 24, pos := "law.go:91", after := #[{ on := 23, ground := Ground.data }, { on := 19, ground := Ground.chain }, { on := 15, ground := Ground.guard }], guard := some (15, true) }) (by kernel_rfl) rfl (fun K hK => ?_)
    go_simp
    refine Calls.mono (unhide HM4 _ _ (unhide HR23)) ?_
    rintro e v24 ⟨rfl, hb24⟩
    have HB24 := hide ((unhide HB19).trans (hb24.mono (unhide HB19).size))
    have HR23 := hide ((unhide HR23).below hb24 (unhide HR23).lt)
    have HR18 := hide ((unhide HR18).below hb24 (unhide HR18).lt)
    clear hb24
    go_wp2_with fail
    refine hK.out _ _ (fun _ => unhide HS5 _ (unhide HB24)) ?_
    clear hK K
    try simp only [Act.put, List.setIfInBounds_toArray, List.set_cons_zero, List.set_cons_succ]
    refine wpAnyT_one (i := 25) (o := { dst := some 86, op := Op.buildSlice 30 2 #[(0, Operand.tmp 81), (1, Operand.tmp 85)], type := 30, pos := "law.go:91", after := #[{ on := 20, ground := Ground.data }, { on := 24, ground := Ground.data }, { on := 15, ground := Ground.guard }], guard := some (15, true) }) (by kernel_rfl) rfl (fun K hK => ?_)
    have HR23 := hide ((unhide HR23).below ((Below.refl v24.heap.size v24).alloc (Nat.le_refl _) (.cells #[.int .i64 la, .int .u32 ca, .int .i64 qL, .int .u32 qC] 24)) (unhide HR23).lt)
    have HR18 := hide ((unhide HR18).below ((Below.refl v24.heap.size v24).alloc (Nat.le_refl _) (.cells #[.int .i64 la, .int .u32 ca, .int .i64 qL, .int .u32 qC] 24)) (unhide HR18).lt)
    go_simp
    have HR25 := hide (RowAt.new v24 24 [.int .i64 la, .int .u32 ca, .int .i64 qL, .int .u32 qC])
    have HB25 := hide ((unhide HB24).alloc (unhide HB24).size (.cells #[.int .i64 la, .int .u32 ca, .int .i64 qL, .int .u32 qC] 24))
    refine hK.out _ _ (fun _ => unhide HS5 _ (unhide HB25)) ?_
    clear hK K
    obtain ⟨y25, hy25⟩ : ∃ z, v24.alloc (.cells #[.int .i64 la, .int .u32 ca, .int .i64 qL, .int .u32 qC] 24) = z := ⟨_, rfl⟩
    rw [hy25] at HR25 HB25 HR23 HR18
    simp only [hy25]
    obtain ⟨p25, hp25⟩ : ∃ z, v24.heap.size = z := ⟨_, rfl⟩
    rw [hp25] at HR25
    simp only [hp25]
    clear hy25 hp25
    try simp only [Act.put, List.setIfInBounds_toArray, List.set_cons_zero, List.set_cons_succ]
    refine wpAnyT_one (i := 26) (o := { dst := some 87, op := Op.call { callee := Callee.value (Operand.func 9), args := #[Operand.tmp 86], argTypes := #[30] }, type := 24, pos := "law.go:91", after := #[{ on := 25, ground := Ground.data }, { on := 24, ground := Ground.chain }, { on := 15, ground := Ground.guard }], guard := some (15, true) }) (by kernel_rfl) rfl (fun K hK => ?_)
    go_simp
    refine Calls.mono (unhide HM5 _ _ (unhide HR25)) ?_
    rintro e v26 ⟨rfl, hb26⟩
    have HB26 := hide ((unhide HB25).trans (hb26.mono (unhide HB25).size))
    have HR23 := hide ((unhide HR23).below hb26 (unhide HR23).lt)
    have HR18 := hide ((unhide HR18).below hb26 (unhide HR18).lt)
    have HR25 := hide ((unhide HR25).below hb26 (unhide HR25).lt)
    clear hb26
    go_wp2_with fail
    refine hK.out _ _ (fun _ => unhide HS5 _ (unhide HB26)) ?_
    clear hK K
    try simp only [Act.put, List.setIfInBounds_toArray, List.set_cons_zero, List.set_cons_succ]
    refine wpAnyT_take (i := 27) (oi := { dst := some 88, op := Op.binOp BinOp.eql 24 (Operand.tmp 80) (Operand.tmp 87) 24, type := 4, pos := "law.go:91", after := #[{ on := 19, ground := Ground.data }, { on := 26, ground := Ground.data }, { on := 15, ground := Ground.guard }], guard := some (15, true) }) (v := .bool true) rfl (by kernel_rfl) (by kernel_rfl) (by kernel_rfl) (by kernel_rfl) (fun _ _ _ h => h) (Or.inl ⟨by rfl, ?_⟩) (unhide HS5 _ (unhide HB26)) ?_
    · intro w hSw
      obtain ⟨s0, s1, s2, s3, s4, s5, s6, s7, s8, s9⟩ := hSw
      go_simp
      try rfl
      try trivial
    try simp only [Act.put, List.setIfInBounds_toArray, List.set_cons_zero, List.set_cons_succ]
    refine wpAnyT_take (i := 28) (oi := { dst := some 89, op := Op.pick (Operand.tmp 76) (Operand.tmp 88) (Operand.const (Value.bool false)), type := 4, pos := "law.go:91", after := #[{ on := 15, ground := Ground.data }, { on := 27, ground := Ground.data }], guard := none }) (v := .bool true) rfl (by kernel_rfl) (by kernel_rfl) (by kernel_rfl) (by kernel_rfl) (fun _ _ _ h => h) (Or.inl ⟨by rfl, ?_⟩) (unhide HS5 _ (unhide HB26)) ?_
    · intro w hSw
      obtain ⟨s0, s1, s2, s3, s4, s5, s6, s7, s8, s9⟩ := hSw
      first
        | rfl
        | (go_simp; done)
    try simp only [Act.put, List.setIfInBounds_toArray, List.set_cons_zero, List.set_cons_succ]
    refine wpAnyT_take (i := 29) (oi := { dst := some 90, op := Op.move (Operand.tmp 89), type := 4, pos := "law.go:91", after := #[{ on := 28, ground := Ground.data }, { on := 26, ground := Ground.chain }], guard := none }) (v := .bool true) rfl (by kernel_rfl) (by kernel_rfl) (by kernel_rfl) (by kernel_rfl) (fun _ _ _ h => h) (Or.inl ⟨by rfl, ?_⟩) (unhide HS5 _ (unhide HB26)) ?_
    · intro w hSw
      obtain ⟨s0, s1, s2, s3, s4, s5, s6, s7, s8, s9⟩ := hSw
      first
        | rfl
        | (go_simp; done)
    try simp only [Act.put, List.setIfInBounds_toArray, List.set_cons_zero, List.set_cons_succ]
    refine wpAnyT_take (i := 30) (oi := { dst := some 91, op := Op.load 24 (Operand.tmp 3), type := 24, pos := "law.go:91", after := #[{ on := 29, ground := Ground.guard }], guard := some (29, true) }) (v := .agg #[.int .i64 la, .int .u32 ca]) rfl (by kernel_rfl) (by kernel_rfl) (by kernel_rfl) (by kernel_rfl) (fun _ _ _ h => h) (Or.inl ⟨by rfl, ?_⟩) (unhide HS5 _ (unhide HB26)) ?_
    · intro w hSw
      obtain ⟨s0, s1, s2, s3, s4, s5, s6, s7, s8, s9⟩ := hSw
      first
        | rfl
        | (go_simp; done)
    try simp only [Act.put, List.setIfInBounds_toArray, List.set_cons_zero, List.set_cons_succ]
    refine wpAnyT_take (i := 31) (oi := { dst := some 92, op := Op.load 24 (Operand.tmp 8), type := 24, pos := "law.go:91", after := #[{ on := 29, ground := Ground.guard }], guard := some (29, true) }) (v := .agg #[.int .i64 mL, .int .u32 mC]) rfl (by kernel_rfl) (by kernel_rfl) (by kernel_rfl) (by kernel_rfl) (fun _ _ _ h => h) (Or.inl ⟨by rfl, ?_⟩) (unhide HS5 _ (unhide HB26)) ?_
    · intro w hSw
      obtain ⟨s0, s1, s2, s3, s4, s5, s6, s7, s8, s9⟩ := hSw
      first
        | rfl
        | (go_simp; done)
    try simp only [Act.put, List.setIfInBounds_toArray, List.set_cons_zero, List.set_cons_succ]
    refine wpAnyT_take (i := 34) (oi := { dst := some 95, op := Op.load 24 (Operand.tmp 3), type := 24, pos := "law.go:91", after := #[{ on := 29, ground := Ground.guard }], guard := some (29, true) }) (v := .agg #[.int .i64 la, .int .u32 ca]) rfl (by kernel_rfl) (by kernel_rfl) (by kernel_rfl) (by kernel_rfl) (fun _ _ _ h => h) (Or.inl ⟨by rfl, ?_⟩) (unhide HS5 _ (unhide HB26)) ?_
    · intro w hSw
      obtain ⟨s0, s1, s2, s3, s4, s5, s6, s7, s8, s9⟩ := hSw
      first
        | rfl
        | (go_simp; done)
    try simp only [Act.put, List.setIfInBounds_toArray, List.set_cons_zero, List.set_cons_succ]
    refine wpAnyT_one (i := 32) (o := { dst := some 93, op := Op.buildSlice 30 2 #[(0, Operand.tmp 91), (1, Operand.tmp 92)], type := 30, pos := "law.go:91", after := #[{ on := 30, ground := Ground.data }, { on := 31, ground := Ground.data }, { on := 29, ground := Ground.guard }], guard := some (29, true) }) (by kernel_rfl) rfl (fun K hK => ?_)
    go_simp
    have HR32 := hide (RowAt.new v26 24 [.int .i64 la, .int .u32 ca, .int .i64 mL, .int .u32 mC])
    have HB32 := hide ((unhide HB26).alloc (unhide HB26).size (.cells #[.int .i64 la, .int .u32 ca, .int .i64 mL, .int .u32 mC] 24))
    refine hK.out _ _ (fun _ => unhide HS5 _ (unhide HB32)) ?_
    clear hK K
    obtain ⟨y32, hy32⟩ : ∃ z, v26.alloc (.cells #[.int .i64 la, .int .u32 ca, .int .i64 mL, .int .u32 mC] 24) = z := ⟨_, rfl⟩
    rw [hy32] at HR32 HB32
    simp only [hy32]
    obtain ⟨p32, hp32⟩ : ∃ z, v26.heap.size = z := ⟨_, rfl⟩
    rw [hp32] at HR32
    simp only [hp32]
    clear hy32 hp32
    try simp only [Act.put, List.setIfInBounds_toArray, List.set_cons_zero, List.set_cons_succ]
    refine wpAnyT_one (i := 33) (o := { dst := some 94, op := Op.call { callee := Callee.value (Operand.func 8), args := #[Operand.tmp 93], argTypes := #[30] }, type := 24, pos := "law.go:91", after := #[{ on := 32, ground := Ground.data }, { on := 29, ground := Ground.chain }, { on := 29, ground := Ground.guard }], guard := some (29, true) }) (by kernel_rfl) rfl (fun K hK => ?_)
    go_simp
    refine Calls.mono (unhide HX1 _ _ (unhide HR32)) ?_
    rintro e v33 ⟨rfl, hb33⟩
    have HB33 := hide ((unhide HB32).trans (hb33.mono (unhide HB32).size))
    have HR32 := hide ((unhide HR32).below hb33 (unhide HR32).lt)
    clear hb33
    go_wp2_with fail
    refine hK.out _ _ (fun _ => unhide HS5 _ (unhide HB33)) ?_
    clear hK K
    try simp only [Act.put, List.setIfInBounds_toArray, List.set_cons_zero, List.set_cons_succ]
    refine wpAnyT_take (i := 35) (oi := { dst := some 96, op := Op.binOp BinOp.eql 24 (Operand.tmp 94) (Operand.tmp 95) 24, type := 4, pos := "law.go:91", after := #[{ on := 33, ground := Ground.data }, { on := 34, ground := Ground.data }, { on := 29, ground := Ground.guard }], guard := some (29, true) }) (v := .bool true) rfl (by kernel_rfl) (by kernel_rfl) (by kernel_rfl) (by kernel_rfl) (fun _ _ _ h => h) (Or.inl ⟨by rfl, ?_⟩) (unhide HS5 _ (unhide HB33)) ?_
    · intro w hSw
      obtain ⟨s0, s1, s2, s3, s4, s5, s6, s7, s8, s9⟩ := hSw
      go_simp
      try rfl
      try trivial
    try simp only [Act.put, List.setIfInBounds_toArray, List.set_cons_zero, List.set_cons_succ]
    refine wpAnyT_take (i := 36) (oi := { dst := some 97, op := Op.pick (Operand.tmp 90) (Operand.tmp 96) (Operand.const (Value.bool false)), type := 4, pos := "law.go:91", after := #[{ on := 29, ground := Ground.data }, { on := 35, ground := Ground.data }], guard := none }) (v := .bool true) rfl (by kernel_rfl) (by kernel_rfl) (by kernel_rfl) (by kernel_rfl) (fun _ _ _ h => h) (Or.inl ⟨by rfl, ?_⟩) (unhide HS5 _ (unhide HB33)) ?_
    · intro w hSw
      obtain ⟨s0, s1, s2, s3, s4, s5, s6, s7, s8, s9⟩ := hSw
      first
        | rfl
        | (go_simp; done)
    try simp only [Act.put, List.setIfInBounds_toArray, List.set_cons_zero, List.set_cons_succ]
    refine wpAnyT_take (i := 37) (oi := { dst := some 98, op := Op.move (Operand.tmp 97), type := 4, pos := "law.go:91", after := #[{ on := 36, ground := Ground.data }, { on := 33, ground := Ground.chain }], guard := none }) (v := .bool true) rfl (by kernel_rfl) (by kernel_rfl) (by kernel_rfl) (by kernel_rfl) (fun _ _ _ h => h) (Or.inl ⟨by rfl, ?_⟩) (unhide HS5 _ (unhide HB33)) ?_
    · intro w hSw
      obtain ⟨s0, s1, s2, s3, s4, s5, s6, s7, s8, s9⟩ := hSw
      first
        | rfl
        | (go_simp; done)
    try simp only [Act.put, List.setIfInBounds_toArray, List.set_cons_zero, List.set_cons_succ]
    refine wpAnyT_take (i := 38) (oi := { dst := some 99, op := Op.load 24 (Operand.tmp 3), type := 24, pos := "law.go:91", after := #[{ on := 37, ground := Ground.guard }], guard := some (37, true) }) (v := .agg #[.int .i64 la, .int .u32 ca]) rfl (by kernel_rfl) (by kernel_rfl) (by kernel_rfl) (by kernel_rfl) (fun _ _ _ h => h) (Or.inl ⟨by rfl, ?_⟩) (unhide HS5 _ (unhide HB33)) ?_
    · intro w hSw
      obtain ⟨s0, s1, s2, s3, s4, s5, s6, s7, s8, s9⟩ := hSw
      first
        | rfl
        | (go_simp; done)
    try simp only [Act.put, List.setIfInBounds_toArray, List.set_cons_zero, List.set_cons_succ]
    refine wpAnyT_take (i := 39) (oi := { dst := some 100, op := Op.load 24 (Operand.tmp 7), type := 24, pos := "law.go:91", after := #[{ on := 37, ground := Ground.guard }], guard := some (37, true) }) (v := .agg #[.int .i64 jL, .int .u32 jC]) rfl (by kernel_rfl) (by kernel_rfl) (by kernel_rfl) (by kernel_rfl) (fun _ _ _ h => h) (Or.inl ⟨by rfl, ?_⟩) (unhide HS5 _ (unhide HB33)) ?_
    · intro w hSw
      obtain ⟨s0, s1, s2, s3, s4, s5, s6, s7, s8, s9⟩ := hSw
      first
        | rfl
        | (go_simp; done)
    try simp only [Act.put, List.setIfInBounds_toArray, List.set_cons_zero, List.set_cons_succ]
    refine wpAnyT_take (i := 42) (oi := { dst := some 103, op := Op.load 24 (Operand.tmp 3), type := 24, pos := "law.go:91", after := #[{ on := 37, ground := Ground.guard }], guard := some (37, true) }) (v := .agg #[.int .i64 la, .int .u32 ca]) rfl (by kernel_rfl) (by kernel_rfl) (by kernel_rfl) (by kernel_rfl) (fun _ _ _ h => h) (Or.inl ⟨by rfl, ?_⟩) (unhide HS5 _ (unhide HB33)) ?_
    · intro w hSw
      obtain ⟨s0, s1, s2, s3, s4, s5, s6, s7, s8, s9⟩ := hSw
      first
        | rfl
        | (go_simp; done)
    try simp only [Act.put, List.setIfInBounds_toArray, List.set_cons_zero, List.set_cons_succ]
    refine wpAnyT_one (i := 40) (o := { dst := some 101, op := Op.buildSlice 30 2 #[(0, Operand.tmp 99), (1, Operand.tmp 100)], type := 30, pos := "law.go:91", after := #[{ on := 38, ground := Ground.data }, { on := 39, ground := Ground.data }, { on := 37, ground := Ground.guard }], guard := some (37, true) }) (by kernel_rfl) rfl (fun K hK => ?_)
    go_simp
    have HR40 := hide (RowAt.new v33 24 [.int .i64 la, .int .u32 ca, .int .i64 jL, .int .u32 jC])
    have HB40 := hide ((unhide HB33).alloc (unhide HB33).size (.cells #[.int .i64 la, .int .u32 ca, .int .i64 jL, .int .u32 jC] 24))
    refine hK.out _ _ (fun _ => unhide HS5 _ (unhide HB40)) ?_
    clear hK K
    obtain ⟨y40, hy40⟩ : ∃ z, v33.alloc (.cells #[.int .i64 la, .int .u32 ca, .int .i64 jL, .int .u32 jC] 24) = z := ⟨_, rfl⟩
    rw [hy40] at HR40 HB40
    simp only [hy40]
    obtain ⟨p40, hp40⟩ : ∃ z, v33.heap.size = z := ⟨_, rfl⟩
    rw [hp40] at HR40
    simp only [hp40]
    clear hy40 hp40
    try simp only [Act.put, List.setIfInBounds_toArray, List.set_cons_zero, List.set_cons_succ]
    refine wpAnyT_one (i := 41) (o := { dst := some 102, op := Op.call { callee := Callee.value (Operand.func 9), args := #[Operand.tmp 101], argTypes := #[30] }, type := 24, pos := "law.go:91", after := #[{ on := 40, ground := Ground.data }, { on := 37, ground := Ground.chain }, { on := 37, ground := Ground.guard }], guard := some (37, true) }) (by kernel_rfl) rfl (fun K hK => ?_)
    go_simp
    refine Calls.mono (unhide HX2 _ _ (unhide HR40)) ?_
    rintro e v41 ⟨rfl, hb41⟩
    have HB41 := hide ((unhide HB40).trans (hb41.mono (unhide HB40).size))
    have HR40 := hide ((unhide HR40).below hb41 (unhide HR40).lt)
    clear hb41
    go_wp2_with fail
    refine hK.out _ _ (fun _ => unhide HS5 _ (unhide HB41)) ?_
    clear hK K
    try simp only [Act.put, List.setIfInBounds_toArray, List.set_cons_zero, List.set_cons_succ]
    refine wpAnyT_take (i := 43) (oi := { dst := some 104, op := Op.binOp BinOp.eql 24 (Operand.tmp 102) (Operand.tmp 103) 24, type := 4, pos := "law.go:91", after := #[{ on := 41, ground := Ground.data }, { on := 42, ground := Ground.data }, { on := 37, ground := Ground.guard }], guard := some (37, true) }) (v := .bool true) rfl (by kernel_rfl) (by kernel_rfl) (by kernel_rfl) (by kernel_rfl) (fun _ _ _ h => h) (Or.inl ⟨by rfl, ?_⟩) (unhide HS5 _ (unhide HB41)) ?_
    · intro w hSw
      obtain ⟨s0, s1, s2, s3, s4, s5, s6, s7, s8, s9⟩ := hSw
      go_simp
      try rfl
      try trivial
    try simp only [Act.put, List.setIfInBounds_toArray, List.set_cons_zero, List.set_cons_succ]
    refine wpAnyT_take (i := 44) (oi := { dst := some 105, op := Op.pick (Operand.tmp 98) (Operand.tmp 104) (Operand.const (Value.bool false)), type := 4, pos := "law.go:91", after := #[{ on := 37, ground := Ground.data }, { on := 43, ground := Ground.data }], guard := none }) (v := .bool true) rfl (by kernel_rfl) (by kernel_rfl) (by kernel_rfl) (by kernel_rfl) (fun _ _ _ h => h) (Or.inl ⟨by rfl, ?_⟩) (unhide HS5 _ (unhide HB41)) ?_
    · intro w hSw
      obtain ⟨s0, s1, s2, s3, s4, s5, s6, s7, s8, s9⟩ := hSw
      first
        | rfl
        | (go_simp; done)
    try simp only [Act.put, List.setIfInBounds_toArray, List.set_cons_zero, List.set_cons_succ]
    refine wpAnyT_take (i := 45) (oi := { dst := some 106, op := Op.move (Operand.tmp 105), type := 4, pos := "law.go:91", after := #[{ on := 44, ground := Ground.data }, { on := 41, ground := Ground.chain }], guard := none }) (v := .bool true) rfl (by kernel_rfl) (by kernel_rfl) (by kernel_rfl) (by kernel_rfl) (fun _ _ _ h => h) (Or.inl ⟨by rfl, ?_⟩) (unhide HS5 _ (unhide HB41)) ?_
    · intro w hSw
      obtain ⟨s0, s1, s2, s3, s4, s5, s6, s7, s8, s9⟩ := hSw
      first
        | rfl
        | (go_simp; done)
    try simp only [Act.put, List.setIfInBounds_toArray, List.set_cons_zero, List.set_cons_succ]
    refine wpAnyT_one (i := 46) (o := { dst := some 107, op := Op.call { callee := Callee.value (Operand.func 11), args := #[], argTypes := #[] }, type := 4, pos := "law.go:91", after := #[{ on := 45, ground := Ground.chain }, { on := 45, ground := Ground.guard }], guard := some (45, true) }) (by kernel_rfl) rfl (fun K hK => ?_)
    go_simp
    refine Calls.mono (awake_any _) ?_
    rintro e v46 ⟨rfl, hb46⟩
    have HB46 := hide ((unhide HB41).trans (hb46.mono (unhide HB41).size))
    clear hb46
    go_wp2_with fail
    refine hK.out _ _ (fun _ => unhide HS5 _ (unhide HB46)) ?_
    clear hK K
    try simp only [Act.put, List.setIfInBounds_toArray, List.set_cons_zero, List.set_cons_succ]
    refine wpAnyT_take (i := 47) (oi := { dst := some 108, op := Op.pick (Operand.tmp 106) (Operand.tmp 107) (Operand.const (Value.bool false)), type := 4, pos := "law.go:91", after := #[{ on := 45, ground := Ground.data }, { on := 46, ground := Ground.data }], guard := none }) (v := .bool true) rfl (by kernel_rfl) (by kernel_rfl) (by kernel_rfl) (by kernel_rfl) (fun _ _ _ h => h) (Or.inl ⟨by rfl, ?_⟩) (unhide HS5 _ (unhide HB46)) ?_
    · intro w hSw
      obtain ⟨s0, s1, s2, s3, s4, s5, s6, s7, s8, s9⟩ := hSw
      first
        | rfl
        | (go_simp; done)
    try simp only [Act.put, List.setIfInBounds_toArray, List.set_cons_zero, List.set_cons_succ]
    refine wpAnyT_take (i := 48) (oi := { dst := some 6, op := Op.assign (Operand.tmp 108), type := 4, pos := "law.go:91", after := #[{ on := 47, ground := Ground.data }, { on := 46, ground := Ground.chain }, { on := 0, ground := Ground.phase }, { on := 1, ground := Ground.phase }, { on := 2, ground := Ground.phase }, { on := 3, ground := Ground.phase }, { on := 4, ground := Ground.phase }, { on := 5, ground := Ground.phase }, { on := 6, ground := Ground.phase }, { on := 7, ground := Ground.phase }, { on := 8, ground := Ground.phase }, { on := 9, ground := Ground.phase }, { on := 10, ground := Ground.phase }, { on := 11, ground := Ground.phase }, { on := 12, ground := Ground.phase }, { on := 13, ground := Ground.phase }, { on := 14, ground := Ground.phase }, { on := 15, ground := Ground.phase }, { on := 16, ground := Ground.phase }, { on := 17, ground := Ground.phase }, { on := 18, ground := Ground.phase }, { on := 19, ground := Ground.phase }, { on := 20, ground := Ground.phase }, { on := 21, ground := Ground.phase }, { on := 22, ground := Ground.phase }, { on := 23, ground := Ground.phase }, { on := 24, ground := Ground.phase }, { on := 25, ground := Ground.phase }, { on := 26, ground := Ground.phase }, { on := 27, ground := Ground.phase }, { on := 28, ground := Ground.phase }, { on := 29, ground := Ground.phase }, { on := 30, ground := Ground.phase }, { on := 31, ground := Ground.phase }, { on := 32, ground := Ground.phase }, { on := 33, ground := Ground.phase }, { on := 34, ground := Ground.phase }, { on := 35, ground := Ground.phase }, { on := 36, ground := Ground.phase }, { on := 37, ground := Ground.phase }, { on := 38, ground := Ground.phase }, { on := 39, ground := Ground.phase }, { on := 40, ground := Ground.phase }, { on := 41, ground := Ground.phase }, { on := 42, ground := Ground.phase }, { on := 43, ground := Ground.phase }, { on := 44, ground := Ground.phase }, { on := 45, ground := Ground.phase }, { on := 46, ground := Ground.phase }, { on := 47, ground := Ground.phase }], guard := none }) (v := .bool true) rfl (by kernel_rfl) (by kernel_rfl) (by kernel_rfl) (by kernel_rfl) (fun _ _ _ h => h) (Or.inl ⟨by rfl, ?_⟩) (unhide HS5 _ (unhide HB46)) ?_
    · intro w hSw
      obtain ⟨s0, s1, s2, s3, s4, s5, s6, s7, s8, s9⟩ := hSw
      first
        | rfl
        | (go_simp; done)
    try simp only [Act.put, List.setIfInBounds_toArray, List.set_cons_zero, List.set_cons_succ]
    refine wpAnyT_done (by kernel_rfl) ?_ _
    go_wp2_with fail
    go_ret
    exact ⟨rfl, (unhide HBB).trans ((unhide HB46).mono (unhide HBB).size)⟩
end Go.Proofs.Ytbahnkomdndmkab
