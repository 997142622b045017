/- Joins and meets of few labels that lie in a row; the first assignment of the law, in any order. -/
import Derived.Test.YtbahnkomdndmkabLtl
import Derived.Test.YtbahnkomdndmkabLw0
import Derived.Test.YtbahnkomdndmkabAwake
namespace Go.Proofs.Ytbahnkomdndmkab
set_option linter.unusedVariables false
set_option linter.unusedSimpArgs false
open Go.ChangeShapes Go.WideShapes Go.ChangeAt Go.RowKit

theorem jn2 {g : Nat} {l0 c0 l1 c1 : Int} {w : World} (h : RowAt w g 24 [.int .i64 l0, .int .u32 c0, .int .i64 l1, .int .u32 c1]) :
    Calls Try.prog 8 #[.slice (some ⟨g, 0, none⟩) 2 2] w fun e w' => e = .returned (.agg #[.int .i64 (mx l0 l1), .int .u32 (oc c0 c1)]) ∧ Below w.heap.size w w' := by
  have hr : LabRow w g 0 2 (fun i => if i = 0 then l0 else l1) (fun i => if i = 0 then c0 else c1) := by
    intro i hi
    match i, hi with
    | 0, _ => exact ⟨by rw [h.cell]; rfl, by rw [h.cell]; rfl⟩
    | 1, _ => exact ⟨by rw [h.cell]; rfl, by rw [h.cell]; rfl⟩
  refine (join_any g 0 1 2 _ _ w hr h.lt (by decide) (by decide)).mono fun e w' q => ?_
  exact q
theorem jn4 {g : Nat} {l0 c0 l1 c1 l2 c2 l3 c3 : Int} {w : World} (h : RowAt w g 24 [.int .i64 l0, .int .u32 c0, .int .i64 l1, .int .u32 c1, .int .i64 l2, .int .u32 c2, .int .i64 l3, .int .u32 c3]) :
    Calls Try.prog 8 #[.slice (some ⟨g, 0, none⟩) 4 4] w fun e w' => e = .returned (.agg #[.int .i64 (mx (mx (mx l0 l1) l2) l3), .int .u32 (oc (oc (oc c0 c1) c2) c3)]) ∧ Below w.heap.size w w' := by
  have hr : LabRow w g 0 4 (fun i => if i = 0 then l0 else if i = 1 then l1 else if i = 2 then l2 else l3) (fun i => if i = 0 then c0 else if i = 1 then c1 else if i = 2 then c2 else c3) := by
    intro i hi
    match i, hi with
    | 0, _ => exact ⟨by rw [h.cell]; rfl, by rw [h.cell]; rfl⟩
    | 1, _ => exact ⟨by rw [h.cell]; rfl, by rw [h.cell]; rfl⟩
    | 2, _ => exact ⟨by rw [h.cell]; rfl, by rw [h.cell]; rfl⟩
    | 3, _ => exact ⟨by rw [h.cell]; rfl, by rw [h.cell]; rfl⟩
  refine (join_any g 0 3 4 _ _ w hr h.lt (by decide) (by decide)).mono fun e w' q => ?_
  exact q
theorem mt2 {g : Nat} {l0 c0 l1 c1 : Int} {w : World} (h : RowAt w g 24 [.int .i64 l0, .int .u32 c0, .int .i64 l1, .int .u32 c1]) :
    Calls Try.prog 9 #[.slice (some ⟨g, 0, none⟩) 2 2] w fun e w' => e = .returned (.agg #[.int .i64 (mn l0 l1), .int .u32 (ac c0 c1)]) ∧ Below w.heap.size w w' := by
  have hr : LabRow w g 0 2 (fun i => if i = 0 then l0 else l1) (fun i => if i = 0 then c0 else c1) := by
    intro i hi
    match i, hi with
    | 0, _ => exact ⟨by rw [h.cell]; rfl, by rw [h.cell]; rfl⟩
    | 1, _ => exact ⟨by rw [h.cell]; rfl, by rw [h.cell]; rfl⟩
  refine (meet_any g 0 1 2 _ _ w hr h.lt (by decide) (by decide)).mono fun e w' q => ?_
  exact q
theorem mt3 {g : Nat} {l0 c0 l1 c1 l2 c2 : Int} {w : World} (h : RowAt w g 24 [.int .i64 l0, .int .u32 c0, .int .i64 l1, .int .u32 c1, .int .i64 l2, .int .u32 c2]) :
    Calls Try.prog 9 #[.slice (some ⟨g, 0, none⟩) 3 3] w fun e w' => e = .returned (.agg #[.int .i64 (mn (mn l0 l1) l2), .int .u32 (ac (ac c0 c1) c2)]) ∧ Below w.heap.size w w' := by
  have hr : LabRow w g 0 3 (fun i => if i = 0 then l0 else if i = 1 then l1 else l2) (fun i => if i = 0 then c0 else if i = 1 then c1 else c2) := by
    intro i hi
    match i, hi with
    | 0, _ => exact ⟨by rw [h.cell]; rfl, by rw [h.cell]; rfl⟩
    | 1, _ => exact ⟨by rw [h.cell]; rfl, by rw [h.cell]; rfl⟩
    | 2, _ => exact ⟨by rw [h.cell]; rfl, by rw [h.cell]; rfl⟩
  refine (meet_any g 0 2 3 _ _ w hr h.lt (by decide) (by decide)).mono fun e w' q => ?_
  exact q
/-- what the first assignment has done so far -/
structure LX (la ca lb cb : Int) (w0 w : World) (l2 l6 a8 a9 : Option Nat) : Prop where
  bel : Below w0.heap.size w0 w
  l2_ : ∀ g, l2 = some g → RowAt w g 24 [.int .i64 la, .int .u32 ca, .int .i64 lb, .int .u32 cb]
  l6_ : ∀ g, l6 = some g → RowAt w g 24 [.int .i64 la, .int .u32 ca, .int .i64 lb, .int .u32 cb]
  a8_ : ∀ g, a8 = some g → RowAt w g 24 [.int .i64 0, .int .u32 0] ∧ w0.heap.size ≤ g
  a9_ : ∀ g, a9 = some g → RowAt w g 24 [.int .i64 0, .int .u32 0] ∧ w0.heap.size ≤ g
  ne : ∀ g h, a8 = some g → a9 = some h → g ≠ h
theorem LX.start (la ca lb cb : Int) (w : World) : LX la ca lb cb w w.drew none none none none := ⟨(Below.refl _ _).drew, (fun _ h => by cases h), (fun _ h => by cases h), (fun _ h => by cases h), (fun _ h => by cases h), (fun _ _ h => by cases h)⟩
section
variable {la ca lb cb : Int} {w0 W w' : World} {l2 l6 a8 a9 : Option Nat} {o : Oper} {a : Act} {K : Act → World → Prop} {Q : Exit → Act → World → Prop}
theorem LX.more (h : LX la ca lb cb w0 W l2 l6 a8 a9) (hb : Below W.heap.size W w') : LX la ca lb cb w0 w' l2 l6 a8 a9 :=
  ⟨h.bel.trans (hb.mono h.bel.size), fun g e => (h.l2_ g e).below hb (h.l2_ g e).lt, fun g e => (h.l6_ g e).below hb (h.l6_ g e).lt, fun g e => ⟨(h.a8_ g e).1.below hb (h.a8_ g e).1.lt, (h.a8_ g e).2⟩, fun g e => ⟨(h.a9_ g e).1.below hb (h.a9_ g e).1.lt, (h.a9_ g e).2⟩, h.ne⟩
theorem LX.put2 (h : LX la ca lb cb w0 W none l6 a8 a9) : LX la ca lb cb w0 (W.alloc (.cells #[.int .i64 la, .int .u32 ca, .int .i64 lb, .int .u32 cb] 24)) (some W.heap.size) l6 a8 a9 := by
  have m := h.more ((Below.refl _ _).alloc (Nat.le_refl _) (.cells #[.int .i64 la, .int .u32 ca, .int .i64 lb, .int .u32 cb] 24))
  exact ⟨m.bel, fun g e => (by cases e; exact RowAt.new W 24 [.int .i64 la, .int .u32 ca, .int .i64 lb, .int .u32 cb]), m.l6_, m.a8_, m.a9_, m.ne⟩
theorem LX.put6 (h : LX la ca lb cb w0 W l2 none a8 a9) : LX la ca lb cb w0 (W.alloc (.cells #[.int .i64 la, .int .u32 ca, .int .i64 lb, .int .u32 cb] 24)) l2 (some W.heap.size) a8 a9 := by
  have m := h.more ((Below.refl _ _).alloc (Nat.le_refl _) (.cells #[.int .i64 la, .int .u32 ca, .int .i64 lb, .int .u32 cb] 24))
  exact ⟨m.bel, m.l2_, fun g e => (by cases e; exact RowAt.new W 24 [.int .i64 la, .int .u32 ca, .int .i64 lb, .int .u32 cb]), m.a8_, m.a9_, m.ne⟩
theorem LX.put8 (h : LX la ca lb cb w0 W l2 l6 none a9) : LX la ca lb cb w0 (W.alloc (.cells #[.int .i64 0, .int .u32 0] 24)) l2 l6 (some W.heap.size) a9 := by
  have m := h.more ((Below.refl _ _).alloc (Nat.le_refl _) (.cells #[.int .i64 0, .int .u32 0] 24))
  exact ⟨m.bel, m.l2_, m.l6_, fun g e => (by cases e; exact ⟨RowAt.new W 24 [.int .i64 0, .int .u32 0], h.bel.size⟩), m.a9_, fun g k e q => by cases e; have := (h.a9_ k q).1.lt; omega⟩
theorem LX.put9 (h : LX la ca lb cb w0 W l2 l6 a8 none) : LX la ca lb cb w0 (W.alloc (.cells #[.int .i64 0, .int .u32 0] 24)) l2 l6 a8 (some W.heap.size) := by
  have m := h.more ((Below.refl _ _).alloc (Nat.le_refl _) (.cells #[.int .i64 0, .int .u32 0] 24))
  exact ⟨m.bel, m.l2_, m.l6_, m.a8_, fun g e => (by cases e; exact ⟨RowAt.new W 24 [.int .i64 0, .int .u32 0], h.bel.size⟩), fun g k e q => by cases q; have := (h.a8_ g e).1.lt; omega⟩
end
set_option maxRecDepth 100000
abbrev lq0 : Oper := { dst := some 9, op := Op.load 24 (Operand.tmp 3), type := 24, pos := "law.go:84", after := #[], guard := none }
abbrev lq1 : Oper := { dst := some 10, op := Op.load 24 (Operand.tmp 4), type := 24, pos := "law.go:84", after := #[], guard := none }
abbrev lq2 : Oper := { dst := some 11, op := Op.buildSlice 30 2 #[(0, Operand.tmp 9), (1, Operand.tmp 10)], type := 30, pos := "law.go:84", after := #[{ on := 0, ground := Ground.data }, { on := 1, ground := Ground.data }], guard := none }
abbrev lq3 : Oper := { dst := some 12, op := Op.call { callee := Callee.value (Operand.func 8), args := #[Operand.tmp 11], argTypes := #[30] }, type := 24, pos := "law.go:84", after := #[{ on := 2, ground := Ground.data }], guard := none }
abbrev lq4 : Oper := { dst := some 13, op := Op.load 24 (Operand.tmp 3), type := 24, pos := "law.go:84", after := #[], guard := none }
abbrev lq5 : Oper := { dst := some 14, op := Op.load 24 (Operand.tmp 4), type := 24, pos := "law.go:84", after := #[], guard := none }
abbrev lq6 : Oper := { dst := some 15, op := Op.buildSlice 30 2 #[(0, Operand.tmp 13), (1, Operand.tmp 14)], type := 30, pos := "law.go:84", after := #[{ on := 4, ground := Ground.data }, { on := 5, ground := Ground.data }], guard := none }
abbrev lq7 : Oper := { dst := some 16, op := Op.call { callee := Callee.value (Operand.func 9), args := #[Operand.tmp 15], argTypes := #[30] }, type := 24, pos := "law.go:84", after := #[{ on := 6, ground := Ground.data }, { on := 3, ground := Ground.chain }], guard := none }
abbrev lq8 : Oper := { dst := some 7, op := Op.alloc 24, type := 0, pos := "law.go:84", after := #[], guard := none }
abbrev lq9 : Oper := { dst := some 8, op := Op.alloc 24, type := 0, pos := "law.go:84", after := #[], guard := none }
abbrev lq10 : Oper := { dst := none, op := Op.store 24 (Operand.tmp 7) (Operand.tmp 12), type := 0, pos := "law.go:84", after := #[{ on := 8, ground := Ground.data }, { on := 3, ground := Ground.data }, { on := 7, ground := Ground.chain }, { on := 0, ground := Ground.phase }, { on := 1, ground := Ground.phase }, { on := 2, ground := Ground.phase }, { on := 3, ground := Ground.phase }, { on := 4, ground := Ground.textOnly Departure.lateStores }, { on := 5, ground := Ground.textOnly Departure.lateStores }, { on := 6, ground := Ground.textOnly Departure.lateStores }, { on := 7, ground := Ground.textOnly Departure.lateStoresUnsure }, { on := 8, ground := Ground.phase }, { on := 9, ground := Ground.phase }], guard := none }
abbrev lq11 : Oper := { dst := none, op := Op.store 24 (Operand.tmp 8) (Operand.tmp 16), type := 0, pos := "law.go:84", after := #[{ on := 9, ground := Ground.data }, { on := 7, ground := Ground.data }, { on := 10, ground := Ground.chain }, { on := 0, ground := Ground.phase }, { on := 1, ground := Ground.phase }, { on := 2, ground := Ground.phase }, { on := 3, ground := Ground.phase }, { on := 4, ground := Ground.phase }, { on := 5, ground := Ground.phase }, { on := 6, ground := Ground.phase }, { on := 7, ground := Ground.phase }, { on := 8, ground := Ground.phase }, { on := 9, ground := Ground.phase }, { on := 10, ground := Ground.phase }], guard := none }
abbrev lqs : Array Oper := #[lq0, lq1, lq2, lq3, lq4, lq5, lq6, lq7, lq8, lq9, lq10, lq11]
/-- the frame -/
abbrev lF (la ca lb cb lc cc : Int) (gA gB gC : Nat) (x7 x8 x11 x12 x15 x16 : Value) : Act := { tmps := #[.agg #[.int .i64 la, .int .u32 ca], .agg #[.int .i64 lb, .int .u32 cb], .agg #[.int .i64 lc, .int .u32 cc], .pointer (some ⟨gA, 0, none⟩), .pointer (some ⟨gB, 0, none⟩), .pointer (some ⟨gC, 0, none⟩), .bool false, x7, x8, .agg #[.int .i64 la, .int .u32 ca], .agg #[.int .i64 lb, .int .u32 cb], x11, x12, .agg #[.int .i64 la, .int .u32 ca], .agg #[.int .i64 lb, .int .u32 cb], x15, x16, undef, undef, undef, undef, undef, undef, undef, undef, undef, undef, undef, undef, undef, undef, undef, undef, undef, undef, undef, undef, undef, undef, undef, undef, undef, undef, undef, undef, undef, undef, undef, undef, undef, undef, undef, undef, undef, undef, undef, undef, undef, undef, undef, undef, undef, undef, undef, undef, undef, undef, undef, undef, undef, undef, undef, undef, undef, undef, undef, undef, undef, undef, undef, undef, undef, undef, undef, undef, undef, undef, undef, undef, undef, undef, undef, undef, undef, undef, undef, undef, undef, undef, undef, undef, undef, undef, undef, undef, undef, undef, undef, undef], defers := [] }
abbrev lS (la ca lb cb : Int) (gA gB : Nat) : World → Prop := fun W => W.cell? ⟨gA, 0, none⟩ = some (.int .i64 la) ∧ W.cell? ⟨gA, 1, none⟩ = some (.int .u32 ca) ∧ W.cell? ⟨gB, 0, none⟩ = some (.int .i64 lb) ∧ W.cell? ⟨gB, 1, none⟩ = some (.int .u32 cb)
section
variable {la ca lb cb lc cc : Int} {gA gB gC : Nat} {w : World} {Q : Exit → Act → World → Prop}
/-- the end, ahead of both stores -/
abbrev lE (la ca lb cb lc cc : Int) (gA gB gC : Nat) (w : World) (Q : Exit → Act → World → Prop) : Prop := ∀ g7 g8 x11 x15 W l2 l6, LX la ca lb cb w W l2 l6 (some g7) (some g8) → wpAnyT Try.prog .any lqs Q (lS la ca lb cb gA gB) (fun i => decide (i < 12)) 2 #[true, true, true, true, true, true, true, true, true, true, false, false] (lF la ca lb cb lc cc gA gB gC (.pointer (some ⟨g7, 0, none⟩)) (.pointer (some ⟨g8, 0, none⟩)) x11 (.agg #[.int .i64 (mx la lb), .int .u32 (oc ca cb)]) x15 (.agg #[.int .i64 (mn la lb), .int .u32 (ac ca cb)])) W
theorem lx2_1111 {g11 : Nat} {g15 : Nat} {g7 : Nat} {g8 : Nat} {W : World} (HO : ∀ W, Below w.heap.size w W → lS la ca lb cb gA gB W) (HE : lE la ca lb cb lc cc gA gB gC w Q) (HN : LX la ca lb cb w W (some g11) (some g15) (some g7) (some g8)) : wpAnyT Try.prog .any lqs Q (lS la ca lb cb gA gB) (fun i => decide (i < 12)) 2 #[true, true, true, true, true, true, true, true, true, true, false, false] (lF la ca lb cb lc cc gA gB gC (.pointer (some ⟨g7, 0, none⟩)) (.pointer (some ⟨g8, 0, none⟩)) (.slice (some ⟨g11, 0, none⟩) 2 2) (.agg #[.int .i64 (mx la lb), .int .u32 (oc ca cb)]) (.slice (some ⟨g15, 0, none⟩) 2 2) (.agg #[.int .i64 (mn la lb), .int .u32 (ac ca cb)])) W := by
  exact HE _ _ _ _ _ _ _ HN
theorem lx2_1110 {g11 : Nat} {g15 : Nat} {g7 : Nat} {W : World} (HO : ∀ W, Below w.heap.size w W → lS la ca lb cb gA gB W) (HE : lE la ca lb cb lc cc gA gB gC w Q) (HN : LX la ca lb cb w W (some g11) (some g15) (some g7) none) : wpAnyT Try.prog .any lqs Q (lS la ca lb cb gA gB) (fun i => decide (i < 12)) 3 #[true, true, true, true, true, true, true, true, true, false, false, false] (lF la ca lb cb lc cc gA gB gC (.pointer (some ⟨g7, 0, none⟩)) undef (.slice (some ⟨g11, 0, none⟩) 2 2) (.agg #[.int .i64 (mx la lb), .int .u32 (oc ca cb)]) (.slice (some ⟨g15, 0, none⟩) 2 2) (.agg #[.int .i64 (mn la lb), .int .u32 (ac ca cb)])) W := by
  refine wpAnyT_one (i := 9) (o := lq9) (by kernel_rfl) rfl (fun K hK => ?_)
  have hm := HN.put9
  go_simp
  exact hK.out _ _ (fun _ => HO _ hm.bel) (lx2_1111 HO HE hm)
theorem lx2_1101 {g11 : Nat} {g15 : Nat} {g8 : Nat} {W : World} (HO : ∀ W, Below w.heap.size w W → lS la ca lb cb gA gB W) (HE : lE la ca lb cb lc cc gA gB gC w Q) (HN : LX la ca lb cb w W (some g11) (some g15) none (some g8)) : wpAnyT Try.prog .any lqs Q (lS la ca lb cb gA gB) (fun i => decide (i < 12)) 3 #[true, true, true, true, true, true, true, true, false, true, false, false] (lF la ca lb cb lc cc gA gB gC undef (.pointer (some ⟨g8, 0, none⟩)) (.slice (some ⟨g11, 0, none⟩) 2 2) (.agg #[.int .i64 (mx la lb), .int .u32 (oc ca cb)]) (.slice (some ⟨g15, 0, none⟩) 2 2) (.agg #[.int .i64 (mn la lb), .int .u32 (ac ca cb)])) W := by
  refine wpAnyT_one (i := 8) (o := lq8) (by kernel_rfl) rfl (fun K hK => ?_)
  have hm := HN.put8
  go_simp
  exact hK.out _ _ (fun _ => HO _ hm.bel) (lx2_1111 HO HE hm)
theorem lx2_1100 {g11 : Nat} {g15 : Nat} {W : World} (HO : ∀ W, Below w.heap.size w W → lS la ca lb cb gA gB W) (HE : lE la ca lb cb lc cc gA gB gC w Q) (HN : LX la ca lb cb w W (some g11) (some g15) none none) : wpAnyT Try.prog .any lqs Q (lS la ca lb cb gA gB) (fun i => decide (i < 12)) 4 #[true, true, true, true, true, true, true, true, false, false, false, false] (lF la ca lb cb lc cc gA gB gC undef undef (.slice (some ⟨g11, 0, none⟩) 2 2) (.agg #[.int .i64 (mx la lb), .int .u32 (oc ca cb)]) (.slice (some ⟨g15, 0, none⟩) 2 2) (.agg #[.int .i64 (mn la lb), .int .u32 (ac ca cb)])) W := by
  refine anyU_two (i := 8) (j := 9) (oi := lq8) (oj := lq9) (by kernel_rfl) rfl rfl (fun K hK => ?_) (fun K hK => ?_)
  · have hm := HN.put8
    go_simp
    exact hK.out _ _ (fun _ => HO _ hm.bel) (lx2_1110 HO HE hm)
  · have hm := HN.put9
    go_simp
    exact hK.out _ _ (fun _ => HO _ hm.bel) (lx2_1101 HO HE hm)
theorem lx1_1111 {g11 : Nat} {g15 : Nat} {g7 : Nat} {g8 : Nat} {W : World} (HO : ∀ W, Below w.heap.size w W → lS la ca lb cb gA gB W) (HE : lE la ca lb cb lc cc gA gB gC w Q) (HN : LX la ca lb cb w W (some g11) (some g15) (some g7) (some g8)) : wpAnyT Try.prog .any lqs Q (lS la ca lb cb gA gB) (fun i => decide (i < 12)) 3 #[true, true, true, true, true, true, true, false, true, true, false, false] (lF la ca lb cb lc cc gA gB gC (.pointer (some ⟨g7, 0, none⟩)) (.pointer (some ⟨g8, 0, none⟩)) (.slice (some ⟨g11, 0, none⟩) 2 2) (.agg #[.int .i64 (mx la lb), .int .u32 (oc ca cb)]) (.slice (some ⟨g15, 0, none⟩) 2 2) undef) W := by
  refine wpAnyT_one (i := 7) (o := lq7) (by kernel_rfl) rfl (fun K hK => ?_)
  have hc := mt2 (HN.l6_ g15 rfl)
  go_simp
  refine Calls.mono hc ?_
  rintro e w2 ⟨rfl, hb⟩
  have hm := HN.more hb
  clear hc
  go_wp2_with fail
  exact hK.out _ _ (fun _ => HO _ hm.bel) (lx2_1111 HO HE hm)
theorem lx1_1110 {g11 : Nat} {g15 : Nat} {g7 : Nat} {W : World} (HO : ∀ W, Below w.heap.size w W → lS la ca lb cb gA gB W) (HE : lE la ca lb cb lc cc gA gB gC w Q) (HN : LX la ca lb cb w W (some g11) (some g15) (some g7) none) : wpAnyT Try.prog .any lqs Q (lS la ca lb cb gA gB) (fun i => decide (i < 12)) 4 #[true, true, true, true, true, true, true, false, true, false, false, false] (lF la ca lb cb lc cc gA gB gC (.pointer (some ⟨g7, 0, none⟩)) undef (.slice (some ⟨g11, 0, none⟩) 2 2) (.agg #[.int .i64 (mx la lb), .int .u32 (oc ca cb)]) (.slice (some ⟨g15, 0, none⟩) 2 2) undef) W := by
  refine anyU_two (i := 7) (j := 9) (oi := lq7) (oj := lq9) (by kernel_rfl) rfl rfl (fun K hK => ?_) (fun K hK => ?_)
  · have hc := mt2 (HN.l6_ g15 rfl)
    go_simp
    refine Calls.mono hc ?_
    rintro e w2 ⟨rfl, hb⟩
    have hm := HN.more hb
    clear hc
    go_wp2_with fail
    exact hK.out _ _ (fun _ => HO _ hm.bel) (lx2_1110 HO HE hm)
  · have hm := HN.put9
    go_simp
    exact hK.out _ _ (fun _ => HO _ hm.bel) (lx1_1111 HO HE hm)
theorem lx1_1101 {g11 : Nat} {g15 : Nat} {g8 : Nat} {W : World} (HO : ∀ W, Below w.heap.size w W → lS la ca lb cb gA gB W) (HE : lE la ca lb cb lc cc gA gB gC w Q) (HN : LX la ca lb cb w W (some g11) (some g15) none (some g8)) : wpAnyT Try.prog .any lqs Q (lS la ca lb cb gA gB) (fun i => decide (i < 12)) 4 #[true, true, true, true, true, true, true, false, false, true, false, false] (lF la ca lb cb lc cc gA gB gC undef (.pointer (some ⟨g8, 0, none⟩)) (.slice (some ⟨g11, 0, none⟩) 2 2) (.agg #[.int .i64 (mx la lb), .int .u32 (oc ca cb)]) (.slice (some ⟨g15, 0, none⟩) 2 2) undef) W := by
  refine anyU_two (i := 7) (j := 8) (oi := lq7) (oj := lq8) (by kernel_rfl) rfl rfl (fun K hK => ?_) (fun K hK => ?_)
  · have hc := mt2 (HN.l6_ g15 rfl)
    go_simp
    refine Calls.mono hc ?_
    rintro e w2 ⟨rfl, hb⟩
    have hm := HN.more hb
    clear hc
    go_wp2_with fail
    exact hK.out _ _ (fun _ => HO _ hm.bel) (lx2_1101 HO HE hm)
  · have hm := HN.put8
    go_simp
    exact hK.out _ _ (fun _ => HO _ hm.bel) (lx1_1111 HO HE hm)
theorem lx1_1011 {g11 : Nat} {g7 : Nat} {g8 : Nat} {W : World} (HO : ∀ W, Below w.heap.size w W → lS la ca lb cb gA gB W) (HE : lE la ca lb cb lc cc gA gB gC w Q) (HN : LX la ca lb cb w W (some g11) none (some g7) (some g8)) : wpAnyT Try.prog .any lqs Q (lS la ca lb cb gA gB) (fun i => decide (i < 12)) 4 #[true, true, true, true, true, true, false, false, true, true, false, false] (lF la ca lb cb lc cc gA gB gC (.pointer (some ⟨g7, 0, none⟩)) (.pointer (some ⟨g8, 0, none⟩)) (.slice (some ⟨g11, 0, none⟩) 2 2) (.agg #[.int .i64 (mx la lb), .int .u32 (oc ca cb)]) undef undef) W := by
  refine wpAnyT_one (i := 6) (o := lq6) (by kernel_rfl) rfl (fun K hK => ?_)
  have hm := HN.put6
  go_simp
  exact hK.out _ _ (fun _ => HO _ hm.bel) (lx1_1111 HO HE hm)
theorem lx1_1100 {g11 : Nat} {g15 : Nat} {W : World} (HO : ∀ W, Below w.heap.size w W → lS la ca lb cb gA gB W) (HE : lE la ca lb cb lc cc gA gB gC w Q) (HN : LX la ca lb cb w W (some g11) (some g15) none none) : wpAnyT Try.prog .any lqs Q (lS la ca lb cb gA gB) (fun i => decide (i < 12)) 5 #[true, true, true, true, true, true, true, false, false, false, false, false] (lF la ca lb cb lc cc gA gB gC undef undef (.slice (some ⟨g11, 0, none⟩) 2 2) (.agg #[.int .i64 (mx la lb), .int .u32 (oc ca cb)]) (.slice (some ⟨g15, 0, none⟩) 2 2) undef) W := by
  refine anyT_three (i := 7) (j := 8) (l := 9) (oi := lq7) (oj := lq8) (ol := lq9) (by kernel_rfl) rfl rfl rfl (fun K hK => ?_) (fun K hK => ?_) (fun K hK => ?_)
  · have hc := mt2 (HN.l6_ g15 rfl)
    go_simp
    refine Calls.mono hc ?_
    rintro e w2 ⟨rfl, hb⟩
    have hm := HN.more hb
    clear hc
    go_wp2_with fail
    exact hK.out _ _ (fun _ => HO _ hm.bel) (lx2_1100 HO HE hm)
  · have hm := HN.put8
    go_simp
    exact hK.out _ _ (fun _ => HO _ hm.bel) (lx1_1110 HO HE hm)
  · have hm := HN.put9
    go_simp
    exact hK.out _ _ (fun _ => HO _ hm.bel) (lx1_1101 HO HE hm)
theorem lx1_1010 {g11 : Nat} {g7 : Nat} {W : World} (HO : ∀ W, Below w.heap.size w W → lS la ca lb cb gA gB W) (HE : lE la ca lb cb lc cc gA gB gC w Q) (HN : LX la ca lb cb w W (some g11) none (some g7) none) : wpAnyT Try.prog .any lqs Q (lS la ca lb cb gA gB) (fun i => decide (i < 12)) 5 #[true, true, true, true, true, true, false, false, true, false, false, false] (lF la ca lb cb lc cc gA gB gC (.pointer (some ⟨g7, 0, none⟩)) undef (.slice (some ⟨g11, 0, none⟩) 2 2) (.agg #[.int .i64 (mx la lb), .int .u32 (oc ca cb)]) undef undef) W := by
  refine anyU_two (i := 6) (j := 9) (oi := lq6) (oj := lq9) (by kernel_rfl) rfl rfl (fun K hK => ?_) (fun K hK => ?_)
  · have hm := HN.put6
    go_simp
    exact hK.out _ _ (fun _ => HO _ hm.bel) (lx1_1110 HO HE hm)
  · have hm := HN.put9
    go_simp
    exact hK.out _ _ (fun _ => HO _ hm.bel) (lx1_1011 HO HE hm)
theorem lx1_1001 {g11 : Nat} {g8 : Nat} {W : World} (HO : ∀ W, Below w.heap.size w W → lS la ca lb cb gA gB W) (HE : lE la ca lb cb lc cc gA gB gC w Q) (HN : LX la ca lb cb w W (some g11) none none (some g8)) : wpAnyT Try.prog .any lqs Q (lS la ca lb cb gA gB) (fun i => decide (i < 12)) 5 #[true, true, true, true, true, true, false, false, false, true, false, false] (lF la ca lb cb lc cc gA gB gC undef (.pointer (some ⟨g8, 0, none⟩)) (.slice (some ⟨g11, 0, none⟩) 2 2) (.agg #[.int .i64 (mx la lb), .int .u32 (oc ca cb)]) undef undef) W := by
  refine anyU_two (i := 6) (j := 8) (oi := lq6) (oj := lq8) (by kernel_rfl) rfl rfl (fun K hK => ?_) (fun K hK => ?_)
  · have hm := HN.put6
    go_simp
    exact hK.out _ _ (fun _ => HO _ hm.bel) (lx1_1101 HO HE hm)
  · have hm := HN.put8
    go_simp
    exact hK.out _ _ (fun _ => HO _ hm.bel) (lx1_1011 HO HE hm)
theorem lx1_1000 {g11 : Nat} {W : World} (HO : ∀ W, Below w.heap.size w W → lS la ca lb cb gA gB W) (HE : lE la ca lb cb lc cc gA gB gC w Q) (HN : LX la ca lb cb w W (some g11) none none none) : wpAnyT Try.prog .any lqs Q (lS la ca lb cb gA gB) (fun i => decide (i < 12)) 6 #[true, true, true, true, true, true, false, false, false, false, false, false] (lF la ca lb cb lc cc gA gB gC undef undef (.slice (some ⟨g11, 0, none⟩) 2 2) (.agg #[.int .i64 (mx la lb), .int .u32 (oc ca cb)]) undef undef) W := by
  refine anyT_three (i := 6) (j := 8) (l := 9) (oi := lq6) (oj := lq8) (ol := lq9) (by kernel_rfl) rfl rfl rfl (fun K hK => ?_) (fun K hK => ?_) (fun K hK => ?_)
  · have hm := HN.put6
    go_simp
    exact hK.out _ _ (fun _ => HO _ hm.bel) (lx1_1100 HO HE hm)
  · have hm := HN.put8
    go_simp
    exact hK.out _ _ (fun _ => HO _ hm.bel) (lx1_1010 HO HE hm)
  · have hm := HN.put9
    go_simp
    exact hK.out _ _ (fun _ => HO _ hm.bel) (lx1_1001 HO HE hm)
theorem lx0_1111 {g11 : Nat} {g15 : Nat} {g7 : Nat} {g8 : Nat} {W : World} (HO : ∀ W, Below w.heap.size w W → lS la ca lb cb gA gB W) (HE : lE la ca lb cb lc cc gA gB gC w Q) (HN : LX la ca lb cb w W (some g11) (some g15) (some g7) (some g8)) : wpAnyT Try.prog .any lqs Q (lS la ca lb cb gA gB) (fun i => decide (i < 12)) 4 #[true, true, true, false, true, true, true, false, true, true, false, false] (lF la ca lb cb lc cc gA gB gC (.pointer (some ⟨g7, 0, none⟩)) (.pointer (some ⟨g8, 0, none⟩)) (.slice (some ⟨g11, 0, none⟩) 2 2) undef (.slice (some ⟨g15, 0, none⟩) 2 2) undef) W := by
  refine wpAnyT_one (i := 3) (o := lq3) (by kernel_rfl) rfl (fun K hK => ?_)
  have hc := jn2 (HN.l2_ g11 rfl)
  go_simp
  refine Calls.mono hc ?_
  rintro e w2 ⟨rfl, hb⟩
  have hm := HN.more hb
  clear hc
  go_wp2_with fail
  exact hK.out _ _ (fun _ => HO _ hm.bel) (lx1_1111 HO HE hm)
theorem lx0_1110 {g11 : Nat} {g15 : Nat} {g7 : Nat} {W : World} (HO : ∀ W, Below w.heap.size w W → lS la ca lb cb gA gB W) (HE : lE la ca lb cb lc cc gA gB gC w Q) (HN : LX la ca lb cb w W (some g11) (some g15) (some g7) none) : wpAnyT Try.prog .any lqs Q (lS la ca lb cb gA gB) (fun i => decide (i < 12)) 5 #[true, true, true, false, true, true, true, false, true, false, false, false] (lF la ca lb cb lc cc gA gB gC (.pointer (some ⟨g7, 0, none⟩)) undef (.slice (some ⟨g11, 0, none⟩) 2 2) undef (.slice (some ⟨g15, 0, none⟩) 2 2) undef) W := by
  refine anyU_two (i := 3) (j := 9) (oi := lq3) (oj := lq9) (by kernel_rfl) rfl rfl (fun K hK => ?_) (fun K hK => ?_)
  · have hc := jn2 (HN.l2_ g11 rfl)
    go_simp
    refine Calls.mono hc ?_
    rintro e w2 ⟨rfl, hb⟩
    have hm := HN.more hb
    clear hc
    go_wp2_with fail
    exact hK.out _ _ (fun _ => HO _ hm.bel) (lx1_1110 HO HE hm)
  · have hm := HN.put9
    go_simp
    exact hK.out _ _ (fun _ => HO _ hm.bel) (lx0_1111 HO HE hm)
theorem lx0_1101 {g11 : Nat} {g15 : Nat} {g8 : Nat} {W : World} (HO : ∀ W, Below w.heap.size w W → lS la ca lb cb gA gB W) (HE : lE la ca lb cb lc cc gA gB gC w Q) (HN : LX la ca lb cb w W (some g11) (some g15) none (some g8)) : wpAnyT Try.prog .any lqs Q (lS la ca lb cb gA gB) (fun i => decide (i < 12)) 5 #[true, true, true, false, true, true, true, false, false, true, false, false] (lF la ca lb cb lc cc gA gB gC undef (.pointer (some ⟨g8, 0, none⟩)) (.slice (some ⟨g11, 0, none⟩) 2 2) undef (.slice (some ⟨g15, 0, none⟩) 2 2) undef) W := by
  refine anyU_two (i := 3) (j := 8) (oi := lq3) (oj := lq8) (by kernel_rfl) rfl rfl (fun K hK => ?_) (fun K hK => ?_)
  · have hc := jn2 (HN.l2_ g11 rfl)
    go_simp
    refine Calls.mono hc ?_
    rintro e w2 ⟨rfl, hb⟩
    have hm := HN.more hb
    clear hc
    go_wp2_with fail
    exact hK.out _ _ (fun _ => HO _ hm.bel) (lx1_1101 HO HE hm)
  · have hm := HN.put8
    go_simp
    exact hK.out _ _ (fun _ => HO _ hm.bel) (lx0_1111 HO HE hm)
theorem lx0_1011 {g11 : Nat} {g7 : Nat} {g8 : Nat} {W : World} (HO : ∀ W, Below w.heap.size w W → lS la ca lb cb gA gB W) (HE : lE la ca lb cb lc cc gA gB gC w Q) (HN : LX la ca lb cb w W (some g11) none (some g7) (some g8)) : wpAnyT Try.prog .any lqs Q (lS la ca lb cb gA gB) (fun i => decide (i < 12)) 5 #[true, true, true, false, true, true, false, false, true, true, false, false] (lF la ca lb cb lc cc gA gB gC (.pointer (some ⟨g7, 0, none⟩)) (.pointer (some ⟨g8, 0, none⟩)) (.slice (some ⟨g11, 0, none⟩) 2 2) undef undef undef) W := by
  refine anyU_two (i := 3) (j := 6) (oi := lq3) (oj := lq6) (by kernel_rfl) rfl rfl (fun K hK => ?_) (fun K hK => ?_)
  · have hc := jn2 (HN.l2_ g11 rfl)
    go_simp
    refine Calls.mono hc ?_
    rintro e w2 ⟨rfl, hb⟩
    have hm := HN.more hb
    clear hc
    go_wp2_with fail
    exact hK.out _ _ (fun _ => HO _ hm.bel) (lx1_1011 HO HE hm)
  · have hm := HN.put6
    go_simp
    exact hK.out _ _ (fun _ => HO _ hm.bel) (lx0_1111 HO HE hm)
theorem lx0_0111 {g15 : Nat} {g7 : Nat} {g8 : Nat} {W : World} (HO : ∀ W, Below w.heap.size w W → lS la ca lb cb gA gB W) (HE : lE la ca lb cb lc cc gA gB gC w Q) (HN : LX la ca lb cb w W none (some g15) (some g7) (some g8)) : wpAnyT Try.prog .any lqs Q (lS la ca lb cb gA gB) (fun i => decide (i < 12)) 5 #[true, true, false, false, true, true, true, false, true, true, false, false] (lF la ca lb cb lc cc gA gB gC (.pointer (some ⟨g7, 0, none⟩)) (.pointer (some ⟨g8, 0, none⟩)) undef undef (.slice (some ⟨g15, 0, none⟩) 2 2) undef) W := by
  refine wpAnyT_one (i := 2) (o := lq2) (by kernel_rfl) rfl (fun K hK => ?_)
  have hm := HN.put2
  go_simp
  exact hK.out _ _ (fun _ => HO _ hm.bel) (lx0_1111 HO HE hm)
theorem lx0_1100 {g11 : Nat} {g15 : Nat} {W : World} (HO : ∀ W, Below w.heap.size w W → lS la ca lb cb gA gB W) (HE : lE la ca lb cb lc cc gA gB gC w Q) (HN : LX la ca lb cb w W (some g11) (some g15) none none) : wpAnyT Try.prog .any lqs Q (lS la ca lb cb gA gB) (fun i => decide (i < 12)) 6 #[true, true, true, false, true, true, true, false, false, false, false, false] (lF la ca lb cb lc cc gA gB gC undef undef (.slice (some ⟨g11, 0, none⟩) 2 2) undef (.slice (some ⟨g15, 0, none⟩) 2 2) undef) W := by
  refine anyT_three (i := 3) (j := 8) (l := 9) (oi := lq3) (oj := lq8) (ol := lq9) (by kernel_rfl) rfl rfl rfl (fun K hK => ?_) (fun K hK => ?_) (fun K hK => ?_)
  · have hc := jn2 (HN.l2_ g11 rfl)
    go_simp
    refine Calls.mono hc ?_
    rintro e w2 ⟨rfl, hb⟩
    have hm := HN.more hb
    clear hc
    go_wp2_with fail
    exact hK.out _ _ (fun _ => HO _ hm.bel) (lx1_1100 HO HE hm)
  · have hm := HN.put8
    go_simp
    exact hK.out _ _ (fun _ => HO _ hm.bel) (lx0_1110 HO HE hm)
  · have hm := HN.put9
    go_simp
    exact hK.out _ _ (fun _ => HO _ hm.bel) (lx0_1101 HO HE hm)
theorem lx0_1010 {g11 : Nat} {g7 : Nat} {W : World} (HO : ∀ W, Below w.heap.size w W → lS la ca lb cb gA gB W) (HE : lE la ca lb cb lc cc gA gB gC w Q) (HN : LX la ca lb cb w W (some g11) none (some g7) none) : wpAnyT Try.prog .any lqs Q (lS la ca lb cb gA gB) (fun i => decide (i < 12)) 6 #[true, true, true, false, true, true, false, false, true, false, false, false] (lF la ca lb cb lc cc gA gB gC (.pointer (some ⟨g7, 0, none⟩)) undef (.slice (some ⟨g11, 0, none⟩) 2 2) undef undef undef) W := by
  refine anyT_three (i := 3) (j := 6) (l := 9) (oi := lq3) (oj := lq6) (ol := lq9) (by kernel_rfl) rfl rfl rfl (fun K hK => ?_) (fun K hK => ?_) (fun K hK => ?_)
  · have hc := jn2 (HN.l2_ g11 rfl)
    go_simp
    refine Calls.mono hc ?_
    rintro e w2 ⟨rfl, hb⟩
    have hm := HN.more hb
    clear hc
    go_wp2_with fail
    exact hK.out _ _ (fun _ => HO _ hm.bel) (lx1_1010 HO HE hm)
  · have hm := HN.put6
    go_simp
    exact hK.out _ _ (fun _ => HO _ hm.bel) (lx0_1110 HO HE hm)
  · have hm := HN.put9
    go_simp
    exact hK.out _ _ (fun _ => HO _ hm.bel) (lx0_1011 HO HE hm)
theorem lx0_1001 {g11 : Nat} {g8 : Nat} {W : World} (HO : ∀ W, Below w.heap.size w W → lS la ca lb cb gA gB W) (HE : lE la ca lb cb lc cc gA gB gC w Q) (HN : LX la ca lb cb w W (some g11) none none (some g8)) : wpAnyT Try.prog .any lqs Q (lS la ca lb cb gA gB) (fun i => decide (i < 12)) 6 #[true, true, true, false, true, true, false, false, false, true, false, false] (lF la ca lb cb lc cc gA gB gC undef (.pointer (some ⟨g8, 0, none⟩)) (.slice (some ⟨g11, 0, none⟩) 2 2) undef undef undef) W := by
  refine anyT_three (i := 3) (j := 6) (l := 8) (oi := lq3) (oj := lq6) (ol := lq8) (by kernel_rfl) rfl rfl rfl (fun K hK => ?_) (fun K hK => ?_) (fun K hK => ?_)
  · have hc := jn2 (HN.l2_ g11 rfl)
    go_simp
    refine Calls.mono hc ?_
    rintro e w2 ⟨rfl, hb⟩
    have hm := HN.more hb
    clear hc
    go_wp2_with fail
    exact hK.out _ _ (fun _ => HO _ hm.bel) (lx1_1001 HO HE hm)
  · have hm := HN.put6
    go_simp
    exact hK.out _ _ (fun _ => HO _ hm.bel) (lx0_1101 HO HE hm)
  · have hm := HN.put8
    go_simp
    exact hK.out _ _ (fun _ => HO _ hm.bel) (lx0_1011 HO HE hm)
theorem lx0_0110 {g15 : Nat} {g7 : Nat} {W : World} (HO : ∀ W, Below w.heap.size w W → lS la ca lb cb gA gB W) (HE : lE la ca lb cb lc cc gA gB gC w Q) (HN : LX la ca lb cb w W none (some g15) (some g7) none) : wpAnyT Try.prog .any lqs Q (lS la ca lb cb gA gB) (fun i => decide (i < 12)) 6 #[true, true, false, false, true, true, true, false, true, false, false, false] (lF la ca lb cb lc cc gA gB gC (.pointer (some ⟨g7, 0, none⟩)) undef undef undef (.slice (some ⟨g15, 0, none⟩) 2 2) undef) W := by
  refine anyU_two (i := 2) (j := 9) (oi := lq2) (oj := lq9) (by kernel_rfl) rfl rfl (fun K hK => ?_) (fun K hK => ?_)
  · have hm := HN.put2
    go_simp
    exact hK.out _ _ (fun _ => HO _ hm.bel) (lx0_1110 HO HE hm)
  · have hm := HN.put9
    go_simp
    exact hK.out _ _ (fun _ => HO _ hm.bel) (lx0_0111 HO HE hm)
theorem lx0_0101 {g15 : Nat} {g8 : Nat} {W : World} (HO : ∀ W, Below w.heap.size w W → lS la ca lb cb gA gB W) (HE : lE la ca lb cb lc cc gA gB gC w Q) (HN : LX la ca lb cb w W none (some g15) none (some g8)) : wpAnyT Try.prog .any lqs Q (lS la ca lb cb gA gB) (fun i => decide (i < 12)) 6 #[true, true, false, false, true, true, true, false, false, true, false, false] (lF la ca lb cb lc cc gA gB gC undef (.pointer (some ⟨g8, 0, none⟩)) undef undef (.slice (some ⟨g15, 0, none⟩) 2 2) undef) W := by
  refine anyU_two (i := 2) (j := 8) (oi := lq2) (oj := lq8) (by kernel_rfl) rfl rfl (fun K hK => ?_) (fun K hK => ?_)
  · have hm := HN.put2
    go_simp
    exact hK.out _ _ (fun _ => HO _ hm.bel) (lx0_1101 HO HE hm)
  · have hm := HN.put8
    go_simp
    exact hK.out _ _ (fun _ => HO _ hm.bel) (lx0_0111 HO HE hm)
theorem lx0_0011 {g7 : Nat} {g8 : Nat} {W : World} (HO : ∀ W, Below w.heap.size w W → lS la ca lb cb gA gB W) (HE : lE la ca lb cb lc cc gA gB gC w Q) (HN : LX la ca lb cb w W none none (some g7) (some g8)) : wpAnyT Try.prog .any lqs Q (lS la ca lb cb gA gB) (fun i => decide (i < 12)) 6 #[true, true, false, false, true, true, false, false, true, true, false, false] (lF la ca lb cb lc cc gA gB gC (.pointer (some ⟨g7, 0, none⟩)) (.pointer (some ⟨g8, 0, none⟩)) undef undef undef undef) W := by
  refine anyU_two (i := 2) (j := 6) (oi := lq2) (oj := lq6) (by kernel_rfl) rfl rfl (fun K hK => ?_) (fun K hK => ?_)
  · have hm := HN.put2
    go_simp
    exact hK.out _ _ (fun _ => HO _ hm.bel) (lx0_1011 HO HE hm)
  · have hm := HN.put6
    go_simp
    exact hK.out _ _ (fun _ => HO _ hm.bel) (lx0_0111 HO HE hm)
theorem lx0_1000 {g11 : Nat} {W : World} (HO : ∀ W, Below w.heap.size w W → lS la ca lb cb gA gB W) (HE : lE la ca lb cb lc cc gA gB gC w Q) (HN : LX la ca lb cb w W (some g11) none none none) : wpAnyT Try.prog .any lqs Q (lS la ca lb cb gA gB) (fun i => decide (i < 12)) 7 #[true, true, true, false, true, true, false, false, false, false, false, false] (lF la ca lb cb lc cc gA gB gC undef undef (.slice (some ⟨g11, 0, none⟩) 2 2) undef undef undef) W := by
  refine anyT_four (i := 3) (j := 6) (l := 8) (m := 9) (oi := lq3) (oj := lq6) (ol := lq8) (om := lq9) (by kernel_rfl) rfl rfl rfl rfl (fun K hK => ?_) (fun K hK => ?_) (fun K hK => ?_) (fun K hK => ?_)
  · have hc := jn2 (HN.l2_ g11 rfl)
    go_simp
    refine Calls.mono hc ?_
    rintro e w2 ⟨rfl, hb⟩
    have hm := HN.more hb
    clear hc
    go_wp2_with fail
    exact hK.out _ _ (fun _ => HO _ hm.bel) (lx1_1000 HO HE hm)
  · have hm := HN.put6
    go_simp
    exact hK.out _ _ (fun _ => HO _ hm.bel) (lx0_1100 HO HE hm)
  · have hm := HN.put8
    go_simp
    exact hK.out _ _ (fun _ => HO _ hm.bel) (lx0_1010 HO HE hm)
  · have hm := HN.put9
    go_simp
    exact hK.out _ _ (fun _ => HO _ hm.bel) (lx0_1001 HO HE hm)
theorem lx0_0100 {g15 : Nat} {W : World} (HO : ∀ W, Below w.heap.size w W → lS la ca lb cb gA gB W) (HE : lE la ca lb cb lc cc gA gB gC w Q) (HN : LX la ca lb cb w W none (some g15) none none) : wpAnyT Try.prog .any lqs Q (lS la ca lb cb gA gB) (fun i => decide (i < 12)) 7 #[true, true, false, false, true, true, true, false, false, false, false, false] (lF la ca lb cb lc cc gA gB gC undef undef undef undef (.slice (some ⟨g15, 0, none⟩) 2 2) undef) W := by
  refine anyT_three (i := 2) (j := 8) (l := 9) (oi := lq2) (oj := lq8) (ol := lq9) (by kernel_rfl) rfl rfl rfl (fun K hK => ?_) (fun K hK => ?_) (fun K hK => ?_)
  · have hm := HN.put2
    go_simp
    exact hK.out _ _ (fun _ => HO _ hm.bel) (lx0_1100 HO HE hm)
  · have hm := HN.put8
    go_simp
    exact hK.out _ _ (fun _ => HO _ hm.bel) (lx0_0110 HO HE hm)
  · have hm := HN.put9
    go_simp
    exact hK.out _ _ (fun _ => HO _ hm.bel) (lx0_0101 HO HE hm)
theorem lx0_0010 {g7 : Nat} {W : World} (HO : ∀ W, Below w.heap.size w W → lS la ca lb cb gA gB W) (HE : lE la ca lb cb lc cc gA gB gC w Q) (HN : LX la ca lb cb w W none none (some g7) none) : wpAnyT Try.prog .any lqs Q (lS la ca lb cb gA gB) (fun i => decide (i < 12)) 7 #[true, true, false, false, true, true, false, false, true, false, false, false] (lF la ca lb cb lc cc gA gB gC (.pointer (some ⟨g7, 0, none⟩)) undef undef undef undef undef) W := by
  refine anyT_three (i := 2) (j := 6) (l := 9) (oi := lq2) (oj := lq6) (ol := lq9) (by kernel_rfl) rfl rfl rfl (fun K hK => ?_) (fun K hK => ?_) (fun K hK => ?_)
  · have hm := HN.put2
    go_simp
    exact hK.out _ _ (fun _ => HO _ hm.bel) (lx0_1010 HO HE hm)
  · have hm := HN.put6
    go_simp
    exact hK.out _ _ (fun _ => HO _ hm.bel) (lx0_0110 HO HE hm)
  · have hm := HN.put9
    go_simp
    exact hK.out _ _ (fun _ => HO _ hm.bel) (lx0_0011 HO HE hm)
theorem lx0_0001 {g8 : Nat} {W : World} (HO : ∀ W, Below w.heap.size w W → lS la ca lb cb gA gB W) (HE : lE la ca lb cb lc cc gA gB gC w Q) (HN : LX la ca lb cb w W none none none (some g8)) : wpAnyT Try.prog .any lqs Q (lS la ca lb cb gA gB) (fun i => decide (i < 12)) 7 #[true, true, false, false, true, true, false, false, false, true, false, false] (lF la ca lb cb lc cc gA gB gC undef (.pointer (some ⟨g8, 0, none⟩)) undef undef undef undef) W := by
  refine anyT_three (i := 2) (j := 6) (l := 8) (oi := lq2) (oj := lq6) (ol := lq8) (by kernel_rfl) rfl rfl rfl (fun K hK => ?_) (fun K hK => ?_) (fun K hK => ?_)
  · have hm := HN.put2
    go_simp
    exact hK.out _ _ (fun _ => HO _ hm.bel) (lx0_1001 HO HE hm)
  · have hm := HN.put6
    go_simp
    exact hK.out _ _ (fun _ => HO _ hm.bel) (lx0_0101 HO HE hm)
  · have hm := HN.put8
    go_simp
    exact hK.out _ _ (fun _ => HO _ hm.bel) (lx0_0011 HO HE hm)
theorem lx0_0000 {W : World} (HO : ∀ W, Below w.heap.size w W → lS la ca lb cb gA gB W) (HE : lE la ca lb cb lc cc gA gB gC w Q) (HN : LX la ca lb cb w W none none none none) : wpAnyT Try.prog .any lqs Q (lS la ca lb cb gA gB) (fun i => decide (i < 12)) 8 #[true, true, false, false, true, true, false, false, false, false, false, false] (lF la ca lb cb lc cc gA gB gC undef undef undef undef undef undef) W := by
  refine anyT_four (i := 2) (j := 6) (l := 8) (m := 9) (oi := lq2) (oj := lq6) (ol := lq8) (om := lq9) (by kernel_rfl) rfl rfl rfl rfl (fun K hK => ?_) (fun K hK => ?_) (fun K hK => ?_) (fun K hK => ?_)
  · have hm := HN.put2
    go_simp
    exact hK.out _ _ (fun _ => HO _ hm.bel) (lx0_1000 HO HE hm)
  · have hm := HN.put6
    go_simp
    exact hK.out _ _ (fun _ => HO _ hm.bel) (lx0_0100 HO HE hm)
  · have hm := HN.put8
    go_simp
    exact hK.out _ _ (fun _ => HO _ hm.bel) (lx0_0010 HO HE hm)
  · have hm := HN.put9
    go_simp
    exact hK.out _ _ (fun _ => HO _ hm.bel) (lx0_0001 HO HE hm)
end
end Go.Proofs.Ytbahnkomdndmkab
