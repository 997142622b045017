/- Two rows and a place for both, made in any order: the document's wide edits begin so. -/
import Derived.Test.YtidblnjohkadhaaDoorWds
import Derived.Deep.OwnRows
namespace Go.Proofs.YtidblnjohkadhaaDoor
set_option linter.unusedVariables false
set_option linter.unusedSimpArgs false
open Go.ChangeShapes Go.WideShapes Go.ChangeAt Go.RowKit Go.Joins Go.Deep

/-- what has been made so far -/
structure Mk3 (w0 w : World) (n : Nat) (p d x : Option Nat) : Prop where
  bel : Below w0.heap.size w0 w
  p : ∀ g, p = some g → RowAt w g 9 (sS (List.replicate (n + 1) [])) ∧ w0.heap.size ≤ g
  d : ∀ g, d = some g → RowAt w g 4 (bS (List.replicate n false)) ∧ w0.heap.size ≤ g
  x : ∀ g, x = some g → RowAt w g 88 [.slice none 0 0, .slice none 0 0] ∧ w0.heap.size ≤ g
theorem Mk3.start (w : World) (n : Nat) : Mk3 w w.drew n none none none := ⟨(Below.refl _ _).drew, (fun _ h => by cases h), (fun _ h => by cases h), (fun _ h => by cases h)⟩
theorem Mk3.more {w0 w : World} {n : Nat} {p d x : Option Nat} (h : Mk3 w0 w n p d x) (o : Obj) : Mk3 w0 (w.alloc o) n p d x :=
  have hb : Below w.heap.size w (w.alloc o) := (Below.refl _ _).alloc (Nat.le_refl _) _
  ⟨h.bel.trans (hb.mono h.bel.size), fun g e => ⟨(h.p g e).1.below hb (h.p g e).1.lt, (h.p g e).2⟩, fun g e => ⟨(h.d g e).1.below hb (h.d g e).1.lt, (h.d g e).2⟩, fun g e => ⟨(h.x g e).1.below hb (h.x g e).1.lt, (h.x g e).2⟩⟩
theorem Mk3.wpP {w0 W : World} {n : Nat} {d x : Option Nat} {o : Oper} {a : Act} {K : Act → World → Prop} {Q : Exit → Act → World → Prop} (HM : Mk3 w0 W n none d x) (l c : Operand) (hop : o.op = Op.makeSlice 85 l c) (hl : a.eval l = .int .i64 ((n + 1 : Nat) : Int)) (hc : a.eval c = .int .i64 ((n + 1 : Nat) : Int)) (hn : n ≤ 1099511627776)
    (h : ∀ g w', Mk3 w0 w' n (some g) d x → K (a.put o.dst (.slice (some ⟨g, 0, none⟩) (n + 1) (n + 1))) w') : o.wp Tryd.prog a W K Q := by
  obtain ⟨i0, hi, hz, hsz, hb⟩ := infoStr
  obtain ⟨m, hm⟩ : ∃ m, n + 1 = m := ⟨_, rfl⟩
  rw [hm] at hl hc
  have hrun := run_make_row (P := Tryd.prog) 85 9 i0 _ Tryd.underlying85 hi hz hsz rfl .i64 .i64 m (by rw [hb]; omega) (by omega) W
  unfold Oper.wp
  simp [execOp, hop, hl, hc, hrun, Result.andThen]
  subst hm
  refine h W.heap.size _ ?_
  have h1 := HM.more (.cells (madeCells #[.string ByteArray.empty] (n + 1)) 9)
  refine ⟨h1.bel, fun g e => ?_, h1.d, h1.x⟩
  obtain rfl := Option.some.inj e
  refine ⟨?_, HM.bel.size⟩
  have := RowAt.new W 9 (madeCells #[.string ByteArray.empty] (n + 1)).toList
  rw [Array.toArray_toList, toList_madeCells_one, sS_rep] at this
  exact this
theorem Mk3.wpD {w0 W : World} {n : Nat} {p x : Option Nat} {o : Oper} {a : Act} {K : Act → World → Prop} {Q : Exit → Act → World → Prop} (HM : Mk3 w0 W n p none x) (l c : Operand) (hop : o.op = Op.makeSlice 86 l c) (hl : a.eval l = .int .i64 ((n : Nat) : Int)) (hc : a.eval c = .int .i64 ((n : Nat) : Int)) (hn : n ≤ 1099511627776)
    (h : ∀ g w', Mk3 w0 w' n p (some g) x → K (a.put o.dst (.slice (some ⟨g, 0, none⟩) n n)) w') : o.wp Tryd.prog a W K Q := by
  obtain ⟨i0, hi, hz, hsz, hb⟩ := infoBoo
  have hrun := run_make_row (P := Tryd.prog) 86 4 i0 _ Tryd.underlying86 hi hz hsz rfl .i64 .i64 n (by rw [hb]; omega) (by omega) W
  unfold Oper.wp
  simp [execOp, hop, hl, hc, hrun, Result.andThen]
  refine h W.heap.size _ ?_
  have h1 := HM.more (.cells (madeCells #[.bool false] n) 4)
  refine ⟨h1.bel, h1.p, fun g e => ?_, h1.x⟩
  obtain rfl := Option.some.inj e
  refine ⟨?_, HM.bel.size⟩
  have := RowAt.new W 4 (madeCells #[.bool false] n).toList
  rw [Array.toArray_toList, toList_madeCells_one, bS_rep] at this
  exact this
theorem info88 : ∃ i, Tryd.prog.info? 88 = some i ∧ i.zero = some (.agg #[.slice none 0 0, .slice none 0 0]) ∧ i.size = 2 ∧ i.bytes = 48 := info_parts (by kernel_rfl)
theorem Mk3.wpX {w0 W : World} {n : Nat} {p d : Option Nat} {o : Oper} {a : Act} {K : Act → World → Prop} {Q : Exit → Act → World → Prop} (HM : Mk3 w0 W n p d none) (hop : o.op = Op.alloc 88)
    (h : ∀ g w', Mk3 w0 w' n p d (some g) → K (a.put o.dst (.pointer (some ⟨g, 0, none⟩))) w') : o.wp Tryd.prog a W K Q := by
  obtain ⟨ds, op, ty, ps, af, gd⟩ := o
  obtain rfl : op = Op.alloc 88 := hop
  go_simp
  refine h W.heap.size _ ?_
  have h1 := HM.more (.cells #[.slice none 0 0, .slice none 0 0] 88)
  refine ⟨h1.bel, h1.p, h1.d, fun g e => ?_⟩
  obtain rfl := Option.some.inj e
  exact ⟨RowAt.new W 88 [.slice none 0 0, .slice none 0 0], HM.bel.size⟩
/-- all is made -/
structure Mkd (w0 w : World) (n gP gD gW : Nat) : Prop where
  wd : Wd w w0.heap.size (.slice (some ⟨gP, 0, none⟩) (n + 1) (n + 1)) (.slice (some ⟨gD, 0, none⟩) n n) (List.replicate (n + 1) []) (List.replicate n false)
  x : RowAt w gW 88 [.slice (some ⟨gP, 0, none⟩) (n + 1) (n + 1), .slice (some ⟨gD, 0, none⟩) n n]
  gx : w0.heap.size ≤ gW
  bel : Below w0.heap.size w0 w
theorem Mk3.store {w0 W : World} {n gP gD gW : Nat} (HM : Mk3 w0 W n (some gP) (some gD) (some gW)) (hn : n ≤ 1099511627776) : Mkd w0 ((W.setCell ⟨gW, 0, none⟩ (.slice (some ⟨gP, 0, none⟩) (n + 1) (n + 1))).setCell ⟨gW, 1, none⟩ (.slice (some ⟨gD, 0, none⟩) n n)) n gP gD gW := by
  obtain ⟨p1, p2⟩ := HM.p gP rfl
  obtain ⟨d1, d2⟩ := HM.d gD rfl
  obtain ⟨x1, x2⟩ := HM.x gW rfl
  have op : W.ownsRow w0.heap.size 9 1 (.slice (some ⟨gP, 0, none⟩) (n + 1) (n + 1)) (n + 1) (sS (List.replicate (n + 1) [])) := by
    have := own_row p1 p2 (by rw [sS_len, List.length_replicate]; unfold maxLen; omega)
    rw [sS_len, List.length_replicate] at this
    exact this
  have od : W.ownsRow w0.heap.size 4 1 (.slice (some ⟨gD, 0, none⟩) n n) n (bS (List.replicate n false)) := by
    have := own_row d1 d2 (by rw [bS_len, List.length_replicate]; unfold maxLen; omega)
    rw [bS_len, List.length_replicate] at this
    exact this
  have wd : Wd W w0.heap.size (.slice (some ⟨gP, 0, none⟩) (n + 1) (n + 1)) (.slice (some ⟨gD, 0, none⟩) n n) (List.replicate (n + 1) []) (List.replicate n false) := ⟨by rw [List.length_replicate]; exact op, by rw [List.length_replicate]; exact od⟩
  obtain ⟨n1, n2⟩ := wd.row_ne x1 (by decide) (by decide)
  refine ⟨(wd.other n1 n2).other n1 n2, ?_, x2, (HM.bel.setCell (by show w0.heap.size ≤ gW; exact x2) _).setCell (by show w0.heap.size ≤ gW; exact x2) _⟩
  have := (x1.set 0 (.slice (some ⟨gP, 0, none⟩) (n + 1) (n + 1))).set 1 (.slice (some ⟨gD, 0, none⟩) n n)
  exact this
end Go.Proofs.YtidblnjohkadhaaDoor
