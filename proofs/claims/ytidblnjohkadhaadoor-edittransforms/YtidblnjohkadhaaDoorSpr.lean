/- An edit spread out: the walk of the document's own. -/
import Derived.Test.YtidblnjohkadhaaDoorWds
namespace Go.Proofs.YtidblnjohkadhaaDoor
set_option linter.unusedVariables false
set_option linter.unusedSimpArgs false
open Go.ChangeShapes Go.WideShapes Go.ChangeAt Go.RowKit Go.Joins Go.Deep

/-- what lies there while an edit is spread out -/
structure SpW (w wr : World) (bb gP gD gW n m : Nat) (P : List (List (List UInt8))) (D : List Bool) (at_ : Nat) (x : List At) : Prop where
  wd : Wd wr w.heap.size (.slice (some ⟨gP, 0, none⟩) m m) (.slice (some ⟨gD, 0, none⟩) n n) P D
  bx : RowAt wr gW 88 [.slice (some ⟨gP, 0, none⟩) m m, .slice (some ⟨gD, 0, none⟩) n n]
  r : RowAt wr bb 88 [.slice none 0 0, .slice none 0 0]
  ne : gW ≠ bb
  sp : SpI n P D at_ x
  bel : Below w.heap.size w wr
theorem SpW.call {w wr wr' : World} {bb gP gD gW n m : Nat} {P : List (List (List UInt8))} {D : List Bool} {at_ : Nat} {x : List At} (h : SpW w wr bb gP gD gW n m P D at_ x) (hb : Below wr.heap.size wr wr') : SpW w wr' bb gP gD gW n m P D at_ x :=
  ⟨h.wd.call hb, h.bx.below hb h.bx.lt, h.r.below hb h.r.lt, h.ne, h.sp, h.bel.trans (hb.mono h.bel.size)⟩
theorem SpW.put {w wr : World} {bb gP gD gW n m : Nat} {P : List (List (List UInt8))} {D : List Bool} {at_ : Nat} {x : List At} (h : SpW w wr bb gP gD gW n m P D at_ x) (hm : n + 1 = m) {q cs : List (List UInt8)} (hq : P[at_]? = some q) (hc : Cps cs) : SpW w (wr.setCell ⟨gP, at_, none⟩ (.string (txB (q ++ cs)))) bb gP gD gW n m (P.set at_ (q ++ cs)) D at_ (x ++ cs.map .p) := by
  have hl : P.length = m := by rw [h.sp.pl, hm]
  have wd := h.wd
  rw [← hl] at wd
  have h1 := wd.set_p at_ (q ++ cs) (List.getElem?_eq_some_iff.1 hq).1
  rw [hl] at h1
  obtain ⟨x1, -⟩ := h.wd.row_ne h.bx (by decide) (by decide)
  obtain ⟨r1, -⟩ := h.wd.row_ne h.r (by decide) (by decide)
  have e1 : gP ≠ gW := fun e => x1 (by rw [e]; rfl)
  have e2 : gP ≠ bb := fun e => r1 (by rw [e]; rfl)
  have hP : w.heap.size ≤ gP := by
    obtain ⟨g, c, e, _, _, hB, _⟩ := h.wd.rd_p hq
    cases e; exact hB
  have ho : Only (fun k => k = gP) wr (wr.setCell ⟨gP, at_, none⟩ (.string (txB (q ++ cs)))) := (Only.refl _ _).set gP at_ _ rfl
  exact ⟨h1, h.bx.only ho (fun e => e1 e.symm), h.r.only ho (fun e => e2 e.symm), h.ne, h.sp.put hq hc, h.bel.setCell (by show w.heap.size ≤ gP; exact hP) _⟩
theorem SpW.step {w wr : World} {bb gP gD gW n m : Nat} {P : List (List (List UInt8))} {D : List Bool} {at_ : Nat} {x : List At} (h : SpW w wr bb gP gD gW n m P D at_ x) (ha : at_ < n) (b : Bool) : SpW w (wr.setCell ⟨gD, at_, none⟩ (.bool b)) bb gP gD gW n m P (D.set at_ b) (at_ + 1) (x ++ [stp b]) := by
  have hl := h.sp.dl
  have wd := h.wd
  rw [← hl] at wd
  have h1 := wd.set_d at_ b (by omega)
  rw [hl] at h1
  obtain ⟨-, x1⟩ := h.wd.row_ne h.bx (by decide) (by decide)
  obtain ⟨-, r1⟩ := h.wd.row_ne h.r (by decide) (by decide)
  have e1 : gD ≠ gW := fun e => x1 (by rw [e]; rfl)
  have e2 : gD ≠ bb := fun e => r1 (by rw [e]; rfl)
  have hP : w.heap.size ≤ gD := by
    obtain ⟨g, c, e, _, _, hB, _⟩ := h.wd.rd_d (List.getElem?_eq_getElem (show at_ < D.length by omega))
    cases e; exact hB
  have ho : Only (fun k => k = gD) wr (wr.setCell ⟨gD, at_, none⟩ (.bool b)) := (Only.refl _ _).set gD at_ _ rfl
  exact ⟨h1, h.bx.only ho (fun e => e1 e.symm), h.r.only ho (fun e => e2 e.symm), h.ne, h.sp.step ha b, h.bel.setCell (by show w.heap.size ≤ gD; exact hP) _⟩
theorem Wd.cp {w : World} {B g k c : Nat} {vD : Value} {P : List (List (List UInt8))} {D : List Bool} (h : Wd w B (.slice (some ⟨g, 0, none⟩) k c) vD P D) {i : Nat} {q : List (List UInt8)} (hq : P[i]? = some q) : w.cell? ⟨g, i, none⟩ = some (.string (txB q)) ∧ w.frozen? ⟨g, i, none⟩ = false := by
  obtain ⟨g', c', e, h1, h2, _⟩ := h.rd_p hq
  cases e
  exact ⟨h1, h2⟩
theorem Wd.cd {w : World} {B g k c : Nat} {vP : Value} {P : List (List (List UInt8))} {D : List Bool} (h : Wd w B vP (.slice (some ⟨g, 0, none⟩) k c) P D) {i : Nat} {b : Bool} (hq : D[i]? = some b) : w.cell? ⟨g, i, none⟩ = some (.bool b) ∧ w.frozen? ⟨g, i, none⟩ = false := by
  obtain ⟨g', c', e, h1, h2, _⟩ := h.rd_d hq
  cases e
  exact ⟨h1, h2⟩
theorem Mkd.sp {w wA wm : World} {n m bb gP gD gW : Nat} (h : Mkd wA wm n gP gD gW) (hb : Below w.heap.size w wA) (hr : RowAt wA bb 88 [.slice none 0 0, .slice none 0 0]) (hm : n + 1 = m) : SpW w wm bb gP gD gW n m (List.replicate m []) (List.replicate n false) 0 [] := by
  subst hm
  refine ⟨h.wd.base hb.size, h.x, hr.below h.bel hr.lt, fun e => ?_, SpI.start n, hb.trans (h.bel.mono hb.size)⟩
  have h1 := h.gx
  have h2 := hr.lt
  omega
theorem atomsL_take {l : List Pt} {k : Nat} {p : Pt} (h : l[k]? = some p) : atomsL (l.take (k + 1)) = atomsL (l.take k) ++ atoms p := by
  rw [List.take_add_one, h, atomsL_append]
  simp [atomsL]
theorem from_take {l : List Pt} {k : Nat} {p : Pt} (h : l[k]? = some p) : At.fromN (atomsL (l.take k)) + At.fromN (atoms p) ≤ At.fromN (atomsL l) := by
  have h1 := atomsL_take h
  have h2 : atomsL l = atomsL (l.take (k + 1)) ++ atomsL (l.drop (k + 1)) := by rw [← atomsL_append, List.take_append_drop]
  rw [h2, At.from_app, h1, At.from_app]
  omega
theorem to_take {l : List Pt} {k : Nat} {p : Pt} (h : l[k]? = some p) : (atomsL (l.take k)).length + (atoms p).length ≤ (atomsL l).length := by
  have h1 := atomsL_take h
  have h2 : atomsL l = atomsL (l.take (k + 1)) ++ atomsL (l.drop (k + 1)) := by rw [← atomsL_append, List.take_append_drop]
  rw [h2, List.length_append, h1, List.length_append]
  omega
theorem at_len (x : List At) : x.length ≤ At.fromN x + At.toN x := by
  induction x with
  | nil => simp
  | cons s x ih => cases s <;> simp only [List.length_cons, At.fromN, At.toN] <;> omega
set_option maxRecDepth 100000 in
set_option maxHeartbeats 4000000 in
theorem spread_any (a : Option Addr) (l : List Pt) (c : Nat) (n t : Nat) (w : World) (hp : PtsAt w a l) (he : IsEd l n t) (hc : l.length ≤ 4194304) :
    Calls Tryd.prog 70 #[.slice a l.length c, .int .i64 (n : Int)] w fun r w' => ∃ gP gD m P D, n + 1 = m ∧ r = .returned (.agg #[.slice (some ⟨gP, 0, none⟩) m m, .slice (some ⟨gD, 0, none⟩) n n]) ∧ Wd w' w.heap.size (.slice (some ⟨gP, 0, none⟩) m m) (.slice (some ⟨gD, 0, none⟩) n n) P D ∧ wAts P D = atomsL l ∧ P.length = n + 1 ∧ D.length = n ∧ (∀ q ∈ P, Cps q) ∧ Below w.heap.size w w' := by
  have HP := hide hp
  have HE := hide he
  have HN40 : Hid (n ≤ 1099511627776) := hide he.2.2.2.1
  obtain ⟨nl, hnl⟩ : ∃ z, l.length = z := ⟨_, rfl⟩
  rw [hnl] at hc ⊢
  have HNL := hide hnl
  have nI : (nl : Int) ≤ 9223372036854775807 := by omega
  have hw1 : IntKind.i64.wrap ((n : Int) + 1) = ((n + 1 : Nat) : Int) := by have := unhide HN40; rw [IntKind.wrap_i64] <;> omega
  clear hp he hnl
  go_enter Tryd.func70, Tryd.ntmps70
  go_wp2_with fail
  have HBA : Hid (Below w.heap.size w (w.alloc (.cells #[.slice none 0 0, .slice none 0 0] 88))) := hide ((Below.refl _ _).alloc (Nat.le_refl _) _)
  have HRA := hide (RowAt.new w 88 [.slice none 0 0, .slice none 0 0])
  obtain ⟨wA, hA⟩ : ∃ wA, w.alloc (.cells #[.slice none 0 0, .slice none 0 0] 88) = wA := ⟨_, rfl⟩
  have HRA : Hid (RowAt wA w.heap.size 88 [.slice none 0 0, .slice none 0 0]) := by rw [← hA]; exact HRA
  rw [hA] at HBA ⊢
  clear hA
  obtain ⟨bb, hbb⟩ : ∃ bb, w.heap.size = bb := ⟨_, rfl⟩
  have HRA : Hid (RowAt wA bb 88 [.slice none 0 0, .slice none 0 0]) := by rw [← hbb]; exact HRA
  have HBA : Hid (Below w.heap.size w wA) := HBA
  rw [show (Value.pointer (some ({ block := w.heap.size, off := 0 } : Addr))) = Value.pointer (some ({ block := bb, off := 0 } : Addr)) by rw [hbb]]
  have HBB : Hid (w.heap.size ≤ bb) := hide (by omega)
  clear hbb
  refine reg_post (fun a_ w_ => ∃ gP gD gW, a_ = ({ tmps := #[.slice a nl c, .int .i64 (n : Int), undef, undef, .pointer (some ⟨bb, 0, none⟩), .pointer (some ⟨gW, 0, none⟩), undef, undef, undef, .int .i64 (n : Int), .int .i64 ((n + 1 : Nat) : Int), .slice (some ⟨gP, 0, none⟩) (n + 1) (n + 1), .int .i64 (n : Int), .slice (some ⟨gD, 0, none⟩) n n, .agg #[.slice (some ⟨gP, 0, none⟩) (n + 1) (n + 1), .slice (some ⟨gD, 0, none⟩) n n], undef, undef, undef, undef, undef, undef, undef, undef, undef, undef, undef, undef, undef, undef, undef, undef, undef, undef, undef, undef, undef, undef, undef, undef, undef, undef, undef, undef, undef, undef, undef, undef, undef, undef, undef, undef, undef], defers := [] } : Act) ∧ Mkd wA w_ n gP gD gW) ?_ ?_
  · refine wp_region_T (S := fun _ => True) (fun i => decide (i < 8)) (by kernel_rfl) trivial (fun hHeld => ?_)
    refine wpAnyT_take (i := 0) (oi := { dst := some 9, op := Op.move (Operand.tmp 1), type := 3, pos := "ref.go:64", after := #[], guard := none }) (v := .int .i64 (n : Int)) rfl (by kernel_rfl) (by kernel_rfl) (by kernel_rfl) (by kernel_rfl) (fun _ _ _ h => by cases h.1) (Or.inl ⟨by rfl, ?_⟩) hHeld ?_
    · intro w hSw
      first
        | rfl
        | (go_simp; done)
    try simp only [Act.put, List.setIfInBounds_toArray, List.set_cons_zero, List.set_cons_succ]
    refine wpAnyT_take (i := 1) (oi := { dst := some 10, op := Op.binOp BinOp.add 3 (Operand.tmp 9) (Operand.const (Value.int IntKind.i64 1)) 3, type := 3, pos := "ref.go:64", after := #[{ on := 0, ground := Ground.data }], guard := none }) (v := .int .i64 ((n + 1 : Nat) : Int)) rfl (by kernel_rfl) (by kernel_rfl) (by kernel_rfl) (by kernel_rfl) (fun _ _ _ h => by cases h.1) (Or.inl ⟨by rfl, ?_⟩) hHeld ?_
    · intro w hSw
      go_simp
      try simp only [hw1]
      try trivial
      try rfl
    try simp only [Act.put, List.setIfInBounds_toArray, List.set_cons_zero, List.set_cons_succ]
    refine wpAnyT_take (i := 3) (oi := { dst := some 12, op := Op.move (Operand.tmp 1), type := 3, pos := "ref.go:64", after := #[], guard := none }) (v := .int .i64 (n : Int)) rfl (by kernel_rfl) (by kernel_rfl) (by kernel_rfl) (by kernel_rfl) (fun _ _ _ h => by cases h.1) (Or.inl ⟨by rfl, ?_⟩) hHeld ?_
    · intro w hSw
      first
        | rfl
        | (go_simp; done)
    try simp only [Act.put, List.setIfInBounds_toArray, List.set_cons_zero, List.set_cons_succ]
    have HM0 := hide (Mk3.start wA n)
    refine anyT_three (i := 2) (j := 4) (l := 6) (oi := { dst := some 11, op := Op.makeSlice 85 (Operand.tmp 10) (Operand.tmp 10), type := 85, pos := "ref.go:64", after := #[{ on := 1, ground := Ground.data }, { on := 1, ground := Ground.data }], guard := none }) (oj := { dst := some 13, op := Op.makeSlice 86 (Operand.tmp 12) (Operand.tmp 12), type := 86, pos := "ref.go:64", after := #[{ on := 3, ground := Ground.data }, { on := 3, ground := Ground.data }], guard := none }) (ol := { dst := some 5, op := Op.alloc 88, type := 0, pos := "ref.go:64", after := #[], guard := none }) (by kernel_rfl) rfl rfl rfl (fun K hK => ?_) (fun K hK => ?_) (fun K hK => ?_)
    · rw [if_pos (by rfl)]
      refine (unhide HM0).wpP _ _ rfl rfl rfl (unhide HN40) (fun gP wk1 hm => ?_)
      have HM1 := hide hm
      refine hK.out _ _ (fun _ => trivial) ?_
      clear hK K hm HM0
      try simp only [Act.put, List.setIfInBounds_toArray, List.set_cons_zero, List.set_cons_succ]
      refine anyU_two (i := 4) (j := 6) (oi := { dst := some 13, op := Op.makeSlice 86 (Operand.tmp 12) (Operand.tmp 12), type := 86, pos := "ref.go:64", after := #[{ on := 3, ground := Ground.data }, { on := 3, ground := Ground.data }], guard := none }) (oj := { dst := some 5, op := Op.alloc 88, type := 0, pos := "ref.go:64", after := #[], guard := none }) (by kernel_rfl) rfl rfl (fun K hK => ?_) (fun K hK => ?_)
      · rw [if_pos (by rfl)]
        refine (unhide HM1).wpD _ _ rfl rfl rfl (unhide HN40) (fun gD wk2 hm => ?_)
        have HM2 := hide hm
        refine hK.out _ _ (fun _ => trivial) ?_
        clear hK K hm HM1
        try simp only [Act.put, List.setIfInBounds_toArray, List.set_cons_zero, List.set_cons_succ]
        refine wpAnyT_take (i := 5) (oi := { dst := some 14, op := Op.build 88 #[(0, Operand.tmp 11), (1, Operand.tmp 13)], type := 88, pos := "ref.go:64", after := #[{ on := 2, ground := Ground.data }, { on := 4, ground := Ground.data }], guard := none }) (v := .agg #[.slice (some ⟨gP, 0, none⟩) (n + 1) (n + 1), .slice (some ⟨gD, 0, none⟩) n n]) rfl (by kernel_rfl) (by kernel_rfl) (by kernel_rfl) (by kernel_rfl) (fun _ _ _ h => by cases h.1) (Or.inl ⟨by rfl, ?_⟩) trivial ?_
        · intro w hSw
          first
            | rfl
            | (go_simp; done)
        try simp only [Act.put, List.setIfInBounds_toArray, List.set_cons_zero, List.set_cons_succ]
        refine wpAnyT_one (i := 6) (o := { dst := some 5, op := Op.alloc 88, type := 0, pos := "ref.go:64", after := #[], guard := none }) (by kernel_rfl) rfl (fun K hK => ?_)
        rw [if_pos (by rfl)]
        refine (unhide HM2).wpX rfl (fun gW wk3 hm => ?_)
        have HM3 := hide hm
        refine hK.out _ _ (fun _ => trivial) ?_
        clear hK K hm HM2
        try simp only [Act.put, List.setIfInBounds_toArray, List.set_cons_zero, List.set_cons_succ]
        have HMS := hide ((unhide HM3).store (unhide HN40))
        have fr0 := ((unhide HM3).x gW rfl).1.frozen 0
        have fr1 := ((unhide HM3).x gW rfl).1.frozen 1
        have xc0 : wk3.cell? ⟨gW, 0, none⟩ = some (.slice none 0 0) := ((unhide HM3).x gW rfl).1.cell 0
        have xc1 : wk3.cell? ⟨gW, 1, none⟩ = some (.slice none 0 0) := ((unhide HM3).x gW rfl).1.cell 1
        refine wpAnyT_one (i := 7) (o := { dst := none, op := Op.store 88 (Operand.tmp 5) (Operand.tmp 14), type := 0, pos := "ref.go:64", after := #[{ on := 6, ground := Ground.data }, { on := 5, ground := Ground.data }, { on := 0, ground := Ground.phase }, { on := 1, ground := Ground.phase }, { on := 2, ground := Ground.phase }, { on := 3, ground := Ground.phase }, { on := 4, ground := Ground.phase }, { on := 5, ground := Ground.phase }, { on := 6, ground := Ground.phase }], guard := none }) (by kernel_rfl) rfl (fun K hK => ?_)
        go_simp
        refine hK.out _ _ (fun _ => trivial) ?_
        clear hK K
        try simp only [Act.put, List.setIfInBounds_toArray, List.set_cons_zero, List.set_cons_succ]
        refine wpAnyT_done (by kernel_rfl) ?_ _
        exact ⟨rfl, gP, gD, gW, rfl, unhide HMS⟩
      · rw [if_pos (by rfl)]
        refine (unhide HM1).wpX rfl (fun gW wk2 hm => ?_)
        have HM2 := hide hm
        refine hK.out _ _ (fun _ => trivial) ?_
        clear hK K hm HM1
        try simp only [Act.put, List.setIfInBounds_toArray, List.set_cons_zero, List.set_cons_succ]
        refine wpAnyT_one (i := 4) (o := { dst := some 13, op := Op.makeSlice 86 (Operand.tmp 12) (Operand.tmp 12), type := 86, pos := "ref.go:64", after := #[{ on := 3, ground := Ground.data }, { on := 3, ground := Ground.data }], guard := none }) (by kernel_rfl) rfl (fun K hK => ?_)
        rw [if_pos (by rfl)]
        refine (unhide HM2).wpD _ _ rfl rfl rfl (unhide HN40) (fun gD wk3 hm => ?_)
        have HM3 := hide hm
        refine hK.out _ _ (fun _ => trivial) ?_
        clear hK K hm HM2
        try simp only [Act.put, List.setIfInBounds_toArray, List.set_cons_zero, List.set_cons_succ]
        refine wpAnyT_take (i := 5) (oi := { dst := some 14, op := Op.build 88 #[(0, Operand.tmp 11), (1, Operand.tmp 13)], type := 88, pos := "ref.go:64", after := #[{ on := 2, ground := Ground.data }, { on := 4, ground := Ground.data }], guard := none }) (v := .agg #[.slice (some ⟨gP, 0, none⟩) (n + 1) (n + 1), .slice (some ⟨gD, 0, none⟩) n n]) rfl (by kernel_rfl) (by kernel_rfl) (by kernel_rfl) (by kernel_rfl) (fun _ _ _ h => by cases h.1) (Or.inl ⟨by rfl, ?_⟩) trivial ?_
        · intro w hSw
          first
            | rfl
            | (go_simp; done)
        try simp only [Act.put, List.setIfInBounds_toArray, List.set_cons_zero, List.set_cons_succ]
        have HMS := hide ((unhide HM3).store (unhide HN40))
        have fr0 := ((unhide HM3).x gW rfl).1.frozen 0
        have fr1 := ((unhide HM3).x gW rfl).1.frozen 1
        have xc0 : wk3.cell? ⟨gW, 0, none⟩ = some (.slice none 0 0) := ((unhide HM3).x gW rfl).1.cell 0
        have xc1 : wk3.cell? ⟨gW, 1, none⟩ = some (.slice none 0 0) := ((unhide HM3).x gW rfl).1.cell 1
        refine wpAnyT_one (i := 7) (o := { dst := none, op := Op.store 88 (Operand.tmp 5) (Operand.tmp 14), type := 0, pos := "ref.go:64", after := #[{ on := 6, ground := Ground.data }, { on := 5, ground := Ground.data }, { on := 0, ground := Ground.phase }, { on := 1, ground := Ground.phase }, { on := 2, ground := Ground.phase }, { on := 3, ground := Ground.phase }, { on := 4, ground := Ground.phase }, { on := 5, ground := Ground.phase }, { on := 6, ground := Ground.phase }], guard := none }) (by kernel_rfl) rfl (fun K hK => ?_)
        go_simp
        refine hK.out _ _ (fun _ => trivial) ?_
        clear hK K
        try simp only [Act.put, List.setIfInBounds_toArray, List.set_cons_zero, List.set_cons_succ]
        refine wpAnyT_done (by kernel_rfl) ?_ _
        exact ⟨rfl, gP, gD, gW, rfl, unhide HMS⟩
    · rw [if_pos (by rfl)]
      refine (unhide HM0).wpD _ _ rfl rfl rfl (unhide HN40) (fun gD wk1 hm => ?_)
      have HM1 := hide hm
      refine hK.out _ _ (fun _ => trivial) ?_
      clear hK K hm HM0
      try simp only [Act.put, List.setIfInBounds_toArray, List.set_cons_zero, List.set_cons_succ]
      refine anyU_two (i := 2) (j := 6) (oi := { dst := some 11, op := Op.makeSlice 85 (Operand.tmp 10) (Operand.tmp 10), type := 85, pos := "ref.go:64", after := #[{ on := 1, ground := Ground.data }, { on := 1, ground := Ground.data }], guard := none }) (oj := { dst := some 5, op := Op.alloc 88, type := 0, pos := "ref.go:64", after := #[], guard := none }) (by kernel_rfl) rfl rfl (fun K hK => ?_) (fun K hK => ?_)
      · rw [if_pos (by rfl)]
        refine (unhide HM1).wpP _ _ rfl rfl rfl (unhide HN40) (fun gP wk2 hm => ?_)
        have HM2 := hide hm
        refine hK.out _ _ (fun _ => trivial) ?_
        clear hK K hm HM1
        try simp only [Act.put, List.setIfInBounds_toArray, List.set_cons_zero, List.set_cons_succ]
        refine wpAnyT_take (i := 5) (oi := { dst := some 14, op := Op.build 88 #[(0, Operand.tmp 11), (1, Operand.tmp 13)], type := 88, pos := "ref.go:64", after := #[{ on := 2, ground := Ground.data }, { on := 4, ground := Ground.data }], guard := none }) (v := .agg #[.slice (some ⟨gP, 0, none⟩) (n + 1) (n + 1), .slice (some ⟨gD, 0, none⟩) n n]) rfl (by kernel_rfl) (by kernel_rfl) (by kernel_rfl) (by kernel_rfl) (fun _ _ _ h => by cases h.1) (Or.inl ⟨by rfl, ?_⟩) trivial ?_
        · intro w hSw
          first
            | rfl
            | (go_simp; done)
        try simp only [Act.put, List.setIfInBounds_toArray, List.set_cons_zero, List.set_cons_succ]
        refine wpAnyT_one (i := 6) (o := { dst := some 5, op := Op.alloc 88, type := 0, pos := "ref.go:64", after := #[], guard := none }) (by kernel_rfl) rfl (fun K hK => ?_)
        rw [if_pos (by rfl)]
        refine (unhide HM2).wpX rfl (fun gW wk3 hm => ?_)
        have HM3 := hide hm
        refine hK.out _ _ (fun _ => trivial) ?_
        clear hK K hm HM2
        try simp only [Act.put, List.setIfInBounds_toArray, List.set_cons_zero, List.set_cons_succ]
        have HMS := hide ((unhide HM3).store (unhide HN40))
        have fr0 := ((unhide HM3).x gW rfl).1.frozen 0
        have fr1 := ((unhide HM3).x gW rfl).1.frozen 1
        have xc0 : wk3.cell? ⟨gW, 0, none⟩ = some (.slice none 0 0) := ((unhide HM3).x gW rfl).1.cell 0
        have xc1 : wk3.cell? ⟨gW, 1, none⟩ = some (.slice none 0 0) := ((unhide HM3).x gW rfl).1.cell 1
        refine wpAnyT_one (i := 7) (o := { dst := none, op := Op.store 88 (Operand.tmp 5) (Operand.tmp 14), type := 0, pos := "ref.go:64", after := #[{ on := 6, ground := Ground.data }, { on := 5, ground := Ground.data }, { on := 0, ground := Ground.phase }, { on := 1, ground := Ground.phase }, { on := 2, ground := Ground.phase }, { on := 3, ground := Ground.phase }, { on := 4, ground := Ground.phase }, { on := 5, ground := Ground.phase }, { on := 6, ground := Ground.phase }], guard := none }) (by kernel_rfl) rfl (fun K hK => ?_)
        go_simp
        refine hK.out _ _ (fun _ => trivial) ?_
        clear hK K
        try simp only [Act.put, List.setIfInBounds_toArray, List.set_cons_zero, List.set_cons_succ]
        refine wpAnyT_done (by kernel_rfl) ?_ _
        exact ⟨rfl, gP, gD, gW, rfl, unhide HMS⟩
      · rw [if_pos (by rfl)]
        refine (unhide HM1).wpX rfl (fun gW wk2 hm => ?_)
        have HM2 := hide hm
        refine hK.out _ _ (fun _ => trivial) ?_
        clear hK K hm HM1
        try simp only [Act.put, List.setIfInBounds_toArray, List.set_cons_zero, List.set_cons_succ]
        refine wpAnyT_one (i := 2) (o := { dst := some 11, op := Op.makeSlice 85 (Operand.tmp 10) (Operand.tmp 10), type := 85, pos := "ref.go:64", after := #[{ on := 1, ground := Ground.data }, { on := 1, ground := Ground.data }], guard := none }) (by kernel_rfl) rfl (fun K hK => ?_)
        rw [if_pos (by rfl)]
        refine (unhide HM2).wpP _ _ rfl rfl rfl (unhide HN40) (fun gP wk3 hm => ?_)
        have HM3 := hide hm
        refine hK.out _ _ (fun _ => trivial) ?_
        clear hK K hm HM2
        try simp only [Act.put, List.setIfInBounds_toArray, List.set_cons_zero, List.set_cons_succ]
        refine wpAnyT_take (i := 5) (oi := { dst := some 14, op := Op.build 88 #[(0, Operand.tmp 11), (1, Operand.tmp 13)], type := 88, pos := "ref.go:64", after := #[{ on := 2, ground := Ground.data }, { on := 4, ground := Ground.data }], guard := none }) (v := .agg #[.slice (some ⟨gP, 0, none⟩) (n + 1) (n + 1), .slice (some ⟨gD, 0, none⟩) n n]) rfl (by kernel_rfl) (by kernel_rfl) (by kernel_rfl) (by kernel_rfl) (fun _ _ _ h => by cases h.1) (Or.inl ⟨by rfl, ?_⟩) trivial ?_
        · intro w hSw
          first
            | rfl
            | (go_simp; done)
        try simp only [Act.put, List.setIfInBounds_toArray, List.set_cons_zero, List.set_cons_succ]
        have HMS := hide ((unhide HM3).store (unhide HN40))
        have fr0 := ((unhide HM3).x gW rfl).1.frozen 0
        have fr1 := ((unhide HM3).x gW rfl).1.frozen 1
        have xc0 : wk3.cell? ⟨gW, 0, none⟩ = some (.slice none 0 0) := ((unhide HM3).x gW rfl).1.cell 0
        have xc1 : wk3.cell? ⟨gW, 1, none⟩ = some (.slice none 0 0) := ((unhide HM3).x gW rfl).1.cell 1
        refine wpAnyT_one (i := 7) (o := { dst := none, op := Op.store 88 (Operand.tmp 5) (Operand.tmp 14), type := 0, pos := "ref.go:64", after := #[{ on := 6, ground := Ground.data }, { on := 5, ground := Ground.data }, { on := 0, ground := Ground.phase }, { on := 1, ground := Ground.phase }, { on := 2, ground := Ground.phase }, { on := 3, ground := Ground.phase }, { on := 4, ground := Ground.phase }, { on := 5, ground := Ground.phase }, { on := 6, ground := Ground.phase }], guard := none }) (by kernel_rfl) rfl (fun K hK => ?_)
        go_simp
        refine hK.out _ _ (fun _ => trivial) ?_
        clear hK K
        try simp only [Act.put, List.setIfInBounds_toArray, List.set_cons_zero, List.set_cons_succ]
        refine wpAnyT_done (by kernel_rfl) ?_ _
        exact ⟨rfl, gP, gD, gW, rfl, unhide HMS⟩
    · rw [if_pos (by rfl)]
      refine (unhide HM0).wpX rfl (fun gW wk1 hm => ?_)
      have HM1 := hide hm
      refine hK.out _ _ (fun _ => trivial) ?_
      clear hK K hm HM0
      try simp only [Act.put, List.setIfInBounds_toArray, List.set_cons_zero, List.set_cons_succ]
      refine anyU_two (i := 2) (j := 4) (oi := { dst := some 11, op := Op.makeSlice 85 (Operand.tmp 10) (Operand.tmp 10), type := 85, pos := "ref.go:64", after := #[{ on := 1, ground := Ground.data }, { on := 1, ground := Ground.data }], guard := none }) (oj := { dst := some 13, op := Op.makeSlice 86 (Operand.tmp 12) (Operand.tmp 12), type := 86, pos := "ref.go:64", after := #[{ on := 3, ground := Ground.data }, { on := 3, ground := Ground.data }], guard := none }) (by kernel_rfl) rfl rfl (fun K hK => ?_) (fun K hK => ?_)
      · rw [if_pos (by rfl)]
        refine (unhide HM1).wpP _ _ rfl rfl rfl (unhide HN40) (fun gP wk2 hm => ?_)
        have HM2 := hide hm
        refine hK.out _ _ (fun _ => trivial) ?_
        clear hK K hm HM1
        try simp only [Act.put, List.setIfInBounds_toArray, List.set_cons_zero, List.set_cons_succ]
        refine wpAnyT_one (i := 4) (o := { dst := some 13, op := Op.makeSlice 86 (Operand.tmp 12) (Operand.tmp 12), type := 86, pos := "ref.go:64", after := #[{ on := 3, ground := Ground.data }, { on := 3, ground := Ground.data }], guard := none }) (by kernel_rfl) rfl (fun K hK => ?_)
        rw [if_pos (by rfl)]
        refine (unhide HM2).wpD _ _ rfl rfl rfl (unhide HN40) (fun gD wk3 hm => ?_)
        have HM3 := hide hm
        refine hK.out _ _ (fun _ => trivial) ?_
        clear hK K hm HM2
        try simp only [Act.put, List.setIfInBounds_toArray, List.set_cons_zero, List.set_cons_succ]
        refine wpAnyT_take (i := 5) (oi := { dst := some 14, op := Op.build 88 #[(0, Operand.tmp 11), (1, Operand.tmp 13)], type := 88, pos := "ref.go:64", after := #[{ on := 2, ground := Ground.data }, { on := 4, ground := Ground.data }], guard := none }) (v := .agg #[.slice (some ⟨gP, 0, none⟩) (n + 1) (n + 1), .slice (some ⟨gD, 0, none⟩) n n]) rfl (by kernel_rfl) (by kernel_rfl) (by kernel_rfl) (by kernel_rfl) (fun _ _ _ h => by cases h.1) (Or.inl ⟨by rfl, ?_⟩) trivial ?_
        · intro w hSw
          first
            | rfl
            | (go_simp; done)
        try simp only [Act.put, List.setIfInBounds_toArray, List.set_cons_zero, List.set_cons_succ]
        have HMS := hide ((unhide HM3).store (unhide HN40))
        have fr0 := ((unhide HM3).x gW rfl).1.frozen 0
        have fr1 := ((unhide HM3).x gW rfl).1.frozen 1
        have xc0 : wk3.cell? ⟨gW, 0, none⟩ = some (.slice none 0 0) := ((unhide HM3).x gW rfl).1.cell 0
        have xc1 : wk3.cell? ⟨gW, 1, none⟩ = some (.slice none 0 0) := ((unhide HM3).x gW rfl).1.cell 1
        refine wpAnyT_one (i := 7) (o := { dst := none, op := Op.store 88 (Operand.tmp 5) (Operand.tmp 14), type := 0, pos := "ref.go:64", after := #[{ on := 6, ground := Ground.data }, { on := 5, ground := Ground.data }, { on := 0, ground := Ground.phase }, { on := 1, ground := Ground.phase }, { on := 2, ground := Ground.phase }, { on := 3, ground := Ground.phase }, { on := 4, ground := Ground.phase }, { on := 5, ground := Ground.phase }, { on := 6, ground := Ground.phase }], guard := none }) (by kernel_rfl) rfl (fun K hK => ?_)
        go_simp
        refine hK.out _ _ (fun _ => trivial) ?_
        clear hK K
        try simp only [Act.put, List.setIfInBounds_toArray, List.set_cons_zero, List.set_cons_succ]
        refine wpAnyT_done (by kernel_rfl) ?_ _
        exact ⟨rfl, gP, gD, gW, rfl, unhide HMS⟩
      · rw [if_pos (by rfl)]
        refine (unhide HM1).wpD _ _ rfl rfl rfl (unhide HN40) (fun gD wk2 hm => ?_)
        have HM2 := hide hm
        refine hK.out _ _ (fun _ => trivial) ?_
        clear hK K hm HM1
        try simp only [Act.put, List.setIfInBounds_toArray, List.set_cons_zero, List.set_cons_succ]
        refine wpAnyT_one (i := 2) (o := { dst := some 11, op := Op.makeSlice 85 (Operand.tmp 10) (Operand.tmp 10), type := 85, pos := "ref.go:64", after := #[{ on := 1, ground := Ground.data }, { on := 1, ground := Ground.data }], guard := none }) (by kernel_rfl) rfl (fun K hK => ?_)
        rw [if_pos (by rfl)]
        refine (unhide HM2).wpP _ _ rfl rfl rfl (unhide HN40) (fun gP wk3 hm => ?_)
        have HM3 := hide hm
        refine hK.out _ _ (fun _ => trivial) ?_
        clear hK K hm HM2
        try simp only [Act.put, List.setIfInBounds_toArray, List.set_cons_zero, List.set_cons_succ]
        refine wpAnyT_take (i := 5) (oi := { dst := some 14, op := Op.build 88 #[(0, Operand.tmp 11), (1, Operand.tmp 13)], type := 88, pos := "ref.go:64", after := #[{ on := 2, ground := Ground.data }, { on := 4, ground := Ground.data }], guard := none }) (v := .agg #[.slice (some ⟨gP, 0, none⟩) (n + 1) (n + 1), .slice (some ⟨gD, 0, none⟩) n n]) rfl (by kernel_rfl) (by kernel_rfl) (by kernel_rfl) (by kernel_rfl) (fun _ _ _ h => by cases h.1) (Or.inl ⟨by rfl, ?_⟩) trivial ?_
        · intro w hSw
          first
            | rfl
            | (go_simp; done)
        try simp only [Act.put, List.setIfInBounds_toArray, List.set_cons_zero, List.set_cons_succ]
        have HMS := hide ((unhide HM3).store (unhide HN40))
        have fr0 := ((unhide HM3).x gW rfl).1.frozen 0
        have fr1 := ((unhide HM3).x gW rfl).1.frozen 1
        have xc0 : wk3.cell? ⟨gW, 0, none⟩ = some (.slice none 0 0) := ((unhide HM3).x gW rfl).1.cell 0
        have xc1 : wk3.cell? ⟨gW, 1, none⟩ = some (.slice none 0 0) := ((unhide HM3).x gW rfl).1.cell 1
        refine wpAnyT_one (i := 7) (o := { dst := none, op := Op.store 88 (Operand.tmp 5) (Operand.tmp 14), type := 0, pos := "ref.go:64", after := #[{ on := 6, ground := Ground.data }, { on := 5, ground := Ground.data }, { on := 0, ground := Ground.phase }, { on := 1, ground := Ground.phase }, { on := 2, ground := Ground.phase }, { on := 3, ground := Ground.phase }, { on := 4, ground := Ground.phase }, { on := 5, ground := Ground.phase }, { on := 6, ground := Ground.phase }], guard := none }) (by kernel_rfl) rfl (fun K hK => ?_)
        go_simp
        refine hK.out _ _ (fun _ => trivial) ?_
        clear hK K
        try simp only [Act.put, List.setIfInBounds_toArray, List.set_cons_zero, List.set_cons_succ]
        refine wpAnyT_done (by kernel_rfl) ?_ _
        exact ⟨rfl, gP, gD, gW, rfl, unhide HMS⟩
  rintro _ wm ⟨gP, gD, gW, rfl, hmk⟩
  have HMK := hide hmk
  clear hmk
  dsimp only
  obtain ⟨m, hm⟩ : ∃ m, n + 1 = m := ⟨_, rfl⟩
  have HSP := hide ((unhide HMK).sp (unhide HBA) (unhide HRA) hm)
  have HM := hide hm
  rw [hm]
  clear hm HMK HRA HBA hw1
  go_wp2_with fail
  go_loopw [6, 17] (fun t6 i wr => ∃ k at_ : Nat, k ≤ nl ∧ t6 = .int .i64 (at_ : Int) ∧ i = .int .i64 (k : Int) ∧ Hid (At.fromN (atomsL (l.take k)) = at_ ∧ ∃ P D, SpW w wr bb gP gD gW n m P D at_ (atomsL (l.take k)))) (fun _ i _ => ((nl : Int) - intOf i).toNat)
  case atStart => exact ⟨0, 0, by omega, by simp, by simp, hide ⟨rfl, _, _, unhide HSP⟩⟩
  case round =>
    obtain ⟨k, at_, hk, rfl, rfl, HR⟩ := hrel
    obtain ⟨hfr, P, D, hsp⟩ := unhide HR
    have HS0 := hide hsp
    have HFR := hide hfr
    clear hfr hsp HR
    by_cases hlt : k < nl
    · have kI : (k : Int) < (nl : Int) := by omega
      obtain ⟨p, hpk⟩ : ∃ p, l[k]? = some p := ⟨_, List.getElem?_eq_getElem (by have := unhide HNL; omega)⟩
      obtain ⟨b, off, rfl, e0, e1, e2⟩ := (unhide HP).at_ (unhide HS0).bel hpk
      have HGD := hide ((unhide HE).1.good p (List.mem_of_getElem? hpk))
      have HTK := hide (atomsL_take hpk)
      have HFT := hide (from_take hpk)
      have HTT := hide (to_take hpk)
      have hbA : Below wr.heap.size wr (wr.alloc (.cells #[.int .i64 p.kind, .int .i64 p.n, .string p.text] 32)) := (Below.refl _ _).alloc (Nat.le_refl _) _
      have HSA := hide ((unhide HS0).call hbA)
      have HRW := hide (RowAt.new wr 32 [.int .i64 p.kind, .int .i64 p.n, .string p.text])
      clear hpk hbA HS0
      obtain ⟨pk, pn, pt⟩ := p
      dsimp only at e0 e1 e2 HSA HRW
      have hbe : (unhide HGD).1 = (unhide HGD).1 := rfl
      rcases (unhide HGD).cases with ⟨hk1, htx, hat⟩ | ⟨hk1, htx, hat⟩ | ⟨hk1, cs, htx, hln, hat⟩
      · dsimp only at hk1
        subst hk1
        have HAT := hide hat
        have HPN : Hid (1 ≤ pn) := hide (unhide HGD).1
        have HFN : Hid (at_ + pn.toNat ≤ n) := hide (by
          have h1 := unhide HFT
          have h2 := (unhide HE).2.1
          have h3 := unhide HFR
          rw [unhide HAT, from_rep_k] at h1
          dsimp only at h1
          omega)
        have pI : pn ≤ 1099511627776 := by have := unhide HFN; have := unhide HN40; have := unhide HPN; omega
        clear hat htx hbe
        go_wp2_with fail
        obtain ⟨wB, hB⟩ : ∃ z, wr.alloc (.cells #[.int .i64 1, .int .i64 pn, .string pt] 32) = z := ⟨_, rfl⟩
        rw [hB] at HSA HRW ⊢
        obtain ⟨g8, hg8⟩ : ∃ z, wr.heap.size = z := ⟨_, rfl⟩
        rw [hg8] at HRW
        simp only [hg8]
        clear hB hg8 e0 e1 e2
        go_loopw [6, 38] (fun t6 i wi => ∃ j : Nat, j ≤ pn.toNat ∧ t6 = .int .i64 ((at_ + j : Nat) : Int) ∧ i = .int .i64 (j : Int) ∧ Hid (RowAt wi g8 32 [.int .i64 1, .int .i64 pn, .string pt]) ∧ Hid (∃ D', SpW w wi bb gP gD gW n m P D' (at_ + j) (atomsL (l.take k) ++ List.replicate j .k))) (fun _ i _ => (pn - intOf i).toNat)
        case atStart => exact ⟨0, by omega, by simp, by simp, HRW, hide ⟨_, by simpa using unhide HSA⟩⟩
        case round =>
          obtain ⟨j, hj, rfl, rfl, HR8, HD⟩ := hrel
          obtain ⟨D', hD⟩ := unhide HD
          have HSD := hide hD
          clear hD HD
          by_cases hjl : (j : Int) < pn
          · obtain ⟨aj, haj⟩ : ∃ z, at_ + j = z := ⟨_, rfl⟩
            have HAJ := hide haj
            rw [haj] at HSD ⊢
            have ajn : aj < n := by have := unhide HFN; have := unhide HAJ; omega
            have ajI : (aj : Int) < (n : Int) := by omega
            have aj0 : (0 : Int) ≤ (aj : Int) := by omega
            have ajm : (aj : Int) + 1 ≤ 9223372036854775807 := by have := unhide HN40; omega
            have jm : (j : Int) + 1 ≤ 9223372036854775807 := by omega
            clear haj
            have x1 : wr.cell? ⟨gW, 1, none⟩ = some (.slice (some ⟨gD, 0, none⟩) n n) := (unhide HSD).bx.cell 1
            have k0 : wr.cell? ⟨g8, 0, none⟩ = some (.int .i64 1) := (unhide HR8).cell 0
            obtain ⟨bo, hbo⟩ : ∃ z, D'[aj]? = some z := ⟨_, List.getElem?_eq_getElem (by have := (unhide HSD).sp.dl; omega)⟩
            obtain ⟨d0, d1⟩ := (unhide HSD).wd.cd hbo
            have HNX := hide ((unhide HSD).step ajn false)
            have HR9 := hide ((unhide HR8).only (w' := wr.setCell ⟨gD, aj, none⟩ (.bool false)) ((Only.refl (fun k => k = gD) _).set gD aj _ rfl) (fun e => ((unhide HSD).wd.row_ne (unhide HR8) (by decide) (by decide)).2 (by rw [e]; rfl)))
            clear hbo
            go_wp2_with fail
            refine ⟨⟨j + 1, by omega, ?_, by simp, HR9, hide ⟨D'.set aj false, ?_⟩⟩, by simp [intOf]; omega⟩
            · have := unhide HAJ
              congr 1
              omega
            · have h1 := unhide HNX
              rw [List.append_assoc] at h1
              have h2 : List.replicate (j + 1) (At.k) = List.replicate j (At.k) ++ [At.k] := List.replicate_succ'
              rw [h2, ← Nat.add_assoc, unhide HAJ]
              exact h1
          · obtain ⟨mj, hmj⟩ : ∃ z, at_ + j = z := ⟨_, rfl⟩
            have HMJ := hide hmj
            have HJP : Hid (j = pn.toNat) := hide (by omega)
            rw [hmj] at HSD ⊢
            clear hmj
            go_wp2_with fail
            refine ⟨⟨k + 1, mj, by omega, rfl, by simp, hide ⟨?_, P, D', ?_⟩⟩, by simp [intOf]; omega⟩
            · rw [unhide HTK, unhide HAT, At.from_app, from_rep_k, unhide HFR, ← unhide HJP]
              exact unhide HMJ
            · rw [unhide HTK, unhide HAT]
              have h1 := unhide HSD
              rw [unhide HJP] at h1
              exact h1
      · dsimp only at hk1
        subst hk1
        have HAT := hide hat
        have HPN : Hid (1 ≤ pn) := hide (unhide HGD).1
        have HFN : Hid (at_ + pn.toNat ≤ n) := hide (by
          have h1 := unhide HFT
          have h2 := (unhide HE).2.1
          have h3 := unhide HFR
          rw [unhide HAT, from_rep_d] at h1
          dsimp only at h1
          omega)
        have pI : pn ≤ 1099511627776 := by have := unhide HFN; have := unhide HN40; have := unhide HPN; omega
        clear hat htx hbe
        go_wp2_with fail
        obtain ⟨wB, hB⟩ : ∃ z, wr.alloc (.cells #[.int .i64 3, .int .i64 pn, .string pt] 32) = z := ⟨_, rfl⟩
        rw [hB] at HSA HRW ⊢
        obtain ⟨g8, hg8⟩ : ∃ z, wr.heap.size = z := ⟨_, rfl⟩
        rw [hg8] at HRW
        simp only [hg8]
        clear hB hg8 e0 e1 e2
        go_loopw [6, 38] (fun t6 i wi => ∃ j : Nat, j ≤ pn.toNat ∧ t6 = .int .i64 ((at_ + j : Nat) : Int) ∧ i = .int .i64 (j : Int) ∧ Hid (RowAt wi g8 32 [.int .i64 3, .int .i64 pn, .string pt]) ∧ Hid (∃ D', SpW w wi bb gP gD gW n m P D' (at_ + j) (atomsL (l.take k) ++ List.replicate j .d))) (fun _ i _ => (pn - intOf i).toNat)
        case atStart => exact ⟨0, by omega, by simp, by simp, HRW, hide ⟨_, by simpa using unhide HSA⟩⟩
        case round =>
          obtain ⟨j, hj, rfl, rfl, HR8, HD⟩ := hrel
          obtain ⟨D', hD⟩ := unhide HD
          have HSD := hide hD
          clear hD HD
          by_cases hjl : (j : Int) < pn
          · obtain ⟨aj, haj⟩ : ∃ z, at_ + j = z := ⟨_, rfl⟩
            have HAJ := hide haj
            rw [haj] at HSD ⊢
            have ajn : aj < n := by have := unhide HFN; have := unhide HAJ; omega
            have ajI : (aj : Int) < (n : Int) := by omega
            have aj0 : (0 : Int) ≤ (aj : Int) := by omega
            have ajm : (aj : Int) + 1 ≤ 9223372036854775807 := by have := unhide HN40; omega
            have jm : (j : Int) + 1 ≤ 9223372036854775807 := by omega
            clear haj
            have x1 : wr.cell? ⟨gW, 1, none⟩ = some (.slice (some ⟨gD, 0, none⟩) n n) := (unhide HSD).bx.cell 1
            have k0 : wr.cell? ⟨g8, 0, none⟩ = some (.int .i64 3) := (unhide HR8).cell 0
            obtain ⟨bo, hbo⟩ : ∃ z, D'[aj]? = some z := ⟨_, List.getElem?_eq_getElem (by have := (unhide HSD).sp.dl; omega)⟩
            obtain ⟨d0, d1⟩ := (unhide HSD).wd.cd hbo
            have HNX := hide ((unhide HSD).step ajn true)
            have HR9 := hide ((unhide HR8).only (w' := wr.setCell ⟨gD, aj, none⟩ (.bool true)) ((Only.refl (fun k => k = gD) _).set gD aj _ rfl) (fun e => ((unhide HSD).wd.row_ne (unhide HR8) (by decide) (by decide)).2 (by rw [e]; rfl)))
            clear hbo
            go_wp2_with fail
            refine ⟨⟨j + 1, by omega, ?_, by simp, HR9, hide ⟨D'.set aj true, ?_⟩⟩, by simp [intOf]; omega⟩
            · have := unhide HAJ
              congr 1
              omega
            · have h1 := unhide HNX
              rw [List.append_assoc] at h1
              have h2 : List.replicate (j + 1) (At.d) = List.replicate j (At.d) ++ [At.d] := List.replicate_succ'
              rw [h2, ← Nat.add_assoc, unhide HAJ]
              exact h1
          · obtain ⟨mj, hmj⟩ : ∃ z, at_ + j = z := ⟨_, rfl⟩
            have HMJ := hide hmj
            have HJP : Hid (j = pn.toNat) := hide (by omega)
            rw [hmj] at HSD ⊢
            clear hmj
            go_wp2_with fail
            refine ⟨⟨k + 1, mj, by omega, rfl, by simp, hide ⟨?_, P, D', ?_⟩⟩, by simp [intOf]; omega⟩
            · rw [unhide HTK, unhide HAT, At.from_app, from_rep_d, unhide HFR, ← unhide HJP]
              exact unhide HMJ
            · rw [unhide HTK, unhide HAT]
              have h1 := unhide HSD
              rw [unhide HJP] at h1
              exact h1
      · dsimp only at hk1 htx hln
        subst hk1
        have HAT := hide hat
        have HTX := hide htx
        obtain rfl := txB_of htx
        obtain ⟨q, hq⟩ : ∃ z, P[at_]? = some z := ⟨_, List.getElem?_eq_getElem (by have := (unhide HSA).sp.pl; have := (unhide HSA).sp.le; omega)⟩
        have HQ := hide hq
        have HCQ : Hid (Cps q) := hide ((unhide HSA).sp.cps q (List.mem_of_getElem? hq))
        have hsz : ((txB q).size : Int) + ((txB cs).size : Int) ≤ 9223372036854775807 := by
          obtain ⟨q', h1, h2⟩ := (unhide HSA).sp.eq
          rw [hq] at h1
          obtain rfl := Option.some.inj h1
          have h3 := congrArg List.length h2
          rw [List.length_append, List.length_map] at h3
          have h4 := unhide HTT
          have h5 := at_len (atomsL l)
          have h6 := (unhide HE).2.2.2
          have h7 := (unhide HE).2.1
          have h8 := (unhide HE).2.2.1
          have h9 := txB_le (unhide HCQ)
          have h10 := txB_le htx.cps
          rw [unhide HAT, List.length_map] at h4
          omega
        have hszN : (txB q).size + (txB cs).size ≤ 9223372036854775807 := by omega
        have atI : (at_ : Int) < (m : Int) := by have := (unhide HSA).sp.le; have := unhide HM; omega
        have at0 : (0 : Int) ≤ (at_ : Int) := by omega
        have happ : txB q ++ txB cs = txB (q ++ cs) := txB_app q cs
        have HAP := hide happ
        clear hat htx hbe hq happ
        go_wp2_with fail
        obtain ⟨wB, hB⟩ : ∃ z, wr.alloc (.cells #[.int .i64 2, .int .i64 pn, .string (txB cs)] 32) = z := ⟨_, rfl⟩
        rw [hB] at HSA HRW ⊢
        obtain ⟨g8, hg8⟩ : ∃ z, wr.heap.size = z := ⟨_, rfl⟩
        rw [hg8] at HRW
        simp only [hg8]
        clear hB hg8 e0 e1 e2
        have HS : Hid (∀ W, Below wB.heap.size wB W → W.cell? ⟨gW, 0, none⟩ = some (.slice (some ⟨gP, 0, none⟩) m m) ∧ W.cell? ⟨gP, at_, none⟩ = some (.string (txB q)) ∧ W.cell? ⟨g8, 2, none⟩ = some (.string (txB cs))) := hide (fun W hW => ⟨((unhide HSA).call hW).bx.cell 0, (((unhide HSA).call hW).wd.cp (unhide HQ)).1, ((unhide HRW).below hW (unhide HRW).lt).cell 2⟩)
        have HFZ : Hid (wB.drew.frozen? ⟨gP, at_, none⟩ = false) := hide ((unhide HSA).wd.drew.cp (unhide HQ)).2
        have HCL : Hid (wB.drew.cell? ⟨gP, at_, none⟩ = some (.string (txB q))) := hide ((unhide HSA).wd.drew.cp (unhide HQ)).1
        have HNX : Hid (SpW w (wB.setCell ⟨gP, at_, none⟩ (.string (txB (q ++ cs)))).drew bb gP gD gW n m (P.set at_ (q ++ cs)) D at_ (atomsL (l.take k) ++ cs.map .p)) := hide (((unhide HSA).put (unhide HM) (unhide HQ) (unhide HTX).cps).call (Below.refl _ _).drew)
        refine wp_region_T (S := fun W => W.cell? ⟨gW, 0, none⟩ = some (.slice (some ⟨gP, 0, none⟩) m m) ∧ W.cell? ⟨gP, at_, none⟩ = some (.string (txB q)) ∧ W.cell? ⟨g8, 2, none⟩ = some (.string (txB cs))) (fun i => decide (i < 12)) (by kernel_rfl) (unhide HS _ (Below.refl _ _).drew) (fun hHeld => ?_)
        refine wpAnyT_take (i := 0) (oi := { dst := some 24, op := Op.fieldAddr 88 (Operand.tmp 5) 0, type := 0, pos := "ref.go:68", after := #[], guard := none }) (v := .pointer (some ⟨gW, 0, none⟩)) rfl (by kernel_rfl) (by kernel_rfl) (by kernel_rfl) (by kernel_rfl) (fun _ _ _ h => h) (Or.inl ⟨by rfl, ?_⟩) hHeld ?_
        · intro w hSw
          obtain ⟨s0, s1, s2⟩ := hSw
          first
            | rfl
            | (go_simp; done)
        try simp only [Act.put, List.setIfInBounds_toArray, List.set_cons_zero, List.set_cons_succ]
        refine wpAnyT_take (i := 1) (oi := { dst := some 25, op := Op.load 85 (Operand.tmp 24), type := 85, pos := "ref.go:68", after := #[{ on := 0, ground := Ground.data }], guard := none }) (v := .slice (some ⟨gP, 0, none⟩) m m) rfl (by kernel_rfl) (by kernel_rfl) (by kernel_rfl) (by kernel_rfl) (fun _ _ _ h => h) (Or.inl ⟨by rfl, ?_⟩) hHeld ?_
        · intro w hSw
          obtain ⟨s0, s1, s2⟩ := hSw
          first
            | rfl
            | (go_simp; done)
        try simp only [Act.put, List.setIfInBounds_toArray, List.set_cons_zero, List.set_cons_succ]
        refine wpAnyT_take (i := 2) (oi := { dst := some 26, op := Op.move (Operand.tmp 6), type := 3, pos := "ref.go:68", after := #[], guard := none }) (v := .int .i64 (at_ : Int)) rfl (by kernel_rfl) (by kernel_rfl) (by kernel_rfl) (by kernel_rfl) (fun _ _ _ h => h) (Or.inl ⟨by rfl, ?_⟩) hHeld ?_
        · intro w hSw
          obtain ⟨s0, s1, s2⟩ := hSw
          first
            | rfl
            | (go_simp; done)
        try simp only [Act.put, List.setIfInBounds_toArray, List.set_cons_zero, List.set_cons_succ]
        refine wpAnyT_take (i := 3) (oi := { dst := some 27, op := Op.fieldAddr 88 (Operand.tmp 5) 0, type := 0, pos := "ref.go:68", after := #[], guard := none }) (v := .pointer (some ⟨gW, 0, none⟩)) rfl (by kernel_rfl) (by kernel_rfl) (by kernel_rfl) (by kernel_rfl) (fun _ _ _ h => h) (Or.inl ⟨by rfl, ?_⟩) hHeld ?_
        · intro w hSw
          obtain ⟨s0, s1, s2⟩ := hSw
          first
            | rfl
            | (go_simp; done)
        try simp only [Act.put, List.setIfInBounds_toArray, List.set_cons_zero, List.set_cons_succ]
        refine wpAnyT_take (i := 4) (oi := { dst := some 28, op := Op.load 85 (Operand.tmp 27), type := 85, pos := "ref.go:68", after := #[{ on := 3, ground := Ground.data }], guard := none }) (v := .slice (some ⟨gP, 0, none⟩) m m) rfl (by kernel_rfl) (by kernel_rfl) (by kernel_rfl) (by kernel_rfl) (fun _ _ _ h => h) (Or.inl ⟨by rfl, ?_⟩) hHeld ?_
        · intro w hSw
          obtain ⟨s0, s1, s2⟩ := hSw
          first
            | rfl
            | (go_simp; done)
        try simp only [Act.put, List.setIfInBounds_toArray, List.set_cons_zero, List.set_cons_succ]
        refine wpAnyT_take (i := 5) (oi := { dst := some 29, op := Op.move (Operand.tmp 6), type := 3, pos := "ref.go:68", after := #[], guard := none }) (v := .int .i64 (at_ : Int)) rfl (by kernel_rfl) (by kernel_rfl) (by kernel_rfl) (by kernel_rfl) (fun _ _ _ h => h) (Or.inl ⟨by rfl, ?_⟩) hHeld ?_
        · intro w hSw
          obtain ⟨s0, s1, s2⟩ := hSw
          first
            | rfl
            | (go_simp; done)
        try simp only [Act.put, List.setIfInBounds_toArray, List.set_cons_zero, List.set_cons_succ]
        refine wpAnyT_take (i := 6) (oi := { dst := some 30, op := Op.indexAddr 85 (Operand.tmp 28) (Operand.tmp 29), type := 0, pos := "ref.go:68", after := #[{ on := 4, ground := Ground.data }, { on := 5, ground := Ground.data }], guard := none }) (v := .pointer (some ⟨gP, at_, none⟩)) rfl (by kernel_rfl) (by kernel_rfl) (by kernel_rfl) (by kernel_rfl) (fun _ _ _ h => h) (Or.inl ⟨by rfl, ?_⟩) hHeld ?_
        · intro w hSw
          obtain ⟨s0, s1, s2⟩ := hSw
          first
            | rfl
            | (go_simp; done)
        try simp only [Act.put, List.setIfInBounds_toArray, List.set_cons_zero, List.set_cons_succ]
        refine wpAnyT_take (i := 7) (oi := { dst := some 31, op := Op.load 9 (Operand.tmp 30), type := 9, pos := "ref.go:68", after := #[{ on := 6, ground := Ground.data }], guard := none }) (v := .string (txB q)) rfl (by kernel_rfl) (by kernel_rfl) (by kernel_rfl) (by kernel_rfl) (fun _ _ _ h => h) (Or.inl ⟨by rfl, ?_⟩) hHeld ?_
        · intro w hSw
          obtain ⟨s0, s1, s2⟩ := hSw
          first
            | rfl
            | (go_simp; done)
        try simp only [Act.put, List.setIfInBounds_toArray, List.set_cons_zero, List.set_cons_succ]
        refine wpAnyT_take (i := 8) (oi := { dst := some 32, op := Op.fieldAddr 32 (Operand.tmp 8) 2, type := 0, pos := "ref.go:68", after := #[], guard := none }) (v := .pointer (some ⟨g8, 2, none⟩)) rfl (by kernel_rfl) (by kernel_rfl) (by kernel_rfl) (by kernel_rfl) (fun _ _ _ h => h) (Or.inl ⟨by rfl, ?_⟩) hHeld ?_
        · intro w hSw
          obtain ⟨s0, s1, s2⟩ := hSw
          first
            | rfl
            | (go_simp; done)
        try simp only [Act.put, List.setIfInBounds_toArray, List.set_cons_zero, List.set_cons_succ]
        refine wpAnyT_take (i := 9) (oi := { dst := some 33, op := Op.load 9 (Operand.tmp 32), type := 9, pos := "ref.go:68", after := #[{ on := 8, ground := Ground.data }], guard := none }) (v := .string (txB cs)) rfl (by kernel_rfl) (by kernel_rfl) (by kernel_rfl) (by kernel_rfl) (fun _ _ _ h => h) (Or.inl ⟨by rfl, ?_⟩) hHeld ?_
        · intro w hSw
          obtain ⟨s0, s1, s2⟩ := hSw
          first
            | rfl
            | (go_simp; done)
        try simp only [Act.put, List.setIfInBounds_toArray, List.set_cons_zero, List.set_cons_succ]
        refine wpAnyT_take (i := 10) (oi := { dst := some 34, op := Op.binOp BinOp.add 9 (Operand.tmp 31) (Operand.tmp 33) 9, type := 9, pos := "ref.go:68", after := #[{ on := 7, ground := Ground.data }, { on := 9, ground := Ground.data }], guard := none }) (v := .string (txB (q ++ cs))) rfl (by kernel_rfl) (by kernel_rfl) (by kernel_rfl) (by kernel_rfl) (fun _ _ _ h => h) (Or.inl ⟨by rfl, ?_⟩) hHeld ?_
        · intro w hSw
          obtain ⟨s0, s1, s2⟩ := hSw
          rw [← unhide HAP]
          first
            | rfl
            | (go_simp; done)
        try simp only [Act.put, List.setIfInBounds_toArray, List.set_cons_zero, List.set_cons_succ]
        refine wpAnyT_take (i := 11) (oi := { dst := some 35, op := Op.indexAddr 85 (Operand.tmp 25) (Operand.tmp 26), type := 0, pos := "ref.go:68", after := #[{ on := 1, ground := Ground.data }, { on := 2, ground := Ground.data }, { on := 0, ground := Ground.phase }, { on := 1, ground := Ground.phase }, { on := 2, ground := Ground.phase }, { on := 3, ground := Ground.phase }, { on := 4, ground := Ground.phase }, { on := 5, ground := Ground.phase }, { on := 6, ground := Ground.phase }, { on := 7, ground := Ground.phase }, { on := 8, ground := Ground.phase }, { on := 9, ground := Ground.phase }, { on := 10, ground := Ground.phase }], guard := none }) (v := .pointer (some ⟨gP, at_, none⟩)) rfl (by kernel_rfl) (by kernel_rfl) (by kernel_rfl) (by kernel_rfl) (fun _ _ _ h => h) (Or.inl ⟨by rfl, ?_⟩) hHeld ?_
        · intro w hSw
          obtain ⟨s0, s1, s2⟩ := hSw
          first
            | rfl
            | (go_simp; done)
        try simp only [Act.put, List.setIfInBounds_toArray, List.set_cons_zero, List.set_cons_succ]
        refine wpAnyT_one (i := 12) (o := { dst := none, op := Op.store 9 (Operand.tmp 35) (Operand.tmp 34), type := 0, pos := "ref.go:68", after := #[{ on := 11, ground := Ground.data }, { on := 10, ground := Ground.data }, { on := 0, ground := Ground.phase }, { on := 1, ground := Ground.phase }, { on := 2, ground := Ground.phase }, { on := 3, ground := Ground.phase }, { on := 4, ground := Ground.phase }, { on := 5, ground := Ground.phase }, { on := 6, ground := Ground.phase }, { on := 7, ground := Ground.phase }, { on := 8, ground := Ground.phase }, { on := 9, ground := Ground.phase }, { on := 10, ground := Ground.phase }], guard := none }) (by kernel_rfl) rfl (fun K hK => ?_)
        have fz := unhide HFZ
        have cl := unhide HCL
        go_simp
        refine hK.out _ _ (fun h => by cases h) ?_
        clear hK K
        try simp only [Act.put, List.setIfInBounds_toArray, List.set_cons_zero, List.set_cons_succ]
        refine wpAnyT_done (by kernel_rfl) ?_ _
        obtain ⟨wC, hC⟩ : ∃ z, (wB.setCell ⟨gP, at_, none⟩ (.string (txB (q ++ cs)))).drew = z := ⟨_, rfl⟩
        simp only [hC] at HNX ⊢
        clear hC HS HFZ HCL
        go_wp2_with fail
        refine ⟨⟨k + 1, at_, by omega, rfl, by simp, hide ⟨?_, P.set at_ (q ++ cs), D, ?_⟩⟩, by simp [intOf]; omega⟩
        · rw [unhide HTK, unhide HAT, At.from_app, from_map, unhide HFR]
          rfl
        · rw [unhide HTK, unhide HAT]
          exact unhide HNX
    · have HSE : Hid (SpW w wr bb gP gD gW n m P D n (atomsL l)) := hide (by
        have h1 := unhide HS0
        have h2 := unhide HFR
        rw [List.take_of_length_le (by have := unhide HNL; omega)] at h1 h2
        rw [(unhide HE).2.1] at h2
        rw [← h2] at h1
        exact h1)
      have z0 : wr.cell? ⟨gW, 0, none⟩ = some (.slice (some ⟨gP, 0, none⟩) m m) := (unhide HSE).bx.cell 0
      have z1 : wr.cell? ⟨gW, 1, none⟩ = some (.slice (some ⟨gD, 0, none⟩) n n) := (unhide HSE).bx.cell 1
      have y0 : wr.cell? ⟨bb, 0, none⟩ = some (.slice none 0 0) := (unhide HSE).r.cell 0
      have y1 : wr.cell? ⟨bb, 1, none⟩ = some (.slice none 0 0) := (unhide HSE).r.cell 1
      have f0 := (unhide HSE).r.frozen 0
      have f1 := (unhide HSE).r.frozen 1
      have HFI : Hid (Wd ((wr.setCell ⟨bb, 0, none⟩ (.slice (some ⟨gP, 0, none⟩) m m)).setCell ⟨bb, 1, none⟩ (.slice (some ⟨gD, 0, none⟩) n n)) w.heap.size (.slice (some ⟨gP, 0, none⟩) m m) (.slice (some ⟨gD, 0, none⟩) n n) P D ∧ Below w.heap.size w ((wr.setCell ⟨bb, 0, none⟩ (.slice (some ⟨gP, 0, none⟩) m m)).setCell ⟨bb, 1, none⟩ (.slice (some ⟨gD, 0, none⟩) n n))) := hide (by
        obtain ⟨q1, q2⟩ := (unhide HSE).wd.row_ne (unhide HSE).r (by decide) (by decide)
        exact ⟨((unhide HSE).wd.other q1 q2).other q1 q2, ((unhide HSE).bel.setCell (unhide HBB) _).setCell (unhide HBB) _⟩)
      have HRS := hide (((unhide HSE).r.set 0 (.slice (some ⟨gP, 0, none⟩) m m)).set 1 (.slice (some ⟨gD, 0, none⟩) n n))
      go_wp2_with fail
      obtain ⟨wF, hF⟩ : ∃ z, (wr.setCell ⟨bb, 0, none⟩ (.slice (some ⟨gP, 0, none⟩) m m)).setCell ⟨bb, 1, none⟩ (.slice (some ⟨gD, 0, none⟩) n n) = z := ⟨_, rfl⟩
      simp only [hF] at HRS HFI ⊢
      clear hF
      have q0 : wF.cell? ⟨bb, 0, none⟩ = some (.slice (some ⟨gP, 0, none⟩) m m) := (unhide HRS).cell 0
      have q1 : wF.cell? ⟨bb, 1, none⟩ = some (.slice (some ⟨gD, 0, none⟩) n n) := (unhide HRS).cell 1
      refine bodyPost_ret (v := .agg #[.slice (some ⟨gP, 0, none⟩) m m, .slice (some ⟨gD, 0, none⟩) n n]) (by simp [results, Tryd.results70, go_sem, q0, q1]) rfl ?_
      exact ⟨gP, gD, m, P, D, unhide HM, rfl, (unhide HFI).1, (unhide HSE).sp.done, (unhide HSE).sp.pl, (unhide HSE).sp.dl, (unhide HSE).sp.cps, (unhide HFI).2⟩
end Go.Proofs.YtidblnjohkadhaaDoor
