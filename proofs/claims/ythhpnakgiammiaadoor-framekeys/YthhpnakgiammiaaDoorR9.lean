/- What holds within the statement of the reference's keys that draws its order. -/
import Derived.Test.YthhpnakgiammiaaDoorInv
import Derived.Deep.AppendLies
import Derived.Test.YthhpnakgiammiaaDoorConcat
namespace Go.Proofs.YthhpnakgiammiaaDoor
set_option linter.unusedVariables false
set_option linter.unusedSimpArgs false
open Go.ChangeShapes Go.WideShapes Go.ChangeAt Go.RowKit Go.Joins

theorem rown_call {w w' : World} {B : Nat} {v : Value} {n : Nat} {xs : List Value} (h : w.ownsRow B 5 1 v n xs) (hb : Below w.heap.size w w') : w'.ownsRow B 5 1 v n xs := by
  rcases h with ⟨h0, ⟨h1, h2⟩ | ⟨g, cap, cur, h1, h2, h3, h4⟩⟩
  · exact ⟨h0, .inl ⟨h1, h2⟩⟩
  · refine ⟨h0, .inr ⟨g, cap, cur, h1, h2, ?_, h4⟩⟩
    rw [hb.block g (Array.getElem?_eq_some_iff.1 h3).1]
    exact h3
theorem own_ne {w : World} {B : Nat} {v : Value} {n g : Nat} {xs : List Value} {E : Array Value} {t : TypeId} (h : w.ownsRow B 5 1 v n xs) (hg : w.heap[g]? = some (.cells E t (0, 0))) (ht : ¬ t = 5) : some g ≠ v.ownBlock := by
  intro he
  rcases h with ⟨h0, ⟨rfl, h2⟩ | ⟨g', cap, cur, rfl, h2, h3, h4⟩⟩
  · cases he
  · injection he with he
    subst he
    have h5 := h3.symm.trans hg
    injection h5 with h5
    injection h5 with _ h6 _
    exact ht h6.symm

structure R9 (B gr tn : Nat) (wo : World) (tv : Value) (k q : Nat) (T : List Nat) (E Z : Array Value) (d : Nat → Bool) (v12 v29 v30 v31 v32 v33 v34 v35 v36 v37 v38 : Value) (w : World) : Prop where
  bel : Below B wo w
  size : B ≤ w.heap.size
  c3 : d 3 = true → d 1 = true
  c8 : d 8 = true → d 3 = true ∧ d 7 = true
  c9 : d 9 = true → d 8 = true
  c11 : d 11 = true → d 9 = true ∧ d 10 = true
  f0 : d 0 = true → v29 = .slice (some ⟨gr, 0, none⟩) 32 32
  f2 : d 2 = true → v31 = tv
  f4 : d 4 = true → v33 = .int .i64 (k : Int)
  f5 : d 5 = true → v34 = .int .i64 ((k : Int) + 1)
  f6 : d 6 = true → v35 = .int .u8 (q : Int)
  f1 : d 1 = true → d 3 = false → w.ownsRow B 5 1 v30 0 []
  f3 : d 3 = true → d 8 = false → w.ownsRow B 5 1 v32 tn (bv T)
  f7 : d 7 = true → d 8 = false → ∃ g7, v36 = .slice (some ⟨g7, 0, none⟩) 1 1 ∧ w.cell? ⟨g7, 0, none⟩ = some (.int .u8 (q : Int)) ∧ (d 1 = true → d 3 = false → v30.ownBlock ≠ some g7) ∧ (d 3 = true → v32.ownBlock ≠ some g7)
  f8 : d 8 = true → d 9 = false → w.ownsRow B 5 1 v37 (tn + 1) (bv (T ++ [q]))
  f9 : d 9 = true → v38 = .agg E
  f10 : d 10 = true → ∃ g10, v12 = .pointer (some ⟨g10, 0, none⟩) ∧ B ≤ g10 ∧ w.heap[g10]? = some (.cells (if d 11 = true then E else Z) 78 (0, 0))

variable {B gr tn : Nat} {wo : World} {tv : Value} {k q : Nat} {T : List Nat} {E Z : Array Value} {d : Nat → Bool} {v12 v29 v30 v31 v32 v33 v34 v35 v36 v37 v38 : Value} {w w' : World}

theorem R9.call (h : R9 B gr tn wo tv k q T E Z d v12 v29 v30 v31 v32 v33 v34 v35 v36 v37 v38 w) (hb : Below w.heap.size w w') : R9 B gr tn wo tv k q T E Z d v12 v29 v30 v31 v32 v33 v34 v35 v36 v37 v38 w' where
  bel := h.bel.trans (hb.mono h.size)
  size := Nat.le_trans h.size hb.size
  c3 := h.c3
  c8 := h.c8
  c9 := h.c9
  c11 := h.c11
  f0 := h.f0
  f2 := h.f2
  f4 := h.f4
  f5 := h.f5
  f6 := h.f6
  f1 := fun a b => rown_call (h.f1 a b) hb
  f3 := fun a b => rown_call (h.f3 a b) hb
  f7 := fun a b => by
    obtain ⟨g7, h1, h2, h3, h4⟩ := h.f7 a b
    exact ⟨g7, h1, cell_keep hb (lt_of_cell h2) h2, h3, h4⟩
  f8 := fun a b => rown_call (h.f8 a b) hb
  f9 := h.f9
  f10 := fun a => by
    obtain ⟨g, h1, h2, h3⟩ := h.f10 a
    exact ⟨g, h1, h2, by rw [hb.block g (Array.getElem?_eq_some_iff.1 h3).1]; exact h3⟩
theorem R9.s0 (h : R9 B gr tn wo tv k q T E Z d v12 v29 v30 v31 v32 v33 v34 v35 v36 v37 v38 w) : R9 B gr tn wo tv k q T E Z (fun j => j == 0 || d j) v12 (.slice (some ⟨gr, 0, none⟩) 32 32) v30 v31 v32 v33 v34 v35 v36 v37 v38 w where
  bel := h.bel
  size := h.size
  c3 := by simpa using h.c3
  c8 := by simpa using h.c8
  c9 := by simpa using h.c9
  c11 := by simpa using h.c11
  f0 := fun _ => rfl
  f2 := by simpa using h.f2
  f4 := by simpa using h.f4
  f5 := by simpa using h.f5
  f6 := by simpa using h.f6
  f1 := by simpa using h.f1
  f3 := by simpa using h.f3
  f7 := by simpa using h.f7
  f8 := by simpa using h.f8
  f9 := by simpa using h.f9
  f10 := by simpa using h.f10
theorem R9.s2 (h : R9 B gr tn wo tv k q T E Z d v12 v29 v30 v31 v32 v33 v34 v35 v36 v37 v38 w) : R9 B gr tn wo tv k q T E Z (fun j => j == 2 || d j) v12 v29 v30 (tv) v32 v33 v34 v35 v36 v37 v38 w where
  bel := h.bel
  size := h.size
  c3 := by simpa using h.c3
  c8 := by simpa using h.c8
  c9 := by simpa using h.c9
  c11 := by simpa using h.c11
  f0 := by simpa using h.f0
  f2 := fun _ => rfl
  f4 := by simpa using h.f4
  f5 := by simpa using h.f5
  f6 := by simpa using h.f6
  f1 := by simpa using h.f1
  f3 := by simpa using h.f3
  f7 := by simpa using h.f7
  f8 := by simpa using h.f8
  f9 := by simpa using h.f9
  f10 := by simpa using h.f10
theorem R9.s4 (h : R9 B gr tn wo tv k q T E Z d v12 v29 v30 v31 v32 v33 v34 v35 v36 v37 v38 w) : R9 B gr tn wo tv k q T E Z (fun j => j == 4 || d j) v12 v29 v30 v31 v32 (.int .i64 (k : Int)) v34 v35 v36 v37 v38 w where
  bel := h.bel
  size := h.size
  c3 := by simpa using h.c3
  c8 := by simpa using h.c8
  c9 := by simpa using h.c9
  c11 := by simpa using h.c11
  f0 := by simpa using h.f0
  f2 := by simpa using h.f2
  f4 := fun _ => rfl
  f5 := by simpa using h.f5
  f6 := by simpa using h.f6
  f1 := by simpa using h.f1
  f3 := by simpa using h.f3
  f7 := by simpa using h.f7
  f8 := by simpa using h.f8
  f9 := by simpa using h.f9
  f10 := by simpa using h.f10
theorem R9.s5 (h : R9 B gr tn wo tv k q T E Z d v12 v29 v30 v31 v32 v33 v34 v35 v36 v37 v38 w) : R9 B gr tn wo tv k q T E Z (fun j => j == 5 || d j) v12 v29 v30 v31 v32 v33 (.int .i64 ((k : Int) + 1)) v35 v36 v37 v38 w where
  bel := h.bel
  size := h.size
  c3 := by simpa using h.c3
  c8 := by simpa using h.c8
  c9 := by simpa using h.c9
  c11 := by simpa using h.c11
  f0 := by simpa using h.f0
  f2 := by simpa using h.f2
  f4 := by simpa using h.f4
  f5 := fun _ => rfl
  f6 := by simpa using h.f6
  f1 := by simpa using h.f1
  f3 := by simpa using h.f3
  f7 := by simpa using h.f7
  f8 := by simpa using h.f8
  f9 := by simpa using h.f9
  f10 := by simpa using h.f10
theorem R9.s6 (h : R9 B gr tn wo tv k q T E Z d v12 v29 v30 v31 v32 v33 v34 v35 v36 v37 v38 w) : R9 B gr tn wo tv k q T E Z (fun j => j == 6 || d j) v12 v29 v30 v31 v32 v33 v34 (.int .u8 (q : Int)) v36 v37 v38 w where
  bel := h.bel
  size := h.size
  c3 := by simpa using h.c3
  c8 := by simpa using h.c8
  c9 := by simpa using h.c9
  c11 := by simpa using h.c11
  f0 := by simpa using h.f0
  f2 := by simpa using h.f2
  f4 := by simpa using h.f4
  f5 := by simpa using h.f5
  f6 := fun _ => rfl
  f1 := by simpa using h.f1
  f3 := by simpa using h.f3
  f7 := by simpa using h.f7
  f8 := by simpa using h.f8
  f9 := by simpa using h.f9
  f10 := by simpa using h.f10

theorem R9.s1 (h : R9 B gr tn wo tv k q T E Z d v12 v29 v30 v31 v32 v33 v34 v35 v36 v37 v38 w) (h3 : d 3 = false) : R9 B gr tn wo tv k q T E Z (fun j => j == 1 || d j) v12 v29 (.slice (some ⟨w.heap.size, 0, none⟩) 0 0) v31 v32 v33 v34 v35 v36 v37 v38 (w.alloc (.cells #[] 5)) := by
  have hc := h.call ((Below.refl _ _).alloc (Nat.le_refl _) (.cells #[] 5))
  refine ⟨hc.bel, hc.size, by simp, by simpa using hc.c8, by simpa using hc.c9, by simpa using hc.c11, by simpa using hc.f0, by simpa using hc.f2, by simpa using hc.f4, by simpa using hc.f5, by simpa using hc.f6, fun _ _ => World.ownsRow_made (base := B) (e := 5) (size := 1) w #[] 0 h.size (Nat.zero_le _) rfl, by simpa using hc.f3, fun a b => ?_, by simpa using hc.f8, by simpa using hc.f9, by simpa using hc.f10⟩
  obtain ⟨g7, x1, x2, x3, x4⟩ := h.f7 (by simpa using a) (by simpa using b)
  have hlt := lt_of_cell x2
  exact ⟨g7, x1, cell_keep ((Below.refl _ _).alloc (Nat.le_refl _) _) hlt x2, fun _ _ he => by injection he with he; simp only at he; simp only at hlt; omega, fun hx => absurd (by simpa using hx) (by simp [h3])⟩
theorem R9.s7 (h : R9 B gr tn wo tv k q T E Z d v12 v29 v30 v31 v32 v33 v34 v35 v36 v37 v38 w) (h8 : d 8 = false) : R9 B gr tn wo tv k q T E Z (fun j => j == 7 || d j) v12 v29 v30 v31 v32 v33 v34 v35 (.slice (some ⟨w.heap.size, 0, none⟩) 1 1) v37 v38 (w.alloc (.cells #[.int .u8 (q : Int)] 5)) := by
  have hc := h.call ((Below.refl _ _).alloc (Nat.le_refl _) (.cells #[.int .u8 (q : Int)] 5))
  refine ⟨hc.bel, hc.size, by simpa using hc.c3, by simp; exact fun a => (h.c8 a).1, by simpa using hc.c9, by simpa using hc.c11, by simpa using hc.f0, by simpa using hc.f2, by simpa using hc.f4, by simpa using hc.f5, by simpa using hc.f6, by simpa using hc.f1, by simpa using hc.f3, fun a b => ⟨w.heap.size, rfl, ?_, fun hx h3 he => ?_, fun hx he => ?_⟩, by simpa using hc.f8, by simpa using hc.f9, by simpa using hc.f10⟩
  · exact new_cells w [.int .u8 (q : Int)] 5 0 _ rfl
  · have := ((h.f1 (by simpa using hx) (by simpa using h3)).lt _ he).2
    omega
  · have := ((h.f3 (by simpa using hx) h8).lt _ he).2
    omega

theorem R9.s3 (h : R9 B gr tn wo tv k q T E Z d v12 v29 v30 v31 v32 v33 v34 v35 v36 v37 v38 w) (h1 : d 1 = true) (h3 : d 3 = false) {a1 : Option Addr} {c1 : Nat} {w1 : World} (ho : w1.ownsRow B 5 1 (.slice a1 tn c1) tn (bv T)) (hg : w.grownBy w1 v30.ownBlock) (h5 : Value.ownBlock (.slice a1 tn c1) = v30.ownBlock ∨ Value.ownBlock (.slice a1 tn c1) = some w.heap.size) :
    R9 B gr tn wo tv k q T E Z (fun j => j == 3 || d j) v12 v29 v30 v31 (.slice a1 tn c1) v33 v34 v35 v36 v37 v38 w1 := by
  have o1 := h.f1 h1 h3
  have h8 : d 8 = false := by cases hq : d 8 with | false => rfl | true => have := (h.c8 hq).1; rw [h3] at this; cases this
  have h9 : d 9 = false := by cases hq : d 9 with | false => rfl | true => have := h.c9 hq; rw [h8] at this; cases this
  refine ⟨h.bel.grown hg h.size (fun k hk => (o1.lt k hk).1), Nat.le_trans h.size hg.size, fun _ => by simp [h1], by simp [h8], by simp [h9, h8], by simpa using h.c11, by simpa using h.f0, by simpa using h.f2, by simpa using h.f4, by simpa using h.f5, by simpa using h.f6, fun _ b => by simp at b, fun _ _ => ho, fun a b => ?_, by simp [h8], by simpa using h.f9, fun a => ?_⟩
  · obtain ⟨g7, x1, x2, x3, x4⟩ := h.f7 (by simpa using a) (by simpa using b)
    have hn := x3 h1 h3
    refine ⟨g7, x1, ?_, fun _ hb => by simp at hb, fun _ he => ?_⟩
    · rw [hg.cell_far _ (lt_of_cell x2) (fun e => hn e.symm)]; exact x2
    · rcases h5 with h5 | h5
      · exact hn (h5.symm.trans he)
      · rw [h5] at he
        injection he with he
        have := lt_of_cell x2
        simp only at this
        omega
  · obtain ⟨g, x1, x2, x3⟩ := h.f10 (by simpa using a)
    refine ⟨g, x1, x2, ?_⟩
    rw [hg.block g (Array.getElem?_eq_some_iff.1 x3).1 (own_ne o1 x3 (by decide))]
    simpa using x3
theorem R9.s8 (h : R9 B gr tn wo tv k q T E Z d v12 v29 v30 v31 v32 v33 v34 v35 v36 v37 v38 w) (h3 : d 3 = true) (h7 : d 7 = true) (h8 : d 8 = false) {a2 : Option Addr} {c2 : Nat} {w2 : World} (ho : w2.ownsRow B 5 1 (.slice a2 (tn + 1) c2) (tn + 1) (bv (T ++ [q]))) (hg : w.grownBy w2 v32.ownBlock) :
    R9 B gr tn wo tv k q T E Z (fun j => j == 8 || d j) v12 v29 v30 v31 v32 v33 v34 v35 v36 (.slice a2 (tn + 1) c2) v38 w2 := by
  have o3 := h.f3 h3 h8
  have h9 : d 9 = false := by cases hq : d 9 with | false => rfl | true => have := h.c9 hq; rw [h8] at this; cases this
  refine ⟨h.bel.grown hg h.size (fun k hk => (o3.lt k hk).1), Nat.le_trans h.size hg.size, by simpa using h.c3, by simp [h3, h7], by simp [h9], by simpa using h.c11, by simpa using h.f0, by simpa using h.f2, by simpa using h.f4, by simpa using h.f5, by simpa using h.f6, by simp [h3], by simp, by simp, fun _ _ => ho, by simpa using h.f9, fun a => ?_⟩
  obtain ⟨g, x1, x2, x3⟩ := h.f10 (by simpa using a)
  refine ⟨g, x1, x2, ?_⟩
  rw [hg.block g (Array.getElem?_eq_some_iff.1 x3).1 (own_ne o3 x3 (by decide))]
  simpa using x3
theorem R9.s9 (h : R9 B gr tn wo tv k q T E Z d v12 v29 v30 v31 v32 v33 v34 v35 v36 v37 v38 w) (h8 : d 8 = true) {w2 : World} (hb : Below w.heap.size w w2) :
    R9 B gr tn wo tv k q T E Z (fun j => j == 9 || d j) v12 v29 v30 v31 v32 v33 v34 v35 v36 v37 (.agg E) w2 := by
  have hc := h.call hb
  refine ⟨hc.bel, hc.size, by simpa using hc.c3, by simpa using hc.c8, by simp [h8], by simp; exact fun a => (h.c11 a).2, by simpa using hc.f0, by simpa using hc.f2, by simpa using hc.f4, by simpa using hc.f5, by simpa using hc.f6, by simpa using hc.f1, by simpa using hc.f3, by simpa using hc.f7, by simp, fun _ => rfl, by simpa using hc.f10⟩
theorem R9.s10 (h : R9 B gr tn wo tv k q T E Z d v12 v29 v30 v31 v32 v33 v34 v35 v36 v37 v38 w) (h10 : d 10 = false) :
    R9 B gr tn wo tv k q T E Z (fun j => j == 10 || d j) (.pointer (some ⟨w.heap.size, 0, none⟩)) v29 v30 v31 v32 v33 v34 v35 v36 v37 v38 (w.alloc (.cells Z 78)) := by
  have hc := h.call ((Below.refl _ _).alloc (Nat.le_refl _) (.cells Z 78))
  have h11 : d 11 = false := by cases hq : d 11 with | false => rfl | true => have := (h.c11 hq).2; rw [h10] at this; cases this
  refine ⟨hc.bel, hc.size, by simpa using hc.c3, by simpa using hc.c8, by simpa using hc.c9, by simp [h11], by simpa using hc.f0, by simpa using hc.f2, by simpa using hc.f4, by simpa using hc.f5, by simpa using hc.f6, by simpa using hc.f1, by simpa using hc.f3, by simpa using hc.f7, by simpa using hc.f8, by simpa using hc.f9, fun _ => ⟨w.heap.size, rfl, h.size, ?_⟩⟩
  simp only [h11]
  exact heap_alloc_new _ _
theorem R9.s11 (h : R9 B gr tn wo tv k q T E Z d v12 v29 v30 v31 v32 v33 v34 v35 v36 v37 v38 w) (h9 : d 9 = true) (h10 : d 10 = true) (h11 : d 11 = false) {g : Nat} (hg : v12 = .pointer (some ⟨g, 0, none⟩)) (hb : B ≤ g) (hc : w.heap[g]? = some (.cells Z 78 (0, 0))) :
    R9 B gr tn wo tv k q T E Z (fun j => j == 11 || d j) v12 v29 v30 v31 v32 v33 v34 v35 v36 v37 v38 (w.setRow g E) := by
  have h8 := h.c9 h9
  have h3 := (h.c8 h8).1
  refine ⟨h.bel.trans ⟨rfl, rfl, rfl, by simp [World.setRow], fun k hk => setRow_other _ _ _ _ (by omega)⟩, by have := h.size; simp [World.setRow]; exact this, by simpa using h.c3, by simpa using h.c8, by simpa using h.c9, by simp [h9, h10], by simpa using h.f0, by simpa using h.f2, by simpa using h.f4, by simpa using h.f5, by simpa using h.f6, by simp [h3], by simp [h8], by simp [h8], by simp [h9], by simpa using h.f9, fun _ => ⟨g, hg, hb, ?_⟩⟩
  simp only [show ((11 : Nat) == 11 || d 11) = true by simp, if_true]
  exact setRow_heap _ _ _ _ _ _ hc

theorem R9.base (hB : wo.heap.size = B) : R9 B gr tn wo tv k q T E Z (fun _ => false) v12 v29 v30 v31 v32 v33 v34 v35 v36 v37 v38 wo.drew :=
  ⟨(Below.refl _ _).drew, by simp [hB], by simp, by simp, by simp, by simp, by simp, by simp, by simp, by simp, by simp, by simp, by simp, by simp, by simp, by simp, by simp⟩
theorem wp_append_src {P : Program} (w : World) {o : Oper} {a : Act} {K : Act → World → Prop} {Q : Exit → Act → World → Prop} (s x : Operand) (t : TypeId)
    (ho : o.op = .call { callee := .builtin .append, args := #[s, x], argTypes := #[t, t] })
    (base : Nat) (e : TypeId) (i : TypeInfo) (z : Value) (size bytes : Nat) (ht : P.underlying t = some (.slice e)) (hi : P.info? e = some i) (hz : i.zero = some z)
    (hsize : i.size = size) (hby : i.bytes = bytes) (hzs : z.cells.size = size) (hsz : 0 < size)
    (v : Value) (n : Nat) (xs : List Value) (hs : a.eval s = v) (hown : w.ownsRow base e size v n xs)
    (ad : Option Addr) (m c : Nat) (news : List Value) (hx : a.eval x = .slice ad m c) (hl : news.length = m * size) (hnone : ad = none → m = 0) (hnews : ∀ b, ad = some b → ∀ j u, news[j]? = some u → w.cell? (b.add j) = some u) (h1 : ∀ u ∈ news, u.oneCell' = true)
    (h63 : n + m ≤ maxLen) (hbytes : (n + m) * bytes ≤ 140737488355328) (hbase : base ≤ w.heap.size)
    (h : ∀ ad' cap w', w'.ownsRow base e size (.slice ad' (n + m) cap) (n + m) (xs ++ news) → w.grownBy w' v.ownBlock → (Value.ownBlock (.slice ad' (n + m) cap) = v.ownBlock ∨ Value.ownBlock (.slice ad' (n + m) cap) = some w.heap.size) → K (a.put o.dst (.slice ad' (n + m) cap)) w') :
    o.wp P a w K Q := by
  obtain ⟨ad', cap, w', hr, h2, h3, h5⟩ : ∃ ad' cap w', (Builtin.append_ #[t, t] o.type #[v, .slice ad m c]).run P w = .ok (.slice ad' (n + m) cap) w' ∧ w'.ownsRow base e size (.slice ad' (n + m) cap) (n + m) (xs ++ news) ∧ w.grownBy w' v.ownBlock ∧ (Value.ownBlock (.slice ad' (n + m) cap) = v.ownBlock ∨ Value.ownBlock (.slice ad' (n + m) cap) = some w.heap.size) := by
    cases ad with
    | none =>
      have hm := hnone rfl
      subst hm
      have hn0 : news = [] := List.eq_nil_of_length_eq_zero (by simpa using hl)
      subst hn0
      obtain ⟨b, cap, hv, hle⟩ : ∃ b cap, v = .slice b n cap ∧ n ≤ cap := by
        rcases hown.2 with ⟨rfl, rfl⟩ | ⟨g, cap, cur, rfl, _, _, hle, _⟩
        · exact ⟨none, 0, rfl, Nat.le_refl _⟩
        · exact ⟨_, cap, rfl, hle⟩
      subst hv
      refine ⟨b, cap, w, run_append_none w t o.type e i ht hi b n cap c hle, ?_, ⟨rfl, rfl, rfl, Nat.le_refl _, fun _ _ _ => rfl⟩, .inl ?_⟩
      · simpa using hown
      · cases b <;> rfl
    | some b =>
      obtain ⟨v', w', hr, h2, h3, _, h5⟩ := run_append_own_at (P := P) w base t o.type e i z size bytes ht hi hz hsize hby hzs hsz v n xs hown b m c news hl (hnews b rfl) h1 h63 hbytes hbase
      obtain ⟨ad', cap, rfl⟩ : ∃ ad' cap, v' = .slice ad' (n + m) cap := by
        rcases h2.2 with ⟨rfl, h0⟩ | ⟨g, cap, cur, rfl, _⟩
        · exact ⟨none, 0, by rw [h0]⟩
        · exact ⟨_, cap, rfl⟩
      exact ⟨ad', cap, w', hr, h2, h3, h5⟩
  unfold Oper.wp execOp
  simp only [ho, resolve, invoke, builtin, Sem.run_bind, Sem.run_pure, Result.andThen_ok, List.map_toArray, List.map_cons, List.map_nil, hs, hx, hr]
  exact h ad' cap w' h2 h3 h5

end Go.Proofs.YthhpnakgiammiaaDoor
