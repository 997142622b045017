/- For every policy the Go function sealskinlaw01.LatticeClones returns true, and its argument reads as it did. No condition. -/
import Derived.Test.YtbahnkomdndmkabSame
namespace Go.Proofs.Ytbahnkomdndmkab.clones
set_option linter.unusedVariables false
set_option linter.unusedSimpArgs false
open Go.ChangeShapes Go.WideShapes Go.ChangeAt Go.RowKit

theorem _root_.Go.Proofs.Ytbahnkomdndmkab.PB.low {w W V : World} {s0 s1 s2 : Value} (h : PB w s0 s1 s2 W) (hb : Below (w.heap.size + 1) W V) : PB w s0 s1 s2 V := by
  obtain ⟨⟨h0, h1, h2⟩, hs, bl⟩ := h
  have := hb.size
  exact ⟨⟨cell_keep hb (Nat.lt_succ_self _) h0, cell_keep hb (Nat.lt_succ_self _) h1, cell_keep hb (Nat.lt_succ_self _) h2⟩, by omega, bl.trans (hb.mono (Nat.le_succ _))⟩
/-- cells that can be written -/
def Z3 (w : World) (N : Nat) : Prop := RB N w
theorem Z3.start (w : World) (z0 z1 z2 : Value) : RB w.heap.size (w.alloc (.cells #[z0, z1, z2] 34)) := by
  refine ⟨⟨z0, ?_⟩, ⟨z1, ?_⟩, ⟨z2, ?_⟩, ?_, ?_, ?_⟩
  all_goals (simp [go_sem]; done)
theorem _root_.Go.Proofs.Ytbahnkomdndmkab.RB.keep {w w' : World} {N B : Nat} (h : RB N w) (hb : Below B w w') (hN : N < B) : RB N w' := by
  obtain ⟨⟨r0, q0⟩, ⟨r1, q1⟩, ⟨r2, q2⟩, f0, f1, f2⟩ := h
  refine ⟨⟨r0, cell_keep hb hN q0⟩, ⟨r1, cell_keep hb hN q1⟩, ⟨r2, cell_keep hb hN q2⟩, ?_, ?_, ?_⟩
  · rw [hb.frozen (p := ⟨N, 0, none⟩) hN]; exact f0
  · rw [hb.frozen (p := ⟨N, 1, none⟩) hN]; exact f1
  · rw [hb.frozen (p := ⟨N, 2, none⟩) hN]; exact f2
def put3 (w : World) (N : Nat) (x y z : Value) : World := ((w.setCell ⟨N, 0, none⟩ x).setCell ⟨N, 1, none⟩ y).setCell ⟨N, 2, none⟩ z
theorem put3_below (w : World) (B N : Nat) (x y z : Value) (h : B ≤ N) : Below B w (put3 w N x y z) :=
  (((Below.refl B w).setCell (p := ⟨N, 0, none⟩) h x).setCell (p := ⟨N, 1, none⟩) h y).setCell (p := ⟨N, 2, none⟩) h z
theorem put3_cells {w : World} {N : Nat} (h : RB N w) (x y z : Value) : (put3 w N x y z).cell? ⟨N, 0, none⟩ = some x ∧ (put3 w N x y z).cell? ⟨N, 1, none⟩ = some y ∧ (put3 w N x y z).cell? ⟨N, 2, none⟩ = some z := by
  obtain ⟨⟨r0, q0⟩, ⟨r1, q1⟩, ⟨r2, q2⟩, f0, f1, f2⟩ := h
  unfold put3
  refine ⟨?_, ?_, ?_⟩
  · simp [go_sem, q0]
  · simp [go_sem, q1]
  · simp [go_sem, q2]
theorem put3_size (w : World) (N : Nat) (x y z : Value) : (put3 w N x y z).heap.size = w.heap.size := by simp [put3]
theorem _root_.Go.Proofs.Ytbahnkomdndmkab.Own.put3 {w : World} {lo hi n k N : Nat} {a : Option Addr} {f : Nat → List Value} (h : Own w lo hi a n k f) (hN : N < lo ∨ hi ≤ N) (x y z : Value) : Own (put3 w N x y z) lo hi a n k f :=
  ((h.other N 0 hN x).other N 1 hN y).other N 2 hN z
theorem own_labs {w W : World} {lo hi n : Nat} {a b : Option Addr} {L C : Nat → Int} (p : PolLabs W b n L C) (h : Own w lo hi a n 2 (fL L C)) (hh : hi ≤ w.heap.size) : PolLabs w a n L C := by
  refine ⟨p.1, p.2.1, ?_⟩
  rcases h with h | ⟨g, h1, h2, h3, h4, h5⟩
  · exact .inl h
  · exact .inr ⟨g, 0, h1, by omega, row_L.2 h4⟩
theorem own_quos {w W : World} {lo hi n : Nat} {a b : Option Addr} {A B C : Nat → Int} (p : PolQuos W b n A B C) (h : Own w lo hi a n 3 (fQ A B C)) (hh : hi ≤ w.heap.size) : PolQuos w a n A B C := by
  refine ⟨p.1, p.2.1, ?_⟩
  rcases h with h | ⟨g, h1, h2, h3, h4, h5⟩
  · exact .inl h
  · exact .inr ⟨g, 0, h1, by omega, row_Q.2 h4⟩
theorem own_ents {w W : World} {lo hi n : Nat} {a b : Option Addr} {A : Nat → Int} {S : Nat → ByteArray} {D : Nat → Bool} (p : PolEnts W b n A S D) (h : Own w lo hi a n 3 (fE A S D)) (hh : hi ≤ w.heap.size) : PolEnts w a n A S D := by
  refine ⟨p.1, p.2.1, ?_⟩
  rcases h with h | ⟨g, h1, h2, h3, h4, h5⟩
  · exact .inl h
  · exact .inr ⟨g, 0, h1, by omega, row_E.2 h4⟩

def isI (x : Value) : Prop := ∃ z : Int, x = .int .i64 z
def isS (x : Value) : Prop := ∃ s : ByteArray, x = .string s
/-- a column of cells of a row of one's own, that can be written -/
def Wr (w : World) (lo hi : Nat) (a : Option Addr) (n k j : Nat) (T : Value → Prop) : Prop :=
  n = 0 ∨ ∃ g, a = some ⟨g, 0, none⟩ ∧ lo ≤ g ∧ g < hi ∧ ∀ i, i < n → (∃ x, w.cell? ⟨g, i * k + j, none⟩ = some x ∧ T x) ∧ w.frozen? ⟨g, i * k + j, none⟩ = false
theorem Wr.keep {w w' : World} {lo hi n k j B : Nat} {a : Option Addr} {T : Value → Prop} (h : Wr w lo hi a n k j T) (hb : Below B w w') (hB : hi ≤ B) : Wr w' lo hi a n k j T := by
  rcases h with h | ⟨g, h1, h2, h3, h4⟩
  · exact .inl h
  · refine .inr ⟨g, h1, h2, h3, fun i hi => ?_⟩
    obtain ⟨⟨x, hx, hT⟩, hf⟩ := h4 i hi
    refine ⟨⟨x, cell_keep hb (by show g < B; omega) hx, hT⟩, ?_⟩
    rw [hb.frozen (p := ⟨g, i * k + j, none⟩) (by show g < B; omega)]; exact hf
theorem Wr.other {w : World} {lo hi n k j : Nat} {a : Option Addr} {T : Value → Prop} (h : Wr w lo hi a n k j T) (N o : Nat) (hN : N < lo ∨ hi ≤ N) (u : Value) : Wr (w.setCell ⟨N, o, none⟩ u) lo hi a n k j T := by
  rcases h with h | ⟨g, h1, h2, h3, h4⟩
  · exact .inl h
  · refine .inr ⟨g, h1, h2, h3, fun i hi => ?_⟩
    obtain ⟨⟨x, hx, hT⟩, hf⟩ := h4 i hi
    refine ⟨⟨x, ?_, hT⟩, by simpa using hf⟩
    rw [World.cell?_setCell_other]
    · exact hx
    · intro e
      injection e with e1 _ _
      omega
theorem Wr.put {w : World} {lo hi n k j g : Nat} {T : Value → Prop} (h : Wr w lo hi (some ⟨g, 0, none⟩) n k j T) (o : Nat) (u : Value) (hu : T u) : Wr (w.setCell ⟨g, o, none⟩ u) lo hi (some ⟨g, 0, none⟩) n k j T := by
  rcases h with h | ⟨g', h1, h2, h3, h4⟩
  · exact .inl h
  · injection h1 with h1
    injection h1 with h1
    subst h1
    refine .inr ⟨g, rfl, h2, h3, fun i hi => ?_⟩
    obtain ⟨⟨x, hx, hT⟩, hf⟩ := h4 i hi
    refine ⟨?_, by simpa using hf⟩
    by_cases ho : o = i * k + j
    · subst ho
      exact ⟨u, by apply World.cell?_setCell_same; exact hx, hu⟩
    · refine ⟨x, ?_, hT⟩
      rw [World.cell?_setCell_other]
      · exact hx
      · intro e
        injection e with _ e2 _
        exact ho e2
theorem wr_of {w : World} {lo hi n k j : Nat} {a : Option Addr} {f : Nat → List Value} {T : Value → Prop} (h : Own w lo hi a n k f) (hj : j < k) (hT : ∀ i, ∃ x, (f i)[j]? = some x ∧ T x) : Wr w lo hi a n k j T := by
  rcases h with h | ⟨g, h1, h2, h3, h4, h5⟩
  · exact .inl h
  · refine .inr ⟨g, h1, h2, h3, fun i hi => ?_⟩
    obtain ⟨x, hx, ht⟩ := hT i
    have := h4 i j x hi hj hx
    rw [Nat.zero_add] at this
    exact ⟨⟨x, this, ht⟩, h5 _⟩
/-- behind the clone: its own cells, and what it can write -/
def LI (V : World) (M lo m1 m2 hi : Nat) (f0 f1 f2 : Option Addr) (n0 n1 n2 : Nat) (s0 s1 s2 : Value) (wr : World) : Prop :=
  (wr.cell? ⟨M, 0, none⟩ = some s0 ∧ wr.cell? ⟨M, 1, none⟩ = some s1 ∧ wr.cell? ⟨M, 2, none⟩ = some s2) ∧ M < wr.heap.size ∧ Below V.heap.size V wr ∧ Wr wr lo m1 f0 n0 2 0 isI ∧ Wr wr m1 m2 f1 n1 3 1 isI ∧ Wr wr m2 hi f2 n2 3 1 isS
theorem LI.call {V : World} {M lo m1 m2 hi : Nat} {f0 f1 f2 : Option Addr} {n0 n1 n2 : Nat} {s0 s1 s2 : Value} {wr w' : World} (h : LI V M lo m1 m2 hi f0 f1 f2 n0 n1 n2 s0 s1 s2 wr) (hV : V.heap.size ≤ lo) (h1 : lo ≤ m1) (h2 : m1 ≤ m2) (h3 : m2 ≤ hi) (h4 : hi ≤ M) (hb : Below wr.heap.size wr w') : LI V M lo m1 m2 hi f0 f1 f2 n0 n1 n2 s0 s1 s2 w' := by
  obtain ⟨⟨c0, c1, c2⟩, hM, hB, x0, x1, x2⟩ := h
  have := hb.size
  have := hB.size
  exact ⟨⟨cell_keep hb hM c0, cell_keep hb hM c1, cell_keep hb hM c2⟩, by omega, hB.trans (hb.mono hB.size), x0.keep hb (by omega), x1.keep hb (by omega), x2.keep hb (by omega)⟩
theorem LI.cells {M g o : Nat} {s0 s1 s2 u : Value} {wr : World} (h : wr.cell? ⟨M, 0, none⟩ = some s0 ∧ wr.cell? ⟨M, 1, none⟩ = some s1 ∧ wr.cell? ⟨M, 2, none⟩ = some s2) (hg : g ≠ M) : (wr.setCell ⟨g, o, none⟩ u).cell? ⟨M, 0, none⟩ = some s0 ∧ (wr.setCell ⟨g, o, none⟩ u).cell? ⟨M, 1, none⟩ = some s1 ∧ (wr.setCell ⟨g, o, none⟩ u).cell? ⟨M, 2, none⟩ = some s2 := by
  have e : ∀ i, (wr.setCell ⟨g, o, none⟩ u).cell? ⟨M, i, none⟩ = wr.cell? ⟨M, i, none⟩ := fun i => by
    apply World.cell?_setCell_other
    intro e
    injection e with e1 _ _
    exact hg e1
  rw [e, e, e]
  exact h
theorem LI.set0 {V : World} {M lo m1 m2 hi g o : Nat} {f1 f2 : Option Addr} {n0 n1 n2 : Nat} {s0 s1 s2 u : Value} {wr : World} (h : LI V M lo m1 m2 hi (some ⟨g, 0, none⟩) f1 f2 n0 n1 n2 s0 s1 s2 wr) (hV : V.heap.size ≤ lo) (h2 : m1 ≤ m2) (h3 : m2 ≤ hi) (h4 : hi ≤ M) (hg : lo ≤ g ∧ g < m1) (hu : isI u) : LI V M lo m1 m2 hi (some ⟨g, 0, none⟩) f1 f2 n0 n1 n2 s0 s1 s2 (wr.setCell ⟨g, o, none⟩ u) := by
  obtain ⟨c, hM, hB, x0, x1, x2⟩ := h
  exact ⟨LI.cells c (by omega), by simpa using hM, hB.setCell (show V.heap.size ≤ g by omega) _, x0.put o u hu, x1.other g o (.inl (by omega)) u, x2.other g o (.inl (by omega)) u⟩
theorem LI.set1 {V : World} {M lo m1 m2 hi g o : Nat} {f0 f2 : Option Addr} {n0 n1 n2 : Nat} {s0 s1 s2 u : Value} {wr : World} (h : LI V M lo m1 m2 hi f0 (some ⟨g, 0, none⟩) f2 n0 n1 n2 s0 s1 s2 wr) (hV : V.heap.size ≤ lo) (h1 : lo ≤ m1) (h3 : m2 ≤ hi) (h4 : hi ≤ M) (hg : m1 ≤ g ∧ g < m2) (hu : isI u) : LI V M lo m1 m2 hi f0 (some ⟨g, 0, none⟩) f2 n0 n1 n2 s0 s1 s2 (wr.setCell ⟨g, o, none⟩ u) := by
  obtain ⟨c, hM, hB, x0, x1, x2⟩ := h
  exact ⟨LI.cells c (by omega), by simpa using hM, hB.setCell (show V.heap.size ≤ g by omega) _, x0.other g o (.inr (by omega)) u, x1.put o u hu, x2.other g o (.inl (by omega)) u⟩
theorem LI.set2 {V : World} {M lo m1 m2 hi g o : Nat} {f0 f1 : Option Addr} {n0 n1 n2 : Nat} {s0 s1 s2 u : Value} {wr : World} (h : LI V M lo m1 m2 hi f0 f1 (some ⟨g, 0, none⟩) n0 n1 n2 s0 s1 s2 wr) (hV : V.heap.size ≤ lo) (h1 : lo ≤ m1) (h2 : m1 ≤ m2) (h4 : hi ≤ M) (hg : m2 ≤ g ∧ g < hi) (hu : isS u) : LI V M lo m1 m2 hi f0 f1 (some ⟨g, 0, none⟩) n0 n1 n2 s0 s1 s2 (wr.setCell ⟨g, o, none⟩ u) := by
  obtain ⟨c, hM, hB, x0, x1, x2⟩ := h
  exact ⟨LI.cells c (by omega), by simpa using hM, hB.setCell (show V.heap.size ≤ g by omega) _, x0.other g o (.inr (by omega)) u, x1.other g o (.inr (by omega)) u, x2.put o u hu⟩

set_option maxHeartbeats 8000000 in
theorem walk (a0 a1 a2 : Option Addr) (n0 n1 n2 c0 c1 c2 : Nat) (L C Q1 Q2 Q3 E : Nat → Int) (S : Nat → ByteArray) (D : Nat → Bool) (w : World)
    (pl : PolLabs w a0 n0 L C) (pq : PolQuos w a1 n1 Q1 Q2 Q3) (pe : PolEnts w a2 n2 E S D) :
    Calls Try.prog 6 #[.agg #[.slice a0 n0 c0, .slice a1 n1 c1, .slice a2 n2 c2]] w fun e w' => e = .returned (.bool true) ∧ Below w.heap.size w w' := by
  have hst := PB.start w (.slice a0 n0 c0) (.slice a1 n1 c1) (.slice a2 n2 c2)
  cases hl : longB n0 n1 n2
  · have h0 : n0 ≤ 200 := by simp [longB] at hl; omega
    have h1 : n1 ≤ 200 := by simp [longB] at hl; omega
    have h2 : n2 ≤ 200 := by simp [longB] at hl; omega
    go_enter Try.func6, Try.ntmps6
    go_wp2_with fail
    refine (long_any _ _ _ _ _ _ _ _ _ _).mono ?_
    rintro e w0 ⟨rfl, hb⟩
    rw [hl]
    have hS := PB.call hst hb
    have hF := hS.1
    clear hb hst
    go_wp2_with fail
    refine wp_region_held_drew (S := fun w' => (w'.cell? ⟨w.heap.size, 0, none⟩ = some (.slice a0 n0 c0) ∧ w'.cell? ⟨w.heap.size, 1, none⟩ = some (.slice a1 n1 c1) ∧ w'.cell? ⟨w.heap.size, 2, none⟩ = some (.slice a2 n2 c2)) ∧ w.heap.size < w'.heap.size ∧ Below w.heap.size w w') (by kernel_rfl) ?_ (fun hHeld => ?_)
    · exact PB.drew hS
    have hx0 : w.heap.size < w0.drew.heap.size := hS.2.1
    generalize w0.drew = x0 at *
    clear hF hS
    refine wpAnyH_take (i := 0) (v := ?_) rfl (by kernel_rfl) (by kernel_rfl) (by kernel_rfl) (fun _ _ _ h => h) (Or.inl ⟨by rfl, ?_⟩) (by assumption) ?_
    rotate_left 1
    · (intro w hSw; (try dsimp only at hSw); go_simp) <;> (with_reducible rfl)
    try simp only [Act.put, List.getElem_toArray, List.getElem_cons_zero, List.getElem_cons_succ, List.setIfInBounds_toArray, List.set_cons_zero, List.set_cons_succ]
    refine wpAnyH_take (i := 1) (v := ?_) rfl (by kernel_rfl) (by kernel_rfl) (by kernel_rfl) (fun _ _ _ h => h) (Or.inl ⟨by rfl, ?_⟩) (by assumption) ?_
    rotate_left 1
    · (intro w hSw; (try dsimp only at hSw); go_simp) <;> (with_reducible rfl)
    try simp only [Act.put, List.getElem_toArray, List.getElem_cons_zero, List.getElem_cons_succ, List.setIfInBounds_toArray, List.set_cons_zero, List.set_cons_succ]
    refine wpAnyH_take (i := 3) (v := ?_) rfl (by kernel_rfl) (by kernel_rfl) (by kernel_rfl) (fun _ _ _ h => h) (Or.inl ⟨by rfl, ?_⟩) (by assumption) ?_
    rotate_left 1
    · (intro w hSw; (try dsimp only at hSw); go_simp) <;> (with_reducible rfl)
    try simp only [Act.put, List.getElem_toArray, List.getElem_cons_zero, List.getElem_cons_succ, List.setIfInBounds_toArray, List.set_cons_zero, List.set_cons_succ]
    refine wpAnyH_take (i := 4) (v := ?_) rfl (by kernel_rfl) (by kernel_rfl) (by kernel_rfl) (fun _ _ _ h => h) (Or.inl ⟨by rfl, ?_⟩) (by assumption) ?_
    rotate_left 1
    · (intro w hSw; (try dsimp only at hSw); go_simp) <;> (with_reducible rfl)
    try simp only [Act.put, List.getElem_toArray, List.getElem_cons_zero, List.getElem_cons_succ, List.setIfInBounds_toArray, List.set_cons_zero, List.set_cons_succ]
    refine wpAnyH_take (i := 6) (v := ?_) rfl (by kernel_rfl) (by kernel_rfl) (by kernel_rfl) (fun _ _ _ h => h) (Or.inl ⟨by rfl, ?_⟩) (by assumption) ?_
    rotate_left 1
    · (intro w hSw; (try dsimp only at hSw); go_simp) <;> (with_reducible rfl)
    try simp only [Act.put, List.getElem_toArray, List.getElem_cons_zero, List.getElem_cons_succ, List.setIfInBounds_toArray, List.set_cons_zero, List.set_cons_succ]
    refine wpAnyH_take (i := 7) (v := ?_) rfl (by kernel_rfl) (by kernel_rfl) (by kernel_rfl) (fun _ _ _ h => h) (Or.inl ⟨by rfl, ?_⟩) (by assumption) ?_
    rotate_left 1
    · (intro w hSw; (try dsimp only at hSw); go_simp) <;> (with_reducible rfl)
    try simp only [Act.put, List.getElem_toArray, List.getElem_cons_zero, List.getElem_cons_succ, List.setIfInBounds_toArray, List.set_cons_zero, List.set_cons_succ]
    refine wpAnyH_ready (rs := [2, 10]) (by kernel_rfl) (by simp) ?_
    refine AllReadyH.cons rfl (fun K hK => ?_) (AllReadyH.cons rfl (fun K hK => ?_) AllReadyH.nil)
    · go_simp; (go_at_call 17; refine (cloneL_any _ _ _ L C _ ?_ h0).mono ?_; (exact pl.call (PB.bel (s0 := .slice a0 n0 c0) (s1 := .slice a1 n1 c1) (s2 := .slice a2 n2 c2) (by assumption))); rintro e x1 ⟨v0, rfl, ho0, hb1⟩); go_wp2_with fail
      refine hK.out _ _ ?_ (fun hHeld => ?_)
      · exact PB.call (by assumption) (by assumption)
      clear hK K
      try simp only [Act.put, List.getElem_toArray, List.getElem_cons_zero, List.getElem_cons_succ, List.setIfInBounds_toArray, List.set_cons_zero, List.set_cons_succ]
      refine wpAnyH_ready (rs := [5, 10]) (by kernel_rfl) (by simp) ?_
      refine AllReadyH.cons rfl (fun K hK => ?_) (AllReadyH.cons rfl (fun K hK => ?_) AllReadyH.nil)
      · go_simp; (go_at_call 18; refine (cloneQ_any _ _ _ Q1 Q2 Q3 _ ?_ h1).mono ?_; (exact pq.call (PB.bel (s0 := .slice a0 n0 c0) (s1 := .slice a1 n1 c1) (s2 := .slice a2 n2 c2) (by assumption))); rintro e x2 ⟨v1, rfl, ho1, hb2⟩); go_wp2_with fail
        refine hK.out _ _ ?_ (fun hHeld => ?_)
        · exact PB.call (by assumption) (by assumption)
        clear hK K
        try simp only [Act.put, List.getElem_toArray, List.getElem_cons_zero, List.getElem_cons_succ, List.setIfInBounds_toArray, List.set_cons_zero, List.set_cons_succ]
        refine wpAnyH_ready (rs := [8, 10]) (by kernel_rfl) (by simp) ?_
        refine AllReadyH.cons rfl (fun K hK => ?_) (AllReadyH.cons rfl (fun K hK => ?_) AllReadyH.nil)
        · go_simp; (go_at_call 19; refine (cloneE_any _ _ _ E S D _ ?_ h2).mono ?_; (exact pe.call (PB.bel (s0 := .slice a0 n0 c0) (s1 := .slice a1 n1 c1) (s2 := .slice a2 n2 c2) (by assumption))); rintro e x3 ⟨v2, rfl, ho2, hb3⟩); go_wp2_with fail
          refine hK.out _ _ ?_ (fun hHeld => ?_)
          · exact PB.call (by assumption) (by assumption)
          clear hK K
          try simp only [Act.put, List.getElem_toArray, List.getElem_cons_zero, List.getElem_cons_succ, List.setIfInBounds_toArray, List.set_cons_zero, List.set_cons_succ]
          obtain ⟨b0, d0, rfl, kb0, mb0, O0⟩ := own_of ho0 (len_L L C)
          obtain ⟨b1, d1, rfl, kb1, mb1, O1⟩ := own_of ho1 (len_Q Q1 Q2 Q3)
          obtain ⟨b2, d2, rfl, kb2, mb2, O2⟩ := own_of ho2 (len_E E S D)
          refine wpAnyH_take (i := 9) (v := ?_) rfl (by kernel_rfl) (by kernel_rfl) (by kernel_rfl) (fun _ _ _ h => h) (Or.inl ⟨by rfl, ?_⟩) (by assumption) ?_
          rotate_left 1
          · (intro w hSw; (try dsimp only at hSw); go_simp) <;> (with_reducible rfl)
          try simp only [Act.put, List.getElem_toArray, List.getElem_cons_zero, List.getElem_cons_succ, List.setIfInBounds_toArray, List.set_cons_zero, List.set_cons_succ]
          refine wpAnyH_ready (rs := [10]) (by kernel_rfl) (by simp) ?_
          refine AllReadyH.cons rfl (fun K hK => ?_) AllReadyH.nil
          go_simp
          have hb4 : Below x3.heap.size x3 (x3.alloc (.cells #[.slice none 0 0, .slice none 0 0, .slice none 0 0] 34)) := (Below.refl _ _).alloc (Nat.le_refl _) _
          have hz4 := Z3.start x3 (.slice none 0 0) (.slice none 0 0) (.slice none 0 0)
          have hs4 : (x3.alloc (.cells #[.slice none 0 0, .slice none 0 0, .slice none 0 0] 34)).heap.size = x3.heap.size + 1 := by simp
          obtain ⟨N, hN⟩ : ∃ N, x3.heap.size = N := ⟨_, rfl⟩
          generalize x3.alloc (.cells #[.slice none 0 0, .slice none 0 0, .slice none 0 0] 34) = x4 at *
          refine hK.out _ _ ?_ (fun hHeld => ?_)
          · exact PB.call (by assumption) (by assumption)
          clear hK K
          try simp only [Act.put, List.getElem_toArray, List.getElem_cons_zero, List.getElem_cons_succ, List.setIfInBounds_toArray, List.set_cons_zero, List.set_cons_succ]
          have y1 := hb1.size
          have y2 := hb2.size
          have y3 := hb3.size
          have y4 := hb4.size
          have b34 := hb4
          have b24 := hb3.trans (hb4.mono y3)
          have b14 := hb2.trans (b24.mono y2)
          have b04 := hb1.trans (b14.mono y1)
          have O0 := O0.keep b14 (Nat.le_refl _)
          have O1 := O1.keep b24 (Nat.le_refl _)
          have O2 := O2.keep b34 (Nat.le_refl _)
          have hz := hz4
          rw [hN] at hz
          have hPB4 : PB w (.slice a0 n0 c0) (.slice a1 n1 c1) (.slice a2 n2 c2) x4 := by assumption
          have hNw : w.heap.size + 1 ≤ N := by have := hx0; omega
          have hN4 : N < x4.heap.size := by omega
          have hset := hPB4.low (put3_below x4 (w.heap.size + 1) N (.slice b0 n0 d0) (.slice b1 n1 d1) (.slice b2 n2 d2) hNw)
          have hcel := put3_cells hz (.slice b0 n0 d0) (.slice b1 n1 d1) (.slice b2 n2 d2)
          have hps := put3_size x4 N (.slice b0 n0 d0) (.slice b1 n1 d1) (.slice b2 n2 d2)
          have gl := own_labs pl (O0.put3 (N := N) (.inr (by omega)) (.slice b0 n0 d0) (.slice b1 n1 d1) (.slice b2 n2 d2)) (by rw [hps]; omega)
          have gq := own_quos pq (O1.put3 (N := N) (.inr (by omega)) (.slice b0 n0 d0) (.slice b1 n1 d1) (.slice b2 n2 d2)) (by rw [hps]; omega)
          have ge := own_ents pe (O2.put3 (N := N) (.inr (by omega)) (.slice b0 n0 d0) (.slice b1 n1 d1) (.slice b2 n2 d2)) (by rw [hps]; omega)
          obtain ⟨⟨r0, q0⟩, ⟨r1, q1⟩, ⟨r2, q2⟩, f0, f1, f2⟩ := hz
          refine wpAnyH_ready (rs := [11]) (by kernel_rfl) (by simp) ?_
          refine AllReadyH.cons rfl (fun K hK => ?_) AllReadyH.nil
          go_simp
          refine hK.out _ _ ?_ (fun hHeld => ?_)
          · exact hset
          clear hK K
          try simp only [Act.put, List.getElem_toArray, List.getElem_cons_zero, List.getElem_cons_succ, List.setIfInBounds_toArray, List.set_cons_zero, List.set_cons_succ]
          refine wpAnyH_done (by kernel_rfl) ?_ _
          have hPut : ((x4.setCell ⟨N, 0, none⟩ (.slice b0 n0 d0)).setCell ⟨N, 1, none⟩ (.slice b1 n1 d1)).setCell ⟨N, 2, none⟩ (.slice b2 n2 d2) = put3 x4 N (.slice b0 n0 d0) (.slice b1 n1 d1) (.slice b2 n2 d2) := rfl
          rw [hPut]
          have hNV : N < (put3 x4 N (.slice b0 n0 d0) (.slice b1 n1 d1) (.slice b2 n2 d2)).heap.size := by rw [hps]; exact hN4
          generalize put3 x4 N (.slice b0 n0 d0) (.slice b1 n1 d1) (.slice b2 n2 d2) = V at *
          clear hPut hps q0 q1 q2 f0 f1 f2 O0 O1 O2 hPB4 hb1 hb2 hb3 hb4 b04 b14 b24 b34 ho0 ho1 ho2 y1 y2 y3 y4
          have hF := hset.1
          have hG := hcel
          go_wp2_with fail
          refine (clonep_any b0 b1 b2 n0 n1 n2 d0 d1 d2 L C Q1 Q2 Q3 E S D _ gl gq ge h0 h1 h2).mono ?_
          rintro e V1 ⟨f0, f1, f2, e0, e1, e2, m1, m2, rfl, ⟨ke0, ke1, ke2, me0, me1, me2⟩, P0, P1, P2, z1, z2, z3, hbV⟩
          have hbc : Below V1.heap.size V1 (V1.alloc (.cells #[.slice f0 n0 e0, .slice f1 n1 e1, .slice f2 n2 e2] 34)) := (Below.refl _ _).alloc (Nat.le_refl _) _
          have hB2 : Below V.heap.size V (V1.alloc (.cells #[.slice f0 n0 e0, .slice f1 n1 e1, .slice f2 n2 e2] 34)) := hbV.trans (hbc.mono hbV.size)
          have hS2 := hset.call hB2
          have hF2 := hS2.1
          have hLI : LI V V1.heap.size (V.heap.size + 2) m1 m2 V1.heap.size f0 f1 f2 n0 n1 n2 (.slice f0 n0 e0) (.slice f1 n1 e1) (.slice f2 n2 e2) (V1.alloc (.cells #[.slice f0 n0 e0, .slice f1 n1 e1, .slice f2 n2 e2] 34)) := by
            refine ⟨⟨by simp [go_sem], by simp [go_sem], by simp [go_sem]⟩, by simp, hB2, (wr_of P0 (by decide) (fun i => ⟨_, rfl, _, rfl⟩)).keep hbc (by omega), (wr_of P1 (by decide) (fun i => ⟨_, rfl, _, rfl⟩)).keep hbc (by omega), (wr_of P2 (by decide) (fun i => ⟨_, rfl, _, rfl⟩)).keep hbc (by omega)⟩
          have hL2 := hLI.1
          have cl := own_labs pl (P0.keep hbc (by omega)) (by simp; omega)
          have cq := own_quos pq (P1.keep hbc (by omega)) (by simp; omega)
          have ce := own_ents pe (P2.keep hbc (by omega)) (by simp)
          have hV2 : V.heap.size ≤ V.heap.size + 2 := by omega
          obtain ⟨M, hM⟩ : ∃ M, V1.heap.size = M := ⟨_, rfl⟩
          rw [hM] at hLI hL2 z3
          clear hF hG
          go_wp2_with fail
          generalize V1.alloc (.cells #[.slice f0 n0 e0, .slice f1 n1 e1, .slice f2 n2 e2] 34) = V2 at *
          refine (same_any f0 f1 f2 a0 a1 a2 n0 n1 n2 e0 e1 e2 c0 c1 c2 L C Q1 Q2 Q3 E S D _ cl cq ce (pl.call hS2.2.2) (pq.call hS2.2.2) (pe.call hS2.2.2) h0 h1 h2).mono ?_
          rintro e V3 ⟨rfl, hb3⟩
          have hLI := hLI.call hV2 z1 z2 z3 (Nat.le_refl M) hb3
          clear hF2 hL2 hS2 hB2 hbc cl cq ce P0 P1 P2 hbV hb3
          have hL3 := hLI.1
          go_wp2_with fail
          have HLI := hide hLI
          have HSET := hide hset
          have HCEL := hide hcel
          clear hLI hset hcel hL3
          go_loopw [6, 30] (fun _ i wr => ∃ k : Nat, k ≤ n0 ∧ i = .int .i64 k ∧ LI V M (V.heap.size + 2) m1 m2 M f0 f1 f2 n0 n1 n2 (.slice f0 n0 e0) (.slice f1 n1 e1) (.slice f2 n2 e2) wr) (fun _ i _ => n0 - (intOf i).toNat)
          case atStart => exact ⟨0, Nat.zero_le _, rfl, unhide HLI⟩
          case round =>
            obtain ⟨k, hk, rfl, hR⟩ := hrel
            have hc := hR.1
            by_cases hlt : k < n0
            · rcases id hR.2.2.2.1 with h | ⟨g, e, hlo, hhi, hrow⟩
              · omega
              subst e
              obtain ⟨⟨x, hx, ⟨z, rfl⟩⟩, hz⟩ := hrow k hlt
              rw [Nat.add_zero] at hx hz
              have j0 : (0 : Int) ≤ (k : Int) := by omega
              have j1 : (k : Int) < (n0 : Int) := by omega
              have HR := hide hR
              clear hrow hR
              go_wp2
              go_roundw
              case rel => exact ⟨k + 1, by omega, by go_num, (unhide HR).set0 hV2 z2 z3 (Nat.le_refl M) ⟨hlo, hhi⟩ ⟨_, rfl⟩⟩
              case measure => simp [intOf]; omega
            · have HR := hide hR
              clear hR HLI
              go_wp2_with fail
              clear hc
              go_loopw [7, 46] (fun _ i wr => ∃ k : Nat, k ≤ n2 ∧ i = .int .i64 k ∧ LI V M (V.heap.size + 2) m1 m2 M f0 f1 f2 n0 n1 n2 (.slice f0 n0 e0) (.slice f1 n1 e1) (.slice f2 n2 e2) wr) (fun _ i _ => n2 - (intOf i).toNat)
              case atStart => exact ⟨0, Nat.zero_le _, rfl, unhide HR⟩
              case round =>
                obtain ⟨q, hq, rfl, hR⟩ := hrel
                have hc := hR.1
                by_cases hlt : q < n2
                · rcases id hR.2.2.2.2.2 with h | ⟨g, e, hlo, hhi, hrow⟩
                  · omega
                  subst e
                  obtain ⟨⟨x, hx, ⟨z, rfl⟩⟩, hz⟩ := hrow q hlt
                  have j0 : (0 : Int) ≤ (q : Int) := by omega
                  have j1 : (q : Int) < (n2 : Int) := by omega
                  have HR := hide hR
                  clear hrow hR
                  go_wp2
                  go_roundw
                  case rel => exact ⟨q + 1, by omega, by go_num, (unhide HR).set2 hV2 z1 z2 (Nat.le_refl M) ⟨hlo, hhi⟩ ⟨_, rfl⟩⟩
                  case measure => simp [intOf]; omega
                · have HR := hide hR
                  clear hR
                  go_wp2_with fail
                  clear hc
                  go_loopw [8, 58] (fun _ i wr => ∃ k : Nat, k ≤ n1 ∧ i = .int .i64 k ∧ LI V M (V.heap.size + 2) m1 m2 M f0 f1 f2 n0 n1 n2 (.slice f0 n0 e0) (.slice f1 n1 e1) (.slice f2 n2 e2) wr) (fun _ i _ => n1 - (intOf i).toNat)
                  case atStart => exact ⟨0, Nat.zero_le _, rfl, unhide HR⟩
                  case round =>
                    obtain ⟨r, hr, rfl, hR⟩ := hrel
                    have hc := hR.1
                    by_cases hlt : r < n1
                    · rcases id hR.2.2.2.2.1 with h | ⟨g, e, hlo, hhi, hrow⟩
                      · omega
                      subst e
                      obtain ⟨⟨x, hx, ⟨z, rfl⟩⟩, hz⟩ := hrow r hlt
                      have j0 : (0 : Int) ≤ (r : Int) := by omega
                      have j1 : (r : Int) < (n1 : Int) := by omega
                      have HR := hide hR
                      clear hrow hR
                      go_wp2
                      go_roundw
                      case rel => exact ⟨r + 1, by omega, by go_num, (unhide HR).set1 hV2 z1 z3 (Nat.le_refl M) ⟨hlo, hhi⟩ ⟨_, rfl⟩⟩
                      case measure => simp [intOf]; omega
                    · have hbR := hR.2.2.1
                      have hS := (unhide HSET).call hbR
                      have hF := hS.1
                      obtain ⟨g0, g1, g2⟩ := unhide HCEL
                      have x0' := cell_keep hbR hNV g0
                      have x1' := cell_keep hbR hNV g1
                      have x2' := cell_keep hbR hNV g2
                      have KS := hide (same_any b0 b1 b2 a0 a1 a2 n0 n1 n2 d0 d1 d2 c0 c1 c2 L C Q1 Q2 Q3 E S D _ (gl.call hbR) (gq.call hbR) (ge.call hbR) (pl.call hS.2.2) (pq.call hS.2.2) (pe.call hS.2.2) h0 h1 h2)
                      have HSS := hide hS
                      clear hR hS hbR hc g0 g1 g2
                      go_wp2_with fail
                      refine (unhide KS).mono ?_
                      rintro e V9 ⟨rfl, hb9⟩
                      have hS9 := (unhide HSS).call hb9
                      go_wp2_with (go_at_call 11; refine (awake_any _).mono ?_; rintro e w' ⟨rfl, hb⟩)
                      go_ret
                      exact ⟨rfl, hS9.2.2.trans (hb.mono hS9.2.2.size)⟩
        · go_simp
          have hb3 : Below x2.heap.size x2 (x2.alloc (.cells #[.slice none 0 0, .slice none 0 0, .slice none 0 0] 34)) := (Below.refl _ _).alloc (Nat.le_refl _) _
          have hz3 := Z3.start x2 (.slice none 0 0) (.slice none 0 0) (.slice none 0 0)
          have hs3 : (x2.alloc (.cells #[.slice none 0 0, .slice none 0 0, .slice none 0 0] 34)).heap.size = x2.heap.size + 1 := by simp
          obtain ⟨N, hN⟩ : ∃ N, x2.heap.size = N := ⟨_, rfl⟩
          generalize x2.alloc (.cells #[.slice none 0 0, .slice none 0 0, .slice none 0 0] 34) = x3 at *
          refine hK.out _ _ ?_ (fun hHeld => ?_)
          · exact PB.call (by assumption) (by assumption)
          clear hK K
          try simp only [Act.put, List.getElem_toArray, List.getElem_cons_zero, List.getElem_cons_succ, List.setIfInBounds_toArray, List.set_cons_zero, List.set_cons_succ]
          refine wpAnyH_ready (rs := [8]) (by kernel_rfl) (by simp) ?_
          refine AllReadyH.cons rfl (fun K hK => ?_) AllReadyH.nil
          go_simp; (go_at_call 19; refine (cloneE_any _ _ _ E S D _ ?_ h2).mono ?_; (exact pe.call (PB.bel (s0 := .slice a0 n0 c0) (s1 := .slice a1 n1 c1) (s2 := .slice a2 n2 c2) (by assumption))); rintro e x4 ⟨v2, rfl, ho2, hb4⟩); go_wp2_with fail
          refine hK.out _ _ ?_ (fun hHeld => ?_)
          · exact PB.call (by assumption) (by assumption)
          clear hK K
          try simp only [Act.put, List.getElem_toArray, List.getElem_cons_zero, List.getElem_cons_succ, List.setIfInBounds_toArray, List.set_cons_zero, List.set_cons_succ]
          have y1 := hb1.size
          have y2 := hb2.size
          have y3 := hb3.size
          have y4 := hb4.size
          have b34 := hb4
          have b24 := hb3.trans (hb4.mono y3)
          have b14 := hb2.trans (b24.mono y2)
          have b04 := hb1.trans (b14.mono y1)
          obtain ⟨b0, d0, rfl, kb0, mb0, O0⟩ := own_of ho0 (len_L L C)
          have O0 := O0.keep b14 (Nat.le_refl _)
          obtain ⟨b1, d1, rfl, kb1, mb1, O1⟩ := own_of ho1 (len_Q Q1 Q2 Q3)
          have O1 := O1.keep b24 (Nat.le_refl _)
          obtain ⟨b2, d2, rfl, kb2, mb2, O2⟩ := own_of ho2 (len_E E S D)
          have hz := hz3.keep b34 (by rw [hs3]; omega)
          rw [hN] at hz
          have hPB4 : PB w (.slice a0 n0 c0) (.slice a1 n1 c1) (.slice a2 n2 c2) x4 := by assumption
          have hNw : w.heap.size + 1 ≤ N := by have := hx0; omega
          have hN4 : N < x4.heap.size := by omega
          have hset := hPB4.low (put3_below x4 (w.heap.size + 1) N (.slice b0 n0 d0) (.slice b1 n1 d1) (.slice b2 n2 d2) hNw)
          have hcel := put3_cells hz (.slice b0 n0 d0) (.slice b1 n1 d1) (.slice b2 n2 d2)
          have hps := put3_size x4 N (.slice b0 n0 d0) (.slice b1 n1 d1) (.slice b2 n2 d2)
          have gl := own_labs pl (O0.put3 (N := N) (.inr (by omega)) (.slice b0 n0 d0) (.slice b1 n1 d1) (.slice b2 n2 d2)) (by rw [hps]; omega)
          have gq := own_quos pq (O1.put3 (N := N) (.inr (by omega)) (.slice b0 n0 d0) (.slice b1 n1 d1) (.slice b2 n2 d2)) (by rw [hps]; omega)
          have ge := own_ents pe (O2.put3 (N := N) (.inl (by omega)) (.slice b0 n0 d0) (.slice b1 n1 d1) (.slice b2 n2 d2)) (by rw [hps]; omega)
          obtain ⟨⟨r0, q0⟩, ⟨r1, q1⟩, ⟨r2, q2⟩, f0, f1, f2⟩ := hz
          refine wpAnyH_take (i := 9) (v := ?_) rfl (by kernel_rfl) (by kernel_rfl) (by kernel_rfl) (fun _ _ _ h => h) (Or.inl ⟨by rfl, ?_⟩) (by assumption) ?_
          rotate_left 1
          · (intro w hSw; (try dsimp only at hSw); go_simp) <;> (with_reducible rfl)
          try simp only [Act.put, List.getElem_toArray, List.getElem_cons_zero, List.getElem_cons_succ, List.setIfInBounds_toArray, List.set_cons_zero, List.set_cons_succ]
          refine wpAnyH_ready (rs := [11]) (by kernel_rfl) (by simp) ?_
          refine AllReadyH.cons rfl (fun K hK => ?_) AllReadyH.nil
          go_simp
          refine hK.out _ _ ?_ (fun hHeld => ?_)
          · exact hset
          clear hK K
          try simp only [Act.put, List.getElem_toArray, List.getElem_cons_zero, List.getElem_cons_succ, List.setIfInBounds_toArray, List.set_cons_zero, List.set_cons_succ]
          refine wpAnyH_done (by kernel_rfl) ?_ _
          have hPut : ((x4.setCell ⟨N, 0, none⟩ (.slice b0 n0 d0)).setCell ⟨N, 1, none⟩ (.slice b1 n1 d1)).setCell ⟨N, 2, none⟩ (.slice b2 n2 d2) = put3 x4 N (.slice b0 n0 d0) (.slice b1 n1 d1) (.slice b2 n2 d2) := rfl
          rw [hPut]
          have hNV : N < (put3 x4 N (.slice b0 n0 d0) (.slice b1 n1 d1) (.slice b2 n2 d2)).heap.size := by rw [hps]; exact hN4
          generalize put3 x4 N (.slice b0 n0 d0) (.slice b1 n1 d1) (.slice b2 n2 d2) = V at *
          clear hPut hps q0 q1 q2 f0 f1 f2 O0 O1 O2 hPB4 hb1 hb2 hb3 hb4 b04 b14 b24 b34 ho0 ho1 ho2 y1 y2 y3 y4
          have hF := hset.1
          have hG := hcel
          go_wp2_with fail
          refine (clonep_any b0 b1 b2 n0 n1 n2 d0 d1 d2 L C Q1 Q2 Q3 E S D _ gl gq ge h0 h1 h2).mono ?_
          rintro e V1 ⟨f0, f1, f2, e0, e1, e2, m1, m2, rfl, ⟨ke0, ke1, ke2, me0, me1, me2⟩, P0, P1, P2, z1, z2, z3, hbV⟩
          have hbc : Below V1.heap.size V1 (V1.alloc (.cells #[.slice f0 n0 e0, .slice f1 n1 e1, .slice f2 n2 e2] 34)) := (Below.refl _ _).alloc (Nat.le_refl _) _
          have hB2 : Below V.heap.size V (V1.alloc (.cells #[.slice f0 n0 e0, .slice f1 n1 e1, .slice f2 n2 e2] 34)) := hbV.trans (hbc.mono hbV.size)
          have hS2 := hset.call hB2
          have hF2 := hS2.1
          have hLI : LI V V1.heap.size (V.heap.size + 2) m1 m2 V1.heap.size f0 f1 f2 n0 n1 n2 (.slice f0 n0 e0) (.slice f1 n1 e1) (.slice f2 n2 e2) (V1.alloc (.cells #[.slice f0 n0 e0, .slice f1 n1 e1, .slice f2 n2 e2] 34)) := by
            refine ⟨⟨by simp [go_sem], by simp [go_sem], by simp [go_sem]⟩, by simp, hB2, (wr_of P0 (by decide) (fun i => ⟨_, rfl, _, rfl⟩)).keep hbc (by omega), (wr_of P1 (by decide) (fun i => ⟨_, rfl, _, rfl⟩)).keep hbc (by omega), (wr_of P2 (by decide) (fun i => ⟨_, rfl, _, rfl⟩)).keep hbc (by omega)⟩
          have hL2 := hLI.1
          have cl := own_labs pl (P0.keep hbc (by omega)) (by simp; omega)
          have cq := own_quos pq (P1.keep hbc (by omega)) (by simp; omega)
          have ce := own_ents pe (P2.keep hbc (by omega)) (by simp)
          have hV2 : V.heap.size ≤ V.heap.size + 2 := by omega
          obtain ⟨M, hM⟩ : ∃ M, V1.heap.size = M := ⟨_, rfl⟩
          rw [hM] at hLI hL2 z3
          clear hF hG
          go_wp2_with fail
          generalize V1.alloc (.cells #[.slice f0 n0 e0, .slice f1 n1 e1, .slice f2 n2 e2] 34) = V2 at *
          refine (same_any f0 f1 f2 a0 a1 a2 n0 n1 n2 e0 e1 e2 c0 c1 c2 L C Q1 Q2 Q3 E S D _ cl cq ce (pl.call hS2.2.2) (pq.call hS2.2.2) (pe.call hS2.2.2) h0 h1 h2).mono ?_
          rintro e V3 ⟨rfl, hb3⟩
          have hLI := hLI.call hV2 z1 z2 z3 (Nat.le_refl M) hb3
          clear hF2 hL2 hS2 hB2 hbc cl cq ce P0 P1 P2 hbV hb3
          have hL3 := hLI.1
          go_wp2_with fail
          have HLI := hide hLI
          have HSET := hide hset
          have HCEL := hide hcel
          clear hLI hset hcel hL3
          go_loopw [6, 30] (fun _ i wr => ∃ k : Nat, k ≤ n0 ∧ i = .int .i64 k ∧ LI V M (V.heap.size + 2) m1 m2 M f0 f1 f2 n0 n1 n2 (.slice f0 n0 e0) (.slice f1 n1 e1) (.slice f2 n2 e2) wr) (fun _ i _ => n0 - (intOf i).toNat)
          case atStart => exact ⟨0, Nat.zero_le _, rfl, unhide HLI⟩
          case round =>
            obtain ⟨k, hk, rfl, hR⟩ := hrel
            have hc := hR.1
            by_cases hlt : k < n0
            · rcases id hR.2.2.2.1 with h | ⟨g, e, hlo, hhi, hrow⟩
              · omega
              subst e
              obtain ⟨⟨x, hx, ⟨z, rfl⟩⟩, hz⟩ := hrow k hlt
              rw [Nat.add_zero] at hx hz
              have j0 : (0 : Int) ≤ (k : Int) := by omega
              have j1 : (k : Int) < (n0 : Int) := by omega
              have HR := hide hR
              clear hrow hR
              go_wp2
              go_roundw
              case rel => exact ⟨k + 1, by omega, by go_num, (unhide HR).set0 hV2 z2 z3 (Nat.le_refl M) ⟨hlo, hhi⟩ ⟨_, rfl⟩⟩
              case measure => simp [intOf]; omega
            · have HR := hide hR
              clear hR HLI
              go_wp2_with fail
              clear hc
              go_loopw [7, 46] (fun _ i wr => ∃ k : Nat, k ≤ n2 ∧ i = .int .i64 k ∧ LI V M (V.heap.size + 2) m1 m2 M f0 f1 f2 n0 n1 n2 (.slice f0 n0 e0) (.slice f1 n1 e1) (.slice f2 n2 e2) wr) (fun _ i _ => n2 - (intOf i).toNat)
              case atStart => exact ⟨0, Nat.zero_le _, rfl, unhide HR⟩
              case round =>
                obtain ⟨q, hq, rfl, hR⟩ := hrel
                have hc := hR.1
                by_cases hlt : q < n2
                · rcases id hR.2.2.2.2.2 with h | ⟨g, e, hlo, hhi, hrow⟩
                  · omega
                  subst e
                  obtain ⟨⟨x, hx, ⟨z, rfl⟩⟩, hz⟩ := hrow q hlt
                  have j0 : (0 : Int) ≤ (q : Int) := by omega
                  have j1 : (q : Int) < (n2 : Int) := by omega
                  have HR := hide hR
                  clear hrow hR
                  go_wp2
                  go_roundw
                  case rel => exact ⟨q + 1, by omega, by go_num, (unhide HR).set2 hV2 z1 z2 (Nat.le_refl M) ⟨hlo, hhi⟩ ⟨_, rfl⟩⟩
                  case measure => simp [intOf]; omega
                · have HR := hide hR
                  clear hR
                  go_wp2_with fail
                  clear hc
                  go_loopw [8, 58] (fun _ i wr => ∃ k : Nat, k ≤ n1 ∧ i = .int .i64 k ∧ LI V M (V.heap.size + 2) m1 m2 M f0 f1 f2 n0 n1 n2 (.slice f0 n0 e0) (.slice f1 n1 e1) (.slice f2 n2 e2) wr) (fun _ i _ => n1 - (intOf i).toNat)
                  case atStart => exact ⟨0, Nat.zero_le _, rfl, unhide HR⟩
                  case round =>
                    obtain ⟨r, hr, rfl, hR⟩ := hrel
                    have hc := hR.1
                    by_cases hlt : r < n1
                    · rcases id hR.2.2.2.2.1 with h | ⟨g, e, hlo, hhi, hrow⟩
                      · omega
                      subst e
                      obtain ⟨⟨x, hx, ⟨z, rfl⟩⟩, hz⟩ := hrow r hlt
                      have j0 : (0 : Int) ≤ (r : Int) := by omega
                      have j1 : (r : Int) < (n1 : Int) := by omega
                      have HR := hide hR
                      clear hrow hR
                      go_wp2
                      go_roundw
                      case rel => exact ⟨r + 1, by omega, by go_num, (unhide HR).set1 hV2 z1 z3 (Nat.le_refl M) ⟨hlo, hhi⟩ ⟨_, rfl⟩⟩
                      case measure => simp [intOf]; omega
                    · have hbR := hR.2.2.1
                      have hS := (unhide HSET).call hbR
                      have hF := hS.1
                      obtain ⟨g0, g1, g2⟩ := unhide HCEL
                      have x0' := cell_keep hbR hNV g0
                      have x1' := cell_keep hbR hNV g1
                      have x2' := cell_keep hbR hNV g2
                      have KS := hide (same_any b0 b1 b2 a0 a1 a2 n0 n1 n2 d0 d1 d2 c0 c1 c2 L C Q1 Q2 Q3 E S D _ (gl.call hbR) (gq.call hbR) (ge.call hbR) (pl.call hS.2.2) (pq.call hS.2.2) (pe.call hS.2.2) h0 h1 h2)
                      have HSS := hide hS
                      clear hR hS hbR hc g0 g1 g2
                      go_wp2_with fail
                      refine (unhide KS).mono ?_
                      rintro e V9 ⟨rfl, hb9⟩
                      have hS9 := (unhide HSS).call hb9
                      go_wp2_with (go_at_call 11; refine (awake_any _).mono ?_; rintro e w' ⟨rfl, hb⟩)
                      go_ret
                      exact ⟨rfl, hS9.2.2.trans (hb.mono hS9.2.2.size)⟩
      · go_simp
        have hb2 : Below x1.heap.size x1 (x1.alloc (.cells #[.slice none 0 0, .slice none 0 0, .slice none 0 0] 34)) := (Below.refl _ _).alloc (Nat.le_refl _) _
        have hz2 := Z3.start x1 (.slice none 0 0) (.slice none 0 0) (.slice none 0 0)
        have hs2 : (x1.alloc (.cells #[.slice none 0 0, .slice none 0 0, .slice none 0 0] 34)).heap.size = x1.heap.size + 1 := by simp
        obtain ⟨N, hN⟩ : ∃ N, x1.heap.size = N := ⟨_, rfl⟩
        generalize x1.alloc (.cells #[.slice none 0 0, .slice none 0 0, .slice none 0 0] 34) = x2 at *
        refine hK.out _ _ ?_ (fun hHeld => ?_)
        · exact PB.call (by assumption) (by assumption)
        clear hK K
        try simp only [Act.put, List.getElem_toArray, List.getElem_cons_zero, List.getElem_cons_succ, List.setIfInBounds_toArray, List.set_cons_zero, List.set_cons_succ]
        refine wpAnyH_ready (rs := [5]) (by kernel_rfl) (by simp) ?_
        refine AllReadyH.cons rfl (fun K hK => ?_) AllReadyH.nil
        go_simp; (go_at_call 18; refine (cloneQ_any _ _ _ Q1 Q2 Q3 _ ?_ h1).mono ?_; (exact pq.call (PB.bel (s0 := .slice a0 n0 c0) (s1 := .slice a1 n1 c1) (s2 := .slice a2 n2 c2) (by assumption))); rintro e x3 ⟨v1, rfl, ho1, hb3⟩); go_wp2_with fail
        refine hK.out _ _ ?_ (fun hHeld => ?_)
        · exact PB.call (by assumption) (by assumption)
        clear hK K
        try simp only [Act.put, List.getElem_toArray, List.getElem_cons_zero, List.getElem_cons_succ, List.setIfInBounds_toArray, List.set_cons_zero, List.set_cons_succ]
        refine wpAnyH_ready (rs := [8]) (by kernel_rfl) (by simp) ?_
        refine AllReadyH.cons rfl (fun K hK => ?_) AllReadyH.nil
        go_simp; (go_at_call 19; refine (cloneE_any _ _ _ E S D _ ?_ h2).mono ?_; (exact pe.call (PB.bel (s0 := .slice a0 n0 c0) (s1 := .slice a1 n1 c1) (s2 := .slice a2 n2 c2) (by assumption))); rintro e x4 ⟨v2, rfl, ho2, hb4⟩); go_wp2_with fail
        refine hK.out _ _ ?_ (fun hHeld => ?_)
        · exact PB.call (by assumption) (by assumption)
        clear hK K
        try simp only [Act.put, List.getElem_toArray, List.getElem_cons_zero, List.getElem_cons_succ, List.setIfInBounds_toArray, List.set_cons_zero, List.set_cons_succ]
        have y1 := hb1.size
        have y2 := hb2.size
        have y3 := hb3.size
        have y4 := hb4.size
        have b34 := hb4
        have b24 := hb3.trans (hb4.mono y3)
        have b14 := hb2.trans (b24.mono y2)
        have b04 := hb1.trans (b14.mono y1)
        obtain ⟨b0, d0, rfl, kb0, mb0, O0⟩ := own_of ho0 (len_L L C)
        have O0 := O0.keep b14 (Nat.le_refl _)
        obtain ⟨b1, d1, rfl, kb1, mb1, O1⟩ := own_of ho1 (len_Q Q1 Q2 Q3)
        have O1 := O1.keep b34 (Nat.le_refl _)
        obtain ⟨b2, d2, rfl, kb2, mb2, O2⟩ := own_of ho2 (len_E E S D)
        have hz := hz2.keep b24 (by rw [hs2]; omega)
        rw [hN] at hz
        have hPB4 : PB w (.slice a0 n0 c0) (.slice a1 n1 c1) (.slice a2 n2 c2) x4 := by assumption
        have hNw : w.heap.size + 1 ≤ N := by have := hx0; omega
        have hN4 : N < x4.heap.size := by omega
        have hset := hPB4.low (put3_below x4 (w.heap.size + 1) N (.slice b0 n0 d0) (.slice b1 n1 d1) (.slice b2 n2 d2) hNw)
        have hcel := put3_cells hz (.slice b0 n0 d0) (.slice b1 n1 d1) (.slice b2 n2 d2)
        have hps := put3_size x4 N (.slice b0 n0 d0) (.slice b1 n1 d1) (.slice b2 n2 d2)
        have gl := own_labs pl (O0.put3 (N := N) (.inr (by omega)) (.slice b0 n0 d0) (.slice b1 n1 d1) (.slice b2 n2 d2)) (by rw [hps]; omega)
        have gq := own_quos pq (O1.put3 (N := N) (.inl (by omega)) (.slice b0 n0 d0) (.slice b1 n1 d1) (.slice b2 n2 d2)) (by rw [hps]; omega)
        have ge := own_ents pe (O2.put3 (N := N) (.inl (by omega)) (.slice b0 n0 d0) (.slice b1 n1 d1) (.slice b2 n2 d2)) (by rw [hps]; omega)
        obtain ⟨⟨r0, q0⟩, ⟨r1, q1⟩, ⟨r2, q2⟩, f0, f1, f2⟩ := hz
        refine wpAnyH_take (i := 9) (v := ?_) rfl (by kernel_rfl) (by kernel_rfl) (by kernel_rfl) (fun _ _ _ h => h) (Or.inl ⟨by rfl, ?_⟩) (by assumption) ?_
        rotate_left 1
        · (intro w hSw; (try dsimp only at hSw); go_simp) <;> (with_reducible rfl)
        try simp only [Act.put, List.getElem_toArray, List.getElem_cons_zero, List.getElem_cons_succ, List.setIfInBounds_toArray, List.set_cons_zero, List.set_cons_succ]
        refine wpAnyH_ready (rs := [11]) (by kernel_rfl) (by simp) ?_
        refine AllReadyH.cons rfl (fun K hK => ?_) AllReadyH.nil
        go_simp
        refine hK.out _ _ ?_ (fun hHeld => ?_)
        · exact hset
        clear hK K
        try simp only [Act.put, List.getElem_toArray, List.getElem_cons_zero, List.getElem_cons_succ, List.setIfInBounds_toArray, List.set_cons_zero, List.set_cons_succ]
        refine wpAnyH_done (by kernel_rfl) ?_ _
        have hPut : ((x4.setCell ⟨N, 0, none⟩ (.slice b0 n0 d0)).setCell ⟨N, 1, none⟩ (.slice b1 n1 d1)).setCell ⟨N, 2, none⟩ (.slice b2 n2 d2) = put3 x4 N (.slice b0 n0 d0) (.slice b1 n1 d1) (.slice b2 n2 d2) := rfl
        rw [hPut]
        have hNV : N < (put3 x4 N (.slice b0 n0 d0) (.slice b1 n1 d1) (.slice b2 n2 d2)).heap.size := by rw [hps]; exact hN4
        generalize put3 x4 N (.slice b0 n0 d0) (.slice b1 n1 d1) (.slice b2 n2 d2) = V at *
        clear hPut hps q0 q1 q2 f0 f1 f2 O0 O1 O2 hPB4 hb1 hb2 hb3 hb4 b04 b14 b24 b34 ho0 ho1 ho2 y1 y2 y3 y4
        have hF := hset.1
        have hG := hcel
        go_wp2_with fail
        refine (clonep_any b0 b1 b2 n0 n1 n2 d0 d1 d2 L C Q1 Q2 Q3 E S D _ gl gq ge h0 h1 h2).mono ?_
        rintro e V1 ⟨f0, f1, f2, e0, e1, e2, m1, m2, rfl, ⟨ke0, ke1, ke2, me0, me1, me2⟩, P0, P1, P2, z1, z2, z3, hbV⟩
        have hbc : Below V1.heap.size V1 (V1.alloc (.cells #[.slice f0 n0 e0, .slice f1 n1 e1, .slice f2 n2 e2] 34)) := (Below.refl _ _).alloc (Nat.le_refl _) _
        have hB2 : Below V.heap.size V (V1.alloc (.cells #[.slice f0 n0 e0, .slice f1 n1 e1, .slice f2 n2 e2] 34)) := hbV.trans (hbc.mono hbV.size)
        have hS2 := hset.call hB2
        have hF2 := hS2.1
        have hLI : LI V V1.heap.size (V.heap.size + 2) m1 m2 V1.heap.size f0 f1 f2 n0 n1 n2 (.slice f0 n0 e0) (.slice f1 n1 e1) (.slice f2 n2 e2) (V1.alloc (.cells #[.slice f0 n0 e0, .slice f1 n1 e1, .slice f2 n2 e2] 34)) := by
          refine ⟨⟨by simp [go_sem], by simp [go_sem], by simp [go_sem]⟩, by simp, hB2, (wr_of P0 (by decide) (fun i => ⟨_, rfl, _, rfl⟩)).keep hbc (by omega), (wr_of P1 (by decide) (fun i => ⟨_, rfl, _, rfl⟩)).keep hbc (by omega), (wr_of P2 (by decide) (fun i => ⟨_, rfl, _, rfl⟩)).keep hbc (by omega)⟩
        have hL2 := hLI.1
        have cl := own_labs pl (P0.keep hbc (by omega)) (by simp; omega)
        have cq := own_quos pq (P1.keep hbc (by omega)) (by simp; omega)
        have ce := own_ents pe (P2.keep hbc (by omega)) (by simp)
        have hV2 : V.heap.size ≤ V.heap.size + 2 := by omega
        obtain ⟨M, hM⟩ : ∃ M, V1.heap.size = M := ⟨_, rfl⟩
        rw [hM] at hLI hL2 z3
        clear hF hG
        go_wp2_with fail
        generalize V1.alloc (.cells #[.slice f0 n0 e0, .slice f1 n1 e1, .slice f2 n2 e2] 34) = V2 at *
        refine (same_any f0 f1 f2 a0 a1 a2 n0 n1 n2 e0 e1 e2 c0 c1 c2 L C Q1 Q2 Q3 E S D _ cl cq ce (pl.call hS2.2.2) (pq.call hS2.2.2) (pe.call hS2.2.2) h0 h1 h2).mono ?_
        rintro e V3 ⟨rfl, hb3⟩
        have hLI := hLI.call hV2 z1 z2 z3 (Nat.le_refl M) hb3
        clear hF2 hL2 hS2 hB2 hbc cl cq ce P0 P1 P2 hbV hb3
        have hL3 := hLI.1
        go_wp2_with fail
        have HLI := hide hLI
        have HSET := hide hset
        have HCEL := hide hcel
        clear hLI hset hcel hL3
        go_loopw [6, 30] (fun _ i wr => ∃ k : Nat, k ≤ n0 ∧ i = .int .i64 k ∧ LI V M (V.heap.size + 2) m1 m2 M f0 f1 f2 n0 n1 n2 (.slice f0 n0 e0) (.slice f1 n1 e1) (.slice f2 n2 e2) wr) (fun _ i _ => n0 - (intOf i).toNat)
        case atStart => exact ⟨0, Nat.zero_le _, rfl, unhide HLI⟩
        case round =>
          obtain ⟨k, hk, rfl, hR⟩ := hrel
          have hc := hR.1
          by_cases hlt : k < n0
          · rcases id hR.2.2.2.1 with h | ⟨g, e, hlo, hhi, hrow⟩
            · omega
            subst e
            obtain ⟨⟨x, hx, ⟨z, rfl⟩⟩, hz⟩ := hrow k hlt
            rw [Nat.add_zero] at hx hz
            have j0 : (0 : Int) ≤ (k : Int) := by omega
            have j1 : (k : Int) < (n0 : Int) := by omega
            have HR := hide hR
            clear hrow hR
            go_wp2
            go_roundw
            case rel => exact ⟨k + 1, by omega, by go_num, (unhide HR).set0 hV2 z2 z3 (Nat.le_refl M) ⟨hlo, hhi⟩ ⟨_, rfl⟩⟩
            case measure => simp [intOf]; omega
          · have HR := hide hR
            clear hR HLI
            go_wp2_with fail
            clear hc
            go_loopw [7, 46] (fun _ i wr => ∃ k : Nat, k ≤ n2 ∧ i = .int .i64 k ∧ LI V M (V.heap.size + 2) m1 m2 M f0 f1 f2 n0 n1 n2 (.slice f0 n0 e0) (.slice f1 n1 e1) (.slice f2 n2 e2) wr) (fun _ i _ => n2 - (intOf i).toNat)
            case atStart => exact ⟨0, Nat.zero_le _, rfl, unhide HR⟩
            case round =>
              obtain ⟨q, hq, rfl, hR⟩ := hrel
              have hc := hR.1
              by_cases hlt : q < n2
              · rcases id hR.2.2.2.2.2 with h | ⟨g, e, hlo, hhi, hrow⟩
                · omega
                subst e
                obtain ⟨⟨x, hx, ⟨z, rfl⟩⟩, hz⟩ := hrow q hlt
                have j0 : (0 : Int) ≤ (q : Int) := by omega
                have j1 : (q : Int) < (n2 : Int) := by omega
                have HR := hide hR
                clear hrow hR
                go_wp2
                go_roundw
                case rel => exact ⟨q + 1, by omega, by go_num, (unhide HR).set2 hV2 z1 z2 (Nat.le_refl M) ⟨hlo, hhi⟩ ⟨_, rfl⟩⟩
                case measure => simp [intOf]; omega
              · have HR := hide hR
                clear hR
                go_wp2_with fail
                clear hc
                go_loopw [8, 58] (fun _ i wr => ∃ k : Nat, k ≤ n1 ∧ i = .int .i64 k ∧ LI V M (V.heap.size + 2) m1 m2 M f0 f1 f2 n0 n1 n2 (.slice f0 n0 e0) (.slice f1 n1 e1) (.slice f2 n2 e2) wr) (fun _ i _ => n1 - (intOf i).toNat)
                case atStart => exact ⟨0, Nat.zero_le _, rfl, unhide HR⟩
                case round =>
                  obtain ⟨r, hr, rfl, hR⟩ := hrel
                  have hc := hR.1
                  by_cases hlt : r < n1
                  · rcases id hR.2.2.2.2.1 with h | ⟨g, e, hlo, hhi, hrow⟩
                    · omega
                    subst e
                    obtain ⟨⟨x, hx, ⟨z, rfl⟩⟩, hz⟩ := hrow r hlt
                    have j0 : (0 : Int) ≤ (r : Int) := by omega
                    have j1 : (r : Int) < (n1 : Int) := by omega
                    have HR := hide hR
                    clear hrow hR
                    go_wp2
                    go_roundw
                    case rel => exact ⟨r + 1, by omega, by go_num, (unhide HR).set1 hV2 z1 z3 (Nat.le_refl M) ⟨hlo, hhi⟩ ⟨_, rfl⟩⟩
                    case measure => simp [intOf]; omega
                  · have hbR := hR.2.2.1
                    have hS := (unhide HSET).call hbR
                    have hF := hS.1
                    obtain ⟨g0, g1, g2⟩ := unhide HCEL
                    have x0' := cell_keep hbR hNV g0
                    have x1' := cell_keep hbR hNV g1
                    have x2' := cell_keep hbR hNV g2
                    have KS := hide (same_any b0 b1 b2 a0 a1 a2 n0 n1 n2 d0 d1 d2 c0 c1 c2 L C Q1 Q2 Q3 E S D _ (gl.call hbR) (gq.call hbR) (ge.call hbR) (pl.call hS.2.2) (pq.call hS.2.2) (pe.call hS.2.2) h0 h1 h2)
                    have HSS := hide hS
                    clear hR hS hbR hc g0 g1 g2
                    go_wp2_with fail
                    refine (unhide KS).mono ?_
                    rintro e V9 ⟨rfl, hb9⟩
                    have hS9 := (unhide HSS).call hb9
                    go_wp2_with (go_at_call 11; refine (awake_any _).mono ?_; rintro e w' ⟨rfl, hb⟩)
                    go_ret
                    exact ⟨rfl, hS9.2.2.trans (hb.mono hS9.2.2.size)⟩
    · go_simp
      have hb1 : Below x0.heap.size x0 (x0.alloc (.cells #[.slice none 0 0, .slice none 0 0, .slice none 0 0] 34)) := (Below.refl _ _).alloc (Nat.le_refl _) _
      have hz1 := Z3.start x0 (.slice none 0 0) (.slice none 0 0) (.slice none 0 0)
      have hs1 : (x0.alloc (.cells #[.slice none 0 0, .slice none 0 0, .slice none 0 0] 34)).heap.size = x0.heap.size + 1 := by simp
      obtain ⟨N, hN⟩ : ∃ N, x0.heap.size = N := ⟨_, rfl⟩
      generalize x0.alloc (.cells #[.slice none 0 0, .slice none 0 0, .slice none 0 0] 34) = x1 at *
      refine hK.out _ _ ?_ (fun hHeld => ?_)
      · exact PB.call (by assumption) (by assumption)
      clear hK K
      try simp only [Act.put, List.getElem_toArray, List.getElem_cons_zero, List.getElem_cons_succ, List.setIfInBounds_toArray, List.set_cons_zero, List.set_cons_succ]
      refine wpAnyH_ready (rs := [2]) (by kernel_rfl) (by simp) ?_
      refine AllReadyH.cons rfl (fun K hK => ?_) AllReadyH.nil
      go_simp; (go_at_call 17; refine (cloneL_any _ _ _ L C _ ?_ h0).mono ?_; (exact pl.call (PB.bel (s0 := .slice a0 n0 c0) (s1 := .slice a1 n1 c1) (s2 := .slice a2 n2 c2) (by assumption))); rintro e x2 ⟨v0, rfl, ho0, hb2⟩); go_wp2_with fail
      refine hK.out _ _ ?_ (fun hHeld => ?_)
      · exact PB.call (by assumption) (by assumption)
      clear hK K
      try simp only [Act.put, List.getElem_toArray, List.getElem_cons_zero, List.getElem_cons_succ, List.setIfInBounds_toArray, List.set_cons_zero, List.set_cons_succ]
      refine wpAnyH_ready (rs := [5]) (by kernel_rfl) (by simp) ?_
      refine AllReadyH.cons rfl (fun K hK => ?_) AllReadyH.nil
      go_simp; (go_at_call 18; refine (cloneQ_any _ _ _ Q1 Q2 Q3 _ ?_ h1).mono ?_; (exact pq.call (PB.bel (s0 := .slice a0 n0 c0) (s1 := .slice a1 n1 c1) (s2 := .slice a2 n2 c2) (by assumption))); rintro e x3 ⟨v1, rfl, ho1, hb3⟩); go_wp2_with fail
      refine hK.out _ _ ?_ (fun hHeld => ?_)
      · exact PB.call (by assumption) (by assumption)
      clear hK K
      try simp only [Act.put, List.getElem_toArray, List.getElem_cons_zero, List.getElem_cons_succ, List.setIfInBounds_toArray, List.set_cons_zero, List.set_cons_succ]
      refine wpAnyH_ready (rs := [8]) (by kernel_rfl) (by simp) ?_
      refine AllReadyH.cons rfl (fun K hK => ?_) AllReadyH.nil
      go_simp; (go_at_call 19; refine (cloneE_any _ _ _ E S D _ ?_ h2).mono ?_; (exact pe.call (PB.bel (s0 := .slice a0 n0 c0) (s1 := .slice a1 n1 c1) (s2 := .slice a2 n2 c2) (by assumption))); rintro e x4 ⟨v2, rfl, ho2, hb4⟩); go_wp2_with fail
      refine hK.out _ _ ?_ (fun hHeld => ?_)
      · exact PB.call (by assumption) (by assumption)
      clear hK K
      try simp only [Act.put, List.getElem_toArray, List.getElem_cons_zero, List.getElem_cons_succ, List.setIfInBounds_toArray, List.set_cons_zero, List.set_cons_succ]
      have y1 := hb1.size
      have y2 := hb2.size
      have y3 := hb3.size
      have y4 := hb4.size
      have b34 := hb4
      have b24 := hb3.trans (hb4.mono y3)
      have b14 := hb2.trans (b24.mono y2)
      have b04 := hb1.trans (b14.mono y1)
      obtain ⟨b0, d0, rfl, kb0, mb0, O0⟩ := own_of ho0 (len_L L C)
      have O0 := O0.keep b24 (Nat.le_refl _)
      obtain ⟨b1, d1, rfl, kb1, mb1, O1⟩ := own_of ho1 (len_Q Q1 Q2 Q3)
      have O1 := O1.keep b34 (Nat.le_refl _)
      obtain ⟨b2, d2, rfl, kb2, mb2, O2⟩ := own_of ho2 (len_E E S D)
      have hz := hz1.keep b14 (by rw [hs1]; omega)
      rw [hN] at hz
      have hPB4 : PB w (.slice a0 n0 c0) (.slice a1 n1 c1) (.slice a2 n2 c2) x4 := by assumption
      have hNw : w.heap.size + 1 ≤ N := by have := hx0; omega
      have hN4 : N < x4.heap.size := by omega
      have hset := hPB4.low (put3_below x4 (w.heap.size + 1) N (.slice b0 n0 d0) (.slice b1 n1 d1) (.slice b2 n2 d2) hNw)
      have hcel := put3_cells hz (.slice b0 n0 d0) (.slice b1 n1 d1) (.slice b2 n2 d2)
      have hps := put3_size x4 N (.slice b0 n0 d0) (.slice b1 n1 d1) (.slice b2 n2 d2)
      have gl := own_labs pl (O0.put3 (N := N) (.inl (by omega)) (.slice b0 n0 d0) (.slice b1 n1 d1) (.slice b2 n2 d2)) (by rw [hps]; omega)
      have gq := own_quos pq (O1.put3 (N := N) (.inl (by omega)) (.slice b0 n0 d0) (.slice b1 n1 d1) (.slice b2 n2 d2)) (by rw [hps]; omega)
      have ge := own_ents pe (O2.put3 (N := N) (.inl (by omega)) (.slice b0 n0 d0) (.slice b1 n1 d1) (.slice b2 n2 d2)) (by rw [hps]; omega)
      obtain ⟨⟨r0, q0⟩, ⟨r1, q1⟩, ⟨r2, q2⟩, f0, f1, f2⟩ := hz
      refine wpAnyH_take (i := 9) (v := ?_) rfl (by kernel_rfl) (by kernel_rfl) (by kernel_rfl) (fun _ _ _ h => h) (Or.inl ⟨by rfl, ?_⟩) (by assumption) ?_
      rotate_left 1
      · (intro w hSw; (try dsimp only at hSw); go_simp) <;> (with_reducible rfl)
      try simp only [Act.put, List.getElem_toArray, List.getElem_cons_zero, List.getElem_cons_succ, List.setIfInBounds_toArray, List.set_cons_zero, List.set_cons_succ]
      refine wpAnyH_ready (rs := [11]) (by kernel_rfl) (by simp) ?_
      refine AllReadyH.cons rfl (fun K hK => ?_) AllReadyH.nil
      go_simp
      refine hK.out _ _ ?_ (fun hHeld => ?_)
      · exact hset
      clear hK K
      try simp only [Act.put, List.getElem_toArray, List.getElem_cons_zero, List.getElem_cons_succ, List.setIfInBounds_toArray, List.set_cons_zero, List.set_cons_succ]
      refine wpAnyH_done (by kernel_rfl) ?_ _
      have hPut : ((x4.setCell ⟨N, 0, none⟩ (.slice b0 n0 d0)).setCell ⟨N, 1, none⟩ (.slice b1 n1 d1)).setCell ⟨N, 2, none⟩ (.slice b2 n2 d2) = put3 x4 N (.slice b0 n0 d0) (.slice b1 n1 d1) (.slice b2 n2 d2) := rfl
      rw [hPut]
      have hNV : N < (put3 x4 N (.slice b0 n0 d0) (.slice b1 n1 d1) (.slice b2 n2 d2)).heap.size := by rw [hps]; exact hN4
      generalize put3 x4 N (.slice b0 n0 d0) (.slice b1 n1 d1) (.slice b2 n2 d2) = V at *
      clear hPut hps q0 q1 q2 f0 f1 f2 O0 O1 O2 hPB4 hb1 hb2 hb3 hb4 b04 b14 b24 b34 ho0 ho1 ho2 y1 y2 y3 y4
      have hF := hset.1
      have hG := hcel
      go_wp2_with fail
      refine (clonep_any b0 b1 b2 n0 n1 n2 d0 d1 d2 L C Q1 Q2 Q3 E S D _ gl gq ge h0 h1 h2).mono ?_
      rintro e V1 ⟨f0, f1, f2, e0, e1, e2, m1, m2, rfl, ⟨ke0, ke1, ke2, me0, me1, me2⟩, P0, P1, P2, z1, z2, z3, hbV⟩
      have hbc : Below V1.heap.size V1 (V1.alloc (.cells #[.slice f0 n0 e0, .slice f1 n1 e1, .slice f2 n2 e2] 34)) := (Below.refl _ _).alloc (Nat.le_refl _) _
      have hB2 : Below V.heap.size V (V1.alloc (.cells #[.slice f0 n0 e0, .slice f1 n1 e1, .slice f2 n2 e2] 34)) := hbV.trans (hbc.mono hbV.size)
      have hS2 := hset.call hB2
      have hF2 := hS2.1
      have hLI : LI V V1.heap.size (V.heap.size + 2) m1 m2 V1.heap.size f0 f1 f2 n0 n1 n2 (.slice f0 n0 e0) (.slice f1 n1 e1) (.slice f2 n2 e2) (V1.alloc (.cells #[.slice f0 n0 e0, .slice f1 n1 e1, .slice f2 n2 e2] 34)) := by
        refine ⟨⟨by simp [go_sem], by simp [go_sem], by simp [go_sem]⟩, by simp, hB2, (wr_of P0 (by decide) (fun i => ⟨_, rfl, _, rfl⟩)).keep hbc (by omega), (wr_of P1 (by decide) (fun i => ⟨_, rfl, _, rfl⟩)).keep hbc (by omega), (wr_of P2 (by decide) (fun i => ⟨_, rfl, _, rfl⟩)).keep hbc (by omega)⟩
      have hL2 := hLI.1
      have cl := own_labs pl (P0.keep hbc (by omega)) (by simp; omega)
      have cq := own_quos pq (P1.keep hbc (by omega)) (by simp; omega)
      have ce := own_ents pe (P2.keep hbc (by omega)) (by simp)
      have hV2 : V.heap.size ≤ V.heap.size + 2 := by omega
      obtain ⟨M, hM⟩ : ∃ M, V1.heap.size = M := ⟨_, rfl⟩
      rw [hM] at hLI hL2 z3
      clear hF hG
      go_wp2_with fail
      generalize V1.alloc (.cells #[.slice f0 n0 e0, .slice f1 n1 e1, .slice f2 n2 e2] 34) = V2 at *
      refine (same_any f0 f1 f2 a0 a1 a2 n0 n1 n2 e0 e1 e2 c0 c1 c2 L C Q1 Q2 Q3 E S D _ cl cq ce (pl.call hS2.2.2) (pq.call hS2.2.2) (pe.call hS2.2.2) h0 h1 h2).mono ?_
      rintro e V3 ⟨rfl, hb3⟩
      have hLI := hLI.call hV2 z1 z2 z3 (Nat.le_refl M) hb3
      clear hF2 hL2 hS2 hB2 hbc cl cq ce P0 P1 P2 hbV hb3
      have hL3 := hLI.1
      go_wp2_with fail
      have HLI := hide hLI
      have HSET := hide hset
      have HCEL := hide hcel
      clear hLI hset hcel hL3
      go_loopw [6, 30] (fun _ i wr => ∃ k : Nat, k ≤ n0 ∧ i = .int .i64 k ∧ LI V M (V.heap.size + 2) m1 m2 M f0 f1 f2 n0 n1 n2 (.slice f0 n0 e0) (.slice f1 n1 e1) (.slice f2 n2 e2) wr) (fun _ i _ => n0 - (intOf i).toNat)
      case atStart => exact ⟨0, Nat.zero_le _, rfl, unhide HLI⟩
      case round =>
        obtain ⟨k, hk, rfl, hR⟩ := hrel
        have hc := hR.1
        by_cases hlt : k < n0
        · rcases id hR.2.2.2.1 with h | ⟨g, e, hlo, hhi, hrow⟩
          · omega
          subst e
          obtain ⟨⟨x, hx, ⟨z, rfl⟩⟩, hz⟩ := hrow k hlt
          rw [Nat.add_zero] at hx hz
          have j0 : (0 : Int) ≤ (k : Int) := by omega
          have j1 : (k : Int) < (n0 : Int) := by omega
          have HR := hide hR
          clear hrow hR
          go_wp2
          go_roundw
          case rel => exact ⟨k + 1, by omega, by go_num, (unhide HR).set0 hV2 z2 z3 (Nat.le_refl M) ⟨hlo, hhi⟩ ⟨_, rfl⟩⟩
          case measure => simp [intOf]; omega
        · have HR := hide hR
          clear hR HLI
          go_wp2_with fail
          clear hc
          go_loopw [7, 46] (fun _ i wr => ∃ k : Nat, k ≤ n2 ∧ i = .int .i64 k ∧ LI V M (V.heap.size + 2) m1 m2 M f0 f1 f2 n0 n1 n2 (.slice f0 n0 e0) (.slice f1 n1 e1) (.slice f2 n2 e2) wr) (fun _ i _ => n2 - (intOf i).toNat)
          case atStart => exact ⟨0, Nat.zero_le _, rfl, unhide HR⟩
          case round =>
            obtain ⟨q, hq, rfl, hR⟩ := hrel
            have hc := hR.1
            by_cases hlt : q < n2
            · rcases id hR.2.2.2.2.2 with h | ⟨g, e, hlo, hhi, hrow⟩
              · omega
              subst e
              obtain ⟨⟨x, hx, ⟨z, rfl⟩⟩, hz⟩ := hrow q hlt
              have j0 : (0 : Int) ≤ (q : Int) := by omega
              have j1 : (q : Int) < (n2 : Int) := by omega
              have HR := hide hR
              clear hrow hR
              go_wp2
              go_roundw
              case rel => exact ⟨q + 1, by omega, by go_num, (unhide HR).set2 hV2 z1 z2 (Nat.le_refl M) ⟨hlo, hhi⟩ ⟨_, rfl⟩⟩
              case measure => simp [intOf]; omega
            · have HR := hide hR
              clear hR
              go_wp2_with fail
              clear hc
              go_loopw [8, 58] (fun _ i wr => ∃ k : Nat, k ≤ n1 ∧ i = .int .i64 k ∧ LI V M (V.heap.size + 2) m1 m2 M f0 f1 f2 n0 n1 n2 (.slice f0 n0 e0) (.slice f1 n1 e1) (.slice f2 n2 e2) wr) (fun _ i _ => n1 - (intOf i).toNat)
              case atStart => exact ⟨0, Nat.zero_le _, rfl, unhide HR⟩
              case round =>
                obtain ⟨r, hr, rfl, hR⟩ := hrel
                have hc := hR.1
                by_cases hlt : r < n1
                · rcases id hR.2.2.2.2.1 with h | ⟨g, e, hlo, hhi, hrow⟩
                  · omega
                  subst e
                  obtain ⟨⟨x, hx, ⟨z, rfl⟩⟩, hz⟩ := hrow r hlt
                  have j0 : (0 : Int) ≤ (r : Int) := by omega
                  have j1 : (r : Int) < (n1 : Int) := by omega
                  have HR := hide hR
                  clear hrow hR
                  go_wp2
                  go_roundw
                  case rel => exact ⟨r + 1, by omega, by go_num, (unhide HR).set1 hV2 z1 z3 (Nat.le_refl M) ⟨hlo, hhi⟩ ⟨_, rfl⟩⟩
                  case measure => simp [intOf]; omega
                · have hbR := hR.2.2.1
                  have hS := (unhide HSET).call hbR
                  have hF := hS.1
                  obtain ⟨g0, g1, g2⟩ := unhide HCEL
                  have x0' := cell_keep hbR hNV g0
                  have x1' := cell_keep hbR hNV g1
                  have x2' := cell_keep hbR hNV g2
                  have KS := hide (same_any b0 b1 b2 a0 a1 a2 n0 n1 n2 d0 d1 d2 c0 c1 c2 L C Q1 Q2 Q3 E S D _ (gl.call hbR) (gq.call hbR) (ge.call hbR) (pl.call hS.2.2) (pq.call hS.2.2) (pe.call hS.2.2) h0 h1 h2)
                  have HSS := hide hS
                  clear hR hS hbR hc g0 g1 g2
                  go_wp2_with fail
                  refine (unhide KS).mono ?_
                  rintro e V9 ⟨rfl, hb9⟩
                  have hS9 := (unhide HSS).call hb9
                  go_wp2_with (go_at_call 11; refine (awake_any _).mono ?_; rintro e w' ⟨rfl, hb⟩)
                  go_ret
                  exact ⟨rfl, hS9.2.2.trans (hb.mono hS9.2.2.size)⟩
  · go_enter Try.func6, Try.ntmps6
    go_wp2_with (first
      | (go_at_call 12; refine (long_any _ _ _ _ _ _ _ _ _ _).mono ?_; rintro e w' ⟨rfl, hb⟩; have hS := PB.call (by assumption) hb; have hF := hS.1; clear hb)
      | (go_at_call 11; refine (awake_any _).mono ?_; rintro e w' ⟨rfl, hb⟩; have hS := PB.call (by assumption) hb; clear hb))
    go_ret
    exact ⟨rfl, hS.2.2⟩
set_option maxRecDepth 100000 in
theorem lifted (os : Os) (started : os.Started) (H : Type) (enc : TypeId × Value → H) :
    ReturnsInHanded {} Try.checked os 6 .any (Rows.latticeClonesSpec.pre6 enc Try.prog Try.f6 Rows.latticeClonesRow.domain false) (Rows.latticeClonesSpec.post enc Try.prog Try.f6 false true false false) := by
  refine returnsInHanded_of_change (C := Try.checked) own started (by kernel_rfl) Try.func6
    (ChangeSpec.witness6 (enc := enc) (C := Try.checked) false ⟨#[], #[.agg #[.slice none 0 0, .slice none 0 0, .slice none 0 0]], []⟩ 8 (by kernel_rfl) (by kernel_rfl) (by kernel_rfl) (by kernel_rfl)) ?_
  intro W base args ds gs before hval0 hW hcnd _
  have hval : ∀ (j : Nat) t v, Try.f6.params[j]? = some t → args[j]? = some v → Value.okWide Try.prog W .any base t v := hval0
  have hW' := hW
  obtain ⟨p, q, hA0, hV, rfl, hfz, hnd⟩ := hW
  have hA : DataW.TrodAll enc Try.prog W 0 (fun _ => true) true Try.f6.params.toList args.toList ds p := hA0
  rw [Try.params6] at hA hval
  obtain ⟨v0, vs0, d0, ds0, p0, q0, hargs, rfl, rfl, h0, r0⟩ := trodAll_cons hA
  obtain ⟨rfl, rfl, rfl⟩ := trodAll_nil r0
  obtain rfl : args = #[v0] := by cases args; simp_all
  obtain ⟨rfl, rfl⟩ := trodVars_none hV
  have lt0 : ∀ x ∈ p0, x.block < W.heap.size := by obtain ⟨m, hm⟩ := h0; exact DataW.trod_lt m _ _ _ hm
  obtain ⟨a0, a1, a2, n0, n1, n2, c0, c1, c2, L, C, Q1, Q2, Q3, E, S, D, rfl, pl, pq, pe, hc0, hc1, hc2, hm0, hm1, hm2, hI⟩ := open_policy (hval 0 34 v0 rfl rfl) h0
  clear hA0 hval0
  refine (walk a0 a1 a2 n0 n1 n2 c0 c1 c2 L C Q1 Q2 Q3 E S D W pl pq pe).mono fun e W' ⟨he, bel⟩ => ?_
  subst he
  exact ⟨_, rfl, _, _, _, [], _, [], hW', trodAll_mk1 (shut_bool Try.underlying4 _), (trodAll_cons_mk (Below.trod laidOut (by kernel_rfl) (of_decide_eq_true (by kernel_rfl)) h0 bel lt0) trodAll_mk0), rfl, bel.frame _, fun h => by cases h⟩

theorem proved : Rows.LatticeClonesSaid :=
  OpenClaim.holds_of_wide 6 Try.f6 rfl rfl rfl rfl rfl rfl rfl ⟨rfl, rfl, rfl, rfl, rfl⟩ rfl rfl rfl rfl rfl (by kernel_rfl) Try.func6 (by kernel_rfl)
    (of_decide_eq_true (by kernel_rfl)) (by unfold Func.isWrapper; first | (rw [if_pos (by decide +kernel)]; kernel_rfl) | (rw [if_neg (by decide +kernel)]; exact ⟨rfl, rfl⟩))
    (fun os started H enc _ => lifted os started H enc)
#print axioms proved
end Go.Proofs.Ytbahnkomdndmkab.clones
