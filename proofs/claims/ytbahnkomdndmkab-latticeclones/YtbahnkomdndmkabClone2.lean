/- A policy that is cloned. -/
import Derived.Test.YtbahnkomdndmkabClone
namespace Go.Proofs.Ytbahnkomdndmkab
set_option linter.unusedVariables false
set_option linter.unusedSimpArgs false
open Go.ChangeShapes Go.WideShapes Go.ChangeAt Go.RowKit

/-- a row of one's own, in a block from lo to hi -/
def Own (w : World) (lo hi : Nat) (a : Option Addr) (n k : Nat) (f : Nat → List Value) : Prop :=
  n = 0 ∨ ∃ g, a = some ⟨g, 0, none⟩ ∧ lo ≤ g ∧ g < hi ∧ RowAt w g 0 n k f ∧ ∀ j, w.frozen? ⟨g, j, none⟩ = false
theorem Own.keep {w w' : World} {lo hi B n k : Nat} {a : Option Addr} {f : Nat → List Value} (h : Own w lo hi a n k f) (hb : Below B w w') (hB : hi ≤ B) : Own w' lo hi a n k f := by
  rcases h with h | ⟨g, h1, h2, h3, h4, h5⟩
  · exact .inl h
  · refine .inr ⟨g, h1, h2, h3, fun i j u hi hj hu => ?_, fun j => ?_⟩
    · exact cell_keep hb (by show g < B; omega) (h4 i j u hi hj hu)
    · rw [hb.frozen (p := ⟨g, j, none⟩) (by show g < B; omega)]; exact h5 j
theorem own_of {w : World} {base E k n : Nat} {v : Value} {f : Nat → List Value} (h : w.ownsRow base E k v n (rowVals f n)) (hf : ∀ i, (f i).length = k) :
    ∃ a cap, v = .slice a n cap ∧ n ≤ cap ∧ cap ≤ maxLen ∧ Own w base w.heap.size a n k f := by
  obtain ⟨a, cap, h1, h2, h3, h4⟩ := own_row h hf
  refine ⟨a, cap, h1, h2, h3, ?_⟩
  rcases h4 with h4 | ⟨g, e, h5, h6, h7, h8⟩
  · exact .inl h4
  · exact .inr ⟨g, e, h5, h6, h7, h8⟩

theorem Own.other {w : World} {lo hi n k : Nat} {a : Option Addr} {f : Nat → List Value} (h : Own w lo hi a n k f) (N o : Nat) (hN : N < lo ∨ hi ≤ N) (u : Value) : Own (w.setCell ⟨N, o, none⟩ u) lo hi a n k f := by
  rcases h with h | ⟨g, h1, h2, h3, h4, h5⟩
  · exact .inl h
  · refine .inr ⟨g, h1, h2, h3, fun i j x hi hj hu => ?_, fun j => ?_⟩
    · rw [World.cell?_setCell_other]
      · exact h4 i j x hi hj hu
      · intro e
        injection e with e1 _ _
        omega
    · simpa using h5 j
theorem Own.wide {w : World} {lo lo' hi hi' n k : Nat} {a : Option Addr} {f : Nat → List Value} (h : Own w lo hi a n k f) (h1 : lo' ≤ lo) (h2 : hi ≤ hi') : Own w lo' hi' a n k f := by
  rcases h with h | ⟨g, e, h3, h4, h5, h6⟩
  · exact .inl h
  · exact .inr ⟨g, e, by omega, by omega, h5, h6⟩
def RB (N : Nat) (w : World) : Prop :=
  (∃ r, w.cell? ⟨N, 0, none⟩ = some r) ∧ (∃ r, w.cell? ⟨N, 1, none⟩ = some r) ∧ (∃ r, w.cell? ⟨N, 2, none⟩ = some r) ∧ w.frozen? ⟨N, 0, none⟩ = false ∧ w.frozen? ⟨N, 1, none⟩ = false ∧ w.frozen? ⟨N, 2, none⟩ = false
/-- a policy in its block, and a block for what is answered -/
def CB (w : World) (s0 s1 s2 : Value) (w' : World) : Prop :=
  (w'.cell? ⟨w.heap.size, 0, none⟩ = some s0 ∧ w'.cell? ⟨w.heap.size, 1, none⟩ = some s1 ∧ w'.cell? ⟨w.heap.size, 2, none⟩ = some s2) ∧ RB (w.heap.size + 1) w' ∧ w.heap.size + 1 < w'.heap.size ∧ Below w.heap.size w w'
theorem CB.bel {w W : World} {s0 s1 s2 : Value} (h : CB w s0 s1 s2 W) : Below w.heap.size w W := h.2.2.2
theorem CB.call {w W w1 : World} {s0 s1 s2 : Value} (h : CB w s0 s1 s2 W) (hb : Below W.heap.size W w1) : CB w s0 s1 s2 w1 := by
  obtain ⟨⟨h0, h1, h2⟩, ⟨⟨r0, q0⟩, ⟨r1, q1⟩, ⟨r2, q2⟩, f0, f1, f2⟩, hs, bl⟩ := h
  have hz := hb.size
  refine ⟨⟨cell_keep hb (show w.heap.size < _ by omega) h0, cell_keep hb (show w.heap.size < _ by omega) h1, cell_keep hb (show w.heap.size < _ by omega) h2⟩, ⟨⟨r0, cell_keep hb hs q0⟩, ⟨r1, cell_keep hb hs q1⟩, ⟨r2, cell_keep hb hs q2⟩, ?_, ?_, ?_⟩, by omega, bl.trans (hb.mono (by omega))⟩
  · rw [hb.frozen (p := ⟨w.heap.size + 1, 0, none⟩) hs]; exact f0
  · rw [hb.frozen (p := ⟨w.heap.size + 1, 1, none⟩) hs]; exact f1
  · rw [hb.frozen (p := ⟨w.heap.size + 1, 2, none⟩) hs]; exact f2
theorem CB.drew {w W : World} {s0 s1 s2 : Value} (h : CB w s0 s1 s2 W) : CB w s0 s1 s2 W.drew := h.call (Below.refl _ _).drew
theorem CB.start (w : World) (s0 s1 s2 z0 z1 z2 : Value) : CB w s0 s1 s2 ((w.alloc (.cells #[s0, s1, s2] 34)).alloc (.cells #[z0, z1, z2] 34)) := by
  refine ⟨⟨?_, ?_, ?_⟩, ⟨⟨z0, ?_⟩, ⟨z1, ?_⟩, ⟨z2, ?_⟩, ?_, ?_, ?_⟩, ?_, ?_⟩
  all_goals first | (simp [go_sem]; done) | go_grown
theorem CB.set {w W : World} {s0 s1 s2 : Value} (h : CB w s0 s1 s2 W) (x y z : Value) : CB w s0 s1 s2 (((W.setCell ⟨w.heap.size + 1, 0, none⟩ x).setCell ⟨w.heap.size + 1, 1, none⟩ y).setCell ⟨w.heap.size + 1, 2, none⟩ z) := by
  obtain ⟨⟨h0, h1, h2⟩, ⟨⟨r0, q0⟩, ⟨r1, q1⟩, ⟨r2, q2⟩, f0, f1, f2⟩, hs, bl⟩ := h
  have B : Below (w.heap.size + 1) W (((W.setCell ⟨w.heap.size + 1, 0, none⟩ x).setCell ⟨w.heap.size + 1, 1, none⟩ y).setCell ⟨w.heap.size + 1, 2, none⟩ z) := (((Below.refl (w.heap.size + 1) W).setCell (p := ⟨w.heap.size + 1, 0, none⟩) (Nat.le_refl (w.heap.size + 1)) x).setCell (p := ⟨w.heap.size + 1, 1, none⟩) (Nat.le_refl (w.heap.size + 1)) y).setCell (p := ⟨w.heap.size + 1, 2, none⟩) (Nat.le_refl (w.heap.size + 1)) z
  refine ⟨⟨cell_keep B (Nat.lt_succ_self _) h0, cell_keep B (Nat.lt_succ_self _) h1, cell_keep B (Nat.lt_succ_self _) h2⟩, ⟨⟨x, ?_⟩, ⟨y, ?_⟩, ⟨z, ?_⟩, ?_, ?_, ?_⟩, ?_, bl.trans (B.mono (Nat.le_succ _))⟩
  · simp [go_sem, q0]
  · simp [go_sem, q1]
  · simp [go_sem, q2]
  · simp [f0]
  · simp [f1]
  · simp [f2]
  · simpa using hs

set_option maxHeartbeats 2000000 in
theorem clonep_any (a0 a1 a2 : Option Addr) (n0 n1 n2 c0 c1 c2 : Nat) (L C Q1 Q2 Q3 E : Nat → Int) (S : Nat → ByteArray) (D : Nat → Bool) (w : World)
    (pl : PolLabs w a0 n0 L C) (pq : PolQuos w a1 n1 Q1 Q2 Q3) (pe : PolEnts w a2 n2 E S D) (h0 : n0 ≤ 200) (h1 : n1 ≤ 200) (h2 : n2 ≤ 200) :
    Calls Try.prog 20 #[.agg #[.slice a0 n0 c0, .slice a1 n1 c1, .slice a2 n2 c2]] w fun e w' => ∃ b0 b1 b2 d0 d1 d2 m1 m2, e = .returned (.agg #[.slice b0 n0 d0, .slice b1 n1 d1, .slice b2 n2 d2]) ∧ (n0 ≤ d0 ∧ n1 ≤ d1 ∧ n2 ≤ d2 ∧ d0 ≤ maxLen ∧ d1 ≤ maxLen ∧ d2 ≤ maxLen) ∧ Own w' (w.heap.size + 2) m1 b0 n0 2 (fL L C) ∧ Own w' m1 m2 b1 n1 3 (fQ Q1 Q2 Q3) ∧ Own w' m2 w'.heap.size b2 n2 3 (fE E S D) ∧ w.heap.size + 2 ≤ m1 ∧ m1 ≤ m2 ∧ m2 ≤ w'.heap.size ∧ Below w.heap.size w w' := by
  have hst := CB.start w (.slice a0 n0 c0) (.slice a1 n1 c1) (.slice a2 n2 c2) (.slice none 0 0) (.slice none 0 0) (.slice none 0 0)
  have hwz : ((w.alloc (.cells #[.slice a0 n0 c0, .slice a1 n1 c1, .slice a2 n2 c2] 34)).alloc (.cells #[.slice none 0 0, .slice none 0 0, .slice none 0 0] 34)).heap.size = w.heap.size + 2 := by simp
  go_enter Try.func20, Try.ntmps20
  go_wp2_with fail
  generalize (w.alloc (.cells #[.slice a0 n0 c0, .slice a1 n1 c1, .slice a2 n2 c2] 34)).alloc (.cells #[.slice none 0 0, .slice none 0 0, .slice none 0 0] 34) = W0 at *
  refine wp_region_held_drew (S := fun w' => (w'.cell? ⟨w.heap.size, 0, none⟩ = some (.slice a0 n0 c0) ∧ w'.cell? ⟨w.heap.size, 1, none⟩ = some (.slice a1 n1 c1) ∧ w'.cell? ⟨w.heap.size, 2, none⟩ = some (.slice a2 n2 c2)) ∧ RB (w.heap.size + 1) w' ∧ w.heap.size + 1 < w'.heap.size ∧ Below w.heap.size w w') (by kernel_rfl) ?_ (fun hHeld => ?_)
  · exact CB.drew hst
  refine wpAnyH_take (i := 0) (v := ?_) rfl (by kernel_rfl) (by kernel_rfl) (by kernel_rfl) (fun _ _ _ h => h) (Or.inl ⟨by rfl, ?_⟩) (by assumption) ?_
  rotate_left 1
  · (intro w hSw; (try dsimp only at hSw); go_simp) <;> (with_reducible rfl)
  try simp only [Act.put, List.getElem_toArray, List.getElem_cons_zero, List.getElem_cons_succ, List.setIfInBounds_toArray, List.set_cons_zero, List.set_cons_succ]
  refine wpAnyH_take (i := 1) (v := ?_) rfl (by kernel_rfl) (by kernel_rfl) (by kernel_rfl) (fun _ _ _ h => h) (Or.inl ⟨by rfl, ?_⟩) (by assumption) ?_
  rotate_left 1
  · (intro w hSw; (try dsimp only at hSw); go_simp) <;> (with_reducible rfl)
  try simp only [Act.put, List.getElem_toArray, List.getElem_cons_zero, List.getElem_cons_succ, List.setIfInBounds_toArray, List.set_cons_zero, List.set_cons_succ]
  refine wpAnyH_take (i := 3) (v := ?_) rfl (by kernel_rfl) (by kernel_rfl) (by kernel_rfl) (fun _ _ _ h => h) (Or.inl ⟨by rfl, ?_⟩) (by assumption) ?_
  rotate_left 1
  · (intro w hSw; (try dsimp only at hSw); go_simp) <;> (with_reducible rfl)
  try simp only [Act.put, List.getElem_toArray, List.getElem_cons_zero, List.getElem_cons_succ, List.setIfInBounds_toArray, List.set_cons_zero, List.set_cons_succ]
  refine wpAnyH_take (i := 4) (v := ?_) rfl (by kernel_rfl) (by kernel_rfl) (by kernel_rfl) (fun _ _ _ h => h) (Or.inl ⟨by rfl, ?_⟩) (by assumption) ?_
  rotate_left 1
  · (intro w hSw; (try dsimp only at hSw); go_simp) <;> (with_reducible rfl)
  try simp only [Act.put, List.getElem_toArray, List.getElem_cons_zero, List.getElem_cons_succ, List.setIfInBounds_toArray, List.set_cons_zero, List.set_cons_succ]
  refine wpAnyH_take (i := 6) (v := ?_) rfl (by kernel_rfl) (by kernel_rfl) (by kernel_rfl) (fun _ _ _ h => h) (Or.inl ⟨by rfl, ?_⟩) (by assumption) ?_
  rotate_left 1
  · (intro w hSw; (try dsimp only at hSw); go_simp) <;> (with_reducible rfl)
  try simp only [Act.put, List.getElem_toArray, List.getElem_cons_zero, List.getElem_cons_succ, List.setIfInBounds_toArray, List.set_cons_zero, List.set_cons_succ]
  refine wpAnyH_take (i := 7) (v := ?_) rfl (by kernel_rfl) (by kernel_rfl) (by kernel_rfl) (fun _ _ _ h => h) (Or.inl ⟨by rfl, ?_⟩) (by assumption) ?_
  rotate_left 1
  · (intro w hSw; (try dsimp only at hSw); go_simp) <;> (with_reducible rfl)
  try simp only [Act.put, List.getElem_toArray, List.getElem_cons_zero, List.getElem_cons_succ, List.setIfInBounds_toArray, List.set_cons_zero, List.set_cons_succ]
  refine wpAnyH_ready (rs := [2]) (by kernel_rfl) (by simp) ?_
  refine AllReadyH.cons rfl (fun K hK => ?_) AllReadyH.nil
  go_simp; (go_at_call 17; refine (cloneL_any _ _ _ L C _ ?_ h0).mono ?_; (exact pl.call (CB.bel (s0 := .slice a0 n0 c0) (s1 := .slice a1 n1 c1) (s2 := .slice a2 n2 c2) (by assumption))); rintro e w1 ⟨v0, rfl, ho0, hb1⟩); go_wp2_with fail
  refine hK.out _ _ ?_ (fun hHeld => ?_)
  · exact CB.call (by assumption) (by assumption)
  clear hK K
  try simp only [Act.put, List.getElem_toArray, List.getElem_cons_zero, List.getElem_cons_succ, List.setIfInBounds_toArray, List.set_cons_zero, List.set_cons_succ]
  refine wpAnyH_ready (rs := [5]) (by kernel_rfl) (by simp) ?_
  refine AllReadyH.cons rfl (fun K hK => ?_) AllReadyH.nil
  go_simp; (go_at_call 18; refine (cloneQ_any _ _ _ Q1 Q2 Q3 _ ?_ h1).mono ?_; (exact pq.call (CB.bel (s0 := .slice a0 n0 c0) (s1 := .slice a1 n1 c1) (s2 := .slice a2 n2 c2) (by assumption))); rintro e w2 ⟨v1, rfl, ho1, hb2⟩); go_wp2_with fail
  refine hK.out _ _ ?_ (fun hHeld => ?_)
  · exact CB.call (by assumption) (by assumption)
  clear hK K
  try simp only [Act.put, List.getElem_toArray, List.getElem_cons_zero, List.getElem_cons_succ, List.setIfInBounds_toArray, List.set_cons_zero, List.set_cons_succ]
  refine wpAnyH_ready (rs := [8]) (by kernel_rfl) (by simp) ?_
  refine AllReadyH.cons rfl (fun K hK => ?_) AllReadyH.nil
  go_simp; (go_at_call 19; refine (cloneE_any _ _ _ E S D _ ?_ h2).mono ?_; (exact pe.call (CB.bel (s0 := .slice a0 n0 c0) (s1 := .slice a1 n1 c1) (s2 := .slice a2 n2 c2) (by assumption))); rintro e w3 ⟨v2, rfl, ho2, hb3⟩); go_wp2_with fail
  refine hK.out _ _ ?_ (fun hHeld => ?_)
  · exact CB.call (by assumption) (by assumption)
  clear hK K
  try simp only [Act.put, List.getElem_toArray, List.getElem_cons_zero, List.getElem_cons_succ, List.setIfInBounds_toArray, List.set_cons_zero, List.set_cons_succ]
  obtain ⟨b0, d0, rfl, k0, x0, O0⟩ := own_of ho0 (len_L L C)
  obtain ⟨b1, d1, rfl, k1, x1, O1⟩ := own_of ho1 (len_Q Q1 Q2 Q3)
  obtain ⟨b2, d2, rfl, k2, x2, O2⟩ := own_of ho2 (len_E E S D)
  have hC3 : CB w (.slice a0 n0 c0) (.slice a1 n1 c1) (.slice a2 n2 c2) w3 := by assumption
  obtain ⟨⟨r0, q0⟩, ⟨r1, q1⟩, ⟨r2, q2⟩, f0, f1, f2⟩ := hC3.2.1
  have hset := hC3.set (.slice b0 n0 d0) (.slice b1 n1 d1) (.slice b2 n2 d2)
  refine wpAnyH_take (i := 9) (v := ?_) rfl (by kernel_rfl) (by kernel_rfl) (by kernel_rfl) (fun _ _ _ h => h) (Or.inl ⟨by rfl, ?_⟩) (by assumption) ?_
  rotate_left 1
  · (intro w hSw; (try dsimp only at hSw); go_simp) <;> (with_reducible rfl)
  try simp only [Act.put, List.getElem_toArray, List.getElem_cons_zero, List.getElem_cons_succ, List.setIfInBounds_toArray, List.set_cons_zero, List.set_cons_succ]
  refine wpAnyH_ready (rs := [10]) (by kernel_rfl) (by simp) ?_
  refine AllReadyH.cons rfl (fun K hK => ?_) AllReadyH.nil
  go_simp
  refine hK.out _ _ ?_ (fun hHeld => ?_)
  · exact hset
  clear hK K
  try simp only [Act.put, List.getElem_toArray, List.getElem_cons_zero, List.getElem_cons_succ, List.setIfInBounds_toArray, List.set_cons_zero, List.set_cons_succ]
  refine wpAnyH_done (by kernel_rfl) ?_ _
  go_wp2_with fail
  refine bodyPost_ret (v := .agg #[.slice b0 n0 d0, .slice b1 n1 d1, .slice b2 n2 d2]) (by simp [results, Try.results20, go_sem, q0, q1, q2]) rfl ?_
  have z2 := hb2.size
  have z3 := hb3.size
  have hlo : W0.drew.heap.size = w.heap.size + 2 := hwz
  have z1 := hb1.size
  rw [hlo] at O0 z1
  have P0 := ((O0.keep hb2 (Nat.le_refl _)).keep hb3 z2)
  have P1 := O1.keep hb3 (Nat.le_refl _)
  refine ⟨b0, b1, b2, d0, d1, d2, w1.heap.size, w2.heap.size, rfl, ⟨k0, k1, k2, x0, x1, x2⟩, ?_, ?_, ?_, z1, z2, by simpa using z3, hset.2.2.2⟩
  · exact ((P0.other _ 0 (.inl (by omega)) _).other _ 1 (.inl (by omega)) _).other _ 2 (.inl (by omega)) _
  · exact ((P1.other _ 0 (.inl (by omega)) _).other _ 1 (.inl (by omega)) _).other _ 2 (.inl (by omega)) _
  · have q := ((O2.other (w.heap.size + 1) 0 (.inl (by omega)) (.slice b0 n0 d0)).other (w.heap.size + 1) 1 (.inl (by omega)) (.slice b1 n1 d1)).other (w.heap.size + 1) 2 (.inl (by omega)) (.slice b2 n2 d2)
    exact q.wide (Nat.le_refl _) (by simp)
end Go.Proofs.Ytbahnkomdndmkab
