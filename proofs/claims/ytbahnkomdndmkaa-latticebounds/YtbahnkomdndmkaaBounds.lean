/- For all labels and every label x the Go function sealskinlaw01.LatticeBounds returns true, and its arguments read as they did. No condition. -/
import Derived.Test.YtbahnkomdndmkaaBounds0
import Derived.Deep.DeepCutAuto
namespace Go.Proofs.Ytbahnkomdndmkaa.bounds
set_option linter.unusedVariables false
set_option linter.unusedSimpArgs false
open Go.ChangeShapes Go.WideShapes Go.ChangeAt Go.RowKit

theorem B2.call1 {w W w1 : World} {l c : Int} (h : B2 w l c W) (hb : Below (w.heap.size + 1) W w1) : B2 w l c w1 := by
  obtain ⟨⟨h0, h1⟩, hs, bl⟩ := h
  have hz := hb.size
  exact ⟨⟨cell_keep hb (Nat.lt_succ_self _) h0, cell_keep hb (Nat.lt_succ_self _) h1⟩, by omega, bl.trans (hb.mono (by omega))⟩
theorem news_fresh (w1 : World) (lx cx : Int) : ∀ j u, ([.int .i64 lx, .int .u32 cx] : List Value)[j]? = some u → (w1.alloc (.cells #[.int .i64 lx, .int .u32 cx] 24)).cell? ((⟨w1.heap.size, 0, none⟩ : Addr).add j) = some u := by
  intro j u hj
  rw [add_plain]
  match j, hj with
  | 0, hj => simp at hj; subst hj; simp [go_sem]
  | 1, hj => simp at hj; subst hj; simp [go_sem]
theorem news_below {W0 w1 : World} {lx cx : Int} (hb : Below (W0.drew.alloc (.cells #[.int .i64 lx, .int .u32 cx] 24)).heap.size (W0.drew.alloc (.cells #[.int .i64 lx, .int .u32 cx] 24)) w1) : ∀ j u, ([.int .i64 lx, .int .u32 cx] : List Value)[j]? = some u → w1.cell? ((⟨W0.heap.size, 0, none⟩ : Addr).add j) = some u := by
  intro j u hj
  have := news_fresh W0.drew lx cx j u hj
  rw [add_plain] at this ⊢
  exact cell_keep hb (by simp) this

theorem all_join {L C : Nat → Int} {m : Nat} {lx cx : Int} (h : ∀ i, i < m + 1 → U32 (C i)) (hx : U32 cx) : allB (m + 1) (fun j => belowB (L j) (C j) lx cx) = belowB (jl L m) (jc C m) lx cx :=
  allB_eq ((join_below (fun i hi => h i (by omega)) hx).trans ⟨fun hh k hk => hh k (by omega), fun hh k hk => hh k (by omega)⟩)
theorem all_meet {L C : Nat → Int} {m : Nat} {lx cx : Int} (h : ∀ i, i < m + 1 → U32 (C i)) (hx : U32 cx) : allB (m + 1) (fun j => belowB lx cx (L j) (C j)) = belowB lx cx (ml L m) (mc C m) :=
  allB_eq ((below_meet (fun i hi => h i (by omega)) hx).trans ⟨fun hh k hk => hh k (by omega), fun hh k hk => hh k (by omega)⟩)
theorem in_join {L C : Nat → Int} {m k : Nat} (h : ∀ i, i < m + 1 → U32 (C i)) (hk : k ≤ m) : belowB (L k) (C k) (jl L m) (jc C m) = true :=
  (join_below (fun i hi => h i (by omega)) (jc_u32 (fun i hi => h i (by omega))).1).1 (below_refl _ _ (jc_u32 (fun i hi => h i (by omega))).1) k hk
theorem in_meet {L C : Nat → Int} {m k : Nat} (h : ∀ i, i < m + 1 → U32 (C i)) (hk : k ≤ m) : belowB (ml L m) (mc C m) (L k) (C k) = true :=
  (below_meet (fun i hi => h i (by omega)) (mc_u32 (fun i hi => h i (by omega))).1).1 (below_refl _ _ (mc_u32 (fun i hi => h i (by omega))).1) k hk

set_option maxHeartbeats 4000000 in
set_option maxRecDepth 100000 in
theorem walk_in (b off m cap : Nat) (L C : Nat → Int) (lx cx : Int) (w : World) (hrow : LabRow w b off (m + 1) L C) (hb0 : b < w.heap.size) (hcap : m + 1 ≤ cap) (hmax : cap ≤ maxLen) (uC : ∀ i, i < m + 1 → U32 (C i)) (ux : U32 cx) (hm : m + 1 ≤ 200) :
    Calls Try.prog 7 #[.slice (some ⟨b, off, none⟩) (m + 1) cap, .agg #[.int .i64 lx, .int .u32 cx]] w fun e w' => e = .returned (.bool true) ∧ Below w.heap.size w w' := by
  have hst := B2.start w lx cx
  obtain ⟨i0, hi, hz0, hz1, hz2⟩ := info_parts info24
  have t1 : decide ((200 : Int) < (m : Int) + 1) = false := by simp; omega
  have t2 : (((m : Int) + 1) == 0) = false := by rw [beq_eq_false_iff_ne]; omega
  cases hbad : badB (m + 1 + 1) (fun i => if i = m + 1 then lx else L i)
  · go_enter Try.func7, Try.ntmps7
    go_wp2_with fail
    generalize w.alloc (Obj.cells #[.int .i64 lx, .int .u32 cx] 24) = W0 at *
    go_cut [26] (fun s wc => s = .bool false ∧ B2 w lx cx wc)
    case first =>
      refine wp_region_held_drew (S := fun w' => (w'.cell? ⟨w.heap.size, 0, none⟩ = some (.int .i64 lx) ∧ w'.cell? ⟨w.heap.size, 1, none⟩ = some (.int .u32 cx)) ∧ w.heap.size < w'.heap.size ∧ Below w.heap.size w w') (by kernel_rfl) ?_ (fun hHeld => ?_)
      · exact B2.call hst (Below.refl _ _).drew
      refine wpAnyH_take (i := 0) (v := ?_) rfl (by kernel_rfl) (by kernel_rfl) (by kernel_rfl) (fun _ _ _ h => h) (Or.inl ⟨by rfl, ?_⟩) (by assumption) ?_
      rotate_left 1
      · (intro w hSw; (try dsimp only at hSw); go_simp) <;> (with_reducible rfl)
      try simp only [Act.put, List.getElem_toArray, List.getElem_cons_zero, List.getElem_cons_succ, List.setIfInBounds_toArray, List.set_cons_zero, List.set_cons_succ]
      refine wpAnyH_ready (rs := [1]) (by kernel_rfl) (by simp) ?_
      refine AllReadyH.cons rfl (fun K hK => ?_) AllReadyH.nil
      go_simp
      refine hK.out _ _ ?_ (fun hHeld => ?_)
      · assumption
      clear hK K
      try simp only [Act.put, List.getElem_toArray, List.getElem_cons_zero, List.getElem_cons_succ, List.setIfInBounds_toArray, List.set_cons_zero, List.set_cons_succ]
      refine wpAnyH_take (i := 2) (v := ?_) rfl (by kernel_rfl) (by kernel_rfl) (by kernel_rfl) (fun _ _ _ h => h) (Or.inl ⟨by rfl, ?_⟩) (by assumption) ?_
      rotate_left 1
      · (intro w hSw; (try dsimp only at hSw); go_simp) <;> (with_reducible rfl)
      try simp only [Act.put, List.getElem_toArray, List.getElem_cons_zero, List.getElem_cons_succ, List.setIfInBounds_toArray, List.set_cons_zero, List.set_cons_succ]
      refine wpAnyH_take (i := 3) (v := ?_) rfl (by kernel_rfl) (by kernel_rfl) (by kernel_rfl) (fun _ _ _ h => h) (Or.inl ⟨by rfl, ?_⟩) (by assumption) ?_
      rotate_left 1
      · (intro w hSw; (try dsimp only at hSw); go_simp) <;> (with_reducible rfl)
      try simp only [Act.put, List.getElem_toArray, List.getElem_cons_zero, List.getElem_cons_succ, List.setIfInBounds_toArray, List.set_cons_zero, List.set_cons_succ]
      refine wpAnyH_take (i := 4) (v := ?_) rfl (by kernel_rfl) (by kernel_rfl) (by kernel_rfl) (fun _ _ _ h => h) (Or.inl ⟨by rfl, ?_⟩) (by assumption) ?_
      rotate_left 1
      · (intro w hSw; (try dsimp only at hSw); go_simp) <;> (with_reducible rfl)
      try simp only [Act.put, List.getElem_toArray, List.getElem_cons_zero, List.getElem_cons_succ, List.setIfInBounds_toArray, List.set_cons_zero, List.set_cons_succ]
      refine wpAnyH_ready (rs := [5]) (by kernel_rfl) (by simp) ?_
      refine AllReadyH.cons rfl (fun K hK => ?_) AllReadyH.nil
      go_simp
      refine hK.out _ _ ?_ (fun hHeld => ?_)
      · assumption
      clear hK K
      try simp only [Act.put, List.getElem_toArray, List.getElem_cons_zero, List.getElem_cons_succ, List.setIfInBounds_toArray, List.set_cons_zero, List.set_cons_succ]
      refine wpAnyH_take (i := 6) (v := ?_) rfl (by kernel_rfl) (by kernel_rfl) (by kernel_rfl) (fun _ _ _ h => h) (Or.inl ⟨by rfl, ?_⟩) (by assumption) ?_
      rotate_left 1
      · (intro w hSw; (try dsimp only at hSw); go_simp) <;> (with_reducible rfl)
      try simp only [Act.put, List.getElem_toArray, List.getElem_cons_zero, List.getElem_cons_succ, List.setIfInBounds_toArray, List.set_cons_zero, List.set_cons_succ]
      refine wpAnyH_take (i := 7) (v := ?_) rfl (by kernel_rfl) (by kernel_rfl) (by kernel_rfl) (fun _ _ _ h => h) (Or.inl ⟨by rfl, ?_⟩) (by assumption) ?_
      rotate_left 1
      · (intro w hSw; (try dsimp only at hSw); go_simp) <;> (with_reducible rfl)
      try simp only [Act.put, List.getElem_toArray, List.getElem_cons_zero, List.getElem_cons_succ, List.setIfInBounds_toArray, List.set_cons_zero, List.set_cons_succ]
      refine wpAnyH_take (i := 8) (v := ?_) rfl (by kernel_rfl) (by kernel_rfl) (by kernel_rfl) (fun _ _ _ h => h) (Or.inl ⟨by rfl, ?_⟩) (by assumption) ?_
      rotate_left 1
      · (intro w hSw; (try dsimp only at hSw); go_simp) <;> (with_reducible rfl)
      try simp only [Act.put, List.getElem_toArray, List.getElem_cons_zero, List.getElem_cons_succ, List.setIfInBounds_toArray, List.set_cons_zero, List.set_cons_succ]
      refine wpAnyH_take (i := 9) (v := ?_) rfl (by kernel_rfl) (by kernel_rfl) (by kernel_rfl) (fun _ _ _ h => h) (Or.inl ⟨by rfl, ?_⟩) (by assumption) ?_
      rotate_left 1
      · (intro w hSw; (try dsimp only at hSw); go_simp) <;> (with_reducible rfl)
      try simp only [Act.put, List.getElem_toArray, List.getElem_cons_zero, List.getElem_cons_succ, List.setIfInBounds_toArray, List.set_cons_zero, List.set_cons_succ]
      refine wpAnyH_take (i := 11) (v := ?_) rfl (by kernel_rfl) (by kernel_rfl) (by kernel_rfl) (fun _ _ _ h => h) (Or.inl ⟨by rfl, ?_⟩) (by assumption) ?_
      rotate_left 1
      · (intro w hSw; (try dsimp only at hSw); go_simp) <;> (with_reducible rfl)
      try simp only [Act.put, List.getElem_toArray, List.getElem_cons_zero, List.getElem_cons_succ, List.setIfInBounds_toArray, List.set_cons_zero, List.set_cons_succ]
      refine wpAnyH_ready (rs := [10, 12]) (by kernel_rfl) (by simp) ?_
      refine AllReadyH.cons rfl (fun K hK => ?_) (AllReadyH.cons rfl (fun K hK => ?_) AllReadyH.nil)
      · go_simp
        (go_at_call 26; refine (clonel_any b off (m + 1) cap L C _ ?_ ?_ (by omega)).mono ?_; (exact hrow.below (B2.bel (l := lx) (c := cx) (by assumption)) hb0); (exact Nat.lt_of_lt_of_le hb0 (B2.bel (w := w) (l := lx) (c := cx) (by assumption)).size); rintro e w1 ⟨vc, rfl, ho, hb⟩)
        go_wp2_with fail
        refine hK.out _ _ ?_ (fun hHeld => ?_)
        · exact B2.call (by assumption) (by assumption)
        clear hK K
        try simp only [Act.put, List.getElem_toArray, List.getElem_cons_zero, List.getElem_cons_succ, List.setIfInBounds_toArray, List.set_cons_zero, List.set_cons_succ]
        have hW1 : B2 w lx cx w1 := by assumption
        have hW0 : B2 w lx cx W0.drew := B2.call hst (Below.refl _ _).drew
        have ho1 : w1.ownsRow (w.heap.size + 1) 24 2 vc (m + 1) (labVals L C (m + 1)) := Joins.ownsRow_le ho hW0.2.1
        refine wpAnyH_ready (rs := [12]) (by kernel_rfl) (by simp) ?_
        refine AllReadyH.cons rfl (fun K hK => ?_) AllReadyH.nil
        go_simp
        refine hK.out _ _ ?_ (fun hHeld => ?_)
        · exact B2.call hW1 ((Below.refl _ _).alloc (Nat.le_refl _) _)
        clear hK K
        try simp only [Act.put, List.getElem_toArray, List.getElem_cons_zero, List.getElem_cons_succ, List.setIfInBounds_toArray, List.set_cons_zero, List.set_cons_succ]
        have hB2 : B2 w lx cx (w1.alloc (.cells #[.int .i64 lx, .int .u32 cx] 24)) := by assumption
        refine wpAnyH_ready (rs := [13]) (by kernel_rfl) (by simp) ?_
        refine AllReadyH.cons rfl (fun K hK => ?_) AllReadyH.nil
        rw [if_pos (by rfl)]
        refine wp_append_own _ _ _ 29 rfl (w.heap.size + 1) 24 i0 (.agg #[.int .i64 0, .int .u32 0]) 2 16 Try.underlying29 hi hz0 hz1 hz2 rfl (by decide) _ _ _ rfl (ho1.alloc _) ⟨w1.heap.size, 0, none⟩ 1 1 [.int .i64 lx, .int .u32 cx] rfl rfl ?_ ?_ ?_ ?_ ?_ ?_
        · exact news_fresh w1 lx cx
        · intro u hu; simp at hu; rcases hu with rfl | rfl <;> rfl
        · unfold maxLen; omega
        · omega
        · have hq := hB2.2.1; omega
        intro v' w2 hown' hgrow hnil'
        have hb3 : Below (w.heap.size + 1) (w1.alloc (.cells #[.int .i64 lx, .int .u32 cx] 24)) w2 := (Below.refl _ _).grown hgrow (by have hq := hB2.2.1; omega) (fun k hk => (ho1.lt k hk).1)
        refine hK.out _ _ ?_ (fun hHeld => ?_)
        · exact B2.call1 hB2 hb3
        clear hK K
        try simp only [Act.put, List.getElem_toArray, List.getElem_cons_zero, List.getElem_cons_succ, List.setIfInBounds_toArray, List.set_cons_zero, List.set_cons_succ]
        obtain ⟨a5, cap5, rfl, hp5, _, _⟩ := own_more (by unfold maxLen; omega) uC ux hown'
        clear hown' hgrow hnil'
        refine wpAnyH_ready (rs := [14]) (by kernel_rfl) (by simp) ?_
        refine AllReadyH.cons rfl (fun K hK => ?_) AllReadyH.nil
        go_simp; (go_at_call 25; refine (containsf_any _ _ _ (fun i => if i = m + 1 then lx else L i) (fun i => if i = m + 1 then cx else C i) _ hp5).mono ?_; rintro e w' ⟨rfl, hb⟩; rw [hbad]); go_wp2_with fail
        refine hK.out _ _ ?_ (fun hHeld => ?_)
        · exact B2.call (by assumption) (by assumption)
        clear hK K
        try simp only [Act.put, List.getElem_toArray, List.getElem_cons_zero, List.getElem_cons_succ, List.setIfInBounds_toArray, List.set_cons_zero, List.set_cons_succ]
        refine wpAnyH_take (i := 15) (v := ?_) rfl (by kernel_rfl) (by kernel_rfl) (by kernel_rfl) (fun _ _ _ h => h) (Or.inl ⟨by rfl, ?_⟩) (by assumption) ?_
        rotate_left 1
        · (intro w hSw; (try dsimp only at hSw); go_simp) <;> (with_reducible rfl)
        try simp only [Act.put, List.getElem_toArray, List.getElem_cons_zero, List.getElem_cons_succ, List.setIfInBounds_toArray, List.set_cons_zero, List.set_cons_succ]
        refine wpAnyH_done (by kernel_rfl) ?_ _
        go_wp2_with fail
        go_meet
        case rel => exact ⟨rfl, by assumption⟩
      · go_simp
        refine hK.out _ _ ?_ (fun hHeld => ?_)
        · exact B2.call (B2.call hst (Below.refl _ _).drew) ((Below.refl _ _).alloc (Nat.le_refl _) _)
        clear hK K
        try simp only [Act.put, List.getElem_toArray, List.getElem_cons_zero, List.getElem_cons_succ, List.setIfInBounds_toArray, List.set_cons_zero, List.set_cons_succ]
        have hW0 : B2 w lx cx W0.drew := B2.call hst (Below.refl _ _).drew
        refine wpAnyH_ready (rs := [10]) (by kernel_rfl) (by simp) ?_
        refine AllReadyH.cons rfl (fun K hK => ?_) AllReadyH.nil
        go_simp; (go_at_call 26; refine (clonel_any b off (m + 1) cap L C _ ?_ ?_ (by omega)).mono ?_; (exact hrow.below (B2.bel (l := lx) (c := cx) (by assumption)) hb0); (exact Nat.lt_of_lt_of_le hb0 (B2.bel (w := w) (l := lx) (c := cx) (by assumption)).size); rintro e w1 ⟨vc, rfl, ho, hb⟩); go_wp2_with fail
        refine hK.out _ _ ?_ (fun hHeld => ?_)
        · exact B2.call (w := w) (l := lx) (c := cx) hHeld hb
        clear hK K
        try simp only [Act.put, List.getElem_toArray, List.getElem_cons_zero, List.getElem_cons_succ, List.setIfInBounds_toArray, List.set_cons_zero, List.set_cons_succ]
        have hB2 : B2 w lx cx w1 := by assumption
        have ho1 : w1.ownsRow (w.heap.size + 1) 24 2 vc (m + 1) (labVals L C (m + 1)) := Joins.ownsRow_le ho (by have hq := hW0.2.1; simp at hq ⊢; omega)
        have hnw : ∀ j u, ([.int .i64 lx, .int .u32 cx] : List Value)[j]? = some u → w1.cell? ((⟨W0.heap.size, 0, none⟩ : Addr).add j) = some u := news_below hb
        refine wpAnyH_ready (rs := [13]) (by kernel_rfl) (by simp) ?_
        refine AllReadyH.cons rfl (fun K hK => ?_) AllReadyH.nil
        rw [if_pos (by rfl)]
        refine wp_append_own _ _ _ 29 rfl (w.heap.size + 1) 24 i0 (.agg #[.int .i64 0, .int .u32 0]) 2 16 Try.underlying29 hi hz0 hz1 hz2 rfl (by decide) _ _ _ rfl ho1 ⟨W0.heap.size, 0, none⟩ 1 1 [.int .i64 lx, .int .u32 cx] rfl rfl ?_ ?_ ?_ ?_ ?_ ?_
        · exact hnw
        · intro u hu; simp at hu; rcases hu with rfl | rfl <;> rfl
        · unfold maxLen; omega
        · omega
        · have hq := hB2.2.1; omega
        intro v' w2 hown' hgrow hnil'
        have hb3 : Below (w.heap.size + 1) w1 w2 := (Below.refl _ _).grown hgrow (by have hq := hB2.2.1; omega) (fun k hk => (ho1.lt k hk).1)
        refine hK.out _ _ ?_ (fun hHeld => ?_)
        · exact B2.call1 hB2 hb3
        clear hK K
        try simp only [Act.put, List.getElem_toArray, List.getElem_cons_zero, List.getElem_cons_succ, List.setIfInBounds_toArray, List.set_cons_zero, List.set_cons_succ]
        obtain ⟨a5, cap5, rfl, hp5, _, _⟩ := own_more (by unfold maxLen; omega) uC ux hown'
        clear hown' hgrow hnil'
        refine wpAnyH_ready (rs := [14]) (by kernel_rfl) (by simp) ?_
        refine AllReadyH.cons rfl (fun K hK => ?_) AllReadyH.nil
        go_simp; (go_at_call 25; refine (containsf_any _ _ _ (fun i => if i = m + 1 then lx else L i) (fun i => if i = m + 1 then cx else C i) _ hp5).mono ?_; rintro e w' ⟨rfl, hb⟩; rw [hbad]); go_wp2_with fail
        refine hK.out _ _ ?_ (fun hHeld => ?_)
        · exact B2.call (by assumption) (by assumption)
        clear hK K
        try simp only [Act.put, List.getElem_toArray, List.getElem_cons_zero, List.getElem_cons_succ, List.setIfInBounds_toArray, List.set_cons_zero, List.set_cons_succ]
        refine wpAnyH_take (i := 15) (v := ?_) rfl (by kernel_rfl) (by kernel_rfl) (by kernel_rfl) (fun _ _ _ h => h) (Or.inl ⟨by rfl, ?_⟩) (by assumption) ?_
        rotate_left 1
        · (intro w hSw; (try dsimp only at hSw); go_simp) <;> (with_reducible rfl)
        try simp only [Act.put, List.getElem_toArray, List.getElem_cons_zero, List.getElem_cons_succ, List.setIfInBounds_toArray, List.set_cons_zero, List.set_cons_succ]
        refine wpAnyH_done (by kernel_rfl) ?_ _
        go_wp2_with fail
        go_meet
        case rel => exact ⟨rfl, by assumption⟩
    case rest =>
      obtain ⟨rfl, hW3⟩ := hcut
      have hF3 := hW3.1
      go_wp2_with fail
      refine (join_any b off m cap L C _ (hrow.below hW3.2.2 hb0) (Nat.lt_of_lt_of_le hb0 hW3.2.2.size) hcap hmax).mono ?_
      rintro e w3 ⟨rfl, hb4⟩
      have hW4 := hW3.call hb4
      clear hb4 hF3
      go_wp2_with fail
      refine (meet_any b off m cap L C _ (hrow.below hW4.2.2 hb0) (Nat.lt_of_lt_of_le hb0 hW4.2.2.size) hcap hmax).mono ?_
      rintro e w4 ⟨rfl, hb5⟩
      have hW5 := hW4.call hb5
      clear hb5
      have hM0 := M3.start (lj := jl L m) (cj := jc C m) (lm := ml L m) (cm := mc C m) hW5
      go_wp2_with fail
      go_loopw [7, 8, 34] (fun s7 s8 i wr => ∃ k : Nat, k ≤ m + 1 ∧ i = .int .i64 k ∧ s7 = .bool (allB k fun j => belowB (L j) (C j) lx cx) ∧ s8 = .bool (allB k fun j => belowB lx cx (L j) (C j)) ∧ M3 w lx cx w4.heap.size (jl L m) (jc C m) (ml L m) (mc C m) wr) (fun _ _ i _ => m + 1 - (intOf i).toNat)
      case atStart => exact ⟨0, Nat.zero_le _, rfl, rfl, rfl, hM0⟩
      case round =>
        obtain ⟨k, hk, rfl, rfl, rfl, hR⟩ := hrel
        clear hM0
        generalize w4.heap.size = bj at *
        by_cases hlt : k < m + 1
        · have hc := (hrow.below hR.2.2 hb0) k hlt
          have hM1 := M3.call hR ((Below.refl _ _).alloc (Nat.le_refl _) (.cells #[.int .i64 (L k), .int .u32 (C k)] 24))
          have hY1 := B2.start wr (L k) (C k)
          have hMF1 := hM1.1
          have hYF1 := hY1.1
          have g1 : (0 : Int) ≤ (k : Int) := by omega
          have g2 : (k : Int) < (m : Int) + 1 := by omega
          have e1 := in_join (L := L) uC (by omega : k ≤ m)
          have e2 := in_meet (L := L) uC (by omega : k ≤ m)
          generalize hA : allB k (fun j => belowB (L j) (C j) lx cx) = av
          generalize hB : allB k (fun j => belowB lx cx (L j) (C j)) = bv
          have HA1 := hide hA
          have HB1 := hide hB
          clear hA hB
          cases hA1 : av
          · subst hA1
            cases hB1 : bv
            · subst hB1
              go_wp2_with (first
  | (go_at_call 10; refine (below_any _ _ _ _ _).mono ?_; rintro e w' ⟨rfl, hb⟩; have hM := M3.call (by assumption) hb; have hMF := hM.1; have hY := B2.call (by assumption) hb; have hYF := hY.1; clear hb))
              go_roundw
              case rel => exact ⟨k + 1, by omega, by go_num, by rw [allB_succ, unhide HA1]; simp, by rw [allB_succ, unhide HB1]; simp, hM⟩
              case measure => simp [intOf]; omega
            · subst hB1
              go_wp2_with (first
  | (go_at_call 10; refine (below_any _ _ _ _ _).mono ?_; rintro e w' ⟨rfl, hb⟩; have hM := M3.call (by assumption) hb; have hMF := hM.1; have hY := B2.call (by assumption) hb; have hYF := hY.1; clear hb))
              go_roundw
              case rel => exact ⟨k + 1, by omega, by go_num, by rw [allB_succ, unhide HA1]; simp, by rw [allB_succ, unhide HB1]; simp, hM⟩
              case measure => simp [intOf]; omega
          · subst hA1
            cases hB1 : bv
            · subst hB1
              go_wp2_with (first
  | (go_at_call 10; refine (below_any _ _ _ _ _).mono ?_; rintro e w' ⟨rfl, hb⟩; have hM := M3.call (by assumption) hb; have hMF := hM.1; have hY := B2.call (by assumption) hb; have hYF := hY.1; clear hb))
              go_roundw
              case rel => exact ⟨k + 1, by omega, by go_num, by rw [allB_succ, unhide HA1]; simp, by rw [allB_succ, unhide HB1]; simp, hM⟩
              case measure => simp [intOf]; omega
            · subst hB1
              go_wp2_with (first
  | (go_at_call 10; refine (below_any _ _ _ _ _).mono ?_; rintro e w' ⟨rfl, hb⟩; have hM := M3.call (by assumption) hb; have hMF := hM.1; have hY := B2.call (by assumption) hb; have hYF := hY.1; clear hb))
              go_roundw
              case rel => exact ⟨k + 1, by omega, by go_num, by rw [allB_succ, unhide HA1]; simp, by rw [allB_succ, unhide HB1]; simp, hM⟩
              case measure => simp [intOf]; omega
        · have hkm : k = m + 1 := by omega
          subst hkm
          have hMF1 := hR.1
          have f1 := all_join (L := L) (lx := lx) uC ux
          have f2 := all_meet (L := L) (lx := lx) uC ux
          go_wp2_with (first
            | (go_at_call 10; refine (below_any _ _ _ _ _).mono ?_; rintro e w' ⟨rfl, hb⟩; have hM := M3.call (by assumption) hb; have hMF := hM.1; clear hb)
            | (go_at_call 12; refine (awake_any _).mono ?_; rintro e w' ⟨rfl, hb⟩; have hM := M3.call (by assumption) hb; clear hb))
          go_ret
          exact ⟨rfl, hM.2.2⟩
  · go_enter Try.func7, Try.ntmps7
    go_wp2_with fail
    generalize w.alloc (Obj.cells #[.int .i64 lx, .int .u32 cx] 24) = W0 at *
    · 
      refine wp_region_held_drew (S := fun w' => (w'.cell? ⟨w.heap.size, 0, none⟩ = some (.int .i64 lx) ∧ w'.cell? ⟨w.heap.size, 1, none⟩ = some (.int .u32 cx)) ∧ w.heap.size < w'.heap.size ∧ Below w.heap.size w w') (by kernel_rfl) ?_ (fun hHeld => ?_)
      · exact B2.call hst (Below.refl _ _).drew
      refine wpAnyH_take (i := 0) (v := ?_) rfl (by kernel_rfl) (by kernel_rfl) (by kernel_rfl) (fun _ _ _ h => h) (Or.inl ⟨by rfl, ?_⟩) (by assumption) ?_
      rotate_left 1
      · (intro w hSw; (try dsimp only at hSw); go_simp) <;> (with_reducible rfl)
      try simp only [Act.put, List.getElem_toArray, List.getElem_cons_zero, List.getElem_cons_succ, List.setIfInBounds_toArray, List.set_cons_zero, List.set_cons_succ]
      refine wpAnyH_ready (rs := [1]) (by kernel_rfl) (by simp) ?_
      refine AllReadyH.cons rfl (fun K hK => ?_) AllReadyH.nil
      go_simp
      refine hK.out _ _ ?_ (fun hHeld => ?_)
      · assumption
      clear hK K
      try simp only [Act.put, List.getElem_toArray, List.getElem_cons_zero, List.getElem_cons_succ, List.setIfInBounds_toArray, List.set_cons_zero, List.set_cons_succ]
      refine wpAnyH_take (i := 2) (v := ?_) rfl (by kernel_rfl) (by kernel_rfl) (by kernel_rfl) (fun _ _ _ h => h) (Or.inl ⟨by rfl, ?_⟩) (by assumption) ?_
      rotate_left 1
      · (intro w hSw; (try dsimp only at hSw); go_simp) <;> (with_reducible rfl)
      try simp only [Act.put, List.getElem_toArray, List.getElem_cons_zero, List.getElem_cons_succ, List.setIfInBounds_toArray, List.set_cons_zero, List.set_cons_succ]
      refine wpAnyH_take (i := 3) (v := ?_) rfl (by kernel_rfl) (by kernel_rfl) (by kernel_rfl) (fun _ _ _ h => h) (Or.inl ⟨by rfl, ?_⟩) (by assumption) ?_
      rotate_left 1
      · (intro w hSw; (try dsimp only at hSw); go_simp) <;> (with_reducible rfl)
      try simp only [Act.put, List.getElem_toArray, List.getElem_cons_zero, List.getElem_cons_succ, List.setIfInBounds_toArray, List.set_cons_zero, List.set_cons_succ]
      refine wpAnyH_take (i := 4) (v := ?_) rfl (by kernel_rfl) (by kernel_rfl) (by kernel_rfl) (fun _ _ _ h => h) (Or.inl ⟨by rfl, ?_⟩) (by assumption) ?_
      rotate_left 1
      · (intro w hSw; (try dsimp only at hSw); go_simp) <;> (with_reducible rfl)
      try simp only [Act.put, List.getElem_toArray, List.getElem_cons_zero, List.getElem_cons_succ, List.setIfInBounds_toArray, List.set_cons_zero, List.set_cons_succ]
      refine wpAnyH_ready (rs := [5]) (by kernel_rfl) (by simp) ?_
      refine AllReadyH.cons rfl (fun K hK => ?_) AllReadyH.nil
      go_simp
      refine hK.out _ _ ?_ (fun hHeld => ?_)
      · assumption
      clear hK K
      try simp only [Act.put, List.getElem_toArray, List.getElem_cons_zero, List.getElem_cons_succ, List.setIfInBounds_toArray, List.set_cons_zero, List.set_cons_succ]
      refine wpAnyH_take (i := 6) (v := ?_) rfl (by kernel_rfl) (by kernel_rfl) (by kernel_rfl) (fun _ _ _ h => h) (Or.inl ⟨by rfl, ?_⟩) (by assumption) ?_
      rotate_left 1
      · (intro w hSw; (try dsimp only at hSw); go_simp) <;> (with_reducible rfl)
      try simp only [Act.put, List.getElem_toArray, List.getElem_cons_zero, List.getElem_cons_succ, List.setIfInBounds_toArray, List.set_cons_zero, List.set_cons_succ]
      refine wpAnyH_take (i := 7) (v := ?_) rfl (by kernel_rfl) (by kernel_rfl) (by kernel_rfl) (fun _ _ _ h => h) (Or.inl ⟨by rfl, ?_⟩) (by assumption) ?_
      rotate_left 1
      · (intro w hSw; (try dsimp only at hSw); go_simp) <;> (with_reducible rfl)
      try simp only [Act.put, List.getElem_toArray, List.getElem_cons_zero, List.getElem_cons_succ, List.setIfInBounds_toArray, List.set_cons_zero, List.set_cons_succ]
      refine wpAnyH_take (i := 8) (v := ?_) rfl (by kernel_rfl) (by kernel_rfl) (by kernel_rfl) (fun _ _ _ h => h) (Or.inl ⟨by rfl, ?_⟩) (by assumption) ?_
      rotate_left 1
      · (intro w hSw; (try dsimp only at hSw); go_simp) <;> (with_reducible rfl)
      try simp only [Act.put, List.getElem_toArray, List.getElem_cons_zero, List.getElem_cons_succ, List.setIfInBounds_toArray, List.set_cons_zero, List.set_cons_succ]
      refine wpAnyH_take (i := 9) (v := ?_) rfl (by kernel_rfl) (by kernel_rfl) (by kernel_rfl) (fun _ _ _ h => h) (Or.inl ⟨by rfl, ?_⟩) (by assumption) ?_
      rotate_left 1
      · (intro w hSw; (try dsimp only at hSw); go_simp) <;> (with_reducible rfl)
      try simp only [Act.put, List.getElem_toArray, List.getElem_cons_zero, List.getElem_cons_succ, List.setIfInBounds_toArray, List.set_cons_zero, List.set_cons_succ]
      refine wpAnyH_take (i := 11) (v := ?_) rfl (by kernel_rfl) (by kernel_rfl) (by kernel_rfl) (fun _ _ _ h => h) (Or.inl ⟨by rfl, ?_⟩) (by assumption) ?_
      rotate_left 1
      · (intro w hSw; (try dsimp only at hSw); go_simp) <;> (with_reducible rfl)
      try simp only [Act.put, List.getElem_toArray, List.getElem_cons_zero, List.getElem_cons_succ, List.setIfInBounds_toArray, List.set_cons_zero, List.set_cons_succ]
      refine wpAnyH_ready (rs := [10, 12]) (by kernel_rfl) (by simp) ?_
      refine AllReadyH.cons rfl (fun K hK => ?_) (AllReadyH.cons rfl (fun K hK => ?_) AllReadyH.nil)
      · go_simp
        (go_at_call 26; refine (clonel_any b off (m + 1) cap L C _ ?_ ?_ (by omega)).mono ?_; (exact hrow.below (B2.bel (l := lx) (c := cx) (by assumption)) hb0); (exact Nat.lt_of_lt_of_le hb0 (B2.bel (w := w) (l := lx) (c := cx) (by assumption)).size); rintro e w1 ⟨vc, rfl, ho, hb⟩)
        go_wp2_with fail
        refine hK.out _ _ ?_ (fun hHeld => ?_)
        · exact B2.call (by assumption) (by assumption)
        clear hK K
        try simp only [Act.put, List.getElem_toArray, List.getElem_cons_zero, List.getElem_cons_succ, List.setIfInBounds_toArray, List.set_cons_zero, List.set_cons_succ]
        have hW1 : B2 w lx cx w1 := by assumption
        have hW0 : B2 w lx cx W0.drew := B2.call hst (Below.refl _ _).drew
        have ho1 : w1.ownsRow (w.heap.size + 1) 24 2 vc (m + 1) (labVals L C (m + 1)) := Joins.ownsRow_le ho hW0.2.1
        refine wpAnyH_ready (rs := [12]) (by kernel_rfl) (by simp) ?_
        refine AllReadyH.cons rfl (fun K hK => ?_) AllReadyH.nil
        go_simp
        refine hK.out _ _ ?_ (fun hHeld => ?_)
        · exact B2.call hW1 ((Below.refl _ _).alloc (Nat.le_refl _) _)
        clear hK K
        try simp only [Act.put, List.getElem_toArray, List.getElem_cons_zero, List.getElem_cons_succ, List.setIfInBounds_toArray, List.set_cons_zero, List.set_cons_succ]
        have hB2 : B2 w lx cx (w1.alloc (.cells #[.int .i64 lx, .int .u32 cx] 24)) := by assumption
        refine wpAnyH_ready (rs := [13]) (by kernel_rfl) (by simp) ?_
        refine AllReadyH.cons rfl (fun K hK => ?_) AllReadyH.nil
        rw [if_pos (by rfl)]
        refine wp_append_own _ _ _ 29 rfl (w.heap.size + 1) 24 i0 (.agg #[.int .i64 0, .int .u32 0]) 2 16 Try.underlying29 hi hz0 hz1 hz2 rfl (by decide) _ _ _ rfl (ho1.alloc _) ⟨w1.heap.size, 0, none⟩ 1 1 [.int .i64 lx, .int .u32 cx] rfl rfl ?_ ?_ ?_ ?_ ?_ ?_
        · exact news_fresh w1 lx cx
        · intro u hu; simp at hu; rcases hu with rfl | rfl <;> rfl
        · unfold maxLen; omega
        · omega
        · have hq := hB2.2.1; omega
        intro v' w2 hown' hgrow hnil'
        have hb3 : Below (w.heap.size + 1) (w1.alloc (.cells #[.int .i64 lx, .int .u32 cx] 24)) w2 := (Below.refl _ _).grown hgrow (by have hq := hB2.2.1; omega) (fun k hk => (ho1.lt k hk).1)
        refine hK.out _ _ ?_ (fun hHeld => ?_)
        · exact B2.call1 hB2 hb3
        clear hK K
        try simp only [Act.put, List.getElem_toArray, List.getElem_cons_zero, List.getElem_cons_succ, List.setIfInBounds_toArray, List.set_cons_zero, List.set_cons_succ]
        obtain ⟨a5, cap5, rfl, hp5, _, _⟩ := own_more (by unfold maxLen; omega) uC ux hown'
        clear hown' hgrow hnil'
        refine wpAnyH_ready (rs := [14]) (by kernel_rfl) (by simp) ?_
        refine AllReadyH.cons rfl (fun K hK => ?_) AllReadyH.nil
        go_simp; (go_at_call 25; refine (containsf_any _ _ _ (fun i => if i = m + 1 then lx else L i) (fun i => if i = m + 1 then cx else C i) _ hp5).mono ?_; rintro e w' ⟨rfl, hb⟩; rw [hbad]); go_wp2_with fail
        refine hK.out _ _ ?_ (fun hHeld => ?_)
        · exact B2.call (by assumption) (by assumption)
        clear hK K
        try simp only [Act.put, List.getElem_toArray, List.getElem_cons_zero, List.getElem_cons_succ, List.setIfInBounds_toArray, List.set_cons_zero, List.set_cons_succ]
        refine wpAnyH_take (i := 15) (v := ?_) rfl (by kernel_rfl) (by kernel_rfl) (by kernel_rfl) (fun _ _ _ h => h) (Or.inl ⟨by rfl, ?_⟩) (by assumption) ?_
        rotate_left 1
        · (intro w hSw; (try dsimp only at hSw); go_simp) <;> (with_reducible rfl)
        try simp only [Act.put, List.getElem_toArray, List.getElem_cons_zero, List.getElem_cons_succ, List.setIfInBounds_toArray, List.set_cons_zero, List.set_cons_succ]
        refine wpAnyH_done (by kernel_rfl) ?_ _
        go_wp2_with (go_at_call 12; refine (awake_any _).mono ?_; rintro e w' ⟨rfl, hb⟩; have hS := B2.call (by assumption) hb; clear hb)
        go_ret
        exact ⟨rfl, hS.2.2⟩
      · go_simp
        refine hK.out _ _ ?_ (fun hHeld => ?_)
        · exact B2.call (B2.call hst (Below.refl _ _).drew) ((Below.refl _ _).alloc (Nat.le_refl _) _)
        clear hK K
        try simp only [Act.put, List.getElem_toArray, List.getElem_cons_zero, List.getElem_cons_succ, List.setIfInBounds_toArray, List.set_cons_zero, List.set_cons_succ]
        have hW0 : B2 w lx cx W0.drew := B2.call hst (Below.refl _ _).drew
        refine wpAnyH_ready (rs := [10]) (by kernel_rfl) (by simp) ?_
        refine AllReadyH.cons rfl (fun K hK => ?_) AllReadyH.nil
        go_simp; (go_at_call 26; refine (clonel_any b off (m + 1) cap L C _ ?_ ?_ (by omega)).mono ?_; (exact hrow.below (B2.bel (l := lx) (c := cx) (by assumption)) hb0); (exact Nat.lt_of_lt_of_le hb0 (B2.bel (w := w) (l := lx) (c := cx) (by assumption)).size); rintro e w1 ⟨vc, rfl, ho, hb⟩); go_wp2_with fail
        refine hK.out _ _ ?_ (fun hHeld => ?_)
        · exact B2.call (w := w) (l := lx) (c := cx) hHeld hb
        clear hK K
        try simp only [Act.put, List.getElem_toArray, List.getElem_cons_zero, List.getElem_cons_succ, List.setIfInBounds_toArray, List.set_cons_zero, List.set_cons_succ]
        have hB2 : B2 w lx cx w1 := by assumption
        have ho1 : w1.ownsRow (w.heap.size + 1) 24 2 vc (m + 1) (labVals L C (m + 1)) := Joins.ownsRow_le ho (by have hq := hW0.2.1; simp at hq ⊢; omega)
        have hnw : ∀ j u, ([.int .i64 lx, .int .u32 cx] : List Value)[j]? = some u → w1.cell? ((⟨W0.heap.size, 0, none⟩ : Addr).add j) = some u := news_below hb
        refine wpAnyH_ready (rs := [13]) (by kernel_rfl) (by simp) ?_
        refine AllReadyH.cons rfl (fun K hK => ?_) AllReadyH.nil
        rw [if_pos (by rfl)]
        refine wp_append_own _ _ _ 29 rfl (w.heap.size + 1) 24 i0 (.agg #[.int .i64 0, .int .u32 0]) 2 16 Try.underlying29 hi hz0 hz1 hz2 rfl (by decide) _ _ _ rfl ho1 ⟨W0.heap.size, 0, none⟩ 1 1 [.int .i64 lx, .int .u32 cx] rfl rfl ?_ ?_ ?_ ?_ ?_ ?_
        · exact hnw
        · intro u hu; simp at hu; rcases hu with rfl | rfl <;> rfl
        · unfold maxLen; omega
        · omega
        · have hq := hB2.2.1; omega
        intro v' w2 hown' hgrow hnil'
        have hb3 : Below (w.heap.size + 1) w1 w2 := (Below.refl _ _).grown hgrow (by have hq := hB2.2.1; omega) (fun k hk => (ho1.lt k hk).1)
        refine hK.out _ _ ?_ (fun hHeld => ?_)
        · exact B2.call1 hB2 hb3
        clear hK K
        try simp only [Act.put, List.getElem_toArray, List.getElem_cons_zero, List.getElem_cons_succ, List.setIfInBounds_toArray, List.set_cons_zero, List.set_cons_succ]
        obtain ⟨a5, cap5, rfl, hp5, _, _⟩ := own_more (by unfold maxLen; omega) uC ux hown'
        clear hown' hgrow hnil'
        refine wpAnyH_ready (rs := [14]) (by kernel_rfl) (by simp) ?_
        refine AllReadyH.cons rfl (fun K hK => ?_) AllReadyH.nil
        go_simp; (go_at_call 25; refine (containsf_any _ _ _ (fun i => if i = m + 1 then lx else L i) (fun i => if i = m + 1 then cx else C i) _ hp5).mono ?_; rintro e w' ⟨rfl, hb⟩; rw [hbad]); go_wp2_with fail
        refine hK.out _ _ ?_ (fun hHeld => ?_)
        · exact B2.call (by assumption) (by assumption)
        clear hK K
        try simp only [Act.put, List.getElem_toArray, List.getElem_cons_zero, List.getElem_cons_succ, List.setIfInBounds_toArray, List.set_cons_zero, List.set_cons_succ]
        refine wpAnyH_take (i := 15) (v := ?_) rfl (by kernel_rfl) (by kernel_rfl) (by kernel_rfl) (fun _ _ _ h => h) (Or.inl ⟨by rfl, ?_⟩) (by assumption) ?_
        rotate_left 1
        · (intro w hSw; (try dsimp only at hSw); go_simp) <;> (with_reducible rfl)
        try simp only [Act.put, List.getElem_toArray, List.getElem_cons_zero, List.getElem_cons_succ, List.setIfInBounds_toArray, List.set_cons_zero, List.set_cons_succ]
        refine wpAnyH_done (by kernel_rfl) ?_ _
        go_wp2_with (go_at_call 12; refine (awake_any _).mono ?_; rintro e w' ⟨rfl, hb⟩; have hS := B2.call (by assumption) hb; clear hb)
        go_ret
        exact ⟨rfl, hS.2.2⟩

end Go.Proofs.Ytbahnkomdndmkaa.bounds
