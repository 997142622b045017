/- Policies, and who sees whom. -/
import Derived.Test.YtbahnkomdndmkabAwake
import Derived.Test.YtbahnkomdndmkabOpen
import Derived.Deep.RegionWith
namespace Go.Proofs.Ytbahnkomdndmkab
set_option linter.unusedSimpArgs false
set_option linter.unusedVariables false
open Go.ChangeShapes Go.WideShapes Go.ChangeAt Go.RowKit

theorem hide {p : Prop} (h : p) : Hid p := h
theorem unhide {p : Prop} (h : Hid p) : p := h

/-- a policy's labels: n of them, in a row of cells -/
def PolLabs (w : World) (a : Option Addr) (n : Nat) (L C : Nat → Int) : Prop :=
  n ≤ maxLen ∧ (∀ i, i < n → U32 (C i)) ∧ (n = 0 ∨ ∃ b off, a = some ⟨b, off, none⟩ ∧ b < w.heap.size ∧ LabRow w b off n L C)
theorem PolLabs.call {w w1 : World} {a : Option Addr} {n : Nat} {L C : Nat → Int} (h : PolLabs w a n L C) (hb : Below w.heap.size w w1) : PolLabs w1 a n L C := by
  obtain ⟨h1, h2, h3⟩ := h
  refine ⟨h1, h2, ?_⟩
  rcases h3 with h3 | ⟨b, off, rfl, hlt, hr⟩
  · exact .inl h3
  · exact .inr ⟨b, off, rfl, Nat.lt_of_lt_of_le hlt hb.size, hr.below hb hlt⟩

def longB (n0 n1 n2 : Nat) : Bool := decide (200 < n0) || decide (200 < n1) || decide (200 < n2)
set_option maxHeartbeats 400000 in
theorem long_any (a0 a1 a2 : Option Addr) (n0 n1 n2 c0 c1 c2 : Nat) (w : World) :
    Calls Try.prog 12 #[.agg #[.slice a0 n0 c0, .slice a1 n1 c1, .slice a2 n2 c2]] w fun e w' => e = .returned (.bool (longB n0 n1 n2)) ∧ Below w.heap.size w w' := by
  by_cases h0 : (200 : Int) < (n0 : Int)
  · go_enter Try.func12, Try.ntmps12
    go_wp2
    go_ret
    exact ⟨by simp [longB]; omega, by go_grown⟩
  · have h0' : decide ((200 : Int) < (n0 : Int)) = false := by simpa using h0
    by_cases h1 : (200 : Int) < (n1 : Int)
    · go_enter Try.func12, Try.ntmps12
      go_wp2
      go_ret
      exact ⟨by simp [longB]; omega, by go_grown⟩
    · have h1' : decide ((200 : Int) < (n1 : Int)) = false := by simpa using h1
      go_enter Try.func12, Try.ntmps12
      go_wp2
      go_ret
      refine ⟨?_, by go_grown⟩
      have e0 : decide (200 < n0) = false := by simp; omega
      have e1 : decide (200 < n1) = false := by simp; omega
      have e2 : decide ((200 : Int) < (n2 : Int)) = decide (200 < n2) := by rw [decide_eq_decide]; omega
      simp [longB, e0, e1, e2]

def placeB (i : Int) (n : Nat) : Bool := decide (0 ≤ i ∧ i < n)
theorem place_any (a0 a1 a2 : Option Addr) (n0 n1 n2 c0 c1 c2 : Nat) (i : Int) (w : World) (hn : n0 ≤ maxLen) :
    Calls Try.prog 27 #[.agg #[.slice a0 n0 c0, .slice a1 n1 c1, .slice a2 n2 c2], .int .i64 i] w fun e w' => e = .returned (.bool (placeB i n0)) ∧ Below w.heap.size w w' := by
  unfold maxLen at hn
  have hw : withinB i 0 ((n0 : Int) - 1) = placeB i n0 := by
    unfold withinB placeB
    rw [Bool.eq_iff_iff]
    simp
    omega
  have HW := hide hw
  clear hw
  go_enter Try.func27, Try.ntmps27
  go_wp2_with (go_at_call 24; refine (within_any _ _ _ _).mono ?_; rintro e w' ⟨rfl, rfl⟩)
  go_ret
  exact ⟨by rw [← unhide HW]; rfl, by go_grown⟩

def PB (w : World) (s0 s1 s2 : Value) (w' : World) : Prop :=
  (w'.cell? ⟨w.heap.size, 0, none⟩ = some s0 ∧ w'.cell? ⟨w.heap.size, 1, none⟩ = some s1 ∧ w'.cell? ⟨w.heap.size, 2, none⟩ = some s2) ∧ w.heap.size < w'.heap.size ∧ Below w.heap.size w w'
theorem PB.start (w : World) (s0 s1 s2 : Value) : PB w s0 s1 s2 (w.alloc (.cells #[s0, s1, s2] 34)) := by
  refine ⟨⟨?_, ?_, ?_⟩, ?_, ?_⟩
  all_goals first | (simp [go_sem]; done) | go_grown
theorem PB.call {w W w1 : World} {s0 s1 s2 : Value} (h : PB w s0 s1 s2 W) (hb : Below W.heap.size W w1) : PB w s0 s1 s2 w1 := by
  obtain ⟨⟨h0, h1, h2⟩, hs, bl⟩ := h
  have hz := hb.size
  exact ⟨⟨cell_keep hb hs h0, cell_keep hb hs h1, cell_keep hb hs h2⟩, by omega, bl.trans (hb.mono (by omega))⟩
theorem PB.drew {w W : World} {s0 s1 s2 : Value} (h : PB w s0 s1 s2 W) : PB w s0 s1 s2 W.drew := h.call (Below.refl _ _).drew

def SB (w : World) (s0 s1 s2 : Value) (b off i j : Nat) (li ci lj cj : Int) (w' : World) : Prop :=
  ((w'.cell? ⟨b, off + i * 2, none⟩ = some (.int .i64 li) ∧ w'.cell? ⟨b, off + i * 2 + 1, none⟩ = some (.int .u32 ci) ∧ w'.cell? ⟨b, off + j * 2, none⟩ = some (.int .i64 lj) ∧ w'.cell? ⟨b, off + j * 2 + 1, none⟩ = some (.int .u32 cj)) ∧ b < w.heap.size) ∧ PB w s0 s1 s2 w'
theorem SB.call {w W w1 : World} {s0 s1 s2 : Value} {b off i j : Nat} {li ci lj cj : Int} (h : SB w s0 s1 s2 b off i j li ci lj cj W) (hb : Below W.heap.size W w1) : SB w s0 s1 s2 b off i j li ci lj cj w1 := by
  obtain ⟨⟨⟨h0, h1, h2, h3⟩, hlt⟩, hp⟩ := h
  have hs := hp.2.1
  exact ⟨⟨⟨cell_keep hb (by show b < _; omega) h0, cell_keep hb (by show b < _; omega) h1, cell_keep hb (by show b < _; omega) h2, cell_keep hb (by show b < _; omega) h3⟩, hlt⟩, hp.call hb⟩
theorem SB.drew {w W : World} {s0 s1 s2 : Value} {b off i j : Nat} {li ci lj cj : Int} (h : SB w s0 s1 s2 b off i j li ci lj cj W) : SB w s0 s1 s2 b off i j li ci lj cj W.drew := h.call (Below.refl _ _).drew
theorem SB.start {w W : World} {s0 s1 s2 : Value} {b off i j : Nat} {li ci lj cj : Int} (hp : PB w s0 s1 s2 W) (hlt : b < w.heap.size) (ei : w.cell? ⟨b, off + i * 2, none⟩ = some (.int .i64 li) ∧ w.cell? ⟨b, off + i * 2 + 1, none⟩ = some (.int .u32 ci)) (ej : w.cell? ⟨b, off + j * 2, none⟩ = some (.int .i64 lj) ∧ w.cell? ⟨b, off + j * 2 + 1, none⟩ = some (.int .u32 cj)) : SB w s0 s1 s2 b off i j li ci lj cj W :=
  ⟨⟨⟨cell_keep hp.2.2 hlt ei.1, cell_keep hp.2.2 hlt ei.2, cell_keep hp.2.2 hlt ej.1, cell_keep hp.2.2 hlt ej.2⟩, hlt⟩, hp⟩

def seesB (n : Nat) (L C : Nat → Int) (v u : Int) : Bool := placeB v n && placeB u n && belowB (L u.toNat) (C u.toNat) (L v.toNat) (C v.toNat)

set_option maxHeartbeats 1000000 in
theorem sees_any (a0 a1 a2 : Option Addr) (n0 n1 n2 c0 c1 c2 : Nat) (L C : Nat → Int) (v u : Int) (w : World) (hp : PolLabs w a0 n0 L C) :
    Calls Try.prog 13 #[.agg #[.slice a0 n0 c0, .slice a1 n1 c1, .slice a2 n2 c2], .int .i64 v, .int .i64 u] w fun e w' => e = .returned (.bool (seesB n0 L C v u)) ∧ Below w.heap.size w w' := by
  have hn := hp.1
  cases hv : placeB v n0
  · have hr : seesB n0 L C v u = false := by simp [seesB, hv]
    go_enter Try.func13, Try.ntmps13
    go_wp2_with fail
    have hst := PB.start w (.slice a0 n0 c0) (.slice a1 n1 c1) (.slice a2 n2 c2)
    generalize w.alloc (Obj.cells #[.slice a0 n0 c0, .slice a1 n1 c1, .slice a2 n2 c2] 34) = W0 at *
    refine wp_region_held_drew (S := fun w' => (w'.cell? ⟨w.heap.size, 0, none⟩ = some (.slice a0 n0 c0) ∧ w'.cell? ⟨w.heap.size, 1, none⟩ = some (.slice a1 n1 c1) ∧ w'.cell? ⟨w.heap.size, 2, none⟩ = some (.slice a2 n2 c2)) ∧ w.heap.size < w'.heap.size ∧ Below w.heap.size w w') (by kernel_rfl) ?_ (fun hHeld => ?_)
    · exact PB.drew hst
    refine wpAnyH_take (i := 0) (v := ?_) rfl (by kernel_rfl) (by kernel_rfl) (by kernel_rfl) (fun _ _ _ h => h) (Or.inl ⟨by rfl, ?_⟩) (by assumption) ?_
    rotate_left 1
    · (intro w hSw; (try dsimp only at hSw); go_simp) <;> (with_reducible rfl)
    try simp only [Act.put, List.getElem_toArray, List.getElem_cons_zero, List.getElem_cons_succ, List.setIfInBounds_toArray, List.set_cons_zero, List.set_cons_succ]
    refine wpAnyH_take (i := 1) (v := ?_) rfl (by kernel_rfl) (by kernel_rfl) (by kernel_rfl) (fun _ _ _ h => h) (Or.inl ⟨by rfl, ?_⟩) (by assumption) ?_
    rotate_left 1
    · (intro w hSw; (try dsimp only at hSw); go_simp) <;> (with_reducible rfl)
    try simp only [Act.put, List.getElem_toArray, List.getElem_cons_zero, List.getElem_cons_succ, List.setIfInBounds_toArray, List.set_cons_zero, List.set_cons_succ]
    refine wpAnyH_ready (rs := [2]) (by kernel_rfl) (by simp) ?_
    refine AllReadyH.cons rfl (fun K hK => ?_) AllReadyH.nil
    go_simp; (go_at_call 27; refine (place_any _ _ _ _ _ _ _ _ _ _ _ hn).mono ?_; rintro e w' ⟨rfl, hb⟩; rw [hv]); go_wp2_with fail
    refine hK.out _ _ ?_ (fun hHeld => ?_)
    · exact PB.call (by assumption) (by assumption)
    clear hK K
    try simp only [Act.put, List.getElem_toArray, List.getElem_cons_zero, List.getElem_cons_succ, List.setIfInBounds_toArray, List.set_cons_zero, List.set_cons_succ]
    refine wpAnyH_take (i := 3) (v := ?_) rfl (by kernel_rfl) (by kernel_rfl) (by kernel_rfl) (fun _ _ _ h => h) (Or.inl ⟨by rfl, ?_⟩) (by assumption) ?_
    rotate_left 1
    · (intro w hSw; (try dsimp only at hSw); go_simp) <;> (with_reducible rfl)
    try simp only [Act.put, List.getElem_toArray, List.getElem_cons_zero, List.getElem_cons_succ, List.setIfInBounds_toArray, List.set_cons_zero, List.set_cons_succ]
    refine wpAnyH_take (i := 4) (v := undef) rfl (by kernel_rfl) (by kernel_rfl) (by kernel_rfl) (fun _ _ _ h => h) (Or.inr ⟨by rfl, rfl⟩) (by assumption) ?_
    try simp only [Act.put, List.getElem_toArray, List.getElem_cons_zero, List.getElem_cons_succ, List.setIfInBounds_toArray, List.set_cons_zero, List.set_cons_succ]
    refine wpAnyH_take (i := 5) (v := undef) rfl (by kernel_rfl) (by kernel_rfl) (by kernel_rfl) (fun _ _ _ h => h) (Or.inr ⟨by rfl, rfl⟩) (by assumption) ?_
    try simp only [Act.put, List.getElem_toArray, List.getElem_cons_zero, List.getElem_cons_succ, List.setIfInBounds_toArray, List.set_cons_zero, List.set_cons_succ]
    refine wpAnyH_ready (rs := [6]) (by kernel_rfl) (by simp) ?_
    refine AllReadyH.cons rfl (fun K hK => ?_) AllReadyH.nil
    go_simp
    refine hK.out _ _ ?_ (fun hHeld => ?_)
    · assumption
    clear hK K
    try simp only [Act.put, List.getElem_toArray, List.getElem_cons_zero, List.getElem_cons_succ, List.setIfInBounds_toArray, List.set_cons_zero, List.set_cons_succ]
    refine wpAnyH_take (i := 7) (v := ?_) rfl (by kernel_rfl) (by kernel_rfl) (by kernel_rfl) (fun _ _ _ h => h) (Or.inl ⟨by rfl, ?_⟩) (by assumption) ?_
    rotate_left 1
    · (intro w hSw; (try dsimp only at hSw); go_simp) <;> (with_reducible rfl)
    try simp only [Act.put, List.getElem_toArray, List.getElem_cons_zero, List.getElem_cons_succ, List.setIfInBounds_toArray, List.set_cons_zero, List.set_cons_succ]
    refine wpAnyH_take (i := 8) (v := ?_) rfl (by kernel_rfl) (by kernel_rfl) (by kernel_rfl) (fun _ _ _ h => h) (Or.inl ⟨by rfl, ?_⟩) (by assumption) ?_
    rotate_left 1
    · (intro w hSw; (try dsimp only at hSw); go_simp) <;> (with_reducible rfl)
    try simp only [Act.put, List.getElem_toArray, List.getElem_cons_zero, List.getElem_cons_succ, List.setIfInBounds_toArray, List.set_cons_zero, List.set_cons_succ]
    refine wpAnyH_take (i := 9) (v := undef) rfl (by kernel_rfl) (by kernel_rfl) (by kernel_rfl) (fun _ _ _ h => h) (Or.inr ⟨by rfl, rfl⟩) (by assumption) ?_
    try simp only [Act.put, List.getElem_toArray, List.getElem_cons_zero, List.getElem_cons_succ, List.setIfInBounds_toArray, List.set_cons_zero, List.set_cons_succ]
    refine wpAnyH_take (i := 10) (v := undef) rfl (by kernel_rfl) (by kernel_rfl) (by kernel_rfl) (fun _ _ _ h => h) (Or.inr ⟨by rfl, rfl⟩) (by assumption) ?_
    try simp only [Act.put, List.getElem_toArray, List.getElem_cons_zero, List.getElem_cons_succ, List.setIfInBounds_toArray, List.set_cons_zero, List.set_cons_succ]
    refine wpAnyH_take (i := 11) (v := undef) rfl (by kernel_rfl) (by kernel_rfl) (by kernel_rfl) (fun _ _ _ h => h) (Or.inr ⟨by rfl, rfl⟩) (by assumption) ?_
    try simp only [Act.put, List.getElem_toArray, List.getElem_cons_zero, List.getElem_cons_succ, List.setIfInBounds_toArray, List.set_cons_zero, List.set_cons_succ]
    refine wpAnyH_take (i := 12) (v := undef) rfl (by kernel_rfl) (by kernel_rfl) (by kernel_rfl) (fun _ _ _ h => h) (Or.inr ⟨by rfl, rfl⟩) (by assumption) ?_
    try simp only [Act.put, List.getElem_toArray, List.getElem_cons_zero, List.getElem_cons_succ, List.setIfInBounds_toArray, List.set_cons_zero, List.set_cons_succ]
    refine wpAnyH_take (i := 13) (v := undef) rfl (by kernel_rfl) (by kernel_rfl) (by kernel_rfl) (fun _ _ _ h => h) (Or.inr ⟨by rfl, rfl⟩) (by assumption) ?_
    try simp only [Act.put, List.getElem_toArray, List.getElem_cons_zero, List.getElem_cons_succ, List.setIfInBounds_toArray, List.set_cons_zero, List.set_cons_succ]
    refine wpAnyH_take (i := 14) (v := undef) rfl (by kernel_rfl) (by kernel_rfl) (by kernel_rfl) (fun _ _ _ h => h) (Or.inr ⟨by rfl, rfl⟩) (by assumption) ?_
    try simp only [Act.put, List.getElem_toArray, List.getElem_cons_zero, List.getElem_cons_succ, List.setIfInBounds_toArray, List.set_cons_zero, List.set_cons_succ]
    refine wpAnyH_take (i := 15) (v := undef) rfl (by kernel_rfl) (by kernel_rfl) (by kernel_rfl) (fun _ _ _ h => h) (Or.inr ⟨by rfl, rfl⟩) (by assumption) ?_
    try simp only [Act.put, List.getElem_toArray, List.getElem_cons_zero, List.getElem_cons_succ, List.setIfInBounds_toArray, List.set_cons_zero, List.set_cons_succ]
    refine wpAnyH_take (i := 16) (v := undef) rfl (by kernel_rfl) (by kernel_rfl) (by kernel_rfl) (fun _ _ _ h => h) (Or.inr ⟨by rfl, rfl⟩) (by assumption) ?_
    try simp only [Act.put, List.getElem_toArray, List.getElem_cons_zero, List.getElem_cons_succ, List.setIfInBounds_toArray, List.set_cons_zero, List.set_cons_succ]
    refine wpAnyH_take (i := 17) (v := undef) rfl (by kernel_rfl) (by kernel_rfl) (by kernel_rfl) (fun _ _ _ h => h) (Or.inr ⟨by rfl, rfl⟩) (by assumption) ?_
    try simp only [Act.put, List.getElem_toArray, List.getElem_cons_zero, List.getElem_cons_succ, List.setIfInBounds_toArray, List.set_cons_zero, List.set_cons_succ]
    refine wpAnyH_take (i := 18) (v := undef) rfl (by kernel_rfl) (by kernel_rfl) (by kernel_rfl) (fun _ _ _ h => h) (Or.inr ⟨by rfl, rfl⟩) (by assumption) ?_
    try simp only [Act.put, List.getElem_toArray, List.getElem_cons_zero, List.getElem_cons_succ, List.setIfInBounds_toArray, List.set_cons_zero, List.set_cons_succ]
    refine wpAnyH_ready (rs := [19]) (by kernel_rfl) (by simp) ?_
    refine AllReadyH.cons rfl (fun K hK => ?_) AllReadyH.nil
    go_simp
    refine hK.out _ _ ?_ (fun hHeld => ?_)
    · assumption
    clear hK K
    try simp only [Act.put, List.getElem_toArray, List.getElem_cons_zero, List.getElem_cons_succ, List.setIfInBounds_toArray, List.set_cons_zero, List.set_cons_succ]
    refine wpAnyH_take (i := 20) (v := ?_) rfl (by kernel_rfl) (by kernel_rfl) (by kernel_rfl) (fun _ _ _ h => h) (Or.inl ⟨by rfl, ?_⟩) (by assumption) ?_
    rotate_left 1
    · (intro w hSw; (try dsimp only at hSw); go_simp) <;> (with_reducible rfl)
    try simp only [Act.put, List.getElem_toArray, List.getElem_cons_zero, List.getElem_cons_succ, List.setIfInBounds_toArray, List.set_cons_zero, List.set_cons_succ]
    refine wpAnyH_take (i := 21) (v := ?_) rfl (by kernel_rfl) (by kernel_rfl) (by kernel_rfl) (fun _ _ _ h => h) (Or.inl ⟨by rfl, ?_⟩) (by assumption) ?_
    rotate_left 1
    · (intro w hSw; (try dsimp only at hSw); go_simp) <;> (with_reducible rfl)
    try simp only [Act.put, List.getElem_toArray, List.getElem_cons_zero, List.getElem_cons_succ, List.setIfInBounds_toArray, List.set_cons_zero, List.set_cons_succ]
    refine wpAnyH_done (by kernel_rfl) ?_ _
    go_wp2_with fail
    go_ret
    have hS : PB w (.slice a0 n0 c0) (.slice a1 n1 c1) (.slice a2 n2 c2) w' := by assumption
    exact ⟨by rw [hr]; rfl, hS.2.2⟩
  · cases hu : placeB u n0
    · have hr : seesB n0 L C v u = false := by simp [seesB, hv, hu]
      go_enter Try.func13, Try.ntmps13
      go_wp2_with fail
      have hst := PB.start w (.slice a0 n0 c0) (.slice a1 n1 c1) (.slice a2 n2 c2)
      generalize w.alloc (Obj.cells #[.slice a0 n0 c0, .slice a1 n1 c1, .slice a2 n2 c2] 34) = W0 at *
      refine wp_region_held_drew (S := fun w' => (w'.cell? ⟨w.heap.size, 0, none⟩ = some (.slice a0 n0 c0) ∧ w'.cell? ⟨w.heap.size, 1, none⟩ = some (.slice a1 n1 c1) ∧ w'.cell? ⟨w.heap.size, 2, none⟩ = some (.slice a2 n2 c2)) ∧ w.heap.size < w'.heap.size ∧ Below w.heap.size w w') (by kernel_rfl) ?_ (fun hHeld => ?_)
      · exact PB.drew hst
      refine wpAnyH_take (i := 0) (v := ?_) rfl (by kernel_rfl) (by kernel_rfl) (by kernel_rfl) (fun _ _ _ h => h) (Or.inl ⟨by rfl, ?_⟩) (by assumption) ?_
      rotate_left 1
      · (intro w hSw; (try dsimp only at hSw); go_simp) <;> (with_reducible rfl)
      try simp only [Act.put, List.getElem_toArray, List.getElem_cons_zero, List.getElem_cons_succ, List.setIfInBounds_toArray, List.set_cons_zero, List.set_cons_succ]
      refine wpAnyH_take (i := 1) (v := ?_) rfl (by kernel_rfl) (by kernel_rfl) (by kernel_rfl) (fun _ _ _ h => h) (Or.inl ⟨by rfl, ?_⟩) (by assumption) ?_
      rotate_left 1
      · (intro w hSw; (try dsimp only at hSw); go_simp) <;> (with_reducible rfl)
      try simp only [Act.put, List.getElem_toArray, List.getElem_cons_zero, List.getElem_cons_succ, List.setIfInBounds_toArray, List.set_cons_zero, List.set_cons_succ]
      refine wpAnyH_ready (rs := [2]) (by kernel_rfl) (by simp) ?_
      refine AllReadyH.cons rfl (fun K hK => ?_) AllReadyH.nil
      go_simp; (go_at_call 27; refine (place_any _ _ _ _ _ _ _ _ _ _ _ hn).mono ?_; rintro e w' ⟨rfl, hb⟩; rw [hv]); go_wp2_with fail
      refine hK.out _ _ ?_ (fun hHeld => ?_)
      · exact PB.call (by assumption) (by assumption)
      clear hK K
      try simp only [Act.put, List.getElem_toArray, List.getElem_cons_zero, List.getElem_cons_succ, List.setIfInBounds_toArray, List.set_cons_zero, List.set_cons_succ]
      refine wpAnyH_take (i := 3) (v := ?_) rfl (by kernel_rfl) (by kernel_rfl) (by kernel_rfl) (fun _ _ _ h => h) (Or.inl ⟨by rfl, ?_⟩) (by assumption) ?_
      rotate_left 1
      · (intro w hSw; (try dsimp only at hSw); go_simp) <;> (with_reducible rfl)
      try simp only [Act.put, List.getElem_toArray, List.getElem_cons_zero, List.getElem_cons_succ, List.setIfInBounds_toArray, List.set_cons_zero, List.set_cons_succ]
      refine wpAnyH_take (i := 4) (v := ?_) rfl (by kernel_rfl) (by kernel_rfl) (by kernel_rfl) (fun _ _ _ h => h) (Or.inl ⟨by rfl, ?_⟩) (by assumption) ?_
      rotate_left 1
      · (intro w hSw; (try dsimp only at hSw); go_simp) <;> (with_reducible rfl)
      try simp only [Act.put, List.getElem_toArray, List.getElem_cons_zero, List.getElem_cons_succ, List.setIfInBounds_toArray, List.set_cons_zero, List.set_cons_succ]
      refine wpAnyH_take (i := 5) (v := ?_) rfl (by kernel_rfl) (by kernel_rfl) (by kernel_rfl) (fun _ _ _ h => h) (Or.inl ⟨by rfl, ?_⟩) (by assumption) ?_
      rotate_left 1
      · (intro w hSw; (try dsimp only at hSw); go_simp) <;> (with_reducible rfl)
      try simp only [Act.put, List.getElem_toArray, List.getElem_cons_zero, List.getElem_cons_succ, List.setIfInBounds_toArray, List.set_cons_zero, List.set_cons_succ]
      refine wpAnyH_ready (rs := [6]) (by kernel_rfl) (by simp) ?_
      refine AllReadyH.cons rfl (fun K hK => ?_) AllReadyH.nil
      go_simp; (go_at_call 27; refine (place_any _ _ _ _ _ _ _ _ _ _ _ hn).mono ?_; rintro e w' ⟨rfl, hb⟩; rw [hu]); go_wp2_with fail
      refine hK.out _ _ ?_ (fun hHeld => ?_)
      · exact PB.call (by assumption) (by assumption)
      clear hK K
      try simp only [Act.put, List.getElem_toArray, List.getElem_cons_zero, List.getElem_cons_succ, List.setIfInBounds_toArray, List.set_cons_zero, List.set_cons_succ]
      refine wpAnyH_take (i := 7) (v := ?_) rfl (by kernel_rfl) (by kernel_rfl) (by kernel_rfl) (fun _ _ _ h => h) (Or.inl ⟨by rfl, ?_⟩) (by assumption) ?_
      rotate_left 1
      · (intro w hSw; (try dsimp only at hSw); go_simp) <;> (with_reducible rfl)
      try simp only [Act.put, List.getElem_toArray, List.getElem_cons_zero, List.getElem_cons_succ, List.setIfInBounds_toArray, List.set_cons_zero, List.set_cons_succ]
      refine wpAnyH_take (i := 8) (v := ?_) rfl (by kernel_rfl) (by kernel_rfl) (by kernel_rfl) (fun _ _ _ h => h) (Or.inl ⟨by rfl, ?_⟩) (by assumption) ?_
      rotate_left 1
      · (intro w hSw; (try dsimp only at hSw); go_simp) <;> (with_reducible rfl)
      try simp only [Act.put, List.getElem_toArray, List.getElem_cons_zero, List.getElem_cons_succ, List.setIfInBounds_toArray, List.set_cons_zero, List.set_cons_succ]
      refine wpAnyH_take (i := 9) (v := undef) rfl (by kernel_rfl) (by kernel_rfl) (by kernel_rfl) (fun _ _ _ h => h) (Or.inr ⟨by rfl, rfl⟩) (by assumption) ?_
      try simp only [Act.put, List.getElem_toArray, List.getElem_cons_zero, List.getElem_cons_succ, List.setIfInBounds_toArray, List.set_cons_zero, List.set_cons_succ]
      refine wpAnyH_take (i := 10) (v := undef) rfl (by kernel_rfl) (by kernel_rfl) (by kernel_rfl) (fun _ _ _ h => h) (Or.inr ⟨by rfl, rfl⟩) (by assumption) ?_
      try simp only [Act.put, List.getElem_toArray, List.getElem_cons_zero, List.getElem_cons_succ, List.setIfInBounds_toArray, List.set_cons_zero, List.set_cons_succ]
      refine wpAnyH_take (i := 11) (v := undef) rfl (by kernel_rfl) (by kernel_rfl) (by kernel_rfl) (fun _ _ _ h => h) (Or.inr ⟨by rfl, rfl⟩) (by assumption) ?_
      try simp only [Act.put, List.getElem_toArray, List.getElem_cons_zero, List.getElem_cons_succ, List.setIfInBounds_toArray, List.set_cons_zero, List.set_cons_succ]
      refine wpAnyH_take (i := 12) (v := undef) rfl (by kernel_rfl) (by kernel_rfl) (by kernel_rfl) (fun _ _ _ h => h) (Or.inr ⟨by rfl, rfl⟩) (by assumption) ?_
      try simp only [Act.put, List.getElem_toArray, List.getElem_cons_zero, List.getElem_cons_succ, List.setIfInBounds_toArray, List.set_cons_zero, List.set_cons_succ]
      refine wpAnyH_take (i := 13) (v := undef) rfl (by kernel_rfl) (by kernel_rfl) (by kernel_rfl) (fun _ _ _ h => h) (Or.inr ⟨by rfl, rfl⟩) (by assumption) ?_
      try simp only [Act.put, List.getElem_toArray, List.getElem_cons_zero, List.getElem_cons_succ, List.setIfInBounds_toArray, List.set_cons_zero, List.set_cons_succ]
      refine wpAnyH_take (i := 14) (v := undef) rfl (by kernel_rfl) (by kernel_rfl) (by kernel_rfl) (fun _ _ _ h => h) (Or.inr ⟨by rfl, rfl⟩) (by assumption) ?_
      try simp only [Act.put, List.getElem_toArray, List.getElem_cons_zero, List.getElem_cons_succ, List.setIfInBounds_toArray, List.set_cons_zero, List.set_cons_succ]
      refine wpAnyH_take (i := 15) (v := undef) rfl (by kernel_rfl) (by kernel_rfl) (by kernel_rfl) (fun _ _ _ h => h) (Or.inr ⟨by rfl, rfl⟩) (by assumption) ?_
      try simp only [Act.put, List.getElem_toArray, List.getElem_cons_zero, List.getElem_cons_succ, List.setIfInBounds_toArray, List.set_cons_zero, List.set_cons_succ]
      refine wpAnyH_take (i := 16) (v := undef) rfl (by kernel_rfl) (by kernel_rfl) (by kernel_rfl) (fun _ _ _ h => h) (Or.inr ⟨by rfl, rfl⟩) (by assumption) ?_
      try simp only [Act.put, List.getElem_toArray, List.getElem_cons_zero, List.getElem_cons_succ, List.setIfInBounds_toArray, List.set_cons_zero, List.set_cons_succ]
      refine wpAnyH_take (i := 17) (v := undef) rfl (by kernel_rfl) (by kernel_rfl) (by kernel_rfl) (fun _ _ _ h => h) (Or.inr ⟨by rfl, rfl⟩) (by assumption) ?_
      try simp only [Act.put, List.getElem_toArray, List.getElem_cons_zero, List.getElem_cons_succ, List.setIfInBounds_toArray, List.set_cons_zero, List.set_cons_succ]
      refine wpAnyH_take (i := 18) (v := undef) rfl (by kernel_rfl) (by kernel_rfl) (by kernel_rfl) (fun _ _ _ h => h) (Or.inr ⟨by rfl, rfl⟩) (by assumption) ?_
      try simp only [Act.put, List.getElem_toArray, List.getElem_cons_zero, List.getElem_cons_succ, List.setIfInBounds_toArray, List.set_cons_zero, List.set_cons_succ]
      refine wpAnyH_ready (rs := [19]) (by kernel_rfl) (by simp) ?_
      refine AllReadyH.cons rfl (fun K hK => ?_) AllReadyH.nil
      go_simp
      refine hK.out _ _ ?_ (fun hHeld => ?_)
      · assumption
      clear hK K
      try simp only [Act.put, List.getElem_toArray, List.getElem_cons_zero, List.getElem_cons_succ, List.setIfInBounds_toArray, List.set_cons_zero, List.set_cons_succ]
      refine wpAnyH_take (i := 20) (v := ?_) rfl (by kernel_rfl) (by kernel_rfl) (by kernel_rfl) (fun _ _ _ h => h) (Or.inl ⟨by rfl, ?_⟩) (by assumption) ?_
      rotate_left 1
      · (intro w hSw; (try dsimp only at hSw); go_simp) <;> (with_reducible rfl)
      try simp only [Act.put, List.getElem_toArray, List.getElem_cons_zero, List.getElem_cons_succ, List.setIfInBounds_toArray, List.set_cons_zero, List.set_cons_succ]
      refine wpAnyH_take (i := 21) (v := ?_) rfl (by kernel_rfl) (by kernel_rfl) (by kernel_rfl) (fun _ _ _ h => h) (Or.inl ⟨by rfl, ?_⟩) (by assumption) ?_
      rotate_left 1
      · (intro w hSw; (try dsimp only at hSw); go_simp) <;> (with_reducible rfl)
      try simp only [Act.put, List.getElem_toArray, List.getElem_cons_zero, List.getElem_cons_succ, List.setIfInBounds_toArray, List.set_cons_zero, List.set_cons_succ]
      refine wpAnyH_done (by kernel_rfl) ?_ _
      go_wp2_with fail
      go_ret
      have hS : PB w (.slice a0 n0 c0) (.slice a1 n1 c1) (.slice a2 n2 c2) w' := by assumption
      exact ⟨by rw [hr]; rfl, hS.2.2⟩
    · have hr : seesB n0 L C v u = belowB (L u.toNat) (C u.toNat) (L v.toNat) (C v.toNat) := by simp [seesB, hv, hu]
      have hv1 : 0 ≤ v ∧ v < n0 := of_decide_eq_true hv
      have hu1 : 0 ≤ u ∧ u < n0 := of_decide_eq_true hu
      obtain ⟨i, rfl⟩ := Int.eq_ofNat_of_zero_le hv1.1
      obtain ⟨j, rfl⟩ := Int.eq_ofNat_of_zero_le hu1.1
      rw [Int.toNat_natCast, Int.toNat_natCast] at hr
      have hi : i < n0 := by omega
      have hj : j < n0 := by omega
      rcases hp.2.2 with h0 | ⟨b, off, rfl, hlt, hrow⟩
      · omega
      have ei := hrow i hi
      have ej := hrow j hj
      have gi : (i : Int) < (n0 : Int) := by omega
      have gj : (j : Int) < (n0 : Int) := by omega
      have g0 : (0 : Int) ≤ (i : Int) := by omega
      have g1 : (0 : Int) ≤ (j : Int) := by omega
      clear hv1 hu1
      have HR := hide hr
      clear hr
      go_enter Try.func13, Try.ntmps13
      go_wp2_with fail
      have hst := PB.start w (.slice (some ⟨b, off, none⟩) n0 c0) (.slice a1 n1 c1) (.slice a2 n2 c2)
      generalize w.alloc (Obj.cells #[.slice (some ⟨b, off, none⟩) n0 c0, .slice a1 n1 c1, .slice a2 n2 c2] 34) = W0 at *
      have hst2 : SB w (.slice (some ⟨b, off, none⟩) n0 c0) (.slice a1 n1 c1) (.slice a2 n2 c2) b off i j (L i) (C i) (L j) (C j) W0 := SB.start hst hlt ei ej
      have hst' := hst2
      unfold SB PB at hst'
      go_region_held3 (fun w' => ((w'.cell? ⟨b, off + i * 2, none⟩ = some (.int .i64 (L i)) ∧ w'.cell? ⟨b, off + i * 2 + 1, none⟩ = some (.int .u32 (C i)) ∧ w'.cell? ⟨b, off + j * 2, none⟩ = some (.int .i64 (L j)) ∧ w'.cell? ⟨b, off + j * 2 + 1, none⟩ = some (.int .u32 (C j))) ∧ b < w.heap.size) ∧ ((w'.cell? ⟨w.heap.size, 0, none⟩ = some (.slice (some ⟨b, off, none⟩) n0 c0) ∧ w'.cell? ⟨w.heap.size, 1, none⟩ = some (.slice a1 n1 c1) ∧ w'.cell? ⟨w.heap.size, 2, none⟩ = some (.slice a2 n2 c2)) ∧ w.heap.size < w'.heap.size ∧ Below w.heap.size w w'))
        (first | exact SB.drew (by assumption) | exact SB.call (by assumption) (by assumption))
        (first
          | (go_at_call 27; refine (place_any _ _ _ _ _ _ _ _ _ _ _ hn).mono ?_; rintro e w' ⟨rfl, hb⟩; first | rw [hv] | rw [hu])
          | (go_at_call 26; refine (below_any _ _ _ _ _).mono ?_; rintro e w' ⟨rfl, hb⟩))
      all_goals go_wp2
      all_goals go_ret
      all_goals
        have hS : SB w (.slice (some ⟨b, off, none⟩) n0 c0) (.slice a1 n1 c1) (.slice a2 n2 c2) b off i j (L i) (C i) (L j) (C j) w' := by assumption
        exact ⟨by rw [unhide HR]; rfl, hS.2.2.2⟩
end Go.Proofs.Ytbahnkomdndmkab
