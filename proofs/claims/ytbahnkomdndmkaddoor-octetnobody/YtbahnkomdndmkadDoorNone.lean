/- Readers that no call made. -/
import Derived.Test.YtbahnkomdndmkadDoorAwake
namespace Go.Proofs.YtbahnkomdndmkadDoor
set_option linter.unusedVariables false
set_option linter.unusedSimpArgs false
open Go.ChangeShapes Go.WideShapes Go.ChangeAt Go.RowKit Go.Shelf

/-- no reader, or one that no call made -/
def NR (w : World) (p : Option Addr) : Prop := p = none ∨ ∃ g, p = some ⟨g, 0, none⟩ ∧ w.cell? ⟨g, 2, none⟩ = some (.bool false)

set_option maxHeartbeats 400000 in
theorem nmade (p : Option Addr) (w : World) (hp : NR w p) : Calls Tryd.prog 35 #[.pointer p] w fun e w' => e = .returned (.bool false) ∧ w = w' := by
  rcases hp with rfl | ⟨g, rfl, h2⟩
  · go_enter Tryd.func35, Tryd.ntmps35
    go_wp2
    go_ret
    exact ⟨rfl, rfl⟩
  · go_enter Tryd.func35, Tryd.ntmps35
    go_wp2
    go_ret
    exact ⟨rfl, rfl⟩
set_option maxHeartbeats 400000 in
theorem nerr (p : Option Addr) (w : World) (hp : NR w p) : Calls Tryd.prog 15 #[.pointer p] w fun e w' => e = .returned (.int .i64 6) ∧ w = w' := by
  go_enter Tryd.func15, Tryd.ntmps15
  go_wp2_with (go_at_call 35; refine (nmade p _ hp).mono ?_; rintro e w' ⟨rfl, rfl⟩)
  go_ret
  exact ⟨rfl, rfl⟩
set_option maxHeartbeats 400000 in
theorem nwithin (p : Option Addr) (lo hi : Int) (w : World) (hp : NR w p) : Calls Tryd.prog 21 #[.pointer p, .int .i64 lo, .int .i64 hi] w fun e w' => e = .returned (.int .i64 0) ∧ w = w' := by
  go_enter Tryd.func21, Tryd.ntmps21
  go_wp2_with (go_at_call 15; refine (nerr p _ hp).mono ?_; rintro e w' ⟨rfl, rfl⟩)
  go_ret
  exact ⟨rfl, rfl⟩
set_option maxHeartbeats 400000 in
theorem nnumber (p : Option Addr) (w : World) (hp : NR w p) : Calls Tryd.prog 20 #[.pointer p] w fun e w' => e = .returned (.int .i64 0) ∧ w = w' := by
  go_enter Tryd.func20, Tryd.ntmps20
  go_wp2_with (go_at_call 21; refine (nwithin p _ _ _ hp).mono ?_; rintro e w' ⟨rfl, rfl⟩)
  go_ret
  exact ⟨rfl, rfl⟩
set_option maxHeartbeats 400000 in
theorem nbytes (p : Option Addr) (m : Int) (w : World) (hp : NR w p) : Calls Tryd.prog 22 #[.pointer p, .int .i64 m] w fun e w' => e = .returned (.slice none 0 0) ∧ w = w' := by
  go_enter Tryd.func22, Tryd.ntmps22
  go_wp2_with (go_at_call 15; refine (nerr p _ hp).mono ?_; rintro e w' ⟨rfl, rfl⟩)
  go_ret
  exact ⟨rfl, rfl⟩
set_option maxHeartbeats 400000 in
theorem ntext (p : Option Addr) (m : Int) (w : World) (hp : NR w p) : Calls Tryd.prog 14 #[.pointer p, .int .i64 m] w fun e w' => e = .returned (.string ⟨#[]⟩) ∧ w = w' := by
  go_enter Tryd.func14, Tryd.ntmps14
  go_wp2_with (go_at_call 15; refine (nerr p _ hp).mono ?_; rintro e w' ⟨rfl, rfl⟩)
  go_ret
  exact ⟨rfl, rfl⟩
set_option maxHeartbeats 400000 in
theorem nleft (p : Option Addr) (w : World) (hp : NR w p) : Calls Tryd.prog 23 #[.pointer p] w fun e w' => e = .returned (.int .i64 0) ∧ w = w' := by
  go_enter Tryd.func23, Tryd.ntmps23
  go_wp2_with (go_at_call 35; refine (nmade p _ hp).mono ?_; rintro e w' ⟨rfl, rfl⟩)
  go_ret
  exact ⟨rfl, rfl⟩
set_option maxHeartbeats 400000 in
theorem nend (p : Option Addr) (w : World) (hp : NR w p) : Calls Tryd.prog 24 #[.pointer p] w fun e w' => e = .returned (.int .i64 6) ∧ w = w' := by
  go_enter Tryd.func24, Tryd.ntmps24
  go_wp2_with (go_at_call 15; refine (nerr p _ hp).mono ?_; rintro e w' ⟨rfl, rfl⟩)
  go_ret
  exact ⟨rfl, rfl⟩

set_option maxHeartbeats 4000000 in
theorem nobody_any (o lo hi : Int) (w : World) (hT : Tabs w) :
    Calls Tryd.prog 6 #[.agg #[.int .i64 o, .int .i64 lo, .int .i64 hi]] w fun e w' => e = .returned (.bool true) ∧ Below w.heap.size w w' := by
  go_enter Tryd.func6, Tryd.ntmps6
  go_wp2_with fail
  have hW : ∃ W3, W3 = ((w.alloc (.cells #[.int .i64 o, .int .i64 lo, .int .i64 hi] 44)).alloc (.cells #[.slice none 0 0, .int .i64 0, .bool false, .int .i64 0] 48)).alloc (.cells #[.pointer none, .pointer (some ⟨w.heap.size + 1, 0, none⟩)] 34) := ⟨_, rfl⟩
  obtain ⟨W3, hW3⟩ := hW
  have B : Below w.heap.size w W3 := by
    rw [hW3]
    exact (((Below.refl _ _).alloc (Nat.le_refl _) _).alloc (by simp) _).alloc (by simp; omega) _
  have c1 : W3.cell? ⟨w.heap.size, 1, none⟩ = some (.int .i64 lo) := by rw [hW3]; simp [go_sem]
  have c2 : W3.cell? ⟨w.heap.size, 2, none⟩ = some (.int .i64 hi) := by rw [hW3]; simp [go_sem]
  have n2 : W3.cell? ⟨w.heap.size + 1, 2, none⟩ = some (.bool false) := by rw [hW3]; simp [go_sem]
  have p0 : W3.cell? ⟨w.heap.size + 1 + 1, 0, none⟩ = some (.pointer none) := by rw [hW3]; simp [go_sem]
  have p1 : W3.cell? ⟨w.heap.size + 1 + 1, 1, none⟩ = some (.pointer (some ⟨w.heap.size + 1, 0, none⟩)) := by rw [hW3]; simp [go_sem]
  rw [← hW3]
  clear hW3
  have T3 := hide (hT.below B)
  have N0 : NR W3 none := .inl rfl
  have N1 : NR W3 (some ⟨w.heap.size + 1, 0, none⟩) := .inr ⟨_, rfl, n2⟩
  have H0 := hide N0
  have H1 := hide N1
  clear N0 N1 n2
  go_loop [12] (fun i => ∃ k : Nat, k ≤ 2 ∧ i = .int .i64 k) (fun i => 2 - (intOf i).toNat)
  case atStart => exact ⟨0, by omega, rfl⟩
  case round =>
    obtain ⟨k, hk, rfl⟩ := hrel
    by_cases hk2 : k = 2
    · subst hk2
      have B4 : Below W3.heap.size W3 (W3.alloc (.cells #[.slice none 0 0, .int .i64 0, .bool false, .int .i64 0] 48)) := (Below.refl _ _).alloc (Nat.le_refl _) _
      have N4 : NR (W3.alloc (.cells #[.slice none 0 0, .int .i64 0, .bool false, .int .i64 0] 48)) (some ⟨W3.heap.size, 0, none⟩) := .inr ⟨_, rfl, by simp [go_sem]⟩
      have T4 := (unhide T3).below B4
      have B5 := B.trans (B4.mono B.size)
      go_wp2_with (first
          | (go_at_call 23; refine (nleft _ _ N4).mono ?_; rintro e w' ⟨rfl, rfl⟩)
          | (go_at_call 15; refine (nerr _ _ N4).mono ?_; rintro e w' ⟨rfl, rfl⟩)
          | (go_at_call 24; refine (nend _ _ N4).mono ?_; rintro e w' ⟨rfl, rfl⟩)
          | (go_at_call 8; refine (awake_any _ T4).mono ?_; rintro e w5 ⟨rfl, b5⟩))
      go_ret
      exact ⟨rfl, B5.trans (b5.mono B5.size)⟩
    · by_cases hk1 : k = 1
      · subst hk1
        go_wp2_with (first
          | (go_at_call 20; refine (nnumber _ _ (unhide H1)).mono ?_; rintro e w' ⟨rfl, rfl⟩)
          | (go_at_call 21; refine (nwithin _ _ _ _ (unhide H1)).mono ?_; rintro e w' ⟨rfl, rfl⟩)
          | (go_at_call 22; refine (nbytes _ _ _ (unhide H1)).mono ?_; rintro e w' ⟨rfl, rfl⟩)
          | (go_at_call 14; refine (ntext _ _ _ (unhide H1)).mono ?_; rintro e w' ⟨rfl, rfl⟩))
        go_round
        case rel => exact ⟨2, by omega, rfl⟩
        case measure => simp [intOf]
      · obtain rfl : k = 0 := by omega
        go_wp2_with (first
          | (go_at_call 20; refine (nnumber _ _ (unhide H0)).mono ?_; rintro e w' ⟨rfl, rfl⟩)
          | (go_at_call 21; refine (nwithin _ _ _ _ (unhide H0)).mono ?_; rintro e w' ⟨rfl, rfl⟩)
          | (go_at_call 22; refine (nbytes _ _ _ (unhide H0)).mono ?_; rintro e w' ⟨rfl, rfl⟩)
          | (go_at_call 14; refine (ntext _ _ _ (unhide H0)).mono ?_; rintro e w' ⟨rfl, rfl⟩))
        go_round
        case rel => exact ⟨1, by omega, rfl⟩
        case measure => simp [intOf]
end Go.Proofs.YtbahnkomdndmkadDoor
