/- What reads. -/
import Derived.Test.YtbahnkomdndmkacDoorOpen
namespace Go.Proofs.YtbahnkomdndmkacDoor
set_option linter.unusedVariables false
set_option linter.unusedSimpArgs false
open Go.ChangeShapes Go.WideShapes Go.ChangeAt Go.RowKit

/-- a reader in block g -/
def Rdr (w : World) (g : Nat) (v : Value) (k : Nat) (e : Int) : Prop :=
  Pl w g 0 v k ∧ w.cell? ⟨g, 2, none⟩ = some (.bool true) ∧ w.cell? ⟨g, 3, none⟩ = some (.int .i64 e) ∧ w.frozen? ⟨g, 2, none⟩ = false ∧ w.frozen? ⟨g, 3, none⟩ = false
theorem Rdr.below {w w' : World} {g k : Nat} {v : Value} {e : Int} (h : Rdr w g v k e) (hb : Below (g + 1) w w') : Rdr w' g v k e := by
  obtain ⟨h0, h1, h2, h3, h4⟩ := h
  refine ⟨h0.below hb, cell_keep hb (Nat.lt_succ_self _) h1, cell_keep hb (Nat.lt_succ_self _) h2, ?_, ?_⟩
  · rw [hb.frozen (p := ⟨g, 2, none⟩) (Nat.lt_succ_self _)]; exact h3
  · rw [hb.frozen (p := ⟨g, 3, none⟩) (Nat.lt_succ_self _)]; exact h4
theorem Rdr.moved {w w' : World} {g k k' : Nat} {v : Value} {e : Int} (h : Rdr w g v k e) (hp : Pl w' g 0 v k') (hm : Moved w w' g 0) : Rdr w' g v k' e := by
  obtain ⟨h0, h1, h2, h3, h4⟩ := h
  refine ⟨hp, ?_, ?_, ?_, ?_⟩
  · rw [hm.2.1 2 (by decide) (by decide)]; exact h1
  · rw [hm.2.1 3 (by decide) (by decide)]; exact h2
  · rw [hm.2.2.1 2]; exact h3
  · rw [hm.2.2.1 3]; exact h4
theorem Rdr.err {w : World} {g k : Nat} {v : Value} {e : Int} (h : Rdr w g v k e) (e' : Int) : Rdr (w.setCell ⟨g, 3, none⟩ (.int .i64 e')) g v k e' := by
  obtain ⟨⟨⟨p0, p1, p2, p3⟩, ps⟩, h1, h2, h3, h4⟩ := h
  refine ⟨⟨⟨?_, ?_, ?_, ?_⟩, ?_⟩, ?_, ?_, ?_, ?_⟩
  · rw [set_other _ (by decide)]; exact p0
  · rw [set_other _ (by decide)]; exact p1
  · simpa using p2
  · simpa using p3
  · simpa using ps
  · rw [set_other _ (by decide)]; exact h1
  · exact set_same _ h2
  · simpa using h3
  · simpa using h4
theorem Rdr.fresh {w : World} {v : Value} : Rdr (w.alloc (.cells #[v, .int .i64 0, .bool true, .int .i64 0] 65)) w.heap.size v 0 0 := by
  refine ⟨⟨⟨?_, ?_, ?_, ?_⟩, ?_⟩, ?_, ?_, ?_, ?_⟩
  all_goals (simp [go_sem]; done)
theorem byt_shape {w : World} {v : Value} {l : List Nat} (h : Byt w v l) : ∃ a cap, v = .slice a l.length cap := by
  rcases h with ⟨rfl, rfl⟩ | ⟨a, cap, rfl, _⟩
  · exact ⟨none, 0, rfl⟩
  · exact ⟨some a, cap, rfl⟩
theorem byt_low {w : World} {v : Value} {l : List Nat} (h : Byt w v l) : Low v w.heap.size := by
  rcases h with ⟨rfl, rfl⟩ | ⟨a, cap, rfl, h1, h2, h3⟩
  · intro a n cap e; cases e
  · intro a' n' cap' e hpos
    injection e with e1 e2 _
    injection e1 with e1
    subst e1 e2
    have := lt_of_cell (h3 0 _ (List.getElem?_eq_getElem hpos))
    obtain ⟨b, off, s⟩ := a
    simp only [Addr.add] at this
    split at this <;> exact this

set_option maxHeartbeats 1000000 in
theorem read_any (v : Value) (l : List Nat) (w : World) (hv : Byt w v l) (hl : l.length ≤ 1000000000) :
    Calls Tryd.prog 19 #[v] w fun e w' => ∃ v' g, e = .returned (.pointer (some ⟨g, 0, none⟩)) ∧ w.heap.size ≤ g ∧ Rdr w' g v' 0 0 ∧ Byt w' v' l ∧ Low v' g ∧ Below w.heap.size w w' := by
  go_enter Tryd.func19, Tryd.ntmps19
  go_wp2_with fail
  refine (clone_any v l _ hv hl).mono ?_
  rintro e w1 ⟨v1, rfl, ho1, hb1⟩
  have hB := Byt.of_own ho1
  have hlow := byt_low hB
  obtain ⟨a1, cap1, rfl⟩ := byt_shape hB
  go_wp2_with fail
  go_ret
  have hb2 : Below w1.heap.size w1 (w1.alloc (.cells #[.slice a1 l.length cap1, .int .i64 0, .bool true, .int .i64 0] 65)) := (Below.refl _ _).alloc (Nat.le_refl _) _
  exact ⟨_, w1.heap.size, rfl, hb1.size, Rdr.fresh, hB.call hb2, hlow, hb1.trans (hb2.mono hb1.size)⟩

set_option maxHeartbeats 400000 in
theorem made_any (g : Nat) (v : Value) (k : Nat) (e0 : Int) (w : World) (hr : Rdr w g v k e0) :
    Calls Tryd.prog 51 #[.pointer (some ⟨g, 0, none⟩)] w fun e w' => e = .returned (.bool true) ∧ w = w' := by
  have h2 := hr.2
  go_enter Tryd.func51, Tryd.ntmps51
  go_wp2
  go_ret
  exact ⟨rfl, rfl⟩

set_option maxHeartbeats 400000 in
theorem err_any (g : Nat) (v : Value) (k : Nat) (e0 : Int) (w : World) (hr : Rdr w g v k e0) :
    Calls Tryd.prog 30 #[.pointer (some ⟨g, 0, none⟩)] w fun e w' => e = .returned (.int .i64 e0) ∧ w = w' := by
  have h2 := hr.2
  go_enter Tryd.func30, Tryd.ntmps30
  go_wp2_with (go_at_call 51; refine (made_any g v k e0 _ hr).mono ?_; rintro e w' ⟨rfl, rfl⟩)
  go_ret
  exact ⟨rfl, rfl⟩

set_option maxHeartbeats 1000000 in
theorem Within_any (g : Nat) (a : Option Addr) (n cap : Nat) (l : List Nat) (k : Nat) (lo hi : Int) (w : World) (hv : Byt w (.slice a n cap) l) (hr : Rdr w g (.slice a n cap) k 0) (hg : Low (.slice a n cap) g) (hl : n ≤ 1000000000) (hk : k + 8 ≤ n) (h256 : ∀ y ∈ l, y < 256)
    (u : Nat) (hu : numOf ((l.drop k).take 8) = u) (hin : lo ≤ (u : Int) ∧ (u : Int) ≤ hi) (hmax : u ≤ 9223372036854775807) :
    Calls Tryd.prog 22 #[.pointer (some ⟨g, 0, none⟩), .int .i64 lo, .int .i64 hi] w fun e w' => e = .returned (.int .i64 (u : Int)) ∧ Rdr w' g (.slice a n cap) (k + 8) 0 ∧ Below g w w' := by
  have HU := hide hu
  have H256 := hide h256
  clear hu h256
  go_enter Tryd.func22, Tryd.ntmps22
  go_wp2_with fail
  refine (err_any g _ k 0 _ hr).mono ?_
  rintro e w0 ⟨rfl, rfl⟩
  go_wp2_with fail
  refine (within_any g 0 a n cap l k lo hi _ hv hr.1 hg hl hk (unhide H256) u (unhide HU) hin hmax).mono ?_
  rintro e w1 ⟨rfl, hp1, hm1⟩
  have hr1 := hr.moved hp1 hm1
  have hc := hr1.2
  go_wp2_with fail
  go_ret
  refine ⟨rfl, hr1.err 0, hm1.1.setCell (Nat.le_refl g) _⟩

set_option maxHeartbeats 1000000 in
theorem Number_any (g : Nat) (a : Option Addr) (n cap : Nat) (l : List Nat) (k : Nat) (w : World) (hv : Byt w (.slice a n cap) l) (hr : Rdr w g (.slice a n cap) k 0) (hg : Low (.slice a n cap) g) (hl : n ≤ 1000000000) (hk : k + 8 ≤ n) (h256 : ∀ y ∈ l, y < 256)
    (u : Nat) (hu : numOf ((l.drop k).take 8) = u) (hmax : u ≤ 9223372036854775807) :
    Calls Tryd.prog 20 #[.pointer (some ⟨g, 0, none⟩)] w fun e w' => e = .returned (.int .i64 (u : Int)) ∧ Rdr w' g (.slice a n cap) (k + 8) 0 ∧ Below g w w' := by
  have HU := hide hu
  have H256 := hide h256
  clear hu h256
  go_enter Tryd.func20, Tryd.ntmps20
  go_wp2_with fail
  refine (Within_any g a n cap l k 0 9223372036854775807 _ hv hr hg hl hk (unhide H256) u (unhide HU) ⟨by omega, by omega⟩ hmax).mono ?_
  rintro e w0 ⟨rfl, h1, h2⟩
  go_wp2
  go_ret
  exact ⟨rfl, h1, h2⟩

set_option maxHeartbeats 1000000 in
theorem End_any (g : Nat) (a : Option Addr) (n cap : Nat) (w : World) (hr : Rdr w g (.slice a n cap) n 0) (hl : n ≤ 1000000000) :
    Calls Tryd.prog 31 #[.pointer (some ⟨g, 0, none⟩)] w fun e w' => e = .returned (.int .i64 0) ∧ ∃ d, w' = w.drewN d := by
  go_enter Tryd.func31, Tryd.ntmps31
  go_wp2_with fail
  refine (err_any g _ n 0 _ hr).mono ?_
  rintro e w0 ⟨rfl, rfl⟩
  go_wp2_with fail
  refine (left_any g 0 a n cap n _ hr.1 (Nat.le_refl _) (by unfold maxLen; omega)).mono ?_
  rintro e w' ⟨rfl, d, rfl⟩
  go_wp2
  go_ret
  exact ⟨rfl, d, rfl⟩
end Go.Proofs.YtbahnkomdndmkacDoor
