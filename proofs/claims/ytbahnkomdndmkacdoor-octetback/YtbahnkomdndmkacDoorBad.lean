/- What can't be read. -/
import Derived.Test.YtbahnkomdndmkacDoorOpen
namespace Go.Proofs.YtbahnkomdndmkacDoor
set_option linter.unusedVariables false
set_option linter.unusedSimpArgs false
open Go.ChangeShapes Go.WideShapes Go.ChangeAt Go.RowKit

set_option maxHeartbeats 2000000 in
theorem within_range (g o : Nat) (a : Option Addr) (n cap : Nat) (l : List Nat) (k : Nat) (lo hi : Int) (w : World) (hv : Byt w (.slice a n cap) l) (hp : Pl w g o (.slice a n cap) k) (hg : Low (.slice a n cap) g) (hl : n ≤ 1000000000) (hk : k + 8 ≤ n) (h256 : ∀ y ∈ l, y < 256)
    (u : Nat) (hu : numOf ((l.drop k).take 8) = u) (hbad : 9223372036854775807 < u ∨ (u : Int) < lo ∨ hi < (u : Int)) :
    Calls Tryd.prog 47 #[.pointer (some ⟨g, o, none⟩), .int .i64 lo, .int .i64 hi] w fun e w' => e = .returned (.tuple #[.int .i64 0, .int .i64 5]) ∧ Below w.heap.size w w' := by
  have hF := hp.1
  have hgz := hp.2
  have hq := Pl.fresh (w := w) (v := .slice a n cap) (k := k)
  have hb0 : Below w.heap.size w (w.alloc (.cells #[.slice a n cap, .int .i64 (k : Int)] 63)) := (Below.refl _ _).alloc (Nat.le_refl _) _
  have hv1 := hv.call hb0
  have hg1 : Low (.slice a n cap) w.heap.size := hg.mono (Nat.le_of_lt hgz)
  have hln := byt_len hv
  have HLN := hide hln
  have HU := hide hu
  have H256 := hide h256
  have hk' : k + 8 ≤ l.length := by rw [hln]; exact hk
  have hl' : l.length ≤ 1000000000 := by rw [hln]; exact hl
  clear hu h256 hln
  go_enter Tryd.func47, Tryd.ntmps47
  go_wp2_with fail
  refine (take_any w.heap.size 0 (.slice a n cap) l k 8 _ hv1 hq hg1 hl' hk').mono ?_
  rintro e w1 ⟨v1, rfl, hv2, hq1, hm1, hg2⟩
  obtain ⟨bs, hbs⟩ : ∃ bs, (l.drop k).take 8 = bs := ⟨_, rfl⟩
  have hbl : bs.length = 8 := by rw [← hbs, List.length_take, List.length_drop]; omega
  have hb256 : ∀ y ∈ bs, y < 256 := fun y hy => unhide H256 y (List.mem_of_mem_drop (List.mem_of_mem_take (by rw [hbs]; exact hy)))
  rw [hbs] at hv2 HU
  rcases hv2 with ⟨_, h0⟩ | ⟨a2, cap2, rfl, c1, c2, c3⟩
  · rw [h0] at hbl; cases hbl
  rw [hbl] at c1 ⊢
  obtain ⟨b2, off2, rfl⟩ := plain_of c3 (by rw [hbl]; decide)
  have hbelow : Below (w.heap.size) w w1 := hb0.trans hm1.1
  have hpw1 : Pl w1 g o (.slice a n cap) k := hp.below (hbelow.mono hgz)
  have HBS := hide hbs
  have HBL := hide hbl
  have HB256 := hide hb256
  have HC3 := hide c3
  clear hbs hbl hb256 c3 hv1 hg1
  have hQF := hq1.1
  have hPF := hpw1.1
  go_wp2_with fail
  go_loop [11, 26] (fun c i => ∃ j : Nat, j ≤ 8 ∧ i = .int .i64 j ∧ c = .int .u64 ((numOf (bs.take j) : Nat) : Int)) (fun _ i => 8 - (intOf i).toNat)
  case atStart => exact ⟨0, by omega, rfl, rfl⟩
  case round =>
    obtain ⟨j, hj, rfl, rfl⟩ := hrel
    have hlt0 := numOf_lt (bs.take j) (fun y hy => unhide HB256 y (List.mem_of_mem_take hy))
    rw [List.length_take, unhide HBL] at hlt0
    by_cases hlt : j < 8
    · have hlt1 : numOf (bs.take j) < 72057594037927936 := by
        have : 256 ^ min j 8 ≤ 256 ^ 7 := Nat.pow_le_pow_right (by decide) (by omega)
        have e : (256 : Nat) ^ 7 = 72057594037927936 := by decide
        omega
      obtain ⟨y, hy⟩ : ∃ y, bs[j]? = some y := ⟨_, List.getElem?_eq_getElem (by rw [unhide HBL]; exact hlt)⟩
      have hcell := unhide HC3 j y hy
      rw [add_plain] at hcell
      have hy256 := unhide HB256 y (List.mem_of_getElem? hy)
      have hnx := numOf_take hy
      clear hlt0
      generalize numOf (bs.take j) = c at *
      have hj1 := or_join c y hlt1 hy256
      have HNX := hide hnx
      clear hnx hy
      have g1 : (0 : Int) ≤ (j : Int) := by omega
      have g2 : (j : Int) < 8 := by omega
      go_wp2_with fail
      go_round
      case rel => exact ⟨j + 1, by omega, by go_num, by rw [unhide HNX]; go_num⟩
      case measure => simp [intOf]; omega
    · have hj8 : j = 8 := by omega
      subst hj8
      have e1 : bs.take 8 = bs := List.take_of_length_le (by rw [unhide HBL]; omega)
      rw [e1, unhide HU]
      clear hlt0 e1
      by_cases b1 : 9223372036854775807 < u
      · have t1 : decide ((9223372036854775807 : Int) < (u : Int)) = true := by simp; omega
        go_wp2_with fail
        go_ret2
        exact ⟨rfl, hbelow⟩
      · have t1 : decide ((9223372036854775807 : Int) < (u : Int)) = false := by simp; omega
        by_cases b2 : (u : Int) < lo
        · have t2 : decide ((u : Int) < lo) = true := by simp; omega
          go_wp2_with fail
          go_ret2
          exact ⟨rfl, hbelow⟩
        · have t2 : decide ((u : Int) < lo) = false := by simp; omega
          have t3 : decide (hi < (u : Int)) = true := by simp; omega
          go_wp2_with fail
          go_ret2
          exact ⟨rfl, hbelow⟩

set_option maxHeartbeats 1000000 in
theorem within_short (g o : Nat) (a : Option Addr) (n cap : Nat) (k : Nat) (lo hi : Int) (w : World) (hp : Pl w g o (.slice a n cap) k) (hl : n ≤ 1000000000) (hk : k ≤ n) (hs : n < k + 8) :
    Calls Tryd.prog 47 #[.pointer (some ⟨g, o, none⟩), .int .i64 lo, .int .i64 hi] w fun e w' => e = .returned (.tuple #[.int .i64 0, .int .i64 2]) ∧ Below w.heap.size w w' := by
  have hF := hp.1
  have hq := Pl.fresh (w := w) (v := .slice a n cap) (k := k)
  have hb0 : Below w.heap.size w (w.alloc (.cells #[.slice a n cap, .int .i64 (k : Int)] 63)) := (Below.refl _ _).alloc (Nat.le_refl _) _
  go_enter Tryd.func47, Tryd.ntmps47
  go_wp2_with fail
  refine (take_short w.heap.size 0 a n cap k 8 _ hq hk (by unfold maxLen; omega) (by omega)).mono ?_
  rintro e w1 ⟨rfl, d, rfl⟩
  go_wp2_with fail
  go_ret2
  exact ⟨rfl, hb0.trans (Joins.below_draws _ _ d)⟩

/-- why no bytes can be read -/
def BadBytes (l : List Nat) (k : Nat) (most e0 : Int) : Prop :=
  (l.length < k + 8 ∧ e0 = 2) ∨ (k + 8 ≤ l.length ∧ 9223372036854775807 < numOf ((l.drop k).take 8) ∧ e0 = 5) ∨
  (k + 8 ≤ l.length ∧ numOf ((l.drop k).take 8) ≤ 9223372036854775807 ∧ max most 0 < (numOf ((l.drop k).take 8) : Int) ∧ e0 = 4) ∨
  (k + 8 ≤ l.length ∧ numOf ((l.drop k).take 8) ≤ 9223372036854775807 ∧ (numOf ((l.drop k).take 8) : Int) ≤ max most 0 ∧ l.length < k + 8 + numOf ((l.drop k).take 8) ∧ e0 = 2)

set_option maxHeartbeats 2000000 in
theorem bytes_bad (g o : Nat) (a : Option Addr) (n cap : Nat) (l : List Nat) (k : Nat) (most e0 : Int) (w : World) (hv : Byt w (.slice a n cap) l) (hp : Pl w g o (.slice a n cap) k) (hg : Low (.slice a n cap) g) (hl : n ≤ 1000000000) (hkn : k ≤ n) (h256 : ∀ y ∈ l, y < 256)
    (hbad : BadBytes l k most e0) :
    Calls Tryd.prog 48 #[.pointer (some ⟨g, o, none⟩), .int .i64 most] w fun e w' => e = .returned (.tuple #[.slice none 0 0, .int .i64 e0]) ∧ Below w.heap.size w w' := by
  have hF := hp.1
  have hgz := hp.2
  have hq := Pl.fresh (w := w) (v := .slice a n cap) (k := k)
  have hb0 : Below w.heap.size w (w.alloc (.cells #[.slice a n cap, .int .i64 (k : Int)] 63)) := (Below.refl _ _).alloc (Nat.le_refl _) _
  have hv1 := hv.call hb0
  have hg1 : Low (.slice a n cap) w.heap.size := hg.mono (Nat.le_of_lt hgz)
  have hln := byt_len hv
  obtain ⟨m, hm⟩ : ∃ m, numOf ((l.drop k).take 8) = m := ⟨_, rfl⟩
  unfold BadBytes at hbad
  rw [hm, hln] at hbad
  have HM := hide hm
  have H256 := hide h256
  clear hm h256 hln
  rcases hbad with ⟨h1, rfl⟩ | ⟨h1, h2, rfl⟩ | ⟨h1, h2, h3, rfl⟩ | ⟨h1, h2, h3, h4, rfl⟩
  · go_enter Tryd.func48, Tryd.ntmps48
    go_wp2_with fail
    refine (within_short w.heap.size 0 a n cap k 0 9223372036854775807 _ hq hl hkn h1).mono ?_
    rintro e w1 ⟨rfl, hb1⟩
    go_wp2_with fail
    go_ret2
    exact ⟨rfl, hb0.trans (hb1.mono hb0.size)⟩
  · go_enter Tryd.func48, Tryd.ntmps48
    go_wp2_with fail
    refine (within_range w.heap.size 0 a n cap l k 0 9223372036854775807 _ hv1 hq hg1 hl h1 (unhide H256) m (unhide HM) (.inl h2)).mono ?_
    rintro e w1 ⟨rfl, hb1⟩
    go_wp2_with fail
    go_ret2
    exact ⟨rfl, hb0.trans (hb1.mono hb0.size)⟩
  · go_enter Tryd.func48, Tryd.ntmps48
    go_wp2_with fail
    refine (within_any w.heap.size 0 a n cap l k 0 9223372036854775807 _ hv1 hq hg1 hl h1 (unhide H256) m (unhide HM) ⟨by omega, by omega⟩ h2).mono ?_
    rintro e w1 ⟨rfl, hq1, hm1⟩
    have t1 : decide (max most 0 < (m : Int)) = true := by simp; omega
    have hB : Below w.heap.size w w1 := hb0.trans hm1.1
    go_wp2_with fail
    all_goals go_ret2
    all_goals exact ⟨rfl, hB⟩
  · go_enter Tryd.func48, Tryd.ntmps48
    go_wp2_with fail
    refine (within_any w.heap.size 0 a n cap l k 0 9223372036854775807 _ hv1 hq hg1 hl h1 (unhide H256) m (unhide HM) ⟨by omega, by omega⟩ h2).mono ?_
    rintro e w1 ⟨rfl, hq1, hm1⟩
    have t1 : decide (max most 0 < (m : Int)) = false := by simp; omega
    have hB : Below w.heap.size w w1 := hb0.trans hm1.1
    go_wp2_with fail
    all_goals (
      refine (take_short w.heap.size 0 a n cap (k + 8) (m : Int) _ hq1 h1 (by unfold maxLen; omega) (by omega)).mono ?_
      rintro e w2 ⟨rfl, d, rfl⟩
      go_wp2_with fail
      go_ret2
      exact ⟨rfl, hB.trans (Joins.below_draws _ _ d)⟩)
end Go.Proofs.YtbahnkomdndmkacDoor
