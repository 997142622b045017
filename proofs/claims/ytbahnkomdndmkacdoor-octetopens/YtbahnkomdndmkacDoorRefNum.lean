/- The document's own number. -/
import Derived.Test.YtbahnkomdndmkacDoorAll
import Derived.Test.YtbahnkomdndmkacDoorText
namespace Go.Proofs.YtbahnkomdndmkacDoor
set_option linter.unusedVariables false
set_option linter.unusedSimpArgs false
open Go.ChangeShapes Go.WideShapes Go.ChangeAt Go.RowKit

theorem num_high (l : List Nat) (h8 : 8 ≤ l.length) (h256 : ∀ y ∈ l, y < 256) (y : Nat) (hy : l[0]? = some y) : 9223372036854775807 < numOf (l.take 8) ↔ 127 < y := by
  match l, h8 with
  | a0 :: a1 :: a2 :: a3 :: a4 :: a5 :: a6 :: a7 :: t, _ =>
    simp at hy
    subst hy
    have h0 := h256 a0 (by simp)
    have h1 := h256 a1 (by simp)
    have h2 := h256 a2 (by simp)
    have h3 := h256 a3 (by simp)
    have h4 := h256 a4 (by simp)
    have h5 := h256 a5 (by simp)
    have h6 := h256 a6 (by simp)
    have h7 := h256 a7 (by simp)
    simp [numOf]
    omega

def refNum (l : List Nat) : Nat × Int :=
  if l.length < 8 then (0, 2) else if 9223372036854775807 < numOf (l.take 8) then (0, 5) else (numOf (l.take 8), 0)

set_option maxHeartbeats 2000000 in
theorem refnum_any (v : Value) (l : List Nat) (w : World) (hv : Byt w v l) (hl : l.length ≤ 1000000000) (h256 : ∀ y ∈ l, y < 256) :
    Calls Tryd.prog 46 #[v] w fun e w' => e = .returned (.tuple #[.int .i64 ((refNum l).1 : Int), .int .i64 (refNum l).2]) ∧ w = w' := by
  by_cases h8 : l.length < 8
  · obtain ⟨a, cap, rfl⟩ := byt_shape hv
    have e1 : refNum l = (0, 2) := by simp [refNum, h8]
    rw [e1]
    generalize l.length = n at *
    have g1 : (n : Int) < 8 := by omega
    clear hv h256 e1
    go_enter Tryd.func46, Tryd.ntmps46
    go_wp2_with fail
    go_ret2
    exact ⟨rfl, rfl⟩
  rcases hv with ⟨_, rfl⟩ | ⟨a, cap, rfl, c1, c2, c3⟩
  · simp at h8
  obtain ⟨b, off, rfl⟩ := plain_of c3 (by omega)
  obtain ⟨y0, hy0⟩ : ∃ y, l[0]? = some y := ⟨_, List.getElem?_eq_getElem (by omega)⟩
  have hcell0 := c3 0 y0 hy0
  rw [add_plain, Nat.add_zero] at hcell0
  have hh := num_high l (by omega) h256 y0 hy0
  obtain ⟨n, hn⟩ : ∃ n, l.length = n := ⟨_, rfl⟩
  rw [hn] at h8 hl c1 ⊢
  have g1 : ¬ (n : Int) < 8 := by omega
  have g1' : (8 : Int) ≤ (n : Int) := by omega
  have HN := hide hn
  have HC := hide c3
  have H256 := hide h256
  clear c3 h256 hy0 hn
  by_cases hb : 127 < y0
  · have e1 : refNum l = (0, 5) := by
      unfold refNum
      rw [if_neg (by rw [unhide HN]; omega), if_pos (hh.2 hb)]
    rw [e1]
    have g2 : (127 : Int) < (y0 : Int) := by omega
    have g3 : (0 : Int) < (n : Int) := by omega
    clear hh e1
    go_enter Tryd.func46, Tryd.ntmps46
    go_wp2_with fail
    go_ret2
    exact ⟨rfl, rfl⟩
  · have hle : numOf (l.take 8) ≤ 9223372036854775807 := by
      have := mt hh.1 hb
      omega
    have e1 : refNum l = (numOf (l.take 8), 0) := by
      unfold refNum
      rw [if_neg (by rw [unhide HN]; omega), if_neg (by omega)]
    rw [e1]
    have g2 : ¬ (127 : Int) < (y0 : Int) := by omega
    have g3 : (0 : Int) < (n : Int) := by omega
    have HLE := hide hle
    clear hh e1 hle
    go_enter Tryd.func46, Tryd.ntmps46
    go_wp2_with fail
    go_loop [4, 13] (fun c i => ∃ j : Nat, j ≤ 8 ∧ i = .int .i64 j ∧ c = .int .i64 ((numOf (l.take j) : Nat) : Int)) (fun _ i => 8 - (intOf i).toNat)
    case atStart => exact ⟨0, by omega, rfl, rfl⟩
    case round =>
      obtain ⟨j, hj, rfl, rfl⟩ := hrel
      by_cases hlt : j < 8
      · have hlt1 : numOf (l.take (j + 1)) ≤ 9223372036854775807 := by
          by_cases h7 : j = 7
          · subst h7; exact unhide HLE
          · have q := numOf_lt (l.take (j + 1)) (fun y hy => unhide H256 y (List.mem_of_mem_take hy))
            have : 256 ^ (l.take (j + 1)).length ≤ 256 ^ 7 := Nat.pow_le_pow_right (by decide) (by rw [List.length_take]; omega)
            have e : (256 : Nat) ^ 7 = 72057594037927936 := by decide
            omega
        obtain ⟨y, hy⟩ : ∃ y, l[j]? = some y := ⟨_, List.getElem?_eq_getElem (by rw [unhide HN]; omega)⟩
        have hcell := unhide HC j y hy
        rw [add_plain] at hcell
        have hy256 := unhide H256 y (List.mem_of_getElem? hy)
        have hnx := numOf_take hy
        have HNX := hide hnx
        rw [hnx] at hlt1
        clear hnx hy hcell0
        generalize numOf (l.take j) = c at *
        have i1 : (0 : Int) ≤ (j : Int) := by omega
        have i2 : (j : Int) < 8 := by omega
        have i3 : (j : Int) < (n : Int) := by omega
        go_wp2_with fail
        go_round
        case rel => exact ⟨j + 1, by omega, by go_num, by rw [unhide HNX]; go_num⟩
        case measure => simp [intOf]; omega
      · have hj8 : j = 8 := by omega
        subst hj8
        go_wp2_with fail
        go_ret2
        exact ⟨rfl, rfl⟩
end Go.Proofs.YtbahnkomdndmkacDoor
