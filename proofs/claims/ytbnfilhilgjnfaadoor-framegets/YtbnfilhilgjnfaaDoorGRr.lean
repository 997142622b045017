/- The document's reader, whatever the bytes are: numbers. -/
import Derived.Test.YtbnfilhilgjnfaaDoorQB
import Derived.Test.YtbnfilhilgjnfaaDoorCOpen
import Derived.Test.YtbnfilhilgjnfaaDoorFAl5
import Derived.Deep.RegionHeld3
namespace Go.Proofs.YtbnfilhilgjnfaaDoor
set_option linter.unusedVariables false
set_option linter.unusedSimpArgs false
set_option maxRecDepth 100000
open Go.ChangeShapes Go.WideShapes Go.ChangeAt Go.RowKit Go.Joins

namespace Oc
theorem num_high (l : List Nat) (h8 : 8 ≤ l.length) (h256 : ∀ y ∈ l, y < 256) (y : Nat) (hy : l[0]? = some y) : 9223372036854775807 < numOf (l.take 8) ↔ 127 < y := by
  match l, h8 with
  | a0 :: a1 :: a2 :: a3 :: a4 :: a5 :: a6 :: a7 :: t, _ =>
    simp at hy
    subst hy
    have h0 := h256 a0 (by simp)
    have h1 := h256 a1 (by simp)
    have h2 := h256 a2 (by simp)
    have h3 := h256 a3 (by simp)
    have h4 := h256 a4 (by simp)
    have h5 := h256 a5 (by simp)
    have h6 := h256 a6 (by simp)
    have h7 := h256 a7 (by simp)
    simp [numOf]
    omega

def refNum (l : List Nat) : Nat × Int :=
  if l.length < 8 then (0, 2) else if 9223372036854775807 < numOf (l.take 8) then (0, 5) else (numOf (l.take 8), 0)

set_option maxRecDepth 100000 in
set_option maxHeartbeats 2000000 in
theorem refnum_any (v : Value) (l : List Nat) (w : World) (hv : Byt w v l) (hl : l.length ≤ 1000000000) (h256 : ∀ y ∈ l, y < 256) :
    Calls Tryd.prog 58 #[v] w fun e w' => e = .returned (.tuple #[.int .i64 ((refNum l).1 : Int), .int .i64 (refNum l).2]) ∧ w = w' := by
  by_cases h8 : l.length < 8
  · obtain ⟨a, cap, rfl⟩ := byt_shape hv
    have e1 : refNum l = (0, 2) := by simp [refNum, h8]
    rw [e1]
    generalize l.length = n at *
    have g1 : (n : Int) < 8 := by omega
    clear hv h256 e1
    go_enter Tryd.func58, Tryd.ntmps58
    go_wp2_with fail
    go_ret2
    exact ⟨rfl, rfl⟩
  rcases hv with ⟨_, rfl⟩ | ⟨a, cap, rfl, c1, c2, c3⟩
  · simp at h8
  obtain ⟨b, off, rfl⟩ := plain_of c3 (by omega)
  obtain ⟨y0, hy0⟩ : ∃ y, l[0]? = some y := ⟨_, List.getElem?_eq_getElem (by omega)⟩
  have hcell0 := c3 0 y0 hy0
  rw [add_plain, Nat.add_zero] at hcell0
  have hh := num_high l (by omega) h256 y0 hy0
  obtain ⟨n, hn⟩ : ∃ n, l.length = n := ⟨_, rfl⟩
  rw [hn] at h8 hl c1 ⊢
  have g1 : ¬ (n : Int) < 8 := by omega
  have g1' : (8 : Int) ≤ (n : Int) := by omega
  have HN := hide hn
  have HC := hide c3
  have H256 := hide h256
  clear c3 h256 hy0 hn
  by_cases hb : 127 < y0
  · have e1 : refNum l = (0, 5) := by
      unfold refNum
      rw [if_neg (by rw [unhide HN]; omega), if_pos (hh.2 hb)]
    rw [e1]
    have g2 : (127 : Int) < (y0 : Int) := by omega
    have g3 : (0 : Int) < (n : Int) := by omega
    clear hh e1
    go_enter Tryd.func58, Tryd.ntmps58
    go_wp2_with fail
    go_ret2
    exact ⟨rfl, rfl⟩
  · have hle : numOf (l.take 8) ≤ 9223372036854775807 := by
      have := mt hh.1 hb
      omega
    have e1 : refNum l = (numOf (l.take 8), 0) := by
      unfold refNum
      rw [if_neg (by rw [unhide HN]; omega), if_neg (by omega)]
    rw [e1]
    have g2 : ¬ (127 : Int) < (y0 : Int) := by omega
    have g3 : (0 : Int) < (n : Int) := by omega
    have HLE := hide hle
    clear hh e1 hle
    go_enter Tryd.func58, Tryd.ntmps58
    go_wp2_with fail
    go_loop [4, 13] (fun c i => ∃ j : Nat, j ≤ 8 ∧ i = .int .i64 j ∧ c = .int .i64 ((numOf (l.take j) : Nat) : Int)) (fun _ i => 8 - (intOf i).toNat)
    case atStart => exact ⟨0, by omega, rfl, rfl⟩
    case round =>
      obtain ⟨j, hj, rfl, rfl⟩ := hrel
      by_cases hlt : j < 8
      · have hlt1 : numOf (l.take (j + 1)) ≤ 9223372036854775807 := by
          by_cases h7 : j = 7
          · subst h7; exact unhide HLE
          · have q := numOf_lt (l.take (j + 1)) (fun y hy => unhide H256 y (List.mem_of_mem_take hy))
            have : 256 ^ (l.take (j + 1)).length ≤ 256 ^ 7 := Nat.pow_le_pow_right (by decide) (by rw [List.length_take]; omega)
            have e : (256 : Nat) ^ 7 = 72057594037927936 := by decide
            omega
        obtain ⟨y, hy⟩ : ∃ y, l[j]? = some y := ⟨_, List.getElem?_eq_getElem (by rw [unhide HN]; omega)⟩
        have hcell := unhide HC j y hy
        rw [add_plain] at hcell
        have hy256 := unhide H256 y (List.mem_of_getElem? hy)
        have hnx := numOf_take hy
        have HNX := hide hnx
        rw [hnx] at hlt1
        clear hnx hy hcell0
        generalize numOf (l.take j) = c at *
        have i1 : (0 : Int) ≤ (j : Int) := by omega
        have i2 : (j : Int) < 8 := by omega
        have i3 : (j : Int) < (n : Int) := by omega
        go_wp2_with fail
        go_round
        case rel => exact ⟨j + 1, by omega, by go_num, by rw [unhide HNX]; go_num⟩
        case measure => simp [intOf]; omega
      · have hj8 : j = 8 := by omega
        subst hj8
        go_wp2_with fail
        go_ret2
        exact ⟨rfl, rfl⟩


end Oc
/-- the document's reader in block g -/
def RRd (w : World) (g : Nat) (v : Value) (k : Nat) (e : Int) : Prop := RowAt w g 69 [v, .int .i64 (k : Int), .int .i64 e]
theorem numR_ref (l : List Nat) (k : Nat) (hk : k ≤ l.length) : Oc.numR l k 0 = (((Oc.refNum (l.drop k)).1 : Int), (if (Oc.refNum (l.drop k)).2 = 0 then k + 8 else k), (Oc.refNum (l.drop k)).2) := by
  by_cases h8 : l.length < k + 8
  · have r : Oc.refNum (l.drop k) = (0, 2) := by unfold Oc.refNum; rw [if_pos (by rw [List.length_drop]; omega)]
    have q : Oc.numR l k 0 = (0, k, 2) := by unfold Oc.numR Oc.winR; rw [if_neg (by simp), if_pos h8]
    rw [r, q]; rfl
  · by_cases h : 9223372036854775807 < Oc.numOf ((l.drop k).take 8)
    · have r : Oc.refNum (l.drop k) = (0, 5) := by unfold Oc.refNum; rw [if_neg (by rw [List.length_drop]; omega), if_pos h]
      have q : Oc.numR l k 0 = (0, k, 5) := by unfold Oc.numR Oc.winR; rw [if_neg (by simp), if_neg h8, if_pos (.inl h)]
      rw [r, q]; rfl
    · have r : Oc.refNum (l.drop k) = (Oc.numOf ((l.drop k).take 8), 0) := by unfold Oc.refNum; rw [if_neg (by rw [List.length_drop]; omega), if_neg h]
      have q : Oc.numR l k 0 = ((Oc.numOf ((l.drop k).take 8) : Int), k + 8, 0) := by unfold Oc.numR Oc.winR; rw [if_neg (by simp), if_neg h8, if_neg (by omega)]
      rw [r, q]; rfl
theorem refNum_bad (l : List Nat) (h : ¬ (Oc.refNum l).2 = 0) : (Oc.refNum l).1 = 0 := by
  unfold Oc.refNum at h ⊢
  split
  · rfl
  · split
    · rfl
    · rename_i h1 h2; rw [if_neg h1, if_neg h2] at h; exact absurd rfl h
def RnR (l : List Nat) (x : Int × Nat × Int) (w : World) (g : Nat) (v : Value) (r : Ending) (w' : World) : Prop := r = .returned (.int .i64 x.1) ∧ RRd w' g v x.2.1 x.2.2 ∧ Only (· = g) w w'
set_option maxHeartbeats 2000000 in
theorem rnum_tot (g : Nat) (a : Option Addr) (n cap : Nat) (l : List Nat) (k : Nat) (e : Int) (w : World) (hv : Byt w (.slice a n cap) l) (hr : RRd w g (.slice a n cap) k e) (hl : n ≤ 1000000000) (hk : k ≤ n) (h8 : U8 l) :
    Calls Tryd.prog 40 #[.pointer (some ⟨g, 0, none⟩)] w fun r w' => RnR l (Oc.numR l k e) w g (.slice a n cap) r w' := by
  have c0 : w.cell? ⟨g, 0, none⟩ = some (.slice a n cap) := RowAt.cell hr 0
  have c1 : w.cell? ⟨g, 1, none⟩ = some (.int .i64 (k : Int)) := RowAt.cell hr 1
  have c2 : w.cell? ⟨g, 2, none⟩ = some (.int .i64 e) := RowAt.cell hr 2
  have HR := hide hr
  by_cases he : e = 0
  · subst he
    have hcap := Oc.byt_cap (show Oc.Byt w (.slice a n cap) l from hv)
    rw [numR_ref l k (by omega)]
    cases a with
    | none =>
      obtain ⟨rfl, rfl, rfl⟩ : n = 0 ∧ cap = 0 ∧ l = [] := by
        rcases hv with ⟨h1, h2⟩ | ⟨a1, c1', h1, _⟩
        · injection h1 with _ h3 h4; exact ⟨h3, h4, h2⟩
        · cases h1
      obtain rfl : k = 0 := by omega
      have HN := hide (Oc.refnum_any (.slice none 0 0) [] w.drew (.inl ⟨rfl, rfl⟩) (by decide) (fun y hy => by cases hy))
      rw [show List.drop 0 ([] : List Nat) = [] from rfl]
      obtain ⟨x, hx⟩ : ∃ x, Oc.refNum [] = x := ⟨_, rfl⟩
      rw [hx] at HN ⊢
      obtain ⟨u, z⟩ := x
      have HU : Hid (¬ z = 0 → u = 0) := hide (fun h => by have q := refNum_bad _ (show ¬ (Oc.refNum []).2 = 0 by rw [hx]; exact h); rw [hx] at q; exact q)
      have S1 : Hid (RRd (w.drew.setCell ⟨g, 1, none⟩ (.int .i64 ((0 + 8 : Nat) : Int))) g (.slice none 0 0) (0 + 8) 0) := hide (RowAt.set (RowAt.drew hr) 1 (.int .i64 ((0 + 8 : Nat) : Int)))
      have S2 : Hid (RRd (w.drew.setCell ⟨g, 2, none⟩ (.int .i64 z)) g (.slice none 0 0) 0 z) := hide (RowAt.set (RowAt.drew hr) 2 (.int .i64 z))
      have z1 := RowAt.frozen hr 1
      have z2 := RowAt.frozen hr 2
      have k0 : (0 : Int) ≤ ((0 : Nat) : Int) := by omega
      have k4 : ((0 : Nat) : Int) + 8 ≤ 2000000000 := by omega
      clear hv hr h8 hx hcap
      by_cases hz : z = 0
      · subst hz
        rw [if_pos rfl]
        go_enter Tryd.func40, Tryd.ntmps40
        go_wp2_with fail
        go_region_held (fun w' => w'.cell? ⟨g, 0, none⟩ = some (.slice none 0 0) ∧ w'.cell? ⟨g, 1, none⟩ = some (.int .i64 ((0 : Nat) : Int)))
          (exact ⟨c0, c1⟩)
          (first
            | (go_at_call 58; refine Calls.mono (unhide HN) ?_; rintro e wx ⟨rfl, rfl⟩))
        go_wp2_with fail
        go_ret
        exact ⟨rfl, unhide S1, (Only.refl _ w).drew.set g 1 _ rfl⟩
      · rw [if_neg hz]
        have hzb : (z != 0) = true := by simp [hz]
        obtain rfl : u = 0 := unhide HU hz
        go_enter Tryd.func40, Tryd.ntmps40
        go_wp2_with fail
        go_region_held (fun w' => w'.cell? ⟨g, 0, none⟩ = some (.slice none 0 0) ∧ w'.cell? ⟨g, 1, none⟩ = some (.int .i64 ((0 : Nat) : Int)))
          (exact ⟨c0, c1⟩)
          (first
            | (go_at_call 58; refine Calls.mono (unhide HN) ?_; rintro e wx ⟨rfl, rfl⟩))
        go_wp2_with fail
        go_ret
        exact ⟨rfl, unhide S2, (Only.refl _ w).drew.set g 2 _ rfl⟩
    | some a =>
      by_cases hck : cap = k
      · skip
        subst hck
        obtain rfl : n = cap := by omega
        have hd : l.drop n = [] := List.drop_eq_nil_of_le (by omega)
        have HN := hide (Oc.refnum_any (.slice (some a) 0 0) [] w.drew (.inr ⟨a, 0, rfl, Nat.le_refl _, by decide, fun i y hy => by simp at hy⟩) (by decide) (fun y hy => by cases hy))
        rw [hd]
        obtain ⟨x, hx⟩ : ∃ x, Oc.refNum [] = x := ⟨_, rfl⟩
        rw [hx] at HN ⊢
        obtain ⟨u, z⟩ := x
        have HU : Hid (¬ z = 0 → u = 0) := hide (fun h => by have q := refNum_bad _ (show ¬ (Oc.refNum []).2 = 0 by rw [hx]; exact h); rw [hx] at q; exact q)
        have S1 : Hid (RRd (w.drew.setCell ⟨g, 1, none⟩ (.int .i64 ((n + 8 : Nat) : Int))) g (.slice (some a) n n) (n + 8) 0) := hide (RowAt.set (RowAt.drew hr) 1 (.int .i64 ((n + 8 : Nat) : Int)))
        have S2 : Hid (RRd (w.drew.setCell ⟨g, 2, none⟩ (.int .i64 z)) g (.slice (some a) n n) n z) := hide (RowAt.set (RowAt.drew hr) 2 (.int .i64 z))
        have z1 := RowAt.frozen hr 1
        have z2 := RowAt.frozen hr 2
        have k0 : (0 : Int) ≤ ((n : Nat) : Int) := by omega
        have k4 : ((n : Nat) : Int) + 8 ≤ 2000000000 := by omega
        have k1 : ((n : Nat) : Int) ≤ (n : Int) := by omega
        have k2 : n ≤ n := by omega
        clear hv hr h8 hx hcap
        by_cases hz : z = 0
        · subst hz
          rw [if_pos rfl]
          go_enter Tryd.func40, Tryd.ntmps40
          go_wp2_with fail
          go_region_held (fun w' => w'.cell? ⟨g, 0, none⟩ = some (.slice (some a) n n) ∧ w'.cell? ⟨g, 1, none⟩ = some (.int .i64 ((n : Nat) : Int)))
            (exact ⟨c0, c1⟩)
            (first
              | (go_at_call 58; refine Calls.mono (unhide HN) ?_; rintro e wx ⟨rfl, rfl⟩))
          go_wp2_with fail
          go_ret
          exact ⟨rfl, unhide S1, (Only.refl _ w).drew.set g 1 _ rfl⟩
        · rw [if_neg hz]
          have hzb : (z != 0) = true := by simp [hz]
          obtain rfl : u = 0 := unhide HU hz
          go_enter Tryd.func40, Tryd.ntmps40
          go_wp2_with fail
          go_region_held (fun w' => w'.cell? ⟨g, 0, none⟩ = some (.slice (some a) n n) ∧ w'.cell? ⟨g, 1, none⟩ = some (.int .i64 ((n : Nat) : Int)))
            (exact ⟨c0, c1⟩)
            (first
              | (go_at_call 58; refine Calls.mono (unhide HN) ?_; rintro e wx ⟨rfl, rfl⟩))
          go_wp2_with fail
          go_ret
          exact ⟨rfl, unhide S2, (Only.refl _ w).drew.set g 2 _ rfl⟩
      · skip
        have HN := hide (Oc.refnum_any (.slice (some (a.add k)) (n - k) (cap - k)) (l.drop k) w.drew (((hv.call ((Below.refl _ _).drew)).drop k (by omega))) (by rw [List.length_drop]; omega) (fun y hy => h8 y (List.mem_of_mem_drop hy)))
        obtain ⟨x, hx⟩ : ∃ x, Oc.refNum (l.drop k) = x := ⟨_, rfl⟩
        have k3 : ¬ cap = k := hck
        rw [hx] at HN ⊢
        obtain ⟨u, z⟩ := x
        have HU : Hid (¬ z = 0 → u = 0) := hide (fun h => by have q := refNum_bad _ (show ¬ (Oc.refNum (l.drop k)).2 = 0 by rw [hx]; exact h); rw [hx] at q; exact q)
        have S1 : Hid (RRd (w.drew.setCell ⟨g, 1, none⟩ (.int .i64 ((k + 8 : Nat) : Int))) g (.slice (some a) n cap) (k + 8) 0) := hide (RowAt.set (RowAt.drew hr) 1 (.int .i64 ((k + 8 : Nat) : Int)))
        have S2 : Hid (RRd (w.drew.setCell ⟨g, 2, none⟩ (.int .i64 z)) g (.slice (some a) n cap) k z) := hide (RowAt.set (RowAt.drew hr) 2 (.int .i64 z))
        have z1 := RowAt.frozen hr 1
        have z2 := RowAt.frozen hr 2
        have k0 : (0 : Int) ≤ ((k : Nat) : Int) := by omega
        have k4 : ((k : Nat) : Int) + 8 ≤ 2000000000 := by omega
        have k1 : ((k : Nat) : Int) ≤ (n : Int) := by omega
        have k2 : k ≤ n := by omega
        clear hv hr h8 hx hcap
        by_cases hz : z = 0
        · subst hz
          rw [if_pos rfl]
          go_enter Tryd.func40, Tryd.ntmps40
          go_wp2_with fail
          go_region_held (fun w' => w'.cell? ⟨g, 0, none⟩ = some (.slice (some a) n cap) ∧ w'.cell? ⟨g, 1, none⟩ = some (.int .i64 ((k : Nat) : Int)))
            (exact ⟨c0, c1⟩)
            (first
              | (go_at_call 58; refine Calls.mono (unhide HN) ?_; rintro e wx ⟨rfl, rfl⟩))
          go_wp2_with fail
          go_ret
          exact ⟨rfl, unhide S1, (Only.refl _ w).drew.set g 1 _ rfl⟩
        · rw [if_neg hz]
          have hzb : (z != 0) = true := by simp [hz]
          obtain rfl : u = 0 := unhide HU hz
          go_enter Tryd.func40, Tryd.ntmps40
          go_wp2_with fail
          go_region_held (fun w' => w'.cell? ⟨g, 0, none⟩ = some (.slice (some a) n cap) ∧ w'.cell? ⟨g, 1, none⟩ = some (.int .i64 ((k : Nat) : Int)))
            (exact ⟨c0, c1⟩)
            (first
              | (go_at_call 58; refine Calls.mono (unhide HN) ?_; rintro e wx ⟨rfl, rfl⟩))
          go_wp2_with fail
          go_ret
          exact ⟨rfl, unhide S2, (Only.refl _ w).drew.set g 2 _ rfl⟩
  · have hn : Oc.numR l k e = (0, k, e) := by unfold Oc.numR Oc.winR; rw [if_pos he]
    rw [hn]
    have heb : (e != 0) = true := by simp [he]
    clear he hr hv
    go_enter Tryd.func40, Tryd.ntmps40
    go_wp2_with fail
    go_ret
    exact ⟨rfl, unhide HR, Only.refl _ _⟩
end Go.Proofs.YtbnfilhilgjnfaaDoor
