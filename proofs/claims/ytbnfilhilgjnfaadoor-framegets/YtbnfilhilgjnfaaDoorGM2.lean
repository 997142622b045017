/- The document's Get, and the law's walk. -/
import Derived.Test.YtbnfilhilgjnfaaDoorQB
import Derived.Test.YtbnfilhilgjnfaaDoorCOpen
import Derived.Test.YtbnfilhilgjnfaaDoorFAl5
import Derived.Deep.RegionHeld3
import Derived.Test.YtbnfilhilgjnfaaDoorGPu0
import Derived.Test.YtbnfilhilgjnfaaDoorGM1
import Derived.Test.YtbnfilhilgjnfaaDoorGM3
import Derived.Test.YtbnfilhilgjnfaaDoorGOpn
namespace Go.Proofs.YtbnfilhilgjnfaaDoor
set_option linter.unusedVariables false
set_option linter.unusedSimpArgs false
set_option maxRecDepth 100000
open Go.ChangeShapes Go.WideShapes Go.ChangeAt Go.RowKit Go.Joins

namespace Oc
theorem num_high (l : List Nat) (h8 : 8 ≤ l.length) (h256 : ∀ y ∈ l, y < 256) (y : Nat) (hy : l[0]? = some y) : 9223372036854775807 < numOf (l.take 8) ↔ 127 < y := by
  match l, h8 with
  | a0 :: a1 :: a2 :: a3 :: a4 :: a5 :: a6 :: a7 :: t, _ =>
    simp at hy
    subst hy
    have h0 := h256 a0 (by simp)
    have h1 := h256 a1 (by simp)
    have h2 := h256 a2 (by simp)
    have h3 := h256 a3 (by simp)
    have h4 := h256 a4 (by simp)
    have h5 := h256 a5 (by simp)
    have h6 := h256 a6 (by simp)
    have h7 := h256 a7 (by simp)
    simp [numOf]
    omega

def refNum (l : List Nat) : Nat × Int :=
  if l.length < 8 then (0, 2) else if 9223372036854775807 < numOf (l.take 8) then (0, 5) else (numOf (l.take 8), 0)

set_option maxRecDepth 100000 in
set_option maxHeartbeats 2000000 in
theorem refnum_any (v : Value) (l : List Nat) (w : World) (hv : Byt w v l) (hl : l.length ≤ 1000000000) (h256 : ∀ y ∈ l, y < 256) :
    Calls Tryd.prog 58 #[v] w fun e w' => e = .returned (.tuple #[.int .i64 ((refNum l).1 : Int), .int .i64 (refNum l).2]) ∧ w = w' := by
  by_cases h8 : l.length < 8
  · obtain ⟨a, cap, rfl⟩ := byt_shape hv
    have e1 : refNum l = (0, 2) := by simp [refNum, h8]
    rw [e1]
    generalize l.length = n at *
    have g1 : (n : Int) < 8 := by omega
    clear hv h256 e1
    go_enter Tryd.func58, Tryd.ntmps58
    go_wp2_with fail
    go_ret2
    exact ⟨rfl, rfl⟩
  rcases hv with ⟨_, rfl⟩ | ⟨a, cap, rfl, c1, c2, c3⟩
  · simp at h8
  obtain ⟨b, off, rfl⟩ := plain_of c3 (by omega)
  obtain ⟨y0, hy0⟩ : ∃ y, l[0]? = some y := ⟨_, List.getElem?_eq_getElem (by omega)⟩
  have hcell0 := c3 0 y0 hy0
  rw [add_plain, Nat.add_zero] at hcell0
  have hh := num_high l (by omega) h256 y0 hy0
  obtain ⟨n, hn⟩ : ∃ n, l.length = n := ⟨_, rfl⟩
  rw [hn] at h8 hl c1 ⊢
  have g1 : ¬ (n : Int) < 8 := by omega
  have g1' : (8 : Int) ≤ (n : Int) := by omega
  have HN := hide hn
  have HC := hide c3
  have H256 := hide h256
  clear c3 h256 hy0 hn
  by_cases hb : 127 < y0
  · have e1 : refNum l = (0, 5) := by
      unfold refNum
      rw [if_neg (by rw [unhide HN]; omega), if_pos (hh.2 hb)]
    rw [e1]
    have g2 : (127 : Int) < (y0 : Int) := by omega
    have g3 : (0 : Int) < (n : Int) := by omega
    clear hh e1
    go_enter Tryd.func58, Tryd.ntmps58
    go_wp2_with fail
    go_ret2
    exact ⟨rfl, rfl⟩
  · have hle : numOf (l.take 8) ≤ 9223372036854775807 := by
      have := mt hh.1 hb
      omega
    have e1 : refNum l = (numOf (l.take 8), 0) := by
      unfold refNum
      rw [if_neg (by rw [unhide HN]; omega), if_neg (by omega)]
    rw [e1]
    have g2 : ¬ (127 : Int) < (y0 : Int) := by omega
    have g3 : (0 : Int) < (n : Int) := by omega
    have HLE := hide hle
    clear hh e1 hle
    go_enter Tryd.func58, Tryd.ntmps58
    go_wp2_with fail
    go_loop [4, 13] (fun c i => ∃ j : Nat, j ≤ 8 ∧ i = .int .i64 j ∧ c = .int .i64 ((numOf (l.take j) : Nat) : Int)) (fun _ i => 8 - (intOf i).toNat)
    case atStart => exact ⟨0, by omega, rfl, rfl⟩
    case round =>
      obtain ⟨j, hj, rfl, rfl⟩ := hrel
      by_cases hlt : j < 8
      · have hlt1 : numOf (l.take (j + 1)) ≤ 9223372036854775807 := by
          by_cases h7 : j = 7
          · subst h7; exact unhide HLE
          · have q := numOf_lt (l.take (j + 1)) (fun y hy => unhide H256 y (List.mem_of_mem_take hy))
            have : 256 ^ (l.take (j + 1)).length ≤ 256 ^ 7 := Nat.pow_le_pow_right (by decide) (by rw [List.length_take]; omega)
            have e : (256 : Nat) ^ 7 = 72057594037927936 := by decide
            omega
        obtain ⟨y, hy⟩ : ∃ y, l[j]? = some y := ⟨_, List.getElem?_eq_getElem (by rw [unhide HN]; omega)⟩
        have hcell := unhide HC j y hy
        rw [add_plain] at hcell
        have hy256 := unhide H256 y (List.mem_of_getElem? hy)
        have hnx := numOf_take hy
        have HNX := hide hnx
        rw [hnx] at hlt1
        clear hnx hy hcell0
        generalize numOf (l.take j) = c at *
        have i1 : (0 : Int) ≤ (j : Int) := by omega
        have i2 : (j : Int) < 8 := by omega
        have i3 : (j : Int) < (n : Int) := by omega
        go_wp2_with fail
        go_round
        case rel => exact ⟨j + 1, by omega, by go_num, by rw [unhide HNX]; go_num⟩
        case measure => simp [intOf]; omega
      · have hj8 : j = 8 := by omega
        subst hj8
        go_wp2_with fail
        go_ret2
        exact ⟨rfl, rfl⟩


end Oc
/-- the document's reader in block g -/
def RRd (w : World) (g : Nat) (v : Value) (k : Nat) (e : Int) : Prop := RowAt w g 69 [v, .int .i64 (k : Int), .int .i64 e]
theorem numR_ref (l : List Nat) (k : Nat) (hk : k ≤ l.length) : Oc.numR l k 0 = (((Oc.refNum (l.drop k)).1 : Int), (if (Oc.refNum (l.drop k)).2 = 0 then k + 8 else k), (Oc.refNum (l.drop k)).2) := by
  by_cases h8 : l.length < k + 8
  · have r : Oc.refNum (l.drop k) = (0, 2) := by unfold Oc.refNum; rw [if_pos (by rw [List.length_drop]; omega)]
    have q : Oc.numR l k 0 = (0, k, 2) := by unfold Oc.numR Oc.winR; rw [if_neg (by simp), if_pos h8]
    rw [r, q]; rfl
  · by_cases h : 9223372036854775807 < Oc.numOf ((l.drop k).take 8)
    · have r : Oc.refNum (l.drop k) = (0, 5) := by unfold Oc.refNum; rw [if_neg (by rw [List.length_drop]; omega), if_pos h]
      have q : Oc.numR l k 0 = (0, k, 5) := by unfold Oc.numR Oc.winR; rw [if_neg (by simp), if_neg h8, if_pos (.inl h)]
      rw [r, q]; rfl
    · have r : Oc.refNum (l.drop k) = (Oc.numOf ((l.drop k).take 8), 0) := by unfold Oc.refNum; rw [if_neg (by rw [List.length_drop]; omega), if_neg h]
      have q : Oc.numR l k 0 = ((Oc.numOf ((l.drop k).take 8) : Int), k + 8, 0) := by unfold Oc.numR Oc.winR; rw [if_neg (by simp), if_neg h8, if_neg (by omega)]
      rw [r, q]; rfl
theorem refNum_bad (l : List Nat) (h : ¬ (Oc.refNum l).2 = 0) : (Oc.refNum l).1 = 0 := by
  unfold Oc.refNum at h ⊢
  split
  · rfl
  · split
    · rfl
    · rename_i h1 h2; rw [if_neg h1, if_neg h2] at h; exact absurd rfl h
def RnR (l : List Nat) (x : Int × Nat × Int) (w : World) (g : Nat) (v : Value) (r : Ending) (w' : World) : Prop := r = .returned (.int .i64 x.1) ∧ RRd w' g v x.2.1 x.2.2 ∧ Only (· = g) w w'
set_option maxHeartbeats 2000000 in
theorem rnum_tot (g : Nat) (a : Option Addr) (n cap : Nat) (l : List Nat) (k : Nat) (e : Int) (w : World) (hv : Byt w (.slice a n cap) l) (hr : RRd w g (.slice a n cap) k e) (hl : n ≤ 1000000000) (hk : k ≤ n) (h8 : U8 l) :
    Calls Tryd.prog 40 #[.pointer (some ⟨g, 0, none⟩)] w fun r w' => RnR l (Oc.numR l k e) w g (.slice a n cap) r w' := by
  have c0 : w.cell? ⟨g, 0, none⟩ = some (.slice a n cap) := RowAt.cell hr 0
  have c1 : w.cell? ⟨g, 1, none⟩ = some (.int .i64 (k : Int)) := RowAt.cell hr 1
  have c2 : w.cell? ⟨g, 2, none⟩ = some (.int .i64 e) := RowAt.cell hr 2
  have HR := hide hr
  by_cases he : e = 0
  · subst he
    have hcap := Oc.byt_cap (show Oc.Byt w (.slice a n cap) l from hv)
    rw [numR_ref l k (by omega)]
    cases a with
    | none =>
      obtain ⟨rfl, rfl, rfl⟩ : n = 0 ∧ cap = 0 ∧ l = [] := by
        rcases hv with ⟨h1, h2⟩ | ⟨a1, c1', h1, _⟩
        · injection h1 with _ h3 h4; exact ⟨h3, h4, h2⟩
        · cases h1
      obtain rfl : k = 0 := by omega
      have HN := hide (Oc.refnum_any (.slice none 0 0) [] w.drew (.inl ⟨rfl, rfl⟩) (by decide) (fun y hy => by cases hy))
      rw [show List.drop 0 ([] : List Nat) = [] from rfl]
      obtain ⟨x, hx⟩ : ∃ x, Oc.refNum [] = x := ⟨_, rfl⟩
      rw [hx] at HN ⊢
      obtain ⟨u, z⟩ := x
      have HU : Hid (¬ z = 0 → u = 0) := hide (fun h => by have q := refNum_bad _ (show ¬ (Oc.refNum []).2 = 0 by rw [hx]; exact h); rw [hx] at q; exact q)
      have S1 : Hid (RRd (w.drew.setCell ⟨g, 1, none⟩ (.int .i64 ((0 + 8 : Nat) : Int))) g (.slice none 0 0) (0 + 8) 0) := hide (RowAt.set (RowAt.drew hr) 1 (.int .i64 ((0 + 8 : Nat) : Int)))
      have S2 : Hid (RRd (w.drew.setCell ⟨g, 2, none⟩ (.int .i64 z)) g (.slice none 0 0) 0 z) := hide (RowAt.set (RowAt.drew hr) 2 (.int .i64 z))
      have z1 := RowAt.frozen hr 1
      have z2 := RowAt.frozen hr 2
      have k0 : (0 : Int) ≤ ((0 : Nat) : Int) := by omega
      have k4 : ((0 : Nat) : Int) + 8 ≤ 2000000000 := by omega
      clear hv hr h8 hx hcap
      by_cases hz : z = 0
      · subst hz
        rw [if_pos rfl]
        go_enter Tryd.func40, Tryd.ntmps40
        go_wp2_with fail
        go_region_held (fun w' => w'.cell? ⟨g, 0, none⟩ = some (.slice none 0 0) ∧ w'.cell? ⟨g, 1, none⟩ = some (.int .i64 ((0 : Nat) : Int)))
          (exact ⟨c0, c1⟩)
          (first
            | (go_at_call 58; refine Calls.mono (unhide HN) ?_; rintro e wx ⟨rfl, rfl⟩))
        go_wp2_with fail
        go_ret
        exact ⟨rfl, unhide S1, (Only.refl _ w).drew.set g 1 _ rfl⟩
      · rw [if_neg hz]
        have hzb : (z != 0) = true := by simp [hz]
        obtain rfl : u = 0 := unhide HU hz
        go_enter Tryd.func40, Tryd.ntmps40
        go_wp2_with fail
        go_region_held (fun w' => w'.cell? ⟨g, 0, none⟩ = some (.slice none 0 0) ∧ w'.cell? ⟨g, 1, none⟩ = some (.int .i64 ((0 : Nat) : Int)))
          (exact ⟨c0, c1⟩)
          (first
            | (go_at_call 58; refine Calls.mono (unhide HN) ?_; rintro e wx ⟨rfl, rfl⟩))
        go_wp2_with fail
        go_ret
        exact ⟨rfl, unhide S2, (Only.refl _ w).drew.set g 2 _ rfl⟩
    | some a =>
      by_cases hck : cap = k
      · skip
        subst hck
        obtain rfl : n = cap := by omega
        have hd : l.drop n = [] := List.drop_eq_nil_of_le (by omega)
        have HN := hide (Oc.refnum_any (.slice (some a) 0 0) [] w.drew (.inr ⟨a, 0, rfl, Nat.le_refl _, by decide, fun i y hy => by simp at hy⟩) (by decide) (fun y hy => by cases hy))
        rw [hd]
        obtain ⟨x, hx⟩ : ∃ x, Oc.refNum [] = x := ⟨_, rfl⟩
        rw [hx] at HN ⊢
        obtain ⟨u, z⟩ := x
        have HU : Hid (¬ z = 0 → u = 0) := hide (fun h => by have q := refNum_bad _ (show ¬ (Oc.refNum []).2 = 0 by rw [hx]; exact h); rw [hx] at q; exact q)
        have S1 : Hid (RRd (w.drew.setCell ⟨g, 1, none⟩ (.int .i64 ((n + 8 : Nat) : Int))) g (.slice (some a) n n) (n + 8) 0) := hide (RowAt.set (RowAt.drew hr) 1 (.int .i64 ((n + 8 : Nat) : Int)))
        have S2 : Hid (RRd (w.drew.setCell ⟨g, 2, none⟩ (.int .i64 z)) g (.slice (some a) n n) n z) := hide (RowAt.set (RowAt.drew hr) 2 (.int .i64 z))
        have z1 := RowAt.frozen hr 1
        have z2 := RowAt.frozen hr 2
        have k0 : (0 : Int) ≤ ((n : Nat) : Int) := by omega
        have k4 : ((n : Nat) : Int) + 8 ≤ 2000000000 := by omega
        have k1 : ((n : Nat) : Int) ≤ (n : Int) := by omega
        have k2 : n ≤ n := by omega
        clear hv hr h8 hx hcap
        by_cases hz : z = 0
        · subst hz
          rw [if_pos rfl]
          go_enter Tryd.func40, Tryd.ntmps40
          go_wp2_with fail
          go_region_held (fun w' => w'.cell? ⟨g, 0, none⟩ = some (.slice (some a) n n) ∧ w'.cell? ⟨g, 1, none⟩ = some (.int .i64 ((n : Nat) : Int)))
            (exact ⟨c0, c1⟩)
            (first
              | (go_at_call 58; refine Calls.mono (unhide HN) ?_; rintro e wx ⟨rfl, rfl⟩))
          go_wp2_with fail
          go_ret
          exact ⟨rfl, unhide S1, (Only.refl _ w).drew.set g 1 _ rfl⟩
        · rw [if_neg hz]
          have hzb : (z != 0) = true := by simp [hz]
          obtain rfl : u = 0 := unhide HU hz
          go_enter Tryd.func40, Tryd.ntmps40
          go_wp2_with fail
          go_region_held (fun w' => w'.cell? ⟨g, 0, none⟩ = some (.slice (some a) n n) ∧ w'.cell? ⟨g, 1, none⟩ = some (.int .i64 ((n : Nat) : Int)))
            (exact ⟨c0, c1⟩)
            (first
              | (go_at_call 58; refine Calls.mono (unhide HN) ?_; rintro e wx ⟨rfl, rfl⟩))
          go_wp2_with fail
          go_ret
          exact ⟨rfl, unhide S2, (Only.refl _ w).drew.set g 2 _ rfl⟩
      · skip
        have HN := hide (Oc.refnum_any (.slice (some (a.add k)) (n - k) (cap - k)) (l.drop k) w.drew (((hv.call ((Below.refl _ _).drew)).drop k (by omega))) (by rw [List.length_drop]; omega) (fun y hy => h8 y (List.mem_of_mem_drop hy)))
        obtain ⟨x, hx⟩ : ∃ x, Oc.refNum (l.drop k) = x := ⟨_, rfl⟩
        have k3 : ¬ cap = k := hck
        rw [hx] at HN ⊢
        obtain ⟨u, z⟩ := x
        have HU : Hid (¬ z = 0 → u = 0) := hide (fun h => by have q := refNum_bad _ (show ¬ (Oc.refNum (l.drop k)).2 = 0 by rw [hx]; exact h); rw [hx] at q; exact q)
        have S1 : Hid (RRd (w.drew.setCell ⟨g, 1, none⟩ (.int .i64 ((k + 8 : Nat) : Int))) g (.slice (some a) n cap) (k + 8) 0) := hide (RowAt.set (RowAt.drew hr) 1 (.int .i64 ((k + 8 : Nat) : Int)))
        have S2 : Hid (RRd (w.drew.setCell ⟨g, 2, none⟩ (.int .i64 z)) g (.slice (some a) n cap) k z) := hide (RowAt.set (RowAt.drew hr) 2 (.int .i64 z))
        have z1 := RowAt.frozen hr 1
        have z2 := RowAt.frozen hr 2
        have k0 : (0 : Int) ≤ ((k : Nat) : Int) := by omega
        have k4 : ((k : Nat) : Int) + 8 ≤ 2000000000 := by omega
        have k1 : ((k : Nat) : Int) ≤ (n : Int) := by omega
        have k2 : k ≤ n := by omega
        clear hv hr h8 hx hcap
        by_cases hz : z = 0
        · subst hz
          rw [if_pos rfl]
          go_enter Tryd.func40, Tryd.ntmps40
          go_wp2_with fail
          go_region_held (fun w' => w'.cell? ⟨g, 0, none⟩ = some (.slice (some a) n cap) ∧ w'.cell? ⟨g, 1, none⟩ = some (.int .i64 ((k : Nat) : Int)))
            (exact ⟨c0, c1⟩)
            (first
              | (go_at_call 58; refine Calls.mono (unhide HN) ?_; rintro e wx ⟨rfl, rfl⟩))
          go_wp2_with fail
          go_ret
          exact ⟨rfl, unhide S1, (Only.refl _ w).drew.set g 1 _ rfl⟩
        · rw [if_neg hz]
          have hzb : (z != 0) = true := by simp [hz]
          obtain rfl : u = 0 := unhide HU hz
          go_enter Tryd.func40, Tryd.ntmps40
          go_wp2_with fail
          go_region_held (fun w' => w'.cell? ⟨g, 0, none⟩ = some (.slice (some a) n cap) ∧ w'.cell? ⟨g, 1, none⟩ = some (.int .i64 ((k : Nat) : Int)))
            (exact ⟨c0, c1⟩)
            (first
              | (go_at_call 58; refine Calls.mono (unhide HN) ?_; rintro e wx ⟨rfl, rfl⟩))
          go_wp2_with fail
          go_ret
          exact ⟨rfl, unhide S2, (Only.refl _ w).drew.set g 2 _ rfl⟩
  · have hn : Oc.numR l k e = (0, k, e) := by unfold Oc.numR Oc.winR; rw [if_pos he]
    rw [hn]
    have heb : (e != 0) = true := by simp [he]
    clear he hr hv
    go_enter Tryd.func40, Tryd.ntmps40
    go_wp2_with fail
    go_ret
    exact ⟨rfl, unhide HR, Only.refl _ _⟩
end Go.Proofs.YtbnfilhilgjnfaaDoor

namespace Go.Proofs.YtbnfilhilgjnfaaDoor
set_option linter.unusedVariables false
set_option linter.unusedSimpArgs false
set_option maxRecDepth 100000
open Go.ChangeShapes Go.WideShapes Go.ChangeAt Go.RowKit Go.Joins

def bytR (l : List Nat) (most k : Nat) (e : Int) : List Nat × Nat × Int :=
  if e ≠ 0 then ([], k, e)
  else if (Oc.refNum (l.drop k)).2 ≠ 0 then ([], k, (Oc.refNum (l.drop k)).2)
  else if most < (Oc.refNum (l.drop k)).1 then ([], k, 4)
  else if l.length < k + 8 + (Oc.refNum (l.drop k)).1 then ([], k, 2)
  else ((l.drop (k + 8)).take (Oc.refNum (l.drop k)).1, k + 8 + (Oc.refNum (l.drop k)).1, 0)
def RbR (x : List Nat × Nat × Int) (w : World) (g : Nat) (v : Value) (r : Ending) (w' : World) : Prop := ∃ v', r = .returned v' ∧ w'.ownsRow w.heap.size 5 1 v' x.1.length (bv x.1) ∧ RRd w' g v x.2.1 x.2.2 ∧ Only (· = g) w w'
theorem own_nil (w : World) (B : Nat) : w.ownsRow B 5 1 (.slice none 0 0) ([] : List Nat).length (bv []) := World.ownsRow_nil _ _ _ _
/-- no bytes, and why -/
theorem RbR.no {w W : World} {g : Nat} {v : Value} {k : Nat} {z : Int} (hr : RRd W g v k z) (ho : Only (· = g) w W) : RbR ([], k, z) w g v (.returned (.slice none 0 0)) W := ⟨_, rfl, own_nil _ _, hr, ho⟩
set_option maxHeartbeats 2000000 in
theorem rbytes_none (g : Nat) (most : Nat) (z : Int) (w : World) (hr : RRd w g (.slice none 0 0) 0 0) (hz : ¬ z = 0) (hN : Calls Tryd.prog 58 #[.slice none 0 0] w.drew fun e w' => e = .returned (.tuple #[.int .i64 0, .int .i64 z]) ∧ w.drew = w') :
    Calls Tryd.prog 59 #[.pointer (some ⟨g, 0, none⟩), .int .i64 (most : Int)] w fun r w' => RbR ([], 0, z) w g (.slice none 0 0) r w' := by
  have c0 : w.cell? ⟨g, 0, none⟩ = some (.slice none 0 0) := RowAt.cell hr 0
  have c1 : w.cell? ⟨g, 1, none⟩ = some (.int .i64 ((0 : Nat) : Int)) := RowAt.cell hr 1
  have c2 : w.cell? ⟨g, 2, none⟩ = some (.int .i64 0) := RowAt.cell hr 2
  have z2 := RowAt.frozen hr 2
  have HN := hide hN
  have hzb : (z != 0) = true := by simp [hz]
  have hze : (z == 0) = false := by simp [hz]
  have HR0 : Hid (∀ q, RRd ((w.drewN q).setCell ⟨g, 2, none⟩ (.int .i64 z)) g (.slice none 0 0) 0 z) := hide (fun q => RowAt.set (RowAt.drewN hr q) 2 (.int .i64 z))
  have k0 : (0 : Int) ≤ ((0 : Nat) : Int) := by omega
  clear hN hr
  go_enter Tryd.func59, Tryd.ntmps59
  go_wp2_with fail
  go_region_held (fun w' => w'.cell? ⟨g, 0, none⟩ = some (.slice none 0 0) ∧ w'.cell? ⟨g, 1, none⟩ = some (.int .i64 ((0 : Nat) : Int)))
    (exact ⟨c0, c1⟩)
    (first
      | (go_at_call 58; refine Calls.mono (unhide HN) ?_; rintro e wx ⟨rfl, rfl⟩))
  go_wp2_with fail
  go_quiet (fail)
  go_wp2_with fail
  go_ret
  exact RbR.no (unhide HR0 _) (Only.set (p := fun x => x = g) ((Only.refl _ w).drewN _) g 2 _ rfl)
set_option maxHeartbeats 2000000 in
theorem rbytes_end (g : Nat) (a : Addr) (n most : Nat) (z : Int) (w : World) (hr : RRd w g (.slice (some a) n n) n 0) (hz : ¬ z = 0) (hn : n ≤ 1000000000) (hN : Calls Tryd.prog 58 #[.slice (some a) 0 0] w.drew fun e w' => e = .returned (.tuple #[.int .i64 0, .int .i64 z]) ∧ w.drew = w') :
    Calls Tryd.prog 59 #[.pointer (some ⟨g, 0, none⟩), .int .i64 (most : Int)] w fun r w' => RbR ([], n, z) w g (.slice (some a) n n) r w' := by
  have c0 : w.cell? ⟨g, 0, none⟩ = some (.slice (some a) n n) := RowAt.cell hr 0
  have c1 : w.cell? ⟨g, 1, none⟩ = some (.int .i64 ((n : Nat) : Int)) := RowAt.cell hr 1
  have c2 : w.cell? ⟨g, 2, none⟩ = some (.int .i64 0) := RowAt.cell hr 2
  have z2 := RowAt.frozen hr 2
  have HN := hide hN
  have hzb : (z != 0) = true := by simp [hz]
  have hze : (z == 0) = false := by simp [hz]
  have HR0 : Hid (∀ q, RRd ((w.drewN q).setCell ⟨g, 2, none⟩ (.int .i64 z)) g (.slice (some a) n n) n z) := hide (fun q => RowAt.set (RowAt.drewN hr q) 2 (.int .i64 z))
  have k0 : (0 : Int) ≤ ((n : Nat) : Int) := by omega
  have k1 : ((n : Nat) : Int) ≤ (n : Int) := by omega
  have k2 : n ≤ n := by omega
  clear hN hr
  go_enter Tryd.func59, Tryd.ntmps59
  go_wp2_with fail
  go_region_held (fun w' => w'.cell? ⟨g, 0, none⟩ = some (.slice (some a) n n) ∧ w'.cell? ⟨g, 1, none⟩ = some (.int .i64 ((n : Nat) : Int)))
    (exact ⟨c0, c1⟩)
    (first
      | (go_at_call 58; refine Calls.mono (unhide HN) ?_; rintro e wx ⟨rfl, rfl⟩))
  go_wp2_with fail
  go_quiet (fail)
  go_wp2_with fail
  go_ret
  exact RbR.no (unhide HR0 _) (Only.set (p := fun x => x = g) ((Only.refl _ w).drewN _) g 2 _ rfl)
set_option maxHeartbeats 2000000 in
theorem rbytes_mid (g : Nat) (a : Addr) (n cap k most : Nat) (z : Int) (w : World) (hr : RRd w g (.slice (some a) n cap) k 0) (hz : ¬ z = 0) (hn : n ≤ 1000000000) (hk : k ≤ n) (hc : n ≤ cap) (hck : ¬ cap = k) (hN : Calls Tryd.prog 58 #[.slice (some (a.add k)) (n - k) (cap - k)] w.drew fun e w' => e = .returned (.tuple #[.int .i64 0, .int .i64 z]) ∧ w.drew = w') :
    Calls Tryd.prog 59 #[.pointer (some ⟨g, 0, none⟩), .int .i64 (most : Int)] w fun r w' => RbR ([], k, z) w g (.slice (some a) n cap) r w' := by
  have c0 : w.cell? ⟨g, 0, none⟩ = some (.slice (some a) n cap) := RowAt.cell hr 0
  have c1 : w.cell? ⟨g, 1, none⟩ = some (.int .i64 ((k : Nat) : Int)) := RowAt.cell hr 1
  have c2 : w.cell? ⟨g, 2, none⟩ = some (.int .i64 0) := RowAt.cell hr 2
  have z2 := RowAt.frozen hr 2
  have HN := hide hN
  have hzb : (z != 0) = true := by simp [hz]
  have hze : (z == 0) = false := by simp [hz]
  have HR0 : Hid (∀ q, RRd ((w.drewN q).setCell ⟨g, 2, none⟩ (.int .i64 z)) g (.slice (some a) n cap) k z) := hide (fun q => RowAt.set (RowAt.drewN hr q) 2 (.int .i64 z))
  have k0 : (0 : Int) ≤ ((k : Nat) : Int) := by omega
  have k1 : ((k : Nat) : Int) ≤ (n : Int) := by omega
  have k2 : k ≤ n := by omega
  clear hN hr
  go_enter Tryd.func59, Tryd.ntmps59
  go_wp2_with fail
  go_region_held (fun w' => w'.cell? ⟨g, 0, none⟩ = some (.slice (some a) n cap) ∧ w'.cell? ⟨g, 1, none⟩ = some (.int .i64 ((k : Nat) : Int)))
    (exact ⟨c0, c1⟩)
    (first
      | (go_at_call 58; refine Calls.mono (unhide HN) ?_; rintro e wx ⟨rfl, rfl⟩))
  go_wp2_with fail
  go_quiet (fail)
  go_wp2_with fail
  go_ret
  exact RbR.no (unhide HR0 _) (Only.set (p := fun x => x = g) ((Only.refl _ w).drewN _) g 2 _ rfl)
set_option maxHeartbeats 2000000 in
theorem rbytes_no4 (g : Nat) (a : Addr) (n cap k most u : Nat) (w : World) (hr : RRd w g (.slice (some a) n cap) k 0) (hn : n ≤ 1000000000) (hk : k + 8 ≤ n) (hc : n ≤ cap) (hu : u ≤ 9223372036854775807) (hb : most < u) (hN : Calls Tryd.prog 58 #[.slice (some (a.add k)) (n - k) (cap - k)] w.drew fun e w' => e = .returned (.tuple #[.int .i64 (u : Int), .int .i64 0]) ∧ w.drew = w') :
    Calls Tryd.prog 59 #[.pointer (some ⟨g, 0, none⟩), .int .i64 (most : Int)] w fun r w' => RbR ([], k, 4) w g (.slice (some a) n cap) r w' := by
  have c0 : w.cell? ⟨g, 0, none⟩ = some (.slice (some a) n cap) := RowAt.cell hr 0
  have c1 : w.cell? ⟨g, 1, none⟩ = some (.int .i64 (k : Int)) := RowAt.cell hr 1
  have c2 : w.cell? ⟨g, 2, none⟩ = some (.int .i64 0) := RowAt.cell hr 2
  have z2 := RowAt.frozen hr 2
  have HN := hide hN
  have HR0 : Hid (∀ q, RRd ((w.drewN q).setCell ⟨g, 2, none⟩ (.int .i64 4)) g (.slice (some a) n cap) k 4) := hide (fun q => RowAt.set (RowAt.drewN hr q) 2 (.int .i64 4))
  have k0 : (0 : Int) ≤ (k : Int) := by omega
  have k1 : (k : Int) ≤ (n : Int) := by omega
  have k2 : k ≤ n := by omega
  have k3 : ¬ cap = k := by omega
  have e1 : wrap64 ((n : Int) - (k : Int)) = (n : Int) - (k : Int) := by unfold wrap64; omega
  have e2 : wrap64 ((n : Int) - (k : Int) - 8) = (n : Int) - (k : Int) - 8 := by unfold wrap64; omega
  have q1 : (0 : Int) < (u : Int) := by omega
  have q1d : decide ((0 : Int) < (u : Int)) = true := by simpa using q1
  have q2 : (most : Int) < (u : Int) := by omega
  have q2d : decide ((most : Int) < (u : Int)) = true := by simpa using q2
  clear hN hr
  go_enter Tryd.func59, Tryd.ntmps59
  go_wp2_with fail
  go_region_held (fun w' => w'.cell? ⟨g, 0, none⟩ = some (.slice (some a) n cap) ∧ w'.cell? ⟨g, 1, none⟩ = some (.int .i64 (k : Int)))
    (exact ⟨c0, c1⟩)
    (first
      | (go_at_call 58; refine Calls.mono (unhide HN) ?_; rintro e wx ⟨rfl, rfl⟩))
  go_wp2_with fail
  go_quiet (fail)
  go_wp2_with fail
  go_ret
  exact RbR.no (unhide HR0 _) (Only.set (p := fun x => x = g) ((Only.refl _ w).drewN _) g 2 _ rfl)
set_option maxHeartbeats 2000000 in
theorem rbytes_no2 (g : Nat) (a : Addr) (n cap k most u : Nat) (w : World) (hr : RRd w g (.slice (some a) n cap) k 0) (hn : n ≤ 1000000000) (hk : k + 8 ≤ n) (hc : n ≤ cap) (hu : u ≤ 9223372036854775807) (hm : u ≤ most) (hb : n < k + 8 + u) (hN : Calls Tryd.prog 58 #[.slice (some (a.add k)) (n - k) (cap - k)] w.drew fun e w' => e = .returned (.tuple #[.int .i64 (u : Int), .int .i64 0]) ∧ w.drew = w') :
    Calls Tryd.prog 59 #[.pointer (some ⟨g, 0, none⟩), .int .i64 (most : Int)] w fun r w' => RbR ([], k, 2) w g (.slice (some a) n cap) r w' := by
  have c0 : w.cell? ⟨g, 0, none⟩ = some (.slice (some a) n cap) := RowAt.cell hr 0
  have c1 : w.cell? ⟨g, 1, none⟩ = some (.int .i64 (k : Int)) := RowAt.cell hr 1
  have c2 : w.cell? ⟨g, 2, none⟩ = some (.int .i64 0) := RowAt.cell hr 2
  have z2 := RowAt.frozen hr 2
  have HN := hide hN
  have HR0 : Hid (∀ q, RRd ((w.drewN q).setCell ⟨g, 2, none⟩ (.int .i64 2)) g (.slice (some a) n cap) k 2) := hide (fun q => RowAt.set (RowAt.drewN hr q) 2 (.int .i64 2))
  have k0 : (0 : Int) ≤ (k : Int) := by omega
  have k1 : (k : Int) ≤ (n : Int) := by omega
  have k2 : k ≤ n := by omega
  have k3 : ¬ cap = k := by omega
  have e1 : wrap64 ((n : Int) - (k : Int)) = (n : Int) - (k : Int) := by unfold wrap64; omega
  have e2 : wrap64 ((n : Int) - (k : Int) - 8) = (n : Int) - (k : Int) - 8 := by unfold wrap64; omega
  have q2 : ¬ (most : Int) < (u : Int) := by omega
  have q2d : decide ((most : Int) < (u : Int)) = false := by simpa using q2
  have q3 : (n : Int) - (k : Int) - 8 < (u : Int) := by omega
  have q3d : decide ((n : Int) - (k : Int) - 8 < (u : Int)) = true := by simpa using q3
  have q1 : (0 : Int) < (u : Int) := by omega
  have q1d : decide ((0 : Int) < (u : Int)) = true := by simpa using q1
  clear hN hr
  go_enter Tryd.func59, Tryd.ntmps59
  go_wp2_with fail
  go_region_held (fun w' => w'.cell? ⟨g, 0, none⟩ = some (.slice (some a) n cap) ∧ w'.cell? ⟨g, 1, none⟩ = some (.int .i64 (k : Int)))
    (exact ⟨c0, c1⟩)
    (first
      | (go_at_call 58; refine Calls.mono (unhide HN) ?_; rintro e wx ⟨rfl, rfl⟩))
  go_wp2_with fail
  go_quiet (fail)
  go_wp2_with fail
  go_ret
  exact RbR.no (unhide HR0 _) (Only.set (p := fun x => x = g) ((Only.refl _ w).drewN _) g 2 _ rfl)
set_option maxHeartbeats 4000000 in
theorem rbytes_ok (g : Nat) (a : Addr) (n cap k most u : Nat) (l : List Nat) (w : World) (hv : Byt w (.slice (some a) n cap) l) (hgl : ∀ (b : Nat), a.block = b → 0 < n → b ≠ g) (hr : RRd w g (.slice (some a) n cap) k 0) (hn : n ≤ 1000000000) (hk : k + 8 + u ≤ n) (hm : u ≤ most) (hN : Calls Tryd.prog 58 #[.slice (some (a.add k)) (n - k) (cap - k)] w.drew fun e w' => e = .returned (.tuple #[.int .i64 (u : Int), .int .i64 0]) ∧ w.drew = w') :
    Calls Tryd.prog 59 #[.pointer (some ⟨g, 0, none⟩), .int .i64 (most : Int)] w fun r w' => RbR ((l.drop (k + 8)).take u, k + 8 + u, 0) w g (.slice (some a) n cap) r w' := by
  have hc := (Oc.byt_cap (show Oc.Byt w (.slice (some a) n cap) l from hv)).2.2
  have c0 : w.cell? ⟨g, 0, none⟩ = some (.slice (some a) n cap) := RowAt.cell hr 0
  have c1 : w.cell? ⟨g, 1, none⟩ = some (.int .i64 (k : Int)) := RowAt.cell hr 1
  have c2 : w.cell? ⟨g, 2, none⟩ = some (.int .i64 0) := RowAt.cell hr 2
  have z1 := RowAt.frozen hr 1
  have HN := hide hN
  have HR := hide hr
  have HV := hide hv
  have HGL := hide hgl
  have k0 : (0 : Int) ≤ (k : Int) := by omega
  have k1 : (k : Int) ≤ (n : Int) := by omega
  have k2 : k ≤ n := by omega
  have k3 : ¬ cap = k := by omega
  have e1 : wrap64 ((n : Int) - (k : Int)) = (n : Int) - (k : Int) := by unfold wrap64; omega
  have e2 : wrap64 ((n : Int) - (k : Int) - 8) = (n : Int) - (k : Int) - 8 := by unfold wrap64; omega
  have e3 : wrap64 ((k : Int) + 8) = (k : Int) + 8 := by unfold wrap64; omega
  have e4 : wrap64 ((k : Int) + 8 + (u : Int)) = (k : Int) + 8 + (u : Int) := by unfold wrap64; omega
  have q2 : ¬ (most : Int) < (u : Int) := by omega
  have q2d : decide ((most : Int) < (u : Int)) = false := by simpa using q2
  have q3 : ¬ (n : Int) - (k : Int) - 8 < (u : Int) := by omega
  have q3d : decide ((n : Int) - (k : Int) - 8 < (u : Int)) = false := by simpa using q3
  clear hN hr hv hgl
  go_enter Tryd.func59, Tryd.ntmps59
  go_wp2_with fail
  go_region_held (fun w' => w'.cell? ⟨g, 0, none⟩ = some (.slice (some a) n cap) ∧ w'.cell? ⟨g, 1, none⟩ = some (.int .i64 (k : Int)))
    (exact ⟨c0, c1⟩)
    (first
      | (go_at_call 58; refine Calls.mono (unhide HN) ?_; rintro e wx ⟨rfl, rfl⟩))
  by_cases hu0 : 0 < u
  · have q1 : (0 : Int) < (u : Int) := by omega
    have q1d : decide ((0 : Int) < (u : Int)) = true := by simpa using q1
    have j1 : ¬ cap = k + 8 := by omega
    have j2 : k + 8 ≤ n := by omega
    have j3 : k + 8 + u ≤ n := hk
    have j4 : (k : Int) + 8 + (u : Int) ≤ (cap : Int) := by omega
    have j5 : ((k : Int) + 8).toNat = k + 8 := by omega
    have j6 : ((k : Int) + 8 + (u : Int)).toNat = k + 8 + u := by omega
    go_wp2_with fail
    go_quiet (fail)
    go_wp2_with fail
    have HR2 : Hid (RowAt ((w.drewN (1 + nq)).setCell ⟨g, 1, none⟩ (.int .i64 ((k : Int) + 8 + (u : Int)))) g 69 [.slice (some a) n cap, .int .i64 ((k : Int) + 8 + (u : Int)), .int .i64 0]) := hide (RowAt.set (RowAt.drewN (unhide HR) (1 + nq)) 1 (.int .i64 ((k : Int) + 8 + (u : Int))))
    have HO2 : Hid (Only (fun x => x = g) w ((w.drewN (1 + nq)).setCell ⟨g, 1, none⟩ (.int .i64 ((k : Int) + 8 + (u : Int))))) := hide (Only.set (p := fun x => x = g) ((Only.refl _ w).drewN _) g 1 _ rfl)
    obtain ⟨W2, hW2⟩ : ∃ z, (w.drewN (1 + nq)).setCell ⟨g, 1, none⟩ (.int .i64 ((k : Int) + 8 + (u : Int))) = z := ⟨_, rfl⟩
    rw [hW2] at HR2 HO2 ⊢
    clear hW2
    have HV2 : Hid (Byt W2 (.slice (some a) n cap) l) := hide ((unhide HO2).byt' (unhide HV) (fun hne => by
      intro kk hkk h
      have hk2 : a.block = kk := Option.some.inj (show some a.block = some kk from hkk)
      exact unhide HGL kk hk2 (by
        have hll := (Oc.byt_cap (show Oc.Byt w (.slice (some a) n cap) l from unhide HV)).2.1
        have := List.length_pos_iff.2 hne
        omega) h))
    have HX2 : Hid (Byt W2 (.slice (some (a.add (k + 8))) u (cap - (k + 8))) ((l.drop (k + 8)).take u)) := hide (((unhide HV2).drop (k + 8) (by omega)).take u (by omega))
    have HSS : Hid (∀ W, Below W2.heap.size W2 W → W.cell? ⟨g, 0, none⟩ = some (.slice (some a) n cap) ∧ W.cell? ⟨g, 1, none⟩ = some (.int .i64 ((k : Int) + 8 + (u : Int)))) := hide (fun W hW => ⟨((unhide HR2).below hW (unhide HR2).lt).cell 0, ((unhide HR2).below hW (unhide HR2).lt).cell 1⟩)
    refine Ed.wp_region_T (S := fun W => W.cell? ⟨g, 0, none⟩ = some (.slice (some a) n cap) ∧ W.cell? ⟨g, 1, none⟩ = some (.int .i64 ((k : Int) + 8 + (u : Int)))) (fun i => decide (i < 13)) (by kernel_rfl) (unhide HSS _ (Below.refl _ _).drew) (fun hHeld => ?_)
    obtain ⟨wd, hwd⟩ : ∃ z, W2.drew = z := ⟨_, rfl⟩
    have hbd : Below W2.heap.size W2 wd := by rw [← hwd]; exact (Below.refl _ _).drew
    have HBD := hide hbd
    rw [hwd] at hHeld ⊢
    clear hwd hbd
    refine Ed.wpAnyT_take (i := 1) (oi := { dst := some 72, op := Op.move (Operand.tmp 0), type := 67, pos := "ref.go:130", after := #[], guard := none }) (v := .pointer (some ⟨g, 0, none⟩)) rfl (by kernel_rfl) (by kernel_rfl) (by kernel_rfl) (by kernel_rfl) (fun _ _ _ h => h) (Or.inl ⟨by rfl, ?_⟩) hHeld ?_
    · intro w hSw
      obtain ⟨s0, s1⟩ := hSw
      first
        | rfl
        | (go_simp; done)
    try simp only [Act.put, List.setIfInBounds_toArray, List.set_cons_zero, List.set_cons_succ]
    refine Ed.wpAnyT_take (i := 2) (oi := { dst := some 73, op := Op.nilCheck (Operand.tmp 72), type := 0, pos := "ref.go:130", after := #[{ on := 1, ground := Ground.data }], guard := none }) (v := .pointer (some ⟨g, 0, none⟩)) rfl (by kernel_rfl) (by kernel_rfl) (by kernel_rfl) (by kernel_rfl) (fun _ _ _ h => h) (Or.inl ⟨by rfl, ?_⟩) hHeld ?_
    · intro w hSw
      obtain ⟨s0, s1⟩ := hSw
      first
        | rfl
        | (go_simp; done)
    try simp only [Act.put, List.setIfInBounds_toArray, List.set_cons_zero, List.set_cons_succ]
    refine Ed.wpAnyT_take (i := 3) (oi := { dst := some 74, op := Op.fieldAddr 69 (Operand.tmp 73) 0, type := 0, pos := "ref.go:130", after := #[{ on := 2, ground := Ground.data }], guard := none }) (v := .pointer (some ⟨g, 0, none⟩)) rfl (by kernel_rfl) (by kernel_rfl) (by kernel_rfl) (by kernel_rfl) (fun _ _ _ h => h) (Or.inl ⟨by rfl, ?_⟩) hHeld ?_
    · intro w hSw
      obtain ⟨s0, s1⟩ := hSw
      first
        | rfl
        | (go_simp; done)
    try simp only [Act.put, List.setIfInBounds_toArray, List.set_cons_zero, List.set_cons_succ]
    refine Ed.wpAnyT_take (i := 4) (oi := { dst := some 75, op := Op.load 30 (Operand.tmp 74), type := 30, pos := "ref.go:130", after := #[{ on := 3, ground := Ground.data }], guard := none }) (v := .slice (some a) n cap) rfl (by kernel_rfl) (by kernel_rfl) (by kernel_rfl) (by kernel_rfl) (fun _ _ _ h => h) (Or.inl ⟨by rfl, ?_⟩) hHeld ?_
    · intro w hSw
      obtain ⟨s0, s1⟩ := hSw
      first
        | rfl
        | (go_simp; done)
    try simp only [Act.put, List.setIfInBounds_toArray, List.set_cons_zero, List.set_cons_succ]
    refine Ed.wpAnyT_take (i := 5) (oi := { dst := some 76, op := Op.move (Operand.tmp 7), type := 3, pos := "ref.go:130", after := #[], guard := none }) (v := .int .i64 ((k : Int) + 8)) rfl (by kernel_rfl) (by kernel_rfl) (by kernel_rfl) (by kernel_rfl) (fun _ _ _ h => h) (Or.inl ⟨by rfl, ?_⟩) hHeld ?_
    · intro w hSw
      obtain ⟨s0, s1⟩ := hSw
      first
        | rfl
        | (go_simp; done)
    try simp only [Act.put, List.setIfInBounds_toArray, List.set_cons_zero, List.set_cons_succ]
    refine Ed.wpAnyT_take (i := 6) (oi := { dst := some 77, op := Op.move (Operand.tmp 0), type := 67, pos := "ref.go:130", after := #[], guard := none }) (v := .pointer (some ⟨g, 0, none⟩)) rfl (by kernel_rfl) (by kernel_rfl) (by kernel_rfl) (by kernel_rfl) (fun _ _ _ h => h) (Or.inl ⟨by rfl, ?_⟩) hHeld ?_
    · intro w hSw
      obtain ⟨s0, s1⟩ := hSw
      first
        | rfl
        | (go_simp; done)
    try simp only [Act.put, List.setIfInBounds_toArray, List.set_cons_zero, List.set_cons_succ]
    refine Ed.wpAnyT_take (i := 7) (oi := { dst := some 78, op := Op.nilCheck (Operand.tmp 77), type := 0, pos := "ref.go:130", after := #[{ on := 6, ground := Ground.data }], guard := none }) (v := .pointer (some ⟨g, 0, none⟩)) rfl (by kernel_rfl) (by kernel_rfl) (by kernel_rfl) (by kernel_rfl) (fun _ _ _ h => h) (Or.inl ⟨by rfl, ?_⟩) hHeld ?_
    · intro w hSw
      obtain ⟨s0, s1⟩ := hSw
      first
        | rfl
        | (go_simp; done)
    try simp only [Act.put, List.setIfInBounds_toArray, List.set_cons_zero, List.set_cons_succ]
    refine Ed.wpAnyT_take (i := 8) (oi := { dst := some 79, op := Op.fieldAddr 69 (Operand.tmp 78) 1, type := 0, pos := "ref.go:130", after := #[{ on := 7, ground := Ground.data }], guard := none }) (v := .pointer (some ⟨g, 1, none⟩)) rfl (by kernel_rfl) (by kernel_rfl) (by kernel_rfl) (by kernel_rfl) (fun _ _ _ h => h) (Or.inl ⟨by rfl, ?_⟩) hHeld ?_
    · intro w hSw
      obtain ⟨s0, s1⟩ := hSw
      first
        | rfl
        | (go_simp; done)
    try simp only [Act.put, List.setIfInBounds_toArray, List.set_cons_zero, List.set_cons_succ]
    refine Ed.wpAnyT_take (i := 9) (oi := { dst := some 80, op := Op.load 3 (Operand.tmp 79), type := 3, pos := "ref.go:130", after := #[{ on := 8, ground := Ground.data }], guard := none }) (v := .int .i64 ((k : Int) + 8 + (u : Int))) rfl (by kernel_rfl) (by kernel_rfl) (by kernel_rfl) (by kernel_rfl) (fun _ _ _ h => h) (Or.inl ⟨by rfl, ?_⟩) hHeld ?_
    · intro w hSw
      obtain ⟨s0, s1⟩ := hSw
      first
        | rfl
        | (go_simp; done)
    try simp only [Act.put, List.setIfInBounds_toArray, List.set_cons_zero, List.set_cons_succ]
    refine Ed.wpAnyT_take (i := 10) (oi := { dst := some 81, op := Op.slice 30 (Operand.tmp 75) (some (Operand.tmp 76)) (some (Operand.tmp 80)) none, type := 30, pos := "ref.go:130", after := #[{ on := 4, ground := Ground.data }, { on := 5, ground := Ground.data }, { on := 9, ground := Ground.data }], guard := none }) (v := .slice (some (a.add (k + 8))) u (cap - (k + 8))) rfl (by kernel_rfl) (by kernel_rfl) (by kernel_rfl) (by kernel_rfl) (fun _ _ _ h => h) (Or.inl ⟨by rfl, ?_⟩) hHeld ?_
    · intro w hSw
      obtain ⟨s0, s1⟩ := hSw
      first
        | rfl
        | (go_simp; done)
        | (go_simp; rw [if_pos (by omega), if_pos (by omega)]; done)
        | (go_simp; rw [if_pos (by omega)]; done)
        | (go_simp; rw [if_pos (by omega), if_pos (by omega)]; simp; done)
    try simp only [Act.put, List.setIfInBounds_toArray, List.set_cons_zero, List.set_cons_succ]
    refine Ed.wpAnyT_one (i := 0) (o := { dst := some 71, op := Op.buildSlice 30 0 #[], type := 30, pos := "ref.go:130", after := #[], guard := none }) (by kernel_rfl) rfl (fun K hK => ?_)
    go_simp
    have hbE : Below wd.heap.size wd (wd.alloc (.cells #[] 5)) := (Below.refl _ _).alloc (Nat.le_refl _) _
    have HRE := hide (RowAt.new wd 5 [])
    have HBE := hide ((unhide HBD).trans (hbE.mono (unhide HBD).size))
    have HGX : Hid (W2.heap.size ≤ wd.heap.size) := hide (unhide HBD).size
    have HGE : Hid (w.heap.size ≤ wd.heap.size) := hide (Nat.le_trans (unhide HO2).size (unhide HBD).size)
    clear hbE
    obtain ⟨wE, hE⟩ : ∃ z, wd.alloc (.cells #[] 5) = z := ⟨_, rfl⟩
    obtain ⟨gE, hgE⟩ : ∃ z, wd.heap.size = z := ⟨_, rfl⟩
    rw [show wd.alloc (.cells ([] : List Value).toArray 5) = wE from hE] at HRE
    rw [hE] at HBE ⊢
    rw [hgE] at HRE HGE HGX ⊢
    clear hE hgE
    refine hK.out _ _ (fun _ => unhide HSS _ (unhide HBE)) ?_
    clear hK K
    try simp only [Act.put, List.setIfInBounds_toArray, List.set_cons_zero, List.set_cons_succ]
    refine Ed.wpAnyT_one (i := 11) (o := { dst := some 82, op := Op.call { callee := Callee.builtin Builtin.append, args := #[Operand.tmp 71, Operand.tmp 81], argTypes := #[30, 30] }, type := 30, pos := "ref.go:130", after := #[{ on := 0, ground := Ground.data }, { on := 10, ground := Ground.data }], guard := none }) (by kernel_rfl) rfl (fun K hK => ?_)
    obtain ⟨i0, hi, hz0, hz1, hz2⟩ := Go.info_parts info5
    have hsrc := byt_src ((unhide HX2).call (unhide HBE)) (by rw [List.length_take, List.length_drop, (Oc.byt_cap (show Oc.Byt w (.slice (some a) n cap) l from unhide HV)).2.1]; omega)
    have hown : wE.ownsRow w.heap.size 5 1 (.slice (some ⟨gE, 0, none⟩) 0 0) 0 [] := ⟨rfl, .inr ⟨gE, 0, #[], rfl, unhide HGE, unhide HRE, Nat.le_refl _, by decide, rfl, rfl⟩⟩
    refine wp_append_src wE (Operand.tmp 71) (Operand.tmp 81) 30 rfl w.heap.size 5 i0 (.int .u8 0) 1 1 Tryd.underlying30 hi hz0 hz1 hz2 rfl (by decide) _ 0 [] rfl hown (some (a.add (k + 8))) u (cap - (k + 8)) (bv ((l.drop (k + 8)).take u)) rfl (by rw [bv_len, Nat.mul_one]; rw [List.length_take, List.length_drop, (Oc.byt_cap (show Oc.Byt w (.slice (some a) n cap) l from unhide HV)).2.1]; omega) hsrc.1 hsrc.2 (bv_one _) ?c1 ?c2 ?c3 ?_
    case c1 => unfold maxLen; omega
    case c2 => omega
    case c3 => exact Nat.le_trans (unhide HO2).size (unhide HBE).size
    intro aH cH wH oH gH kH
    have HNE : Hid (∀ j, j < W2.heap.size → some j ≠ Value.ownBlock (.slice (some ⟨gE, 0, none⟩) 0 0)) := hide (fun j hj h => by have h2 : j = gE := Option.some.inj (show some j = some gE from h); have := unhide HGX; omega)
    have HBH : Hid (Only (fun x => x = g) w wH) := hide ((unhide HO2).trans (Only.of_below (p := fun x => x = g) (((unhide HBE)).trans ⟨gH.os, gH.tape, gH.output, gH.size, fun j hj => gH.block j (Nat.lt_of_lt_of_le hj (unhide HBE).size) (unhide HNE j hj)⟩)))
    have HSH : Hid (wH.cell? ⟨g, 0, none⟩ = some (.slice (some a) n cap) ∧ wH.cell? ⟨g, 1, none⟩ = some (.int .i64 ((k : Int) + 8 + (u : Int)))) := hide (by
      have hG := unhide HSS _ (unhide HBE)
      have e : wH.heap[g]? = wE.heap[g]? := gH.block g (Nat.lt_of_lt_of_le (unhide HR2).lt (unhide HBE).size) (unhide HNE g (unhide HR2).lt)
      unfold World.cell? at hG ⊢
      simp only [e]
      exact hG)
    have HRH : Hid (RowAt wH g 69 [.slice (some a) n cap, .int .i64 ((k : Int) + 8 + (u : Int)), .int .i64 0]) := hide (by
      have e : wH.heap[g]? = wE.heap[g]? := gH.block g (Nat.lt_of_lt_of_le (unhide HR2).lt (unhide HBE).size) (unhide HNE g (unhide HR2).lt)
      have h := (unhide HR2).below (unhide HBE) (unhide HR2).lt
      unfold RowAt at h ⊢
      rw [e]; exact h)
    have HOH := hide oH
    clear oH gH kH hsrc hown hi hz0 hz1 hz2
    refine hK.out _ _ (fun _ => unhide HSH) ?_
    clear hK K
    try simp only [Act.put, List.setIfInBounds_toArray, List.set_cons_zero, List.set_cons_succ]
    refine Ed.wpAnyT_take (i := 12) (oi := { dst := some 4, op := Op.assign (Operand.tmp 82), type := 30, pos := "ref.go:130", after := #[{ on := 11, ground := Ground.data }, { on := 11, ground := Ground.chain }, { on := 0, ground := Ground.phase }, { on := 1, ground := Ground.phase }, { on := 2, ground := Ground.phase }, { on := 3, ground := Ground.phase }, { on := 4, ground := Ground.phase }, { on := 5, ground := Ground.phase }, { on := 6, ground := Ground.phase }, { on := 7, ground := Ground.phase }, { on := 8, ground := Ground.phase }, { on := 9, ground := Ground.phase }, { on := 10, ground := Ground.phase }, { on := 11, ground := Ground.phase }], guard := none }) (v := .slice aH (0 + u) cH) rfl (by kernel_rfl) (by kernel_rfl) (by kernel_rfl) (by kernel_rfl) (fun _ _ _ h => h) (Or.inl ⟨by rfl, ?_⟩) (unhide HSH) ?_
    · intro w hSw
      obtain ⟨s0, s1⟩ := hSw
      first
        | rfl
        | (go_simp; done)
    try simp only [Act.put, List.setIfInBounds_toArray, List.set_cons_zero, List.set_cons_succ]
    refine Ed.wpAnyT_done (by kernel_rfl) ?_ _
    go_wp2_with fail
    go_ret
    exact ⟨_, rfl, own_cast (unhide HOH) (by rw [List.length_take, List.length_drop, (Oc.byt_cap (show Oc.Byt w (.slice (some a) n cap) l from unhide HV)).2.1]; omega) rfl, by have h := unhide HRH; rw [show (k : Int) + 8 + (u : Int) = ((k + 8 + u : Nat) : Int) by omega] at h; exact h, unhide HBH⟩
  · obtain rfl : u = 0 := by omega
    have j2 : k + 8 ≤ n := by omega
    have j4 : (k : Int) + 8 ≤ (cap : Int) := by omega
    have j5 : ((k : Int) + 8).toNat = k + 8 := by omega
    go_wp2_with fail
    go_quiet (fail)
    go_wp2_with fail
    by_cases j1 : cap = k + 8
    · skip
      have HR2 : Hid (RowAt ((w.drewN (1 + nq)).setCell ⟨g, 1, none⟩ (.int .i64 ((k : Int) + 8))) g 69 [.slice (some a) n cap, .int .i64 ((k : Int) + 8), .int .i64 0]) := hide (RowAt.set (RowAt.drewN (unhide HR) (1 + nq)) 1 (.int .i64 ((k : Int) + 8)))
      have HO2 : Hid (Only (fun x => x = g) w ((w.drewN (1 + nq)).setCell ⟨g, 1, none⟩ (.int .i64 ((k : Int) + 8)))) := hide (Only.set (p := fun x => x = g) ((Only.refl _ w).drewN _) g 1 _ rfl)
      obtain ⟨W2, hW2⟩ : ∃ z, (w.drewN (1 + nq)).setCell ⟨g, 1, none⟩ (.int .i64 ((k : Int) + 8)) = z := ⟨_, rfl⟩
      rw [hW2] at HR2 HO2 ⊢
      clear hW2
      have HV2 : Hid (Byt W2 (.slice (some a) n cap) l) := hide ((unhide HO2).byt' (unhide HV) (fun hne => by
        intro kk hkk h
        have hk2 : a.block = kk := Option.some.inj (show some a.block = some kk from hkk)
        exact unhide HGL kk hk2 (by
          have hll := (Oc.byt_cap (show Oc.Byt w (.slice (some a) n cap) l from unhide HV)).2.1
          have := List.length_pos_iff.2 hne
          omega) h))
      have HX2 : Hid (Byt W2 (.slice (some a) 0 (0)) ([])) := hide (.inr ⟨a, 0, rfl, Nat.le_refl _, by decide, fun i y hy => by simp at hy⟩)
      have HSS : Hid (∀ W, Below W2.heap.size W2 W → W.cell? ⟨g, 0, none⟩ = some (.slice (some a) n cap) ∧ W.cell? ⟨g, 1, none⟩ = some (.int .i64 ((k : Int) + 8))) := hide (fun W hW => ⟨((unhide HR2).below hW (unhide HR2).lt).cell 0, ((unhide HR2).below hW (unhide HR2).lt).cell 1⟩)
      refine Ed.wp_region_T (S := fun W => W.cell? ⟨g, 0, none⟩ = some (.slice (some a) n cap) ∧ W.cell? ⟨g, 1, none⟩ = some (.int .i64 ((k : Int) + 8))) (fun i => decide (i < 13)) (by kernel_rfl) (unhide HSS _ (Below.refl _ _).drew) (fun hHeld => ?_)
      obtain ⟨wd, hwd⟩ : ∃ z, W2.drew = z := ⟨_, rfl⟩
      have hbd : Below W2.heap.size W2 wd := by rw [← hwd]; exact (Below.refl _ _).drew
      have HBD := hide hbd
      rw [hwd] at hHeld ⊢
      clear hwd hbd
      refine Ed.wpAnyT_take (i := 1) (oi := { dst := some 72, op := Op.move (Operand.tmp 0), type := 67, pos := "ref.go:130", after := #[], guard := none }) (v := .pointer (some ⟨g, 0, none⟩)) rfl (by kernel_rfl) (by kernel_rfl) (by kernel_rfl) (by kernel_rfl) (fun _ _ _ h => h) (Or.inl ⟨by rfl, ?_⟩) hHeld ?_
      · intro w hSw
        obtain ⟨s0, s1⟩ := hSw
        first
          | rfl
          | (go_simp; done)
      try simp only [Act.put, List.setIfInBounds_toArray, List.set_cons_zero, List.set_cons_succ]
      refine Ed.wpAnyT_take (i := 2) (oi := { dst := some 73, op := Op.nilCheck (Operand.tmp 72), type := 0, pos := "ref.go:130", after := #[{ on := 1, ground := Ground.data }], guard := none }) (v := .pointer (some ⟨g, 0, none⟩)) rfl (by kernel_rfl) (by kernel_rfl) (by kernel_rfl) (by kernel_rfl) (fun _ _ _ h => h) (Or.inl ⟨by rfl, ?_⟩) hHeld ?_
      · intro w hSw
        obtain ⟨s0, s1⟩ := hSw
        first
          | rfl
          | (go_simp; done)
      try simp only [Act.put, List.setIfInBounds_toArray, List.set_cons_zero, List.set_cons_succ]
      refine Ed.wpAnyT_take (i := 3) (oi := { dst := some 74, op := Op.fieldAddr 69 (Operand.tmp 73) 0, type := 0, pos := "ref.go:130", after := #[{ on := 2, ground := Ground.data }], guard := none }) (v := .pointer (some ⟨g, 0, none⟩)) rfl (by kernel_rfl) (by kernel_rfl) (by kernel_rfl) (by kernel_rfl) (fun _ _ _ h => h) (Or.inl ⟨by rfl, ?_⟩) hHeld ?_
      · intro w hSw
        obtain ⟨s0, s1⟩ := hSw
        first
          | rfl
          | (go_simp; done)
      try simp only [Act.put, List.setIfInBounds_toArray, List.set_cons_zero, List.set_cons_succ]
      refine Ed.wpAnyT_take (i := 4) (oi := { dst := some 75, op := Op.load 30 (Operand.tmp 74), type := 30, pos := "ref.go:130", after := #[{ on := 3, ground := Ground.data }], guard := none }) (v := .slice (some a) n cap) rfl (by kernel_rfl) (by kernel_rfl) (by kernel_rfl) (by kernel_rfl) (fun _ _ _ h => h) (Or.inl ⟨by rfl, ?_⟩) hHeld ?_
      · intro w hSw
        obtain ⟨s0, s1⟩ := hSw
        first
          | rfl
          | (go_simp; done)
      try simp only [Act.put, List.setIfInBounds_toArray, List.set_cons_zero, List.set_cons_succ]
      refine Ed.wpAnyT_take (i := 5) (oi := { dst := some 76, op := Op.move (Operand.tmp 7), type := 3, pos := "ref.go:130", after := #[], guard := none }) (v := .int .i64 ((k : Int) + 8)) rfl (by kernel_rfl) (by kernel_rfl) (by kernel_rfl) (by kernel_rfl) (fun _ _ _ h => h) (Or.inl ⟨by rfl, ?_⟩) hHeld ?_
      · intro w hSw
        obtain ⟨s0, s1⟩ := hSw
        first
          | rfl
          | (go_simp; done)
      try simp only [Act.put, List.setIfInBounds_toArray, List.set_cons_zero, List.set_cons_succ]
      refine Ed.wpAnyT_take (i := 6) (oi := { dst := some 77, op := Op.move (Operand.tmp 0), type := 67, pos := "ref.go:130", after := #[], guard := none }) (v := .pointer (some ⟨g, 0, none⟩)) rfl (by kernel_rfl) (by kernel_rfl) (by kernel_rfl) (by kernel_rfl) (fun _ _ _ h => h) (Or.inl ⟨by rfl, ?_⟩) hHeld ?_
      · intro w hSw
        obtain ⟨s0, s1⟩ := hSw
        first
          | rfl
          | (go_simp; done)
      try simp only [Act.put, List.setIfInBounds_toArray, List.set_cons_zero, List.set_cons_succ]
      refine Ed.wpAnyT_take (i := 7) (oi := { dst := some 78, op := Op.nilCheck (Operand.tmp 77), type := 0, pos := "ref.go:130", after := #[{ on := 6, ground := Ground.data }], guard := none }) (v := .pointer (some ⟨g, 0, none⟩)) rfl (by kernel_rfl) (by kernel_rfl) (by kernel_rfl) (by kernel_rfl) (fun _ _ _ h => h) (Or.inl ⟨by rfl, ?_⟩) hHeld ?_
      · intro w hSw
        obtain ⟨s0, s1⟩ := hSw
        first
          | rfl
          | (go_simp; done)
      try simp only [Act.put, List.setIfInBounds_toArray, List.set_cons_zero, List.set_cons_succ]
      refine Ed.wpAnyT_take (i := 8) (oi := { dst := some 79, op := Op.fieldAddr 69 (Operand.tmp 78) 1, type := 0, pos := "ref.go:130", after := #[{ on := 7, ground := Ground.data }], guard := none }) (v := .pointer (some ⟨g, 1, none⟩)) rfl (by kernel_rfl) (by kernel_rfl) (by kernel_rfl) (by kernel_rfl) (fun _ _ _ h => h) (Or.inl ⟨by rfl, ?_⟩) hHeld ?_
      · intro w hSw
        obtain ⟨s0, s1⟩ := hSw
        first
          | rfl
          | (go_simp; done)
      try simp only [Act.put, List.setIfInBounds_toArray, List.set_cons_zero, List.set_cons_succ]
      refine Ed.wpAnyT_take (i := 9) (oi := { dst := some 80, op := Op.load 3 (Operand.tmp 79), type := 3, pos := "ref.go:130", after := #[{ on := 8, ground := Ground.data }], guard := none }) (v := .int .i64 ((k : Int) + 8)) rfl (by kernel_rfl) (by kernel_rfl) (by kernel_rfl) (by kernel_rfl) (fun _ _ _ h => h) (Or.inl ⟨by rfl, ?_⟩) hHeld ?_
      · intro w hSw
        obtain ⟨s0, s1⟩ := hSw
        first
          | rfl
          | (go_simp; done)
      try simp only [Act.put, List.setIfInBounds_toArray, List.set_cons_zero, List.set_cons_succ]
      refine Ed.wpAnyT_take (i := 10) (oi := { dst := some 81, op := Op.slice 30 (Operand.tmp 75) (some (Operand.tmp 76)) (some (Operand.tmp 80)) none, type := 30, pos := "ref.go:130", after := #[{ on := 4, ground := Ground.data }, { on := 5, ground := Ground.data }, { on := 9, ground := Ground.data }], guard := none }) (v := .slice (some a) 0 (0)) rfl (by kernel_rfl) (by kernel_rfl) (by kernel_rfl) (by kernel_rfl) (fun _ _ _ h => h) (Or.inl ⟨by rfl, ?_⟩) hHeld ?_
      · intro w hSw
        obtain ⟨s0, s1⟩ := hSw
        first
          | rfl
          | (go_simp; done)
          | (go_simp; rw [if_pos (by omega), if_pos (by omega)]; done)
          | (go_simp; rw [if_pos (by omega)]; done)
          | (go_simp; rw [if_pos (by omega), if_pos (by omega)]; simp; done)
      try simp only [Act.put, List.setIfInBounds_toArray, List.set_cons_zero, List.set_cons_succ]
      refine Ed.wpAnyT_one (i := 0) (o := { dst := some 71, op := Op.buildSlice 30 0 #[], type := 30, pos := "ref.go:130", after := #[], guard := none }) (by kernel_rfl) rfl (fun K hK => ?_)
      go_simp
      have hbE : Below wd.heap.size wd (wd.alloc (.cells #[] 5)) := (Below.refl _ _).alloc (Nat.le_refl _) _
      have HRE := hide (RowAt.new wd 5 [])
      have HBE := hide ((unhide HBD).trans (hbE.mono (unhide HBD).size))
      have HGX : Hid (W2.heap.size ≤ wd.heap.size) := hide (unhide HBD).size
      have HGE : Hid (w.heap.size ≤ wd.heap.size) := hide (Nat.le_trans (unhide HO2).size (unhide HBD).size)
      clear hbE
      obtain ⟨wE, hE⟩ : ∃ z, wd.alloc (.cells #[] 5) = z := ⟨_, rfl⟩
      obtain ⟨gE, hgE⟩ : ∃ z, wd.heap.size = z := ⟨_, rfl⟩
      rw [show wd.alloc (.cells ([] : List Value).toArray 5) = wE from hE] at HRE
      rw [hE] at HBE ⊢
      rw [hgE] at HRE HGE HGX ⊢
      clear hE hgE
      refine hK.out _ _ (fun _ => unhide HSS _ (unhide HBE)) ?_
      clear hK K
      try simp only [Act.put, List.setIfInBounds_toArray, List.set_cons_zero, List.set_cons_succ]
      refine Ed.wpAnyT_one (i := 11) (o := { dst := some 82, op := Op.call { callee := Callee.builtin Builtin.append, args := #[Operand.tmp 71, Operand.tmp 81], argTypes := #[30, 30] }, type := 30, pos := "ref.go:130", after := #[{ on := 0, ground := Ground.data }, { on := 10, ground := Ground.data }], guard := none }) (by kernel_rfl) rfl (fun K hK => ?_)
      obtain ⟨i0, hi, hz0, hz1, hz2⟩ := Go.info_parts info5
      have hsrc := byt_src ((unhide HX2).call (unhide HBE)) (by rfl)
      have hown : wE.ownsRow w.heap.size 5 1 (.slice (some ⟨gE, 0, none⟩) 0 0) 0 [] := ⟨rfl, .inr ⟨gE, 0, #[], rfl, unhide HGE, unhide HRE, Nat.le_refl _, by decide, rfl, rfl⟩⟩
      refine wp_append_src wE (Operand.tmp 71) (Operand.tmp 81) 30 rfl w.heap.size 5 i0 (.int .u8 0) 1 1 Tryd.underlying30 hi hz0 hz1 hz2 rfl (by decide) _ 0 [] rfl hown (some a) 0 (0) (bv ([])) rfl (by rw [bv_len, Nat.mul_one]; rfl) hsrc.1 hsrc.2 (bv_one _) ?c1 ?c2 ?c3 ?_
      case c1 => unfold maxLen; omega
      case c2 => omega
      case c3 => exact Nat.le_trans (unhide HO2).size (unhide HBE).size
      intro aH cH wH oH gH kH
      have HNE : Hid (∀ j, j < W2.heap.size → some j ≠ Value.ownBlock (.slice (some ⟨gE, 0, none⟩) 0 0)) := hide (fun j hj h => by have h2 : j = gE := Option.some.inj (show some j = some gE from h); have := unhide HGX; omega)
      have HBH : Hid (Only (fun x => x = g) w wH) := hide ((unhide HO2).trans (Only.of_below (p := fun x => x = g) (((unhide HBE)).trans ⟨gH.os, gH.tape, gH.output, gH.size, fun j hj => gH.block j (Nat.lt_of_lt_of_le hj (unhide HBE).size) (unhide HNE j hj)⟩)))
      have HSH : Hid (wH.cell? ⟨g, 0, none⟩ = some (.slice (some a) n cap) ∧ wH.cell? ⟨g, 1, none⟩ = some (.int .i64 ((k : Int) + 8))) := hide (by
        have hG := unhide HSS _ (unhide HBE)
        have e : wH.heap[g]? = wE.heap[g]? := gH.block g (Nat.lt_of_lt_of_le (unhide HR2).lt (unhide HBE).size) (unhide HNE g (unhide HR2).lt)
        unfold World.cell? at hG ⊢
        simp only [e]
        exact hG)
      have HRH : Hid (RowAt wH g 69 [.slice (some a) n cap, .int .i64 ((k : Int) + 8), .int .i64 0]) := hide (by
        have e : wH.heap[g]? = wE.heap[g]? := gH.block g (Nat.lt_of_lt_of_le (unhide HR2).lt (unhide HBE).size) (unhide HNE g (unhide HR2).lt)
        have h := (unhide HR2).below (unhide HBE) (unhide HR2).lt
        unfold RowAt at h ⊢
        rw [e]; exact h)
      have HOH := hide oH
      clear oH gH kH hsrc hown hi hz0 hz1 hz2
      refine hK.out _ _ (fun _ => unhide HSH) ?_
      clear hK K
      try simp only [Act.put, List.setIfInBounds_toArray, List.set_cons_zero, List.set_cons_succ]
      refine Ed.wpAnyT_take (i := 12) (oi := { dst := some 4, op := Op.assign (Operand.tmp 82), type := 30, pos := "ref.go:130", after := #[{ on := 11, ground := Ground.data }, { on := 11, ground := Ground.chain }, { on := 0, ground := Ground.phase }, { on := 1, ground := Ground.phase }, { on := 2, ground := Ground.phase }, { on := 3, ground := Ground.phase }, { on := 4, ground := Ground.phase }, { on := 5, ground := Ground.phase }, { on := 6, ground := Ground.phase }, { on := 7, ground := Ground.phase }, { on := 8, ground := Ground.phase }, { on := 9, ground := Ground.phase }, { on := 10, ground := Ground.phase }, { on := 11, ground := Ground.phase }], guard := none }) (v := .slice aH (0 + 0) cH) rfl (by kernel_rfl) (by kernel_rfl) (by kernel_rfl) (by kernel_rfl) (fun _ _ _ h => h) (Or.inl ⟨by rfl, ?_⟩) (unhide HSH) ?_
      · intro w hSw
        obtain ⟨s0, s1⟩ := hSw
        first
          | rfl
          | (go_simp; done)
      try simp only [Act.put, List.setIfInBounds_toArray, List.set_cons_zero, List.set_cons_succ]
      refine Ed.wpAnyT_done (by kernel_rfl) ?_ _
      go_wp2_with fail
      go_ret
      exact ⟨_, rfl, own_cast (unhide HOH) (by simp) (by simp), by have h := unhide HRH; rw [show (k : Int) + 8 = ((k + 8 + 0 : Nat) : Int) by omega] at h; exact h, unhide HBH⟩
    · skip
      have HR2 : Hid (RowAt ((w.drewN (1 + nq)).setCell ⟨g, 1, none⟩ (.int .i64 ((k : Int) + 8))) g 69 [.slice (some a) n cap, .int .i64 ((k : Int) + 8), .int .i64 0]) := hide (RowAt.set (RowAt.drewN (unhide HR) (1 + nq)) 1 (.int .i64 ((k : Int) + 8)))
      have HO2 : Hid (Only (fun x => x = g) w ((w.drewN (1 + nq)).setCell ⟨g, 1, none⟩ (.int .i64 ((k : Int) + 8)))) := hide (Only.set (p := fun x => x = g) ((Only.refl _ w).drewN _) g 1 _ rfl)
      obtain ⟨W2, hW2⟩ : ∃ z, (w.drewN (1 + nq)).setCell ⟨g, 1, none⟩ (.int .i64 ((k : Int) + 8)) = z := ⟨_, rfl⟩
      rw [hW2] at HR2 HO2 ⊢
      clear hW2
      have HV2 : Hid (Byt W2 (.slice (some a) n cap) l) := hide ((unhide HO2).byt' (unhide HV) (fun hne => by
        intro kk hkk h
        have hk2 : a.block = kk := Option.some.inj (show some a.block = some kk from hkk)
        exact unhide HGL kk hk2 (by
          have hll := (Oc.byt_cap (show Oc.Byt w (.slice (some a) n cap) l from unhide HV)).2.1
          have := List.length_pos_iff.2 hne
          omega) h))
      have HX2 : Hid (Byt W2 (.slice (some (a.add (k + 8))) 0 (cap - (k + 8))) ([])) := hide (by have h := ((unhide HV2).drop (k + 8) (by omega)).take 0 (by omega); rw [List.take_zero] at h; exact h)
      have HSS : Hid (∀ W, Below W2.heap.size W2 W → W.cell? ⟨g, 0, none⟩ = some (.slice (some a) n cap) ∧ W.cell? ⟨g, 1, none⟩ = some (.int .i64 ((k : Int) + 8))) := hide (fun W hW => ⟨((unhide HR2).below hW (unhide HR2).lt).cell 0, ((unhide HR2).below hW (unhide HR2).lt).cell 1⟩)
      refine Ed.wp_region_T (S := fun W => W.cell? ⟨g, 0, none⟩ = some (.slice (some a) n cap) ∧ W.cell? ⟨g, 1, none⟩ = some (.int .i64 ((k : Int) + 8))) (fun i => decide (i < 13)) (by kernel_rfl) (unhide HSS _ (Below.refl _ _).drew) (fun hHeld => ?_)
      obtain ⟨wd, hwd⟩ : ∃ z, W2.drew = z := ⟨_, rfl⟩
      have hbd : Below W2.heap.size W2 wd := by rw [← hwd]; exact (Below.refl _ _).drew
      have HBD := hide hbd
      rw [hwd] at hHeld ⊢
      clear hwd hbd
      refine Ed.wpAnyT_take (i := 1) (oi := { dst := some 72, op := Op.move (Operand.tmp 0), type := 67, pos := "ref.go:130", after := #[], guard := none }) (v := .pointer (some ⟨g, 0, none⟩)) rfl (by kernel_rfl) (by kernel_rfl) (by kernel_rfl) (by kernel_rfl) (fun _ _ _ h => h) (Or.inl ⟨by rfl, ?_⟩) hHeld ?_
      · intro w hSw
        obtain ⟨s0, s1⟩ := hSw
        first
          | rfl
          | (go_simp; done)
      try simp only [Act.put, List.setIfInBounds_toArray, List.set_cons_zero, List.set_cons_succ]
      refine Ed.wpAnyT_take (i := 2) (oi := { dst := some 73, op := Op.nilCheck (Operand.tmp 72), type := 0, pos := "ref.go:130", after := #[{ on := 1, ground := Ground.data }], guard := none }) (v := .pointer (some ⟨g, 0, none⟩)) rfl (by kernel_rfl) (by kernel_rfl) (by kernel_rfl) (by kernel_rfl) (fun _ _ _ h => h) (Or.inl ⟨by rfl, ?_⟩) hHeld ?_
      · intro w hSw
        obtain ⟨s0, s1⟩ := hSw
        first
          | rfl
          | (go_simp; done)
      try simp only [Act.put, List.setIfInBounds_toArray, List.set_cons_zero, List.set_cons_succ]
      refine Ed.wpAnyT_take (i := 3) (oi := { dst := some 74, op := Op.fieldAddr 69 (Operand.tmp 73) 0, type := 0, pos := "ref.go:130", after := #[{ on := 2, ground := Ground.data }], guard := none }) (v := .pointer (some ⟨g, 0, none⟩)) rfl (by kernel_rfl) (by kernel_rfl) (by kernel_rfl) (by kernel_rfl) (fun _ _ _ h => h) (Or.inl ⟨by rfl, ?_⟩) hHeld ?_
      · intro w hSw
        obtain ⟨s0, s1⟩ := hSw
        first
          | rfl
          | (go_simp; done)
      try simp only [Act.put, List.setIfInBounds_toArray, List.set_cons_zero, List.set_cons_succ]
      refine Ed.wpAnyT_take (i := 4) (oi := { dst := some 75, op := Op.load 30 (Operand.tmp 74), type := 30, pos := "ref.go:130", after := #[{ on := 3, ground := Ground.data }], guard := none }) (v := .slice (some a) n cap) rfl (by kernel_rfl) (by kernel_rfl) (by kernel_rfl) (by kernel_rfl) (fun _ _ _ h => h) (Or.inl ⟨by rfl, ?_⟩) hHeld ?_
      · intro w hSw
        obtain ⟨s0, s1⟩ := hSw
        first
          | rfl
          | (go_simp; done)
      try simp only [Act.put, List.setIfInBounds_toArray, List.set_cons_zero, List.set_cons_succ]
      refine Ed.wpAnyT_take (i := 5) (oi := { dst := some 76, op := Op.move (Operand.tmp 7), type := 3, pos := "ref.go:130", after := #[], guard := none }) (v := .int .i64 ((k : Int) + 8)) rfl (by kernel_rfl) (by kernel_rfl) (by kernel_rfl) (by kernel_rfl) (fun _ _ _ h => h) (Or.inl ⟨by rfl, ?_⟩) hHeld ?_
      · intro w hSw
        obtain ⟨s0, s1⟩ := hSw
        first
          | rfl
          | (go_simp; done)
      try simp only [Act.put, List.setIfInBounds_toArray, List.set_cons_zero, List.set_cons_succ]
      refine Ed.wpAnyT_take (i := 6) (oi := { dst := some 77, op := Op.move (Operand.tmp 0), type := 67, pos := "ref.go:130", after := #[], guard := none }) (v := .pointer (some ⟨g, 0, none⟩)) rfl (by kernel_rfl) (by kernel_rfl) (by kernel_rfl) (by kernel_rfl) (fun _ _ _ h => h) (Or.inl ⟨by rfl, ?_⟩) hHeld ?_
      · intro w hSw
        obtain ⟨s0, s1⟩ := hSw
        first
          | rfl
          | (go_simp; done)
      try simp only [Act.put, List.setIfInBounds_toArray, List.set_cons_zero, List.set_cons_succ]
      refine Ed.wpAnyT_take (i := 7) (oi := { dst := some 78, op := Op.nilCheck (Operand.tmp 77), type := 0, pos := "ref.go:130", after := #[{ on := 6, ground := Ground.data }], guard := none }) (v := .pointer (some ⟨g, 0, none⟩)) rfl (by kernel_rfl) (by kernel_rfl) (by kernel_rfl) (by kernel_rfl) (fun _ _ _ h => h) (Or.inl ⟨by rfl, ?_⟩) hHeld ?_
      · intro w hSw
        obtain ⟨s0, s1⟩ := hSw
        first
          | rfl
          | (go_simp; done)
      try simp only [Act.put, List.setIfInBounds_toArray, List.set_cons_zero, List.set_cons_succ]
      refine Ed.wpAnyT_take (i := 8) (oi := { dst := some 79, op := Op.fieldAddr 69 (Operand.tmp 78) 1, type := 0, pos := "ref.go:130", after := #[{ on := 7, ground := Ground.data }], guard := none }) (v := .pointer (some ⟨g, 1, none⟩)) rfl (by kernel_rfl) (by kernel_rfl) (by kernel_rfl) (by kernel_rfl) (fun _ _ _ h => h) (Or.inl ⟨by rfl, ?_⟩) hHeld ?_
      · intro w hSw
        obtain ⟨s0, s1⟩ := hSw
        first
          | rfl
          | (go_simp; done)
      try simp only [Act.put, List.setIfInBounds_toArray, List.set_cons_zero, List.set_cons_succ]
      refine Ed.wpAnyT_take (i := 9) (oi := { dst := some 80, op := Op.load 3 (Operand.tmp 79), type := 3, pos := "ref.go:130", after := #[{ on := 8, ground := Ground.data }], guard := none }) (v := .int .i64 ((k : Int) + 8)) rfl (by kernel_rfl) (by kernel_rfl) (by kernel_rfl) (by kernel_rfl) (fun _ _ _ h => h) (Or.inl ⟨by rfl, ?_⟩) hHeld ?_
      · intro w hSw
        obtain ⟨s0, s1⟩ := hSw
        first
          | rfl
          | (go_simp; done)
      try simp only [Act.put, List.setIfInBounds_toArray, List.set_cons_zero, List.set_cons_succ]
      refine Ed.wpAnyT_take (i := 10) (oi := { dst := some 81, op := Op.slice 30 (Operand.tmp 75) (some (Operand.tmp 76)) (some (Operand.tmp 80)) none, type := 30, pos := "ref.go:130", after := #[{ on := 4, ground := Ground.data }, { on := 5, ground := Ground.data }, { on := 9, ground := Ground.data }], guard := none }) (v := .slice (some (a.add (k + 8))) 0 (cap - (k + 8))) rfl (by kernel_rfl) (by kernel_rfl) (by kernel_rfl) (by kernel_rfl) (fun _ _ _ h => h) (Or.inl ⟨by rfl, ?_⟩) hHeld ?_
      · intro w hSw
        obtain ⟨s0, s1⟩ := hSw
        first
          | rfl
          | (go_simp; done)
          | (go_simp; rw [if_pos (by omega), if_pos (by omega)]; done)
          | (go_simp; rw [if_pos (by omega)]; done)
          | (go_simp; rw [if_pos (by omega), if_pos (by omega)]; simp; done)
      try simp only [Act.put, List.setIfInBounds_toArray, List.set_cons_zero, List.set_cons_succ]
      refine Ed.wpAnyT_one (i := 0) (o := { dst := some 71, op := Op.buildSlice 30 0 #[], type := 30, pos := "ref.go:130", after := #[], guard := none }) (by kernel_rfl) rfl (fun K hK => ?_)
      go_simp
      have hbE : Below wd.heap.size wd (wd.alloc (.cells #[] 5)) := (Below.refl _ _).alloc (Nat.le_refl _) _
      have HRE := hide (RowAt.new wd 5 [])
      have HBE := hide ((unhide HBD).trans (hbE.mono (unhide HBD).size))
      have HGX : Hid (W2.heap.size ≤ wd.heap.size) := hide (unhide HBD).size
      have HGE : Hid (w.heap.size ≤ wd.heap.size) := hide (Nat.le_trans (unhide HO2).size (unhide HBD).size)
      clear hbE
      obtain ⟨wE, hE⟩ : ∃ z, wd.alloc (.cells #[] 5) = z := ⟨_, rfl⟩
      obtain ⟨gE, hgE⟩ : ∃ z, wd.heap.size = z := ⟨_, rfl⟩
      rw [show wd.alloc (.cells ([] : List Value).toArray 5) = wE from hE] at HRE
      rw [hE] at HBE ⊢
      rw [hgE] at HRE HGE HGX ⊢
      clear hE hgE
      refine hK.out _ _ (fun _ => unhide HSS _ (unhide HBE)) ?_
      clear hK K
      try simp only [Act.put, List.setIfInBounds_toArray, List.set_cons_zero, List.set_cons_succ]
      refine Ed.wpAnyT_one (i := 11) (o := { dst := some 82, op := Op.call { callee := Callee.builtin Builtin.append, args := #[Operand.tmp 71, Operand.tmp 81], argTypes := #[30, 30] }, type := 30, pos := "ref.go:130", after := #[{ on := 0, ground := Ground.data }, { on := 10, ground := Ground.data }], guard := none }) (by kernel_rfl) rfl (fun K hK => ?_)
      obtain ⟨i0, hi, hz0, hz1, hz2⟩ := Go.info_parts info5
      have hsrc := byt_src ((unhide HX2).call (unhide HBE)) (by rfl)
      have hown : wE.ownsRow w.heap.size 5 1 (.slice (some ⟨gE, 0, none⟩) 0 0) 0 [] := ⟨rfl, .inr ⟨gE, 0, #[], rfl, unhide HGE, unhide HRE, Nat.le_refl _, by decide, rfl, rfl⟩⟩
      refine wp_append_src wE (Operand.tmp 71) (Operand.tmp 81) 30 rfl w.heap.size 5 i0 (.int .u8 0) 1 1 Tryd.underlying30 hi hz0 hz1 hz2 rfl (by decide) _ 0 [] rfl hown (some (a.add (k + 8))) 0 (cap - (k + 8)) (bv ([])) rfl (by rw [bv_len, Nat.mul_one]; rfl) hsrc.1 hsrc.2 (bv_one _) ?c1 ?c2 ?c3 ?_
      case c1 => unfold maxLen; omega
      case c2 => omega
      case c3 => exact Nat.le_trans (unhide HO2).size (unhide HBE).size
      intro aH cH wH oH gH kH
      have HNE : Hid (∀ j, j < W2.heap.size → some j ≠ Value.ownBlock (.slice (some ⟨gE, 0, none⟩) 0 0)) := hide (fun j hj h => by have h2 : j = gE := Option.some.inj (show some j = some gE from h); have := unhide HGX; omega)
      have HBH : Hid (Only (fun x => x = g) w wH) := hide ((unhide HO2).trans (Only.of_below (p := fun x => x = g) (((unhide HBE)).trans ⟨gH.os, gH.tape, gH.output, gH.size, fun j hj => gH.block j (Nat.lt_of_lt_of_le hj (unhide HBE).size) (unhide HNE j hj)⟩)))
      have HSH : Hid (wH.cell? ⟨g, 0, none⟩ = some (.slice (some a) n cap) ∧ wH.cell? ⟨g, 1, none⟩ = some (.int .i64 ((k : Int) + 8))) := hide (by
        have hG := unhide HSS _ (unhide HBE)
        have e : wH.heap[g]? = wE.heap[g]? := gH.block g (Nat.lt_of_lt_of_le (unhide HR2).lt (unhide HBE).size) (unhide HNE g (unhide HR2).lt)
        unfold World.cell? at hG ⊢
        simp only [e]
        exact hG)
      have HRH : Hid (RowAt wH g 69 [.slice (some a) n cap, .int .i64 ((k : Int) + 8), .int .i64 0]) := hide (by
        have e : wH.heap[g]? = wE.heap[g]? := gH.block g (Nat.lt_of_lt_of_le (unhide HR2).lt (unhide HBE).size) (unhide HNE g (unhide HR2).lt)
        have h := (unhide HR2).below (unhide HBE) (unhide HR2).lt
        unfold RowAt at h ⊢
        rw [e]; exact h)
      have HOH := hide oH
      clear oH gH kH hsrc hown hi hz0 hz1 hz2
      refine hK.out _ _ (fun _ => unhide HSH) ?_
      clear hK K
      try simp only [Act.put, List.setIfInBounds_toArray, List.set_cons_zero, List.set_cons_succ]
      refine Ed.wpAnyT_take (i := 12) (oi := { dst := some 4, op := Op.assign (Operand.tmp 82), type := 30, pos := "ref.go:130", after := #[{ on := 11, ground := Ground.data }, { on := 11, ground := Ground.chain }, { on := 0, ground := Ground.phase }, { on := 1, ground := Ground.phase }, { on := 2, ground := Ground.phase }, { on := 3, ground := Ground.phase }, { on := 4, ground := Ground.phase }, { on := 5, ground := Ground.phase }, { on := 6, ground := Ground.phase }, { on := 7, ground := Ground.phase }, { on := 8, ground := Ground.phase }, { on := 9, ground := Ground.phase }, { on := 10, ground := Ground.phase }, { on := 11, ground := Ground.phase }], guard := none }) (v := .slice aH (0 + 0) cH) rfl (by kernel_rfl) (by kernel_rfl) (by kernel_rfl) (by kernel_rfl) (fun _ _ _ h => h) (Or.inl ⟨by rfl, ?_⟩) (unhide HSH) ?_
      · intro w hSw
        obtain ⟨s0, s1⟩ := hSw
        first
          | rfl
          | (go_simp; done)
      try simp only [Act.put, List.setIfInBounds_toArray, List.set_cons_zero, List.set_cons_succ]
      refine Ed.wpAnyT_done (by kernel_rfl) ?_ _
      go_wp2_with fail
      go_ret
      exact ⟨_, rfl, own_cast (unhide HOH) (by simp) (by simp), by have h := unhide HRH; rw [show (k : Int) + 8 = ((k + 8 + 0 : Nat) : Int) by omega] at h; exact h, unhide HBH⟩
end Go.Proofs.YtbnfilhilgjnfaaDoor

namespace Go.Proofs.YtbnfilhilgjnfaaDoor
set_option linter.unusedVariables false
set_option linter.unusedSimpArgs false
set_option maxRecDepth 100000
open Go.ChangeShapes Go.WideShapes Go.ChangeAt Go.RowKit Go.Joins

theorem rbytes_err (g : Nat) (v : Value) (k most : Nat) (e : Int) (w : World) (hr : RRd w g v k e) (he : ¬ e = 0) :
    Calls Tryd.prog 59 #[.pointer (some ⟨g, 0, none⟩), .int .i64 (most : Int)] w fun r w' => RbR ([], k, e) w g v r w' := by
  have c2 : w.cell? ⟨g, 2, none⟩ = some (.int .i64 e) := RowAt.cell hr 2
  have HR := hide hr
  have heb : (e != 0) = true := by simp [he]
  clear he hr
  go_enter Tryd.func59, Tryd.ntmps59
  go_wp2_with fail
  go_ret
  exact RbR.no (unhide HR) (Only.refl _ _)
theorem refNum_le (l : List Nat) : (Oc.refNum l).1 ≤ 9223372036854775807 := by
  unfold Oc.refNum
  split
  · simp
  · split
    · simp
    · rename_i h; simp only; omega
theorem refNum_8 {l : List Nat} (h : (Oc.refNum l).2 = 0) : 8 ≤ l.length := by
  unfold Oc.refNum at h
  split at h
  · cases h
  · omega
theorem rbytes_tot (g : Nat) (a : Option Addr) (n cap : Nat) (l : List Nat) (k most : Nat) (e : Int) (w : World) (hv : Byt w (.slice a n cap) l) (hgl : ∀ ad, a = some ad → 0 < n → ad.block ≠ g) (hr : RRd w g (.slice a n cap) k e) (hl : n ≤ 1000000000) (hk : k ≤ n) (h8 : U8 l) :
    Calls Tryd.prog 59 #[.pointer (some ⟨g, 0, none⟩), .int .i64 (most : Int)] w fun r w' => RbR (bytR l most k e) w g (.slice a n cap) r w' := by
  obtain ⟨hcm, hln, hcn⟩ := Oc.byt_cap (show Oc.Byt w (.slice a n cap) l from hv)
  unfold bytR
  by_cases he : e = 0
  · subst he
    rw [if_neg (by simp)]
    have short : k = n → Oc.refNum (l.drop k) = (0, 2) := fun h => by unfold Oc.refNum; rw [if_pos (by rw [List.length_drop]; omega)]
    cases a with
    | none =>
      obtain ⟨rfl, rfl, rfl⟩ : n = 0 ∧ cap = 0 ∧ l = [] := by
        rcases hv with ⟨h1, h2⟩ | ⟨a1, c1', h1, _⟩
        · injection h1 with _ h3 h4; exact ⟨h3, h4, h2⟩
        · cases h1
      obtain rfl : k = 0 := by omega
      have hN := Oc.refnum_any (.slice none 0 0) [] w.drew (.inl ⟨rfl, rfl⟩) (by decide) (fun y hy => by cases hy)
      have e2 := short rfl
      rw [show List.drop 0 ([] : List Nat) = [] from rfl] at e2 ⊢
      rw [e2] at hN ⊢
      rw [if_pos (by simp)]
      exact rbytes_none g most 2 w hr (by decide) hN
    | some a =>
      by_cases hck : cap = k
      · subst hck
        obtain rfl : n = cap := by omega
        have hN := Oc.refnum_any (.slice (some a) 0 0) [] w.drew (.inr ⟨a, 0, rfl, Nat.le_refl _, by decide, fun i y hy => by simp at hy⟩) (by decide) (fun y hy => by cases hy)
        have hd : l.drop n = [] := List.drop_eq_nil_of_le (by omega)
        have e2 := short rfl
        rw [hd] at e2
        rw [hd, e2, if_pos (by simp)]
        rw [e2] at hN
        exact rbytes_end g a n most 2 w hr (by decide) hl hN
      · have hN := Oc.refnum_any (.slice (some (a.add k)) (n - k) (cap - k)) (l.drop k) w.drew (((hv.call ((Below.refl _ _).drew)).drop k (by omega))) (by rw [List.length_drop]; omega) (fun y hy => h8 y (List.mem_of_mem_drop hy))
        have hbad := refNum_bad (l.drop k)
        have hle := refNum_le (l.drop k)
        have h88 : (Oc.refNum (l.drop k)).2 = 0 → k + 8 ≤ n := fun h => by have := refNum_8 h; rw [List.length_drop] at this; omega
        obtain ⟨x, hx⟩ : ∃ x, Oc.refNum (l.drop k) = x := ⟨_, rfl⟩
        rw [hx] at hN hbad hle h88 ⊢
        obtain ⟨u, z⟩ := x
        simp only at hN hbad hle h88 ⊢
        by_cases hz : z = 0
        · subst hz
          rw [if_neg (by simp)]
          by_cases h4 : most < u
          · rw [if_pos h4]
            exact rbytes_no4 g a n cap k most u w hr hl (h88 rfl) hcn hle h4 hN
          · rw [if_neg h4]
            by_cases h2 : l.length < k + 8 + u
            · rw [if_pos h2]
              exact rbytes_no2 g a n cap k most u w hr hl (h88 rfl) hcn hle (by omega) (by omega) hN
            · rw [if_neg h2]
              exact rbytes_ok g a n cap k most u l w hv (fun b hb hn => by rw [← hb]; exact hgl a rfl hn) hr hl (by omega) (by omega) hN
        · rw [if_pos hz]
          have hu := hbad hz
          subst hu
          exact rbytes_mid g a n cap k most z w hr hz hl hk hcn hck hN
  · rw [if_pos he]
    exact rbytes_err g _ k most e w hr he
theorem text_byt (l : List Nat) (k : Nat) (hk : k ≤ l.length) : Oc.textR l 256 k 0 = (if (bytR l 1024 k 0).2.2 ≠ 0 then (⟨#[]⟩, k, (bytR l 1024 k 0).2.2) else if Oc.rightE (Oc.strOf (bytR l 1024 k 0).1) 256 ≠ 0 then (⟨#[]⟩, k, Oc.rightE (Oc.strOf (bytR l 1024 k 0).1) 256) else (Oc.strOf (bytR l 1024 k 0).1, (bytR l 1024 k 0).2.1, 0)) := by
  unfold Oc.textR
  rw [if_neg (by simp)]
  by_cases h8 : l.length < k + 8
  · have r : Oc.refNum (l.drop k) = (0, 2) := by unfold Oc.refNum; rw [if_pos (by rw [List.length_drop]; omega)]
    have b : bytR l 1024 k 0 = ([], k, 2) := by unfold bytR; rw [if_neg (by simp), r, if_pos (by simp)]
    rw [if_pos h8, b, if_pos (by simp)]
  rw [if_neg h8]
  by_cases h63 : 9223372036854775807 < Oc.numOf ((l.drop k).take 8)
  · have r : Oc.refNum (l.drop k) = (0, 5) := by unfold Oc.refNum; rw [if_neg (by rw [List.length_drop]; omega), if_pos h63]
    have b : bytR l 1024 k 0 = ([], k, 5) := by unfold bytR; rw [if_neg (by simp), r, if_pos (by simp)]
    rw [if_pos h63, b, if_pos (by simp)]
  rw [if_neg h63]
  have r : Oc.refNum (l.drop k) = (Oc.numOf ((l.drop k).take 8), 0) := by unfold Oc.refNum; rw [if_neg (by rw [List.length_drop]; omega), if_neg h63]
  by_cases h4 : 4 * 256 < Oc.numOf ((l.drop k).take 8)
  · have b : bytR l 1024 k 0 = ([], k, 4) := by unfold bytR; rw [if_neg (by simp), r, if_neg (by simp), if_pos (by simp only; omega)]
    rw [if_pos h4, b, if_pos (by simp)]
  rw [if_neg h4]
  by_cases h2 : l.length < k + 8 + Oc.numOf ((l.drop k).take 8)
  · have b : bytR l 1024 k 0 = ([], k, 2) := by unfold bytR; rw [if_neg (by simp), r, if_neg (by simp), if_neg (by simp only; omega), if_pos h2]
    rw [if_pos h2, b, if_pos (by simp)]
  rw [if_neg h2]
  have b : bytR l 1024 k 0 = ((l.drop (k + 8)).take (Oc.numOf ((l.drop k).take 8)), k + 8 + Oc.numOf ((l.drop k).take 8), 0) := by unfold bytR; rw [if_neg (by simp), r, if_neg (by simp), if_neg (by simp only; omega), if_neg h2]
  rw [b]
  refine Eq.trans ?_ (if_neg (fun h => h rfl)).symm
  rfl
theorem bytR_k (l : List Nat) (m k : Nat) (h : ¬ (bytR l m k 0).2.2 = 0) : (bytR l m k 0).2.1 = k := by
  unfold bytR at h ⊢
  repeat' split
  all_goals first | rfl | (exfalso; simp_all)
def RtR (x : ByteArray × Nat × Int) (w : World) (g : Nat) (v : Value) (r : Ending) (w' : World) : Prop := r = .returned (.string x.1) ∧ RRd w' g v x.2.1 x.2.2 ∧ Only (· = g) w w'
theorem bytR_8 {l : List Nat} (h8 : U8 l) (m k : Nat) (e : Int) : U8 (bytR l m k e).1 := by
  unfold bytR
  repeat' split
  all_goals first | (intro y hy; cases hy) | exact fun y hy => h8 y (List.mem_of_mem_drop (List.mem_of_mem_take hy))
theorem bytR_len (l : List Nat) (m k : Nat) (e : Int) : (bytR l m k e).1.length ≤ l.length := by
  unfold bytR
  repeat' split
  all_goals first | exact Nat.zero_le _ | (simp only [List.length_take, List.length_drop]; omega)
theorem runes_of {W : World} {B : Nat} {v : Value} {x : List Nat} (h : W.ownsRow B 5 1 v x.length (bv x)) (h8 : U8 x) (hl : x.length ≤ 1000000000) :
    Calls Tryd.prog 60 #[v] W fun r w' => r = .returned (.int .i64 (Ed.runeV (Oc.strOf x).data.toList)) ∧ W = w' := by
  have hb := Byt.of_own h
  have hsz : (Oc.strOf x).data.toList.length = x.length := by rw [← Lib.size_eq, Oc.strOf_size]
  rcases h.2 with ⟨rfl, h0⟩ | ⟨g, cap, cur, rfl, _, _, hc, hm, _⟩
  · have hx : x = [] := List.eq_nil_of_length_eq_zero h0
    subst hx
    exact Ed.runes_any 0 0 [] W (fun j b hj => by simp at hj) (Nat.le_refl _) (by decide) (by simp) none (fun h => absurd rfl h)
  · have hq := Ed.runes_any g cap (Oc.strOf x).data.toList W (fun j b hj => by
      rcases hb with ⟨e, _⟩ | ⟨a, c, e, _, _, h3⟩
      · cases e
      · injection e with e1 _ _
        injection e1 with e1
        subst e1
        have hjl : j < x.length := by
          rcases Nat.lt_or_ge j x.length with h | h
          · exact h
          · rw [List.getElem?_eq_none (by omega)] at hj; cases hj
        have h4 := h3 j x[j] (List.getElem?_eq_getElem hjl)
        rw [add_plain, Nat.zero_add] at h4
        rw [h4]
        have h5 : (Oc.strOf x).data.toList[j]? = some (UInt8.ofNat x[j]) := by
          simp [Oc.strOf, List.getElem?_map, List.getElem?_eq_getElem hjl]
        rw [h5] at hj
        cases hj
        have h6 := h8 x[j] (List.getElem_mem hjl)
        simp
        omega) (by omega) hm (by omega) (some ⟨g, 0, none⟩) (fun _ => rfl)
    rw [hsz] at hq
    exact hq
set_option maxHeartbeats 4000000 in
theorem rtext_tot (g : Nat) (a : Option Addr) (n cap : Nat) (l : List Nat) (k : Nat) (e : Int) (w : World) (hv : Byt w (.slice a n cap) l) (hgl : ∀ ad, a = some ad → 0 < n → ad.block ≠ g) (hr : RRd w g (.slice a n cap) k e) (hl : n ≤ 1000000000) (hk : k ≤ n) (h8 : U8 l) :
    Calls Tryd.prog 41 #[.pointer (some ⟨g, 0, none⟩), .int .i64 256] w fun r w' => RtR (Oc.textR l 256 k e) w g (.slice a n cap) r w' := by
  have c1 : w.cell? ⟨g, 1, none⟩ = some (.int .i64 (k : Int)) := RowAt.cell hr 1
  have c2 : w.cell? ⟨g, 2, none⟩ = some (.int .i64 e) := RowAt.cell hr 2
  have HR := hide hr
  have HV := hide hv
  have hln := (Oc.byt_cap (show Oc.Byt w (.slice a n cap) l from hv)).2.1
  by_cases he : e = 0
  · subst he
    have HB := hide (rbytes_tot g a n cap l k 1024 0 w hv hgl hr hl hk h8)
    have HX8 := hide (bytR_8 h8 1024 k 0)
    have HXL : Hid ((bytR l 1024 k 0).1.length ≤ 1000000000) := hide (by have := bytR_len l 1024 k 0; omega)
    rw [text_byt l k (by omega)]
    obtain ⟨x, hx⟩ : ∃ x, bytR l 1024 k 0 = x := ⟨_, rfl⟩
    rw [hx] at HB HX8 HXL ⊢
    have HK2 : Hid (¬ x.2.2 = 0 → x.2.1 = k) := hide (fun h => by rw [← hx] at h ⊢; exact bytR_k l 1024 k h)
    obtain ⟨xs, k2, z⟩ := x
    simp only at HK2 ⊢
    clear hx hv hr h8 hgl hln
    by_cases hz : z = 0
    · subst hz
      rw [if_neg (by simp)]
      obtain ⟨t, ht⟩ : ∃ t, Oc.strOf xs = t := ⟨_, rfl⟩
      rw [ht]
      have HTT := hide ht
      have HRV : Hid (Ed.runeV t.data.toList = if Lib.validD t.data.toList = true then (Lib.runeCount t : Int) else -1) := hide rfl
      cases hV : Lib.validD t.data.toList with
      | false =>
        have HRE : Hid (Oc.rightE t 256 = 21) := hide (by unfold Oc.rightE; rw [if_pos hV])
        have HRU : Hid (Ed.runeV t.data.toList = -1) := hide (by rw [unhide HRV, if_neg (by rw [hV]; simp)])
        rw [unhide HRE, if_pos (by simp)]
        clear hV HRE ht
        go_enter Tryd.func41, Tryd.ntmps41
        go_wp2_with fail
        refine Calls.mono (unhide HB) ?_
        rintro r w1 ⟨v1, rfl, o1, r1, b1⟩
        have d2 : w1.cell? ⟨g, 2, none⟩ = some (.int .i64 0) := RowAt.cell r1 2
        have d1 : w1.cell? ⟨g, 1, none⟩ = some (.int .i64 (k2 : Int)) := RowAt.cell r1 1
        have z1 := RowAt.frozen r1 1
        have z2 := RowAt.frozen r1 2
        have HRN := hide (runes_of o1 (unhide HX8) (unhide HXL))
        rw [unhide HTT, unhide HRU] at HRN
        have HRR : Hid (RRd ((w1.setCell ⟨g, 2, none⟩ (.int .i64 21)).setCell ⟨g, 1, none⟩ (.int .i64 (k : Int))) g (.slice a n cap) k 21) := hide (RowAt.set (RowAt.set r1 2 (.int .i64 21)) 1 (.int .i64 (k : Int)))
        have HOO := hide (Only.set (p := fun x => x = g) (Only.set (p := fun x => x = g) b1 g 2 (.int .i64 21) rfl) g 1 (.int .i64 (k : Int)) rfl)
        clear o1 r1 b1
        go_wp2_with fail
        refine Calls.mono (unhide HRN) ?_
        rintro r wq ⟨rfl, rfl⟩
        go_wp2_with fail
        go_ret
        exact ⟨rfl, unhide HRR, unhide HOO⟩
      | true =>
        have HRU : Hid (Ed.runeV t.data.toList = (Lib.runeCount t : Int)) := hide (by rw [unhide HRV, if_pos hV])
        by_cases hq : 256 < Lib.runeCount t
        · have HRE : Hid (Oc.rightE t 256 = 4) := hide (by unfold Oc.rightE; rw [if_neg (by rw [hV]; simp), if_pos hq])
          rw [unhide HRE, if_pos (by simp)]
          obtain ⟨rc, hrc⟩ : ∃ z, Lib.runeCount t = z := ⟨_, rfl⟩
          rw [hrc] at HRU hq
          have q0 : ¬ (rc : Int) < 0 := by omega
          have q1 : (256 : Int) < (rc : Int) := by omega
          clear hV HRE ht hrc
          go_enter Tryd.func41, Tryd.ntmps41
          go_wp2_with fail
          refine Calls.mono (unhide HB) ?_
          rintro r w1 ⟨v1, rfl, o1, r1, b1⟩
          have d2 : w1.cell? ⟨g, 2, none⟩ = some (.int .i64 0) := RowAt.cell r1 2
          have d1 : w1.cell? ⟨g, 1, none⟩ = some (.int .i64 (k2 : Int)) := RowAt.cell r1 1
          have z1 := RowAt.frozen r1 1
          have z2 := RowAt.frozen r1 2
          have HRN := hide (runes_of o1 (unhide HX8) (unhide HXL))
          rw [unhide HTT, unhide HRU] at HRN
          have HRR : Hid (RRd ((w1.setCell ⟨g, 2, none⟩ (.int .i64 4)).setCell ⟨g, 1, none⟩ (.int .i64 (k : Int))) g (.slice a n cap) k 4) := hide (RowAt.set (RowAt.set r1 2 (.int .i64 4)) 1 (.int .i64 (k : Int)))
          have HOO := hide (Only.set (p := fun x => x = g) (Only.set (p := fun x => x = g) b1 g 2 (.int .i64 4) rfl) g 1 (.int .i64 (k : Int)) rfl)
          clear o1 r1 b1
          go_wp2_with fail
          refine Calls.mono (unhide HRN) ?_
          rintro r wq ⟨rfl, rfl⟩
          go_wp2_with fail
          go_ret
          exact ⟨rfl, unhide HRR, unhide HOO⟩
        · have HRE : Hid (Oc.rightE t 256 = 0) := hide (by unfold Oc.rightE; rw [if_neg (by rw [hV]; simp), if_neg hq])
          rw [unhide HRE, if_neg (by simp)]
          obtain ⟨rc, hrc⟩ : ∃ z, Lib.runeCount t = z := ⟨_, rfl⟩
          rw [hrc] at HRU hq
          have q0 : ¬ (rc : Int) < 0 := by omega
          have q1 : ¬ (256 : Int) < (rc : Int) := by omega
          clear hV HRE ht hrc
          go_enter Tryd.func41, Tryd.ntmps41
          go_wp2_with fail
          refine Calls.mono (unhide HB) ?_
          rintro r w1 ⟨v1, rfl, o1, r1, b1⟩
          have d2 : w1.cell? ⟨g, 2, none⟩ = some (.int .i64 0) := RowAt.cell r1 2
          have HRN := hide (runes_of o1 (unhide HX8) (unhide HXL))
          rw [unhide HTT, unhide HRU] at HRN
          have hcv := byt_convert (Byt.of_own o1) (unhide HX8)
          rw [show strOf xs = t from unhide HTT] at hcv
          have HR1 := hide r1
          have HO1 := hide b1
          clear o1 r1 b1
          go_wp2_with fail
          refine Calls.mono (unhide HRN) ?_
          rintro r wq ⟨rfl, rfl⟩
          go_wp2_with fail
          go_ret
          exact ⟨rfl, unhide HR1, unhide HO1⟩
    · rw [if_pos hz]
      have hzb : (z != 0) = true := by simp [hz]
      go_enter Tryd.func41, Tryd.ntmps41
      go_wp2_with fail
      refine Calls.mono (unhide HB) ?_
      rintro r w1 ⟨v1, rfl, o1, r1, b1⟩
      have d2 : w1.cell? ⟨g, 2, none⟩ = some (.int .i64 z) := RowAt.cell r1 2
      have HR1 := hide r1
      have HO1 := hide b1
      clear o1 r1 b1
      go_wp2_with fail
      go_ret
      exact ⟨rfl, by have h := unhide HR1; rw [unhide HK2 hz] at h; exact h, unhide HO1⟩
  · have hn : Oc.textR l 256 k e = (⟨#[]⟩, k, e) := by unfold Oc.textR; rw [if_pos he]
    rw [hn]
    have heb : (e != 0) = true := by simp [he]
    clear he hr hv
    go_enter Tryd.func41, Tryd.ntmps41
    go_wp2_with fail
    go_ret
    exact ⟨rfl, unhide HR, Only.refl _ _⟩
end Go.Proofs.YtbnfilhilgjnfaaDoor

namespace Go.Proofs.YtbnfilhilgjnfaaDoor
set_option linter.unusedVariables false
set_option linter.unusedSimpArgs false
set_option maxRecDepth 100000
open Go.ChangeShapes Go.WideShapes Go.ChangeAt Go.RowKit Go.Joins

/-- how many parts the document's reader takes -/
def rCnt (l : List Nat) : Nat := (min (nVal l 8) 401).toNat
def rEd (l : List Nat) : List Ed.Pt := (partsR l (nSt l 9).1 (nSt l 9).2 (rCnt l)).1
def rFin (l : List Nat) : Nat × Int := (partsR l (nSt l 9).1 (nSt l 9).2 (rCnt l)).2
def RefOk (l : List Nat) : Prop := (rFin l).2 = 0 ∧ MsgOk (nVal l 0) (nsF (nVal l 1) (nVal l 2) (nVal l 3) (nVal l 4) (nVal l 5) (nVal l 6) (nVal l 7)) (rEd l) ∧ msgL (nVal l 0) (nVal l 1) (nVal l 2) (nVal l 3) (nVal l 4) (nVal l 5) (nVal l 6) (nVal l 7) (rEd l) = l
theorem win_num {l : List Nat} {k : Nat} {e : Int} (h : (Oc.winR l 0 400 k e).2.2 = 0) : Oc.numR l k e = Oc.winR l 0 400 k e ∧ (Oc.winR l 0 400 k e).1 ≤ 400 := by
  have hb := winR_bound l k e
  refine ⟨?_, hb.2⟩
  unfold Oc.numR
  unfold Oc.winR at h ⊢
  by_cases he : e ≠ 0
  · rw [if_pos he] at h; exact absurd h he
  rw [if_neg he] at h ⊢
  rw [if_neg he]
  by_cases hs : l.length < k + 8
  · rw [if_pos hs] at h; cases h
  rw [if_neg hs] at h ⊢
  rw [if_neg hs]
  by_cases hr : 9223372036854775807 < Oc.numOf ((l.drop k).take 8) ∨ (Oc.numOf ((l.drop k).take 8) : Int) < 0 ∨ 400 < (Oc.numOf ((l.drop k).take 8) : Int)
  · rw [if_pos hr] at h; cases h
  rw [if_neg hr, if_neg (by omega)]
theorem ref_of_get {l : List Nat} (h8 : U8 l) (h : GetOk l) : RefOk l ∧ rEd l = gEd l := by
  have h' := h
  obtain ⟨he, hm⟩ := h'
  unfold Oc.endE at he
  have hf0 : (gFin l).2 = 0 := by
    by_cases hz : (gFin l).2 = 0
    · exact hz
    · rw [if_pos hz] at he; exact absurd he hz
  have hkw : (Oc.winR l 0 400 (nSt l 8).1 (nSt l 8).2).2.1 ≤ l.length := by
    unfold Oc.winR
    have := nst_le l 8
    repeat' split
    all_goals first | exact this | (simp only; omega)
  obtain ⟨p1, _, _⟩ := parts_ok h8 hkw _ (show (partsR l _ _ _).2.2 = 0 from hf0)
  obtain ⟨w1, w2⟩ := win_num p1
  have e9 : nSt l 9 = (Oc.winR l 0 400 (nSt l 8).1 (nSt l 8).2).2 := by
    show (Oc.numR l (nSt l 8).1 (nSt l 8).2).2 = _
    rw [w1]
  have ev : nVal l 8 = (Oc.winR l 0 400 (nSt l 8).1 (nSt l 8).2).1 := by unfold nVal; rw [w1]
  have ec : rCnt l = (Oc.winR l 0 400 (nSt l 8).1 (nSt l 8).2).1.toNat := by
    unfold rCnt
    rw [ev, Int.min_eq_left (by omega)]
  have ee : rEd l = gEd l := by unfold rEd gEd editR; rw [e9, ec]
  have ef : rFin l = gFin l := by unfold rFin gFin editR; rw [e9, ec]
  exact ⟨⟨by rw [ef]; exact hf0, by rw [ee]; exact hm, by rw [ee]; exact get_put h8 h⟩, ee⟩
theorem get_of_ref {l : List Nat} (h : RefOk l) : GetOk l := by
  have q := (msg_back (nVal l 0) (nVal l 1) (nVal l 2) (nVal l 3) (nVal l 4) (nVal l 5) (nVal l 6) (nVal l 7) (rEd l) h.2.1).1
  rw [h.2.2] at q
  exact q
theorem rCnt_le (l : List Nat) : rCnt l ≤ 401 := by unfold rCnt; omega
theorem rEd_len (l : List Nat) : (rEd l).length ≤ 401 := by unfold rEd; rw [partsR_len]; exact rCnt_le l
theorem rEd_size (l : List Nat) : ∀ p ∈ rEd l, p.text.size ≤ l.length := partsR_size l _ _ _
theorem nVal_pos (l : List Nat) (i : Nat) : 0 ≤ nVal l i := by
  unfold nVal Oc.numR Oc.winR
  repeat' split
  all_goals first | exact Int.le_refl _ | (simp only; omega)
theorem numR_le (l : List Nat) (k : Nat) (e : Int) (hk : k ≤ l.length) : (Oc.numR l k e).2.1 ≤ l.length := by
  unfold Oc.numR Oc.winR
  repeat' split
  all_goals first | exact hk | (simp only; omega)
theorem textR_le (l : List Nat) (q k : Nat) (e : Int) (hk : k ≤ l.length) : (Oc.textR l q k e).2.1 ≤ l.length := by
  unfold Oc.textR
  repeat' split
  all_goals first | exact hk | (simp only; omega)
theorem partsR_le (l : List Nat) (k : Nat) (e : Int) (hk : k ≤ l.length) : ∀ m, (partsR l k e m).2.1 ≤ l.length := by
  intro m
  induction m with
  | zero => exact hk
  | succ m ih => exact textR_le l 256 _ _ (numR_le l _ _ (numR_le l _ _ ih))
theorem own_two {w1 w w' : World} {b s n g : Nat} {e : TypeId} {v : Value} {xs ys : List Value} (h1 : w1.ownsRow b e s v n ys) (h : w.ownsRow b e s v n xs) (hg : w1.heap.size ≤ g) (ho : Oc.Oth w w' g) : w'.ownsRow b e s v n xs := by
  obtain ⟨h3, h2⟩ := h
  refine ⟨h3, ?_⟩
  rcases h2 with h2 | ⟨g', cap, cur, e1, e2, e3, e4⟩
  · exact .inl h2
  · have hlt : g' < w.heap.size := by
      rcases Nat.lt_or_ge g' w.heap.size with hlt | hge
      · exact hlt
      · rw [Array.getElem?_eq_none hge] at e3; cases e3
    have hl1 : g' < w1.heap.size := by
      rcases h1.2 with ⟨q, _⟩ | ⟨g1, cap1, cur1, q, _, q3, _⟩
      · rw [e1] at q; cases q
      · rw [e1] at q
        cases q
        rcases Nat.lt_or_ge g' w1.heap.size with hlt | hge
        · exact hlt
        · rw [Array.getElem?_eq_none hge] at q3; cases q3
    exact .inr ⟨g', cap, cur, e1, e2, (ho g' hlt (by omega)).trans e3, e4⟩
def RgR (l : List Nat) (w : World) (r : Ending) (w' : World) : Prop := Below w.heap.size w w' ∧ (GetOk l → ∃ a c, r = .returned (.tuple #[msgV (nVal l 0) (nVal l 1) (nVal l 2) (nVal l 3) (nVal l 4) (nVal l 5) (nVal l 6) (nVal l 7) (.slice a (gEd l).length c), .int .i64 0]) ∧ Ed.PtsAt w' a (gEd l)) ∧ (¬ GetOk l → r = .returned (.tuple #[msgV 0 0 0 0 0 0 0 0 (.slice none 0 0), .int .i64 120]))
theorem Only.oth {w w' : World} {g : Nat} (h : Only (· = g) w w') : Oc.Oth w w' g := fun j hj hjg => h.block j hj hjg
theorem rnum_at (l : List Nat) (i : Nat) (g : Nat) (a : Option Addr) (n cap : Nat) (w : World) (hv : Byt w (.slice a n cap) l) (hr : RRd w g (.slice a n cap) (nSt l i).1 (nSt l i).2) (hl : n ≤ 1000000000) (h8 : U8 l) :
    Calls Tryd.prog 40 #[.pointer (some ⟨g, 0, none⟩)] w fun r w' => r = .returned (.int .i64 (nVal l i)) ∧ RRd w' g (.slice a n cap) (nSt l (i + 1)).1 (nSt l (i + 1)).2 ∧ Only (· = g) w w' :=
  rnum_tot g a n cap l _ _ w hv hr hl (by have := nst_le l i; have := (Oc.byt_cap (show Oc.Byt w (.slice a n cap) l from hv)).2.1; omega) h8
set_option maxHeartbeats 8000000 in
theorem rget_any (v : Value) (l : List Nat) (w : World) (hv : Byt w v l) (h8 : U8 l) (hl : l.length ≤ 100000000) :
    Calls Tryd.prog 19 #[v] w fun r w' => RgR l w r w' := by
  obtain ⟨a, cap, rfl⟩ := byt_shape hv
  obtain ⟨n, hn⟩ : ∃ n, l.length = n := ⟨_, rfl⟩
  rw [hn] at hv hl ⊢
  have HN := hide hn
  have HV := hide hv
  have H8 := hide h8
  have HLW : Hid (∀ ad, a = some ad → 0 < n → ad.block < w.heap.size) := hide (fun ad e hp => by
    subst e
    rcases hv with ⟨h1, _⟩ | ⟨a1, c1, h1, _, _, h3⟩
    · cases h1
    · injection h1 with h1 _ _
      injection h1 with h1
      subst h1
      have h4 := lt_of_cell (h3 0 _ (List.getElem?_eq_getElem (by omega)))
      have h5 : (ad.add 0).block = ad.block := by
        obtain ⟨b, off, s⟩ := ad
        simp only [Addr.add]
        split <;> rfl
      rw [h5] at h4
      exact h4)
  have b0 : Below w.heap.size w (w.alloc (.cells #[.int .i64 0, .int .i64 0, .int .i64 0, .int .i64 0, .int .i64 0, .int .i64 0, .int .i64 0, .int .i64 0, .slice none 0 0] 25)) := (Below.refl _ _).alloc (Nat.le_refl _) _
  have HRZ := hide (RowAt.new w 25 [.int .i64 0, .int .i64 0, .int .i64 0, .int .i64 0, .int .i64 0, .int .i64 0, .int .i64 0, .int .i64 0, .slice none 0 0])
  have hs0 : (w.alloc (.cells #[.int .i64 0, .int .i64 0, .int .i64 0, .int .i64 0, .int .i64 0, .int .i64 0, .int .i64 0, .int .i64 0, .slice none 0 0] 25)).heap.size = w.heap.size + 1 := by simp
  obtain ⟨wZ, hZ⟩ : ∃ z, w.alloc (.cells #[.int .i64 0, .int .i64 0, .int .i64 0, .int .i64 0, .int .i64 0, .int .i64 0, .int .i64 0, .int .i64 0, .slice none 0 0] 25) = z := ⟨_, rfl⟩
  rw [hZ] at b0 HRZ hs0
  have b1 : Below wZ.heap.size wZ (wZ.alloc (.cells #[.slice a n cap, .int .i64 0, .int .i64 0] 69)) := (Below.refl _ _).alloc (Nat.le_refl _) _
  have R1 := RowAt.new wZ 69 [.slice a n cap, .int .i64 0, .int .i64 0]
  rw [hs0] at R1
  have HB_0 := hide (b0.trans (b1.mono b0.size))
  have HZ_0 := hide ((unhide HRZ).below b1 (unhide HRZ).lt)
  have HR_0 : Hid (RRd (wZ.alloc (.cells #[.slice a n cap, .int .i64 0, .int .i64 0] 69)) (w.heap.size + 1) (.slice a n cap) (nSt l 0).1 (nSt l 0).2) := hide R1
  rw [← hZ] at HB_0 HZ_0 HR_0
  clear b0 b1 R1 hs0 hZ hv h8 hn HRZ
  go_enter Tryd.func19, Tryd.ntmps19
  go_wp2_with fail
  generalize (w.alloc (.cells #[.int .i64 0, .int .i64 0, .int .i64 0, .int .i64 0, .int .i64 0, .int .i64 0, .int .i64 0, .int .i64 0, .slice none 0 0] 25)).alloc (.cells #[.slice a n cap, .int .i64 0, .int .i64 0] 69) = w0 at *
  obtain ⟨g, hg⟩ : ∃ g, w.heap.size + 1 = g := ⟨_, rfl⟩
  have HG : Hid (w.heap.size < g) := hide (by omega)
  rw [hg] at HR_0
  try rw [hg]
  have HGL : Hid (∀ ad, a = some ad → 0 < n → ad.block ≠ g) := hide (fun ad e hp => by have := unhide HLW ad e hp; have := unhide HG; omega)
  clear hg
  
  refine Calls.mono (rnum_at l 0 g a n cap w0 ((unhide HV).call (unhide HB_0)) (unhide HR_0) (by omega) (unhide H8)) ?_
  rintro r w1 ⟨rfl, s1, t1⟩
  have HR_1 := hide s1
  have HB_1 := hide ((unhide HB_0).trans (t1.below (unhide HB_0).size (fun k hk => by have := unhide HG; omega)))
  have HZ_1 := hide ((unhide HZ_0).only t1 (by have := unhide HG; omega))
  obtain ⟨y0, hy0⟩ : ∃ z, nVal l 0 = z := ⟨_, rfl⟩
  rw [hy0]
  have HY0 := hide hy0
  clear s1 t1 hy0 HR_0 HB_0 HZ_0
  go_wp2_with fail
  refine Calls.mono (rnum_at l 1 g a n cap w1 ((unhide HV).call (unhide HB_1)) (unhide HR_1) (by omega) (unhide H8)) ?_
  rintro r w2 ⟨rfl, s2, t2⟩
  have HR_2 := hide s2
  have HB_2 := hide ((unhide HB_1).trans (t2.below (unhide HB_1).size (fun k hk => by have := unhide HG; omega)))
  have HZ_2 := hide ((unhide HZ_1).only t2 (by have := unhide HG; omega))
  obtain ⟨y1, hy1⟩ : ∃ z, nVal l 1 = z := ⟨_, rfl⟩
  rw [hy1]
  have HY1 := hide hy1
  clear s2 t2 hy1 HR_1 HB_1 HZ_1
  go_wp2_with fail
  refine Calls.mono (rnum_at l 2 g a n cap w2 ((unhide HV).call (unhide HB_2)) (unhide HR_2) (by omega) (unhide H8)) ?_
  rintro r w3 ⟨rfl, s3, t3⟩
  have HR_3 := hide s3
  have HB_3 := hide ((unhide HB_2).trans (t3.below (unhide HB_2).size (fun k hk => by have := unhide HG; omega)))
  have HZ_3 := hide ((unhide HZ_2).only t3 (by have := unhide HG; omega))
  obtain ⟨y2, hy2⟩ : ∃ z, nVal l 2 = z := ⟨_, rfl⟩
  rw [hy2]
  have HY2 := hide hy2
  clear s3 t3 hy2 HR_2 HB_2 HZ_2
  go_wp2_with fail
  refine Calls.mono (rnum_at l 3 g a n cap w3 ((unhide HV).call (unhide HB_3)) (unhide HR_3) (by omega) (unhide H8)) ?_
  rintro r w4 ⟨rfl, s4, t4⟩
  have HR_4 := hide s4
  have HB_4 := hide ((unhide HB_3).trans (t4.below (unhide HB_3).size (fun k hk => by have := unhide HG; omega)))
  have HZ_4 := hide ((unhide HZ_3).only t4 (by have := unhide HG; omega))
  obtain ⟨y3, hy3⟩ : ∃ z, nVal l 3 = z := ⟨_, rfl⟩
  rw [hy3]
  have HY3 := hide hy3
  clear s4 t4 hy3 HR_3 HB_3 HZ_3
  go_wp2_with fail
  refine Calls.mono (rnum_at l 4 g a n cap w4 ((unhide HV).call (unhide HB_4)) (unhide HR_4) (by omega) (unhide H8)) ?_
  rintro r w5 ⟨rfl, s5, t5⟩
  have HR_5 := hide s5
  have HB_5 := hide ((unhide HB_4).trans (t5.below (unhide HB_4).size (fun k hk => by have := unhide HG; omega)))
  have HZ_5 := hide ((unhide HZ_4).only t5 (by have := unhide HG; omega))
  obtain ⟨y4, hy4⟩ : ∃ z, nVal l 4 = z := ⟨_, rfl⟩
  rw [hy4]
  have HY4 := hide hy4
  clear s5 t5 hy4 HR_4 HB_4 HZ_4
  go_wp2_with fail
  refine Calls.mono (rnum_at l 5 g a n cap w5 ((unhide HV).call (unhide HB_5)) (unhide HR_5) (by omega) (unhide H8)) ?_
  rintro r w6 ⟨rfl, s6, t6⟩
  have HR_6 := hide s6
  have HB_6 := hide ((unhide HB_5).trans (t6.below (unhide HB_5).size (fun k hk => by have := unhide HG; omega)))
  have HZ_6 := hide ((unhide HZ_5).only t6 (by have := unhide HG; omega))
  obtain ⟨y5, hy5⟩ : ∃ z, nVal l 5 = z := ⟨_, rfl⟩
  rw [hy5]
  have HY5 := hide hy5
  clear s6 t6 hy5 HR_5 HB_5 HZ_5
  go_wp2_with fail
  refine Calls.mono (rnum_at l 6 g a n cap w6 ((unhide HV).call (unhide HB_6)) (unhide HR_6) (by omega) (unhide H8)) ?_
  rintro r w7 ⟨rfl, s7, t7⟩
  have HR_7 := hide s7
  have HB_7 := hide ((unhide HB_6).trans (t7.below (unhide HB_6).size (fun k hk => by have := unhide HG; omega)))
  have HZ_7 := hide ((unhide HZ_6).only t7 (by have := unhide HG; omega))
  obtain ⟨y6, hy6⟩ : ∃ z, nVal l 6 = z := ⟨_, rfl⟩
  rw [hy6]
  have HY6 := hide hy6
  clear s7 t7 hy6 HR_6 HB_6 HZ_6
  have bM : Below w7.heap.size w7 (w7.alloc (.cells #[.int .i64 y0, .int .i64 y1, .int .i64 y2, .int .i64 y3, .int .i64 y4, .int .i64 y5, .int .i64 y6, .int .i64 0, .slice none 0 0] 25)) := (Below.refl _ _).alloc (Nat.le_refl _) _
  have HM7 := hide (RowAt.new w7 25 [.int .i64 y0, .int .i64 y1, .int .i64 y2, .int .i64 y3, .int .i64 y4, .int .i64 y5, .int .i64 y6, .int .i64 0, .slice none 0 0])
  have HR7m := hide ((unhide HR_7 : RowAt w7 g 69 _).below bM (unhide HR_7 : RowAt w7 g 69 _).lt)
  have HB7m := hide ((unhide HB_7).trans (bM.mono (unhide HB_7).size))
  have HZ7m := hide ((unhide HZ_7).below bM (unhide HZ_7).lt)
  have HGM0 : Hid (g < w7.heap.size) := hide (unhide HR_7 : RowAt w7 g 69 _).lt
  clear bM HR_7 HB_7 HZ_7
  go_wp2_with fail
  obtain ⟨gM, hgM⟩ : ∃ z, w7.heap.size = z := ⟨_, rfl⟩
  rw [hgM] at HM7 HGM0
  try rw [hgM]
  generalize w7.alloc (.cells #[.int .i64 y0, .int .i64 y1, .int .i64 y2, .int .i64 y3, .int .i64 y4, .int .i64 y5, .int .i64 y6, .int .i64 0, .slice none 0 0] 25) = w7m at *
  clear hgM
  refine Calls.mono (rnum_at l 7 g a n cap w7m ((unhide HV).call (unhide HB7m)) (unhide HR7m) (by omega) (unhide H8)) ?_
  rintro r w8 ⟨rfl, s8, t8⟩
  have HM8 := hide ((unhide HM7).only t8 (by have := unhide HGM0; omega))
  have HB_8 := hide ((unhide HB7m).trans (t8.below (unhide HB7m).size (fun k hk => by have := unhide HG; omega)))
  have HZ_8 := hide ((unhide HZ7m).only t8 (by have := unhide HG; omega))
  obtain ⟨y7, hy7⟩ : ∃ z, nVal l 7 = z := ⟨_, rfl⟩
  rw [hy7]
  have HY7 := hide hy7
  have o8 : Only (· = gM) w8 (w8.setCell ⟨gM, 7, none⟩ (.int .i64 y7)) := Only.set (p := fun x => x = gM) (Only.refl _ _) gM 7 _ rfl
  have HM8s : Hid (RowAt (w8.setCell ⟨gM, 7, none⟩ (.int .i64 y7)) gM 25 [.int .i64 y0, .int .i64 y1, .int .i64 y2, .int .i64 y3, .int .i64 y4, .int .i64 y5, .int .i64 y6, .int .i64 y7, .slice none 0 0]) := hide (RowAt.set (unhide HM8) 7 (.int .i64 y7))
  have HR8s : Hid (RRd (w8.setCell ⟨gM, 7, none⟩ (.int .i64 y7)) g (.slice a n cap) (nSt l 8).1 (nSt l 8).2) := hide (RowAt.only (p := fun x => x = gM) s8 o8 (by have := unhide HGM0; omega))
  have HB8s := hide ((unhide HB_8).trans (o8.below (unhide HB_8).size (fun k hk => by have := unhide HG; have := unhide HGM0; omega)))
  have HZ8s := hide ((unhide HZ_8).only o8 (by have := unhide HG; have := unhide HGM0; omega))
  have m7 : w8.cell? ⟨gM, 7, none⟩ = some (.int .i64 0) := (unhide HM8).cell 7
  have m7z := RowAt.frozen (unhide HM8) 7
  clear s8 t8 hy7 o8 HR7m HB7m HZ7m HM7 HM8 HB_8 HZ_8
  go_wp2_with fail
  generalize w8.setCell ⟨gM, 7, none⟩ (.int .i64 y7) = w8s at *
  refine Calls.mono (rnum_at l 8 g a n cap w8s ((unhide HV).call (unhide HB8s)) (unhide HR8s) (by omega) (unhide H8)) ?_
  rintro r w9 ⟨rfl, s9, t9⟩
  have HM9 := hide ((unhide HM8s).only t9 (by have := unhide HGM0; omega))
  have HB_9 := hide ((unhide HB8s).trans (t9.below (unhide HB8s).size (fun k hk => by have := unhide HG; omega)))
  have HZ_9 := hide ((unhide HZ8s).only t9 (by have := unhide HG; omega))
  have HR_9 := hide s9
  have HCN : Hid (min (nVal l 8) 401 = (rCnt l : Int)) := hide (by have := nVal_pos l 8; unfold rCnt; omega)
  have HC4 := hide (rCnt_le l)
  have HED : Hid (rEd l = (partsR l (nSt l 9).1 (nSt l 9).2 (rCnt l)).1 ∧ rFin l = (partsR l (nSt l 9).1 (nSt l 9).2 (rCnt l)).2) := hide ⟨rfl, rfl⟩
  obtain ⟨cm, hcm⟩ : ∃ z, rCnt l = z := ⟨_, rfl⟩
  rw [hcm] at HCN HC4 HED
  obtain ⟨cv, hcv⟩ : ∃ z, nVal l 8 = z := ⟨_, rfl⟩
  rw [hcv] at HCN ⊢
  obtain ⟨k9, hk9⟩ : ∃ z, (nSt l 9).1 = z := ⟨_, rfl⟩
  obtain ⟨e9, he9⟩ : ∃ z, (nSt l 9).2 = z := ⟨_, rfl⟩
  have HK9 : Hid (k9 ≤ n) := hide (by have := nst_le l 9; have := unhide HN; omega)
  rw [hk9, he9] at HR_9 HED
  have hmin := unhide HCN
  clear s9 t9 hcm hcv hk9 he9 HM8s HR8s HB8s HZ8s m7 m7z
  go_wp2_with fail
  obtain ⟨B, hB⟩ : ∃ z, w9.heap.size = z := ⟨_, rfl⟩
  have HGB : Hid (gM < B) := hide (by rw [← hB]; exact (unhide HM9).lt)
  have HBB := hide hB
  clear hB hmin
  go_loopw [35] (fun i wr => ∃ (j : Nat) (vE : Value), j ≤ cm ∧ i = .int .i64 (j : Int) ∧ Hid (Ed.OwnP wr B vE (partsR l k9 e9 j).1) ∧ Hid (RowAt wr gM 25 [.int .i64 y0, .int .i64 y1, .int .i64 y2, .int .i64 y3, .int .i64 y4, .int .i64 y5, .int .i64 y6, .int .i64 y7, vE]) ∧ Hid (RRd wr g (.slice a n cap) (partsR l k9 e9 j).2.1 (partsR l k9 e9 j).2.2) ∧ Hid (Below w.heap.size w wr) ∧ Hid (RowAt wr w.heap.size 25 [.int .i64 0, .int .i64 0, .int .i64 0, .int .i64 0, .int .i64 0, .int .i64 0, .int .i64 0, .int .i64 0, .slice none 0 0]) ∧ Hid (B ≤ wr.heap.size)) (fun i _ => ((cm : Int) - intOf i).toNat)
  case atStart => exact ⟨0, .slice none 0 0, by omega, by simp, hide (Ed.OwnP.nil _ _), HM9, HR_9, HB_9, HZ_9, hide (by rw [unhide HBB]; exact Nat.le_refl _)⟩
  case round =>
    obtain ⟨j, vE, hj, rfl, HOW, HMW, HRW, HBW, HZW, HSW⟩ := hrel
    by_cases hlt : j < cm
    · have jI : (j : Int) < (cm : Int) := by omega
      have HNX : Hid ((partsR l k9 e9 (j + 1)).1 = (partsR l k9 e9 j).1 ++ [(partR l (partsR l k9 e9 j).2.1 (partsR l k9 e9 j).2.2).1] ∧ (partsR l k9 e9 (j + 1)).2 = (partR l (partsR l k9 e9 j).2.1 (partsR l k9 e9 j).2.2).2) := hide ⟨rfl, rfl⟩
      have HLN := hide (partsR_len l k9 e9 j)
      have HKJ : Hid ((partsR l k9 e9 j).2.1 ≤ n) := hide (by have := partsR_le l k9 e9 (by have := unhide HK9; have := unhide HN; omega) j; have := unhide HN; omega)
      obtain ⟨ps, hps⟩ : ∃ z, (partsR l k9 e9 j).1 = z := ⟨_, rfl⟩
      obtain ⟨kj, hkj⟩ : ∃ z, (partsR l k9 e9 j).2.1 = z := ⟨_, rfl⟩
      obtain ⟨ej, hej⟩ : ∃ z, (partsR l k9 e9 j).2.2 = z := ⟨_, rfl⟩
      rw [hps] at HOW HNX HLN
      rw [hkj, hej] at HRW HNX
      rw [hkj] at HKJ
      clear hps hkj hej
      have HA := hide (rnum_tot g a n cap l kj ej wr ((unhide HV).call (unhide HBW)) (unhide HRW) (by omega) (unhide HKJ) (unhide H8))
      have HKA : Hid ((Oc.numR l kj ej).2.1 ≤ n) := hide (by have := numR_le l kj ej (by have := unhide HKJ; have := unhide HN; omega); have := unhide HN; omega)
      unfold partR at HNX
      obtain ⟨xa, hxa⟩ : ∃ z, Oc.numR l kj ej = z := ⟨_, rfl⟩
      rw [hxa] at HA HNX HKA
      clear hxa
      obtain ⟨va, ka, ea⟩ := xa
      simp only at HKA
      have HKB : Hid ((Oc.numR l ka ea).2.1 ≤ n) := hide (by have := numR_le l ka ea (by have := unhide HKA; have := unhide HN; omega); have := unhide HN; omega)
      obtain ⟨xb, hxb⟩ : ∃ z, Oc.numR l ka ea = z := ⟨_, rfl⟩
      have HXB := hide hxb
      simp only [hxb] at HNX
      rw [hxb] at HKB
      clear hxb
      obtain ⟨vb, kb, eb⟩ := xb
      simp only at HKB
      obtain ⟨xc, hxc⟩ : ∃ z, Oc.textR l 256 kb eb = z := ⟨_, rfl⟩
      have HXC := hide hxc
      simp only [hxc] at HNX
      clear hxc
      obtain ⟨vc, kc, ec⟩ := xc
      simp only at HNX
      have hgb : g < B := by have := unhide HGM0; have := unhide HGB; omega
      have hmb : gM < B := unhide HGB
      go_wp2_with fail
      refine Calls.mono (unhide HA) ?_
      rintro r wa ⟨rfl, sa, ta⟩
      have HOa := hide (own_oth (unhide HOW) hgb ta.oth)
      have HMa := hide ((unhide HMW).only ta (by have := unhide HGM0; omega))
      have HBa := hide ((unhide HBW).trans (ta.below (unhide HBW).size (fun k hk => by have := unhide HG; omega)))
      have HZa := hide ((unhide HZW).only ta (by have := unhide HG; omega))
      have HSa := hide (Nat.le_trans (unhide HSW) ta.size)
      have HBc := hide (rnum_tot g a n cap l ka ea wa ((unhide HV).call (unhide HBa)) sa (by omega) (unhide HKA) (unhide H8))
      rw [unhide HXB] at HBc
      clear sa ta HA HOW HMW HRW HBW HZW HSW
      go_wp2_with fail
      refine Calls.mono (unhide HBc) ?_
      rintro r wb ⟨rfl, sb, tb⟩
      have HOb := hide (own_oth (unhide HOa) hgb tb.oth)
      have HMb := hide ((unhide HMa).only tb (by have := unhide HGM0; omega))
      have HBb := hide ((unhide HBa).trans (tb.below (unhide HBa).size (fun k hk => by have := unhide HG; omega)))
      have HZb := hide ((unhide HZa).only tb (by have := unhide HG; omega))
      have HSb := hide (Nat.le_trans (unhide HSa) tb.size)
      have bc : Below wb.heap.size wb (wb.alloc (.cells #[.int .i64 va, .int .i64 vb, .string ⟨#[]⟩] 44)) := (Below.refl _ _).alloc (Nat.le_refl _) _
      have HPc := hide (RowAt.new wb 44 [.int .i64 va, .int .i64 vb, .string ⟨#[]⟩])
      have HRc := hide ((sb : RowAt wb g 69 _).below bc (sb : RowAt wb g 69 _).lt)
      have HOc := hide ((unhide HOb : Ed.OwnP wb B vE ps).call bc)
      have HMc := hide ((unhide HMb).below bc (unhide HMb).lt)
      have HBc' := hide ((unhide HBb).trans (bc.mono (unhide HBb).size))
      have HZc := hide ((unhide HZb).below bc (unhide HZb).lt)
      have HSc := hide (Nat.le_trans (unhide HSb) bc.size)
      have HSP : Hid (B ≤ wb.heap.size) := HSb
      clear sb tb HBc HOa HMa HBa HZa HSa HMb HBb HZb bc
      go_wp2_with fail
      obtain ⟨gp, hgp⟩ : ∃ z, wb.heap.size = z := ⟨_, rfl⟩
      rw [hgp] at HPc HSP
      try rw [hgp]
      generalize wb.alloc (.cells #[.int .i64 va, .int .i64 vb, .string ⟨#[]⟩] 44) = wc at *
      have HGP : Hid (wb.heap.size ≤ gp) := hide (by omega)
      clear hgp
      have HTx := hide (rtext_tot g a n cap l kb eb wc ((unhide HV).call (unhide HBc')) (unhide HGL) (unhide HRc) (by omega) (unhide HKB) (unhide H8))
      rw [unhide HXC] at HTx
      refine Calls.mono (unhide HTx) ?_
      rintro r wd ⟨rfl, sd, td⟩
      have HPd := hide ((unhide HPc).only td (by have := unhide HSP; omega))
      have HOd := hide (own_oth (unhide HOc) hgb td.oth)
      have HMd := hide ((unhide HMc).only td (by have := unhide HGM0; omega))
      have HBd := hide ((unhide HBc').trans (td.below (unhide HBc').size (fun k hk => by have := unhide HG; omega)))
      have HZd := hide ((unhide HZc).only td (by have := unhide HG; omega))
      have HSd := hide (Nat.le_trans (unhide HSc) td.size)
      have HRd := hide sd
      clear sd td HTx HPc HRc HOc HMc HBc' HZc HSc
      have os : Only (· = gp) wd (wd.setCell ⟨gp, 2, none⟩ (.string vc)) := Only.set (p := fun x => x = gp) (Only.refl _ _) gp 2 _ rfl
      have HPs : Hid (RowAt (wd.setCell ⟨gp, 2, none⟩ (.string vc)) gp 44 [.int .i64 va, .int .i64 vb, .string vc]) := hide (RowAt.set (unhide HPd) 2 (.string vc))
      have HRs := hide (RowAt.only (p := fun x => x = gp) (unhide HRd) os (by have := unhide HSP; omega))
      have HOs := hide (own_two (unhide HOb) (unhide HOd) (unhide HGP) os.oth)
      have HMs := hide ((unhide HMd).only os (by have := unhide HSP; omega))
      have HBs := hide ((unhide HBd).trans (os.below (unhide HBd).size (fun k hk => by have := unhide HSP; have := unhide HG; omega)))
      have HZs := hide ((unhide HZd).only os (by have := unhide HSP; have := unhide HG; omega))
      have HSs := hide (Nat.le_trans (unhide HSd) os.size)
      have p2 : wd.cell? ⟨gp, 2, none⟩ = some (.string ⟨#[]⟩) := (unhide HPd).cell 2
      have p2z := RowAt.frozen (unhide HPd) 2
      clear os HPd HRd HOd HMd HBd HZd HSd HOb
      have r0 : (wd.setCell ⟨gp, 2, none⟩ (.string vc)).cell? ⟨gp, 0, none⟩ = some (.int .i64 va) := (unhide HPs).cell 0
      have r1 : (wd.setCell ⟨gp, 2, none⟩ (.string vc)).cell? ⟨gp, 1, none⟩ = some (.int .i64 vb) := (unhide HPs).cell 1
      have r2 : (wd.setCell ⟨gp, 2, none⟩ (.string vc)).cell? ⟨gp, 2, none⟩ = some (.string vc) := (unhide HPs).cell 2
      have r8 : (wd.setCell ⟨gp, 2, none⟩ (.string vc)).cell? ⟨gM, 8, none⟩ = some vE := (unhide HMs).cell 8
      have b5 : Below (wd.setCell ⟨gp, 2, none⟩ (.string vc)).heap.size (wd.setCell ⟨gp, 2, none⟩ (.string vc)) ((wd.setCell ⟨gp, 2, none⟩ (.string vc)).alloc (.cells #[.int .i64 va, .int .i64 vb, .string vc] 44)) := (Below.refl _ _).alloc (Nat.le_refl _) _
      have R5 := RowAt.new (wd.setCell ⟨gp, 2, none⟩ (.string vc)) 44 [.int .i64 va, .int .i64 vb, .string vc]
      rw [show (wd.setCell ⟨gp, 2, none⟩ (.string vc)).heap.size = wd.heap.size from by simp] at R5
      have HO5 := hide ((unhide HOs : Ed.OwnP _ B vE ps).call b5)
      have HM5 := hide ((unhide HMs).below b5 (unhide HMs).lt)
      have HR5' := hide ((unhide HRs).below b5 (unhide HRs).lt)
      have HB5 := hide ((unhide HBs).trans (b5.mono (unhide HBs).size))
      have HZ5 := hide ((unhide HZs).below b5 (unhide HZs).lt)
      have HSB := hide (Nat.le_trans (unhide HSs) b5.size)
      have HR5 : Hid (∀ (b : Addr), some ⟨wd.heap.size, 0, none⟩ = some b → ∀ (j : Nat) (u : Value), (Ed.pcs ⟨va, vb, vc⟩)[j]? = some u → ((wd.setCell ⟨gp, 2, none⟩ (.string vc)).alloc (.cells #[.int .i64 va, .int .i64 vb, .string vc] 44)).cell? (b.add j) = some u) := hide (fun b hb j u hu => by
        cases hb
        rw [Addr.add_lit, R5.cell, Nat.zero_add]
        exact hu)
      clear b5 R5 HOs HMs HRs HBs HZs HSs HPs
      obtain ⟨i0, hi, hz0, hz1, hz2⟩ := Ed.infoPart
      go_wp2_with (at_builtin; refine wpList_append_src _ rfl _ _ 23 rfl B 44 i0 (.agg #[.int .i64 0, .int .i64 0, .string ⟨#[]⟩]) 3 32 Tryd.underlying23 hi hz0 hz1 hz2 (by simp [Value.cells]) (by decide) _ _ _ rfl (unhide HO5) (some ⟨wd.heap.size, 0, none⟩) 1 1 (Ed.pcs ⟨va, vb, vc⟩) rfl (by rfl) (fun h => by cases h) (unhide HR5) ?c2 ?c3 ?c4 (unhide HSB) ?_)
      case c2 =>
        intro u hu
        simp only [Ed.pcs, List.mem_cons, List.not_mem_nil, or_false] at hu
        rcases hu with rfl | rfl | rfl <;> rfl
      case c3 => rw [unhide HLN]; unfold maxLen; have := unhide HC4; omega
      case c4 => rw [unhide HLN]; have := unhide HC4; omega
      intro ad6 cap6 w6 O6 g6
      generalize (wd.setCell ⟨gp, 2, none⟩ (.string vc)).alloc (.cells #[.int .i64 va, .int .i64 vb, .string vc] 44) = w5 at *
      have b6 : Below B w5 w6 := (Below.refl _ _).grown g6 (unhide HSB) (fun k hk => ((unhide HO5).lt k hk).1)
      have O6' : Ed.OwnP w6 B (.slice ad6 (ps.length + 1) cap6) (ps ++ [⟨va, vb, vc⟩]) := by
        unfold Ed.OwnP
        rw [List.length_append, Ed.ptc_snoc]
        exact O6
      have HM6 := hide ((unhide HM5).below b6 hmb)
      have HR6 := hide ((unhide HR5').below b6 hgb)
      have HB6 := hide ((unhide HB5).trans (b6.mono (by have := unhide HG; omega)))
      have HZ6 := hide ((unhide HZ5).below b6 (by have := unhide HG; omega))
      have HS6 := hide (Nat.le_trans (unhide HSB) b6.size)
      have HO6 := hide O6'
      have m8 : w6.cell? ⟨gM, 8, none⟩ = some vE := (unhide HM6).cell 8
      have m8z := RowAt.frozen (unhide HM6) 8
      have o7 : Only (· = gM) w6 (w6.setCell ⟨gM, 8, none⟩ (.slice ad6 (ps.length + 1) cap6)) := Only.set (p := fun x => x = gM) (Only.refl _ _) gM 8 _ rfl
      have HM7 : Hid (RowAt (w6.setCell ⟨gM, 8, none⟩ (.slice ad6 (ps.length + 1) cap6)) gM 25 [.int .i64 y0, .int .i64 y1, .int .i64 y2, .int .i64 y3, .int .i64 y4, .int .i64 y5, .int .i64 y6, .int .i64 y7, .slice ad6 (ps.length + 1) cap6]) := hide (RowAt.set (unhide HM6) 8 (.slice ad6 (ps.length + 1) cap6))
      have HR7 := hide (RowAt.only (p := fun x => x = gM) (unhide HR6) o7 (by have := unhide HGM0; omega))
      have HO7 := hide (own_oth (unhide HO6) hmb o7.oth)
      have HB7 := hide ((unhide HB6).trans (o7.below (unhide HB6).size (fun k hk => by have := unhide HGM0; have := unhide HG; omega)))
      have HZ7 := hide ((unhide HZ6).only o7 (by have := unhide HGM0; have := unhide HG; omega))
      have HS7 := hide (Nat.le_trans (unhide HS6) o7.size)
      have hc4 := unhide HC4
      clear O6 O6' g6 b6 o7 HO5 HM5 HR5' HB5 HZ5 HSB HR5 HM6 HR6 HO6 HB6 HZ6 HS6 p2 p2z r0 r1 r2 r8
      go_wp2_with fail
      exact ⟨⟨j + 1, (.slice ad6 (ps.length + 1) cap6), by omega, by simp, by rw [(unhide HNX).1]; exact HO7, HM7, by rw [(unhide HNX).2]; exact HR7, HB7, HZ7, HS7⟩, by simp [intOf]; omega⟩
    · obtain rfl : cm = j := by omega
      have jI : ¬ (cm : Int) < (cm : Int) := by omega
      rw [← (unhide HED).1] at HOW
      rw [← (unhide HED).2] at HRW
      obtain ⟨ae, ce, hve, pe, _, _⟩ := (unhide HOW).slice
      subst hve
      have HGP : Hid (∀ b off, ae = some ⟨b, off, none⟩ → w.heap.size < b) := hide (fun b off e => by
        rcases (unhide HOW).2 with ⟨e2, _⟩ | ⟨g', c', cur, e2, hb, _⟩
        · injection e2 with e3 _ _; rw [e] at e3; cases e3
        · injection e2 with e3 _ _; rw [e] at e3; cases e3; have := unhide HGB; have := unhide HGM0; have := unhide HG; omega)
      have HPU := hide (rput_any y0 y1 y2 y3 y4 y5 y6 y7 ae (rEd l) ce wr pe (by have := rEd_len l; omega) (fun p hp => by have := rEd_size l p hp; have := unhide HN; omega))
      have HPE := hide pe
      obtain ⟨en, hen⟩ : ∃ z, (rEd l).length = z := ⟨_, rfl⟩
      rw [hen] at HPU HMW
      have HEN := hide hen
      obtain ⟨ez, hez⟩ : ∃ z, (rFin l).2 = z := ⟨_, rfl⟩
      rw [hez] at HRW
      have HEZ := hide hez
      obtain ⟨kz, hkz⟩ : ∃ z, (rFin l).1 = z := ⟨_, rfl⟩
      rw [hkz] at HRW
      clear hen hez hkz pe HOW
      unfold msgV at HPU
      have c0 : wr.cell? ⟨gM, 0, none⟩ = some (.int .i64 y0) := (unhide HMW).cell 0
      have c1 : wr.cell? ⟨gM, 1, none⟩ = some (.int .i64 y1) := (unhide HMW).cell 1
      have c2 : wr.cell? ⟨gM, 2, none⟩ = some (.int .i64 y2) := (unhide HMW).cell 2
      have c3 : wr.cell? ⟨gM, 3, none⟩ = some (.int .i64 y3) := (unhide HMW).cell 3
      have c4 : wr.cell? ⟨gM, 4, none⟩ = some (.int .i64 y4) := (unhide HMW).cell 4
      have c5 : wr.cell? ⟨gM, 5, none⟩ = some (.int .i64 y5) := (unhide HMW).cell 5
      have c6 : wr.cell? ⟨gM, 6, none⟩ = some (.int .i64 y6) := (unhide HMW).cell 6
      have c7 : wr.cell? ⟨gM, 7, none⟩ = some (.int .i64 y7) := (unhide HMW).cell 7
      have c8 : wr.cell? ⟨gM, 8, none⟩ = some (.slice ae en ce) := (unhide HMW).cell 8
      go_wp2_with fail
      refine Calls.mono (unhide HPU) ?_
      rintro r wp ⟨bp, hok, hno⟩
      have HBp := hide ((unhide HBW).trans (bp.mono (unhide HBW).size))
      have HRp := hide ((unhide HRW : RowAt wr g 69 _).below bp (unhide HRW : RowAt wr g 69 _).lt)
      have HMp := hide ((unhide HMW).below bp (unhide HMW).lt)
      have HZp := hide ((unhide HZW).below bp (unhide HZW).lt)
      have HPp := hide ((unhide HPE).call bp)
      have q2 : wp.cell? ⟨g, 2, none⟩ = some (.int .i64 ez) := (unhide HRp).cell 2
      obtain ⟨Z, hZ⟩ : ∃ E : Array Value, ([.int .i64 0, .int .i64 0, .int .i64 0, .int .i64 0, .int .i64 0, .int .i64 0, .int .i64 0, .int .i64 0, .slice none 0 0] : List Value).toArray = E := ⟨_, rfl⟩
      have HZZ := hide hZ
      have HZS : Hid (Z.size = 9) := hide (by rw [← hZ]; rfl)
      have HZO : Hid (Z.all (·.oneCell') = true) := hide (by rw [← hZ]; simp only [List.all_toArray, List.all_cons, List.all_nil, Bool.and_true]; rfl)
      have HE2 := hide ((unhide HZp).arr hZ)
      clear hZ bp HBW HRW HMW HZW HPE HPU HM9 HB_9 HZ_9 HR_9 c0 c1 c2 c3 c4 c5 c6 c7 c8
      by_cases hm : MsgOk y0 (nsF y1 y2 y3 y4 y5 y6 y7) (rEd l)
      · obtain ⟨vx, rfl, hx⟩ := hok hm
        have HX := hide hx
        obtain ⟨m, hmm⟩ : ∃ z, msgL y0 y1 y2 y3 y4 y5 y6 y7 (rEd l) = z := ⟨_, rfl⟩
        have H8m : Hid (U8 m) := hide (by rw [← hmm]; exact msgL_8 _ _ _ _ _ _ _ _ _)
        rw [hmm] at HX
        have HMM := hide hmm
        have HM := hide hm
        clear hok hno hm hx hmm
        by_cases hz : ez = 0
        · subst hz
          have u1 := byt_convert (unhide HX) (unhide H8m)
          have u2 := byt_convert ((unhide HV).call (unhide HBp)) (unhide H8)
          obtain ⟨ax, cx, hvx⟩ := byt_shape (unhide HX)
          subst hvx
          by_cases hq : m = l
          · subst hq
            have HOK : Hid (GetOk m ∧ rEd m = gEd m) := hide (by
              have h := get_of_ref (l := m) ⟨unhide HEZ, by rw [unhide HY0, unhide HY1, unhide HY2, unhide HY3, unhide HY4, unhide HY5, unhide HY6, unhide HY7]; exact unhide HM, by rw [unhide HY0, unhide HY1, unhide HY2, unhide HY3, unhide HY4, unhide HY5, unhide HY6, unhide HY7]; exact unhide HMM⟩
              exact ⟨h, (ref_of_get (unhide H8) h).2⟩)
            have hs : ((strOf m).toList == (strOf m).toList) = true := by simp
            obtain ⟨E, hE⟩ : ∃ E : Array Value, ([.int .i64 y0, .int .i64 y1, .int .i64 y2, .int .i64 y3, .int .i64 y4, .int .i64 y5, .int .i64 y6, .int .i64 y7, .slice ae en ce] : List Value).toArray = E := ⟨_, rfl⟩
            have HE1 := hide ((unhide HMp).arr hE)
            have HEZ9 : Hid (E.size = 9) := hide (by rw [← hE]; rfl)
            have HEO : Hid (E.all (·.oneCell') = true) := hide (by rw [← hE]; simp only [List.all_toArray, List.all_cons, List.all_nil, Bool.and_true]; rfl)
            have HEE := hide hE
            clear hE
            go_wp2_with (first
              | (refine wpList_load_row rfl 25 _ rfl gM (by kernel_rfl) 25 E (0, 0) _ (unhide HE1) Tryd.underlying25 rfl (by rw [z25, unhide HEZ9]) ?_)
              | (refine wpList_store_row rfl 25 _ _ rfl w.heap.size E (by kernel_rfl) (by kernel_rfl) 25 Z (unhide HE2) (by rw [z25, unhide HEZ9]) (by rw [unhide HEZ9, unhide HZS]) (unhide HEO) ?_))
            refine bodyPost_ret (results_row_tmp Tryd.results19 _ _ w.heap.size 25 E (0, 0) _ rfl (setRow_heap _ _ _ _ _ _ (unhide HE2)) Tryd.underlying25 rfl (by rw [z25, unhide HEZ9])) rfl ?_
            have hbf : Below w.heap.size w (wp.setRow w.heap.size E) := Below.trans (unhide HBp) ⟨rfl, rfl, rfl, by simp [World.setRow], fun k hk => setRow_other _ _ _ _ (by omega)⟩
            refine ⟨hbf, fun _ => ⟨ae, ce, ?_, ?_⟩, fun h => absurd (unhide HOK).1 h⟩
            · rw [← unhide HEE, unhide HY0, unhide HY1, unhide HY2, unhide HY3, unhide HY4, unhide HY5, unhide HY6, unhide HY7, ← (unhide HOK).2, unhide HEN]
              rfl
            · rw [← (unhide HOK).2]
              exact pts_set (unhide HPp) (unhide HGP)
          · have hs : ((strOf m).toList == (strOf l).toList) = false := strOf_ne (unhide H8m) (unhide H8) hq
            have HNO : Hid (¬ GetOk l) := hide (fun h => by
              have h2 := (ref_of_get (unhide H8) h).1
              have h3 := h2.2.2; rw [unhide HY0, unhide HY1, unhide HY2, unhide HY3, unhide HY4, unhide HY5, unhide HY6, unhide HY7, unhide HMM] at h3; exact hq h3)
            go_wp2_with (first
              | (refine wpList_store_row rfl 25 _ _ rfl w.heap.size Z (by kernel_rfl) (by rw [← unhide HZZ]; rfl) 25 Z (unhide HE2) (by rw [z25, unhide HZS]) rfl (unhide HZO) ?_))
            refine bodyPost_ret (results_row_tmp Tryd.results19 _ _ w.heap.size 25 Z (0, 0) _ rfl (setRow_heap _ _ _ _ _ _ (unhide HE2)) Tryd.underlying25 rfl (by rw [z25, unhide HZS])) rfl ?_
            have hbf : Below w.heap.size w (wp.setRow w.heap.size Z) := Below.trans (unhide HBp) ⟨rfl, rfl, rfl, by simp [World.setRow], fun k hk => setRow_other _ _ _ _ (by omega)⟩
            exact ⟨hbf, fun h => absurd h (unhide HNO), fun _ => by rw [← unhide HZZ]; rfl⟩
        · have hzb : (ez != 0) = true := by simp [hz]
          have HNO : Hid (¬ GetOk l) := hide (fun h => by
            have h2 := (ref_of_get (unhide H8) h).1
            exact hz (by rw [← unhide HEZ]; exact h2.1))
          go_wp2_with (first
            | (refine wpList_store_row rfl 25 _ _ rfl w.heap.size Z (by kernel_rfl) (by rw [← unhide HZZ]; rfl) 25 Z (unhide HE2) (by rw [z25, unhide HZS]) rfl (unhide HZO) ?_))
          refine bodyPost_ret (results_row_tmp Tryd.results19 _ _ w.heap.size 25 Z (0, 0) _ rfl (setRow_heap _ _ _ _ _ _ (unhide HE2)) Tryd.underlying25 rfl (by rw [z25, unhide HZS])) rfl ?_
          have hbf : Below w.heap.size w (wp.setRow w.heap.size Z) := Below.trans (unhide HBp) ⟨rfl, rfl, rfl, by simp [World.setRow], fun k hk => setRow_other _ _ _ _ (by omega)⟩
          exact ⟨hbf, fun h => absurd h (unhide HNO), fun _ => by rw [← unhide HZZ]; rfl⟩
      · have hr := hno hm
        subst hr
        have HM := hide hm
        clear hok hno hm
        by_cases hz : ez = 0
        · subst hz
          have HNO : Hid (¬ GetOk l) := hide (fun h => by
            have h2 := (ref_of_get (unhide H8) h).1
            have h3 := h2.2.1; rw [unhide HY0, unhide HY1, unhide HY2, unhide HY3, unhide HY4, unhide HY5, unhide HY6, unhide HY7] at h3; exact unhide HM h3)
          go_wp2_with (first
            | (refine wpList_store_row rfl 25 _ _ rfl w.heap.size Z (by kernel_rfl) (by rw [← unhide HZZ]; rfl) 25 Z (unhide HE2) (by rw [z25, unhide HZS]) rfl (unhide HZO) ?_))
          refine bodyPost_ret (results_row_tmp Tryd.results19 _ _ w.heap.size 25 Z (0, 0) _ rfl (setRow_heap _ _ _ _ _ _ (unhide HE2)) Tryd.underlying25 rfl (by rw [z25, unhide HZS])) rfl ?_
          have hbf : Below w.heap.size w (wp.setRow w.heap.size Z) := Below.trans (unhide HBp) ⟨rfl, rfl, rfl, by simp [World.setRow], fun k hk => setRow_other _ _ _ _ (by omega)⟩
          exact ⟨hbf, fun h => absurd h (unhide HNO), fun _ => by rw [← unhide HZZ]; rfl⟩
        · have hzb : (ez != 0) = true := by simp [hz]
          have HNO : Hid (¬ GetOk l) := hide (fun h => by
            have h2 := (ref_of_get (unhide H8) h).1
            exact hz (by rw [← unhide HEZ]; exact h2.1))
          go_wp2_with (first
            | (refine wpList_store_row rfl 25 _ _ rfl w.heap.size Z (by kernel_rfl) (by rw [← unhide HZZ]; rfl) 25 Z (unhide HE2) (by rw [z25, unhide HZS]) rfl (unhide HZO) ?_))
          refine bodyPost_ret (results_row_tmp Tryd.results19 _ _ w.heap.size 25 Z (0, 0) _ rfl (setRow_heap _ _ _ _ _ _ (unhide HE2)) Tryd.underlying25 rfl (by rw [z25, unhide HZS])) rfl ?_
          have hbf : Below w.heap.size w (wp.setRow w.heap.size Z) := Below.trans (unhide HBp) ⟨rfl, rfl, rfl, by simp [World.setRow], fun k hk => setRow_other _ _ _ _ (by omega)⟩
          exact ⟨hbf, fun h => absurd h (unhide HNO), fun _ => by rw [← unhide HZZ]; rfl⟩
end Go.Proofs.YtbnfilhilgjnfaaDoor

namespace Go.Proofs.YtbnfilhilgjnfaaDoor
set_option linter.unusedVariables false
set_option linter.unusedSimpArgs false
set_option maxRecDepth 100000
open Go.ChangeShapes Go.WideShapes Go.ChangeAt Go.RowKit Go.Joins

def GotV (x0 x1 x2 x3 x4 x5 x6 x7 : Int) (q : List Ed.Pt) (z : Int) (w : World) (r : Ending) (w' : World) : Prop := Below w.heap.size w w' ∧ ∃ a c, r = .returned (.tuple #[msgV x0 x1 x2 x3 x4 x5 x6 x7 (.slice a q.length c), .int .i64 z]) ∧ Ed.PtsAt w' a q
theorem got_of (l : List Nat) : ∃ (x0 x1 x2 x3 x4 x5 x6 x7 : Int) (q : List Ed.Pt) (z : Int), q.length ≤ 500 ∧ ∀ w r w', GtR l w r w' → GotV x0 x1 x2 x3 x4 x5 x6 x7 q z w r w' := by
  by_cases h : GetOk l
  · refine ⟨nVal l 0, nVal l 1, nVal l 2, nVal l 3, nVal l 4, nVal l 5, nVal l 6, nVal l 7, gEd l, 0, by have := gEd_len l; omega, fun w r w' hg => ?_⟩
    obtain ⟨b, h1, _⟩ := hg
    exact ⟨b, h1 h⟩
  · refine ⟨0, 0, 0, 0, 0, 0, 0, 0, [], 120, by simp, fun w r w' hg => ?_⟩
    obtain ⟨b, _, h2⟩ := hg
    exact ⟨b, none, 0, h2 h, .inl rfl⟩
set_option maxHeartbeats 8000000 in
theorem gets_law (v : Value) (l : List Nat) (w : World) (hT : GLay w) (hv : Byt w v l) (h8 : U8 l) :
    Calls Tryd.prog 5 #[v] w fun e w' => e = .returned (.bool true) ∧ Below w.heap.size w w' := by
  have HAW : Hid (∀ w1, Below w.heap.size w w1 → Calls Tryd.prog 9 #[] w1 fun e w' => e = .returned (.bool true) ∧ Below w1.heap.size w1 w') := hide (fun w1 hb => fawake_any w1 (hT.below hb).1)
  have HV := hide hv
  have HT := hide hT
  have H8 := hide h8
  obtain ⟨a, cap, rfl⟩ := byt_shape hv
  obtain ⟨n, hn⟩ : ∃ n, l.length = n := ⟨_, rfl⟩
  rw [hn] at HV ⊢
  have HN := hide hn
  clear hv hT h8 hn
  by_cases hbig : 16384 < n
  · have hI : (16384 : Int) < (n : Int) := by omega
    go_enter Tryd.func5, Tryd.ntmps5
    go_wp2_with fail
    refine Calls.mono (unhide HAW w (Below.refl _ _)) ?_
    rintro e w1 ⟨rfl, b1⟩
    go_wp2_with fail
    go_ret
    exact ⟨rfl, b1⟩
  have hI : ¬ (16384 : Int) < (n : Int) := by omega
  have HCL := hide (clone_any _ l w (unhide HV) (by rw [unhide HN]; omega))
  rw [unhide HN] at HCL
  go_enter Tryd.func5, Tryd.ntmps5
  go_wp2_with fail
  refine Calls.mono (unhide HCL) ?_
  rintro e w1 ⟨vc, rfl, o1, b1⟩
  have y1 := Byt.of_own (own_cast o1 (unhide HN).symm rfl)
  obtain ⟨ac, cc, hvc⟩ := byt_shape y1
  rw [unhide HN] at hvc
  subst hvc
  have HY1 := hide y1
  have HB1 := hide b1
  clear o1 b1 y1 HCL
  have HG1 := hide (get_any _ l w1 ((unhide HT).below (unhide HB1)) (unhide HY1) (unhide H8) (by rw [unhide HN]; omega))
  obtain ⟨x0, x1, x2, x3, x4, x5, x6, x7, q, z, hq5, hgot⟩ := got_of l
  have HGV := hide hgot
  obtain ⟨n1, hn1⟩ : ∃ n1, q.length = n1 := ⟨_, rfl⟩
  rw [hn1] at hq5
  have HN1 := hide hn1
  clear hgot hn1
  go_wp2_with fail
  refine Calls.mono (unhide HG1) ?_
  intro e w2 h2
  obtain ⟨b2, a1, c1, rfl, p2⟩ := unhide HGV _ _ _ h2
  rw [unhide HN1]
  unfold msgV
  have HB2 := hide ((unhide HB1).trans (b2.mono (unhide HB1).size))
  have HY2 := hide ((unhide HY1).call b2)
  have b3 : Below w2.heap.size w2 (w2.alloc (.cells #[.int .i64 x0, .int .i64 x1, .int .i64 x2, .int .i64 x3, .int .i64 x4, .int .i64 x5, .int .i64 x6, .int .i64 x7, .slice a1 n1 c1] 25)) := (Below.refl _ _).alloc (Nat.le_refl _) _
  have HR3 := hide (RowAt.new w2 25 [.int .i64 x0, .int .i64 x1, .int .i64 x2, .int .i64 x3, .int .i64 x4, .int .i64 x5, .int .i64 x6, .int .i64 x7, .slice a1 n1 c1])
  have HP3 := hide (p2.call b3)
  have HB3 := hide ((unhide HB2).trans (b3.mono (unhide HB2).size))
  have HY3 := hide ((unhide HY2).call b3)
  clear h2 b2 p2 b3 HB1 HY1 HB2 HY2 HG1
  go_wp2_with fail
  obtain ⟨g1, hg1⟩ : ∃ z, w2.heap.size = z := ⟨_, rfl⟩
  rw [hg1] at HR3
  try rw [hg1]
  generalize w2.alloc (.cells #[.int .i64 x0, .int .i64 x1, .int .i64 x2, .int .i64 x3, .int .i64 x4, .int .i64 x5, .int .i64 x6, .int .i64 x7, .slice a1 n1 c1] 25) = w3 at *
  clear hg1
  have HG3 := hide (rget_any _ l w3 ((unhide HV).call (unhide HB3)) (unhide H8) (by rw [unhide HN]; omega))
  try rw [unhide HN] at HG3
  refine Calls.mono (unhide HG3) ?_
  intro e w4 h4
  obtain ⟨b4, a2, c2, rfl, p4⟩ := unhide HGV _ _ _ (show GtR l w3 e w4 from h4)
  rw [unhide HN1]
  unfold msgV
  have HB4 := hide ((unhide HB3).trans (b4.mono (unhide HB3).size))
  have HY4 := hide ((unhide HY3).call b4)
  have HR4 := hide ((unhide HR3).below b4 (unhide HR3).lt)
  have HP4 := hide ((unhide HP3).call b4)
  have b5 : Below w4.heap.size w4 (w4.alloc (.cells #[.int .i64 x0, .int .i64 x1, .int .i64 x2, .int .i64 x3, .int .i64 x4, .int .i64 x5, .int .i64 x6, .int .i64 x7, .slice a2 n1 c2] 25)) := (Below.refl _ _).alloc (Nat.le_refl _) _
  have HD5 := hide (RowAt.new w4 25 [.int .i64 x0, .int .i64 x1, .int .i64 x2, .int .i64 x3, .int .i64 x4, .int .i64 x5, .int .i64 x6, .int .i64 x7, .slice a2 n1 c2])
  have HR5 := hide ((unhide HR4).below b5 (unhide HR4).lt)
  have HQ5 := hide (p4.call b5)
  have HP5 := hide ((unhide HP4).call b5)
  have HB5 := hide ((unhide HB4).trans (b5.mono (unhide HB4).size))
  have HY5 := hide ((unhide HY4).call b5)
  clear h4 b4 p4 b5 HB3 HY3 HB4 HY4 HG3 HR3 HR4 HP3 HP4
  have HSA := hide (same_any x0 x1 x2 x3 x4 x5 x6 x7 a1 a2 q n1 c1 c2 (w4.alloc (.cells #[.int .i64 x0, .int .i64 x1, .int .i64 x2, .int .i64 x3, .int .i64 x4, .int .i64 x5, .int .i64 x6, .int .i64 x7, .slice a2 n1 c2] 25)) (unhide HP5) (unhide HQ5) (unhide HN1) (by unfold maxLen; omega))
  unfold msgV at HSA
  have r0 : (w4.alloc (.cells #[.int .i64 x0, .int .i64 x1, .int .i64 x2, .int .i64 x3, .int .i64 x4, .int .i64 x5, .int .i64 x6, .int .i64 x7, .slice a2 n1 c2] 25)).cell? ⟨g1, 0, none⟩ = some (.int .i64 x0) := (unhide HR5).cell 0
  have r1 : (w4.alloc (.cells #[.int .i64 x0, .int .i64 x1, .int .i64 x2, .int .i64 x3, .int .i64 x4, .int .i64 x5, .int .i64 x6, .int .i64 x7, .slice a2 n1 c2] 25)).cell? ⟨g1, 1, none⟩ = some (.int .i64 x1) := (unhide HR5).cell 1
  have r2 : (w4.alloc (.cells #[.int .i64 x0, .int .i64 x1, .int .i64 x2, .int .i64 x3, .int .i64 x4, .int .i64 x5, .int .i64 x6, .int .i64 x7, .slice a2 n1 c2] 25)).cell? ⟨g1, 2, none⟩ = some (.int .i64 x2) := (unhide HR5).cell 2
  have r3 : (w4.alloc (.cells #[.int .i64 x0, .int .i64 x1, .int .i64 x2, .int .i64 x3, .int .i64 x4, .int .i64 x5, .int .i64 x6, .int .i64 x7, .slice a2 n1 c2] 25)).cell? ⟨g1, 3, none⟩ = some (.int .i64 x3) := (unhide HR5).cell 3
  have r4 : (w4.alloc (.cells #[.int .i64 x0, .int .i64 x1, .int .i64 x2, .int .i64 x3, .int .i64 x4, .int .i64 x5, .int .i64 x6, .int .i64 x7, .slice a2 n1 c2] 25)).cell? ⟨g1, 4, none⟩ = some (.int .i64 x4) := (unhide HR5).cell 4
  have r5 : (w4.alloc (.cells #[.int .i64 x0, .int .i64 x1, .int .i64 x2, .int .i64 x3, .int .i64 x4, .int .i64 x5, .int .i64 x6, .int .i64 x7, .slice a2 n1 c2] 25)).cell? ⟨g1, 5, none⟩ = some (.int .i64 x5) := (unhide HR5).cell 5
  have r6 : (w4.alloc (.cells #[.int .i64 x0, .int .i64 x1, .int .i64 x2, .int .i64 x3, .int .i64 x4, .int .i64 x5, .int .i64 x6, .int .i64 x7, .slice a2 n1 c2] 25)).cell? ⟨g1, 6, none⟩ = some (.int .i64 x6) := (unhide HR5).cell 6
  have r7 : (w4.alloc (.cells #[.int .i64 x0, .int .i64 x1, .int .i64 x2, .int .i64 x3, .int .i64 x4, .int .i64 x5, .int .i64 x6, .int .i64 x7, .slice a2 n1 c2] 25)).cell? ⟨g1, 7, none⟩ = some (.int .i64 x7) := (unhide HR5).cell 7
  have r8 : (w4.alloc (.cells #[.int .i64 x0, .int .i64 x1, .int .i64 x2, .int .i64 x3, .int .i64 x4, .int .i64 x5, .int .i64 x6, .int .i64 x7, .slice a2 n1 c2] 25)).cell? ⟨g1, 8, none⟩ = some (.slice a1 n1 c1) := (unhide HR5).cell 8
  have d0 : (w4.alloc (.cells #[.int .i64 x0, .int .i64 x1, .int .i64 x2, .int .i64 x3, .int .i64 x4, .int .i64 x5, .int .i64 x6, .int .i64 x7, .slice a2 n1 c2] 25)).cell? ⟨w4.heap.size, 0, none⟩ = some (.int .i64 x0) := (unhide HD5).cell 0
  have d1 : (w4.alloc (.cells #[.int .i64 x0, .int .i64 x1, .int .i64 x2, .int .i64 x3, .int .i64 x4, .int .i64 x5, .int .i64 x6, .int .i64 x7, .slice a2 n1 c2] 25)).cell? ⟨w4.heap.size, 1, none⟩ = some (.int .i64 x1) := (unhide HD5).cell 1
  have d2 : (w4.alloc (.cells #[.int .i64 x0, .int .i64 x1, .int .i64 x2, .int .i64 x3, .int .i64 x4, .int .i64 x5, .int .i64 x6, .int .i64 x7, .slice a2 n1 c2] 25)).cell? ⟨w4.heap.size, 2, none⟩ = some (.int .i64 x2) := (unhide HD5).cell 2
  have d3 : (w4.alloc (.cells #[.int .i64 x0, .int .i64 x1, .int .i64 x2, .int .i64 x3, .int .i64 x4, .int .i64 x5, .int .i64 x6, .int .i64 x7, .slice a2 n1 c2] 25)).cell? ⟨w4.heap.size, 3, none⟩ = some (.int .i64 x3) := (unhide HD5).cell 3
  have d4 : (w4.alloc (.cells #[.int .i64 x0, .int .i64 x1, .int .i64 x2, .int .i64 x3, .int .i64 x4, .int .i64 x5, .int .i64 x6, .int .i64 x7, .slice a2 n1 c2] 25)).cell? ⟨w4.heap.size, 4, none⟩ = some (.int .i64 x4) := (unhide HD5).cell 4
  have d5 : (w4.alloc (.cells #[.int .i64 x0, .int .i64 x1, .int .i64 x2, .int .i64 x3, .int .i64 x4, .int .i64 x5, .int .i64 x6, .int .i64 x7, .slice a2 n1 c2] 25)).cell? ⟨w4.heap.size, 5, none⟩ = some (.int .i64 x5) := (unhide HD5).cell 5
  have d6 : (w4.alloc (.cells #[.int .i64 x0, .int .i64 x1, .int .i64 x2, .int .i64 x3, .int .i64 x4, .int .i64 x5, .int .i64 x6, .int .i64 x7, .slice a2 n1 c2] 25)).cell? ⟨w4.heap.size, 6, none⟩ = some (.int .i64 x6) := (unhide HD5).cell 6
  have d7 : (w4.alloc (.cells #[.int .i64 x0, .int .i64 x1, .int .i64 x2, .int .i64 x3, .int .i64 x4, .int .i64 x5, .int .i64 x6, .int .i64 x7, .slice a2 n1 c2] 25)).cell? ⟨w4.heap.size, 7, none⟩ = some (.int .i64 x7) := (unhide HD5).cell 7
  have d8 : (w4.alloc (.cells #[.int .i64 x0, .int .i64 x1, .int .i64 x2, .int .i64 x3, .int .i64 x4, .int .i64 x5, .int .i64 x6, .int .i64 x7, .slice a2 n1 c2] 25)).cell? ⟨w4.heap.size, 8, none⟩ = some (.slice a2 n1 c2) := (unhide HD5).cell 8
  go_wp2_with fail
  generalize w4.alloc (.cells #[.int .i64 x0, .int .i64 x1, .int .i64 x2, .int .i64 x3, .int .i64 x4, .int .i64 x5, .int .i64 x6, .int .i64 x7, .slice a2 n1 c2] 25) = w5 at *
  refine Calls.mono (unhide HSA) ?_
  rintro e w6 ⟨rfl, b6⟩
  have HB6 := hide ((unhide HB5).trans (b6.mono (unhide HB5).size))
  have HY6 := hide ((unhide HY5).call b6)
  clear b6 r0 r1 r2 r3 r4 r5 r6 r7 r8 d0 d1 d2 d3 d4 d5 d6 d7 d8 HB5 HSA HR5 HD5 HY5 HP5 HQ5
  have HEQ := hide (equal_same _ _ l w6 (unhide HY6) ((unhide HV).call (unhide HB6)) (unhide H8))
  go_wp2_with fail
  refine Calls.mono (unhide HEQ) ?_
  rintro e wq ⟨rfl, rfl⟩
  go_wp2_with fail
  refine Calls.mono (unhide HAW w6 (unhide HB6)) ?_
  rintro e w7 ⟨rfl, b7⟩
  have HB7 := hide ((unhide HB6).trans (b7.mono (unhide HB6).size))
  clear b7
  go_wp2_with fail
  go_ret
  exact ⟨by simp, unhide HB7⟩
end Go.Proofs.YtbnfilhilgjnfaaDoor
