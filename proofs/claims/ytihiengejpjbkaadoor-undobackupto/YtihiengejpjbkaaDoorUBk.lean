/- slices.Backward on a pile: its closure's rounds. -/
import Derived.Test.YtihiengejpjbkaaDoorUDel
import Derived.RangeFuncBox
import Derived.RangeFuncLeaves
import Derived.RangeFuncNested
import Derived.Shelf.Abstract
import Derived.WalkKit
import Derived.OwnWalkIn
import Derived.TacticsInMore
import Derived.LoopNIn
import Derived.LoopIn
namespace Go.Proofs.YtihiengejpjbkaaDoor
set_option linter.unusedVariables false
set_option linter.unusedSimpArgs false
open Go.ChangeShapes Go.WideShapes Go.ChangeAt Go.RowKit Go.Joins Go.Deep Go.Shelf

attribute [local go_sem] Oper.semAt_some
/-- a place and what stands there -/
abbrev Bx (zs : List Value) := { p : Nat × Value // zs[p.1]? = some p.2 }
def bxE {zs : List Value} (x : Bx zs) : Array Value := #[.int .i64 (x.1.1 : Int), x.1.2]
/-- the last k places, from behind -/
def bk (zs : List Value) : Nat → List (Nat × Value)
  | 0 => []
  | k + 1 => bk zs k ++ [(zs.length - 1 - k, zs[zs.length - 1 - k]?.getD (.slice none 0 0))]
theorem bk_len (zs : List Value) : ∀ k, (bk zs k).length = k
  | 0 => rfl
  | k + 1 => by simp [bk, bk_len zs k]
/-- what a round keeps: the pile and the box with it -/
def Kb (n₀ q : Nat) (W W' : World) : Prop := ∀ i, (i < n₀ ∨ i = q) → W'.heap[i]? = W.heap[i]?
theorem Kb.refl (n₀ q : Nat) (W : World) : Kb n₀ q W W := fun _ _ => rfl
theorem Kb.trans {n₀ q : Nat} {A B C : World} (h : Kb n₀ q A B) (k : Kb n₀ q B C) : Kb n₀ q A C := fun i hi => (k i hi).trans (h i hi)
theorem Kb.cell {n₀ q : Nat} {A B : World} (h : Kb n₀ q A B) {p : Addr} {v : Value} (hp : p.block < n₀ ∨ p.block = q) (hv : A.cell? p = some v) : B.cell? p = some v := by
  have e := h _ hp
  unfold World.cell? at hv ⊢
  rw [e]
  exact hv
set_option maxRecDepth 100000 in
set_option maxHeartbeats 2000000 in
theorem back1_in (m1 : Nat) (hn : 1 ≤ m1) (l q n₀ cap n : Nat) (a : Option Addr) (zs : List Value) (hz : zs.length = n) (hn9 : n ≤ 1000) (hcap : n ≤ cap) (J Jx : List (Bx zs) → World → Prop)
    (hY : ∀ pre x W, J pre W → pre.length < n → YieldAt Fence.wide (m1 - 1) Tryd.prog l (bxE x) W fun e W' =>
      (e = .returned (.bool true) ∧ J (pre ++ [x]) W' ∧ Kb n₀ q W W') ∨ (e = .returned (.bool false) ∧ Jx (pre ++ [x]) W'))
    (W : World) (hq : W.cell? ⟨q, 0, none⟩ = some (.slice a n cap)) (hc : ∀ j u, zs[j]? = some u → ∃ b, b < n₀ ∧ a = some ⟨b, 0, none⟩ ∧ W.cell? ⟨b, j, none⟩ = some u) (h0 : J [] W) :
    CallsIn Fence.wide m1 Tryd.prog 86 #[.func (.yield l) #[] #[], .pointer (some ⟨q, 0, none⟩)] W fun e W' => (∃ v, e = .returned v) ∧
      ((∃ ys, ys.map Subtype.val = bk zs n ∧ J ys W') ∨ (∃ pre, (∃ k, k ≤ n ∧ pre.map Subtype.val = bk zs k) ∧ Jx pre W')) := by
  refine callsIn_of_wp Tryd.func86 rfl trivial ?_ rfl
  simp only [Tryd.ntmps86, List.size_toArray, List.length_cons, List.length_nil, Nat.reduceAdd, Nat.reduceSub, Array.replicate_succ, Array.replicate_zero, List.push_toArray, List.append_toArray, List.nil_append, List.cons_append]
  gi_wp2
  gi_loopw [3] (fun i wr => ∃ (k : Nat) (ys : List (Bx zs)), k ≤ n ∧ i = .int .i64 ((n : Int) - 1 - (k : Int)) ∧ ys.map Subtype.val = bk zs k ∧ J ys wr ∧ Kb n₀ q W wr)
    (fun i _ => (intOf i + 1).toNat)
  case atStart => exact ⟨0, [], Nat.zero_le _, by simp, rfl, h0, Kb.refl _ _ _⟩
  case round =>
    obtain ⟨k, ys, hk, rfl, hys, hJs, hnx⟩ := hrel
    have hqr : wr.cell? ⟨q, 0, none⟩ = some (.slice a n cap) := hnx.cell (.inr rfl) hq
    by_cases hlt : k < n
    · obtain ⟨m, hm⟩ : ∃ m : Nat, m + 1 + k = n := ⟨n - 1 - k, by omega⟩
      have hI : (n : Int) - 1 - (k : Int) = (m : Int) := by omega
      rw [hI]
      obtain ⟨u, hu⟩ : ∃ u, zs[m]? = some u := ⟨_, List.getElem?_eq_getElem (by omega)⟩
      obtain ⟨b, hb, rfl, hcb⟩ := hc m u hu
      have hcr : wr.cell? ⟨b, m, none⟩ = some u := hnx.cell (.inl hb) hcb
      have hyl : ys.length = k := by have := congrArg List.length hys; rwa [List.length_map, bk_len] at this
      obtain ⟨fn, tmps, assign, body, hy, hR⟩ := hY ys ⟨(m, u), hu⟩ wr hJs (by omega)
      have hbk : (ys ++ [(⟨(m, u), hu⟩ : Bx zs)]).map Subtype.val = bk zs (k + 1) := by
        rw [List.map_append, hys]
        show bk zs k ++ [(m, u)] = bk zs k ++ [_]
        rw [hz, show n - 1 - k = m by omega, hu]
        rfl
      unfold bxE at hy
      dsimp only at hy
      have m0 : (0 : Int) ≤ (m : Int) := by omega
      have m1' : (m : Int) < (n : Int) := by omega
      clear hq hc h0 hY hI
      gi_wp2
      refine hR.mono ?_
      rintro e W3 (⟨rfl, hJ3, hk3⟩ | ⟨rfl, hJx3⟩)
      · gi_wp2
        go_roundw
        case rel => exact ⟨k + 1, _, by omega, by first | go_num | (congr 1; omega), hbk, hJ3, hnx.trans hk3⟩
        case measure => simp [intOf]
      · gi_wp2
        refine bodyPost_ret (results_none rfl _ _ _) rfl ?_
        exact ⟨⟨_, rfl⟩, .inr ⟨_, ⟨k + 1, by omega, hbk⟩, hJx3⟩⟩
    · obtain rfl : k = n := by omega
      have hI : (k : Int) - 1 - (k : Int) = -1 := by omega
      rw [hI]
      gi_wp2
      go_end0
      exact ⟨⟨_, rfl⟩, .inl ⟨_, hys, hJs⟩⟩
end Go.Proofs.YtihiengejpjbkaaDoor
