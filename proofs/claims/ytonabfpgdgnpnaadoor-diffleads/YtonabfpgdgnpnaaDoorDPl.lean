/- The table: places, and what lies there. -/
import Derived.Test.YtonabfpgdgnpnaaDoorDOw
import Derived.Test.YtonabfpgdgnpnaaDoorDMa
namespace Go.Proofs.YtonabfpgdgnpnaaDoor
set_option linter.unusedVariables false
set_option linter.unusedSimpArgs false
open Go.ChangeShapes Go.WideShapes Go.ChangeAt Go.RowKit Go.Joins Go.Deep

def u16v (l : List Nat) : List Value := l.map (fun (n : Nat) => .int .u16 (n : Int))
theorem u16v_len (l : List Nat) : (u16v l).length = l.length := by simp [u16v]
theorem u16v_set (l : List Nat) (i n : Nat) : (u16v l).set i (.int .u16 (n : Int)) = u16v (l.set i n) := by simp [u16v, List.map_set]
theorem u16v_rep (n : Nat) : u16v (List.replicate n 0) = List.replicate n (.int .u16 0) := by simp [u16v]
/-- two texts' runes, and numbers, in memory -/
structure Tb (w : World) (Ba Bb Bm : Nat) (va vb vm : Value) (x y : List CP) (M : List Nat) : Prop where
  a : w.ownsRow Ba 21 1 va x.length (rnv x)
  b : w.ownsRow Bb 21 1 vb y.length (rnv y)
  m : w.ownsRow Bm 95 1 vm M.length (u16v M)
  cx : Cps x
  cy : Cps y
  len : M.length = (x.length + 1) * (y.length + 1)
  nx : x.length ≤ 1024
  ny : y.length ≤ 1024
theorem Tb.call {w w' : World} {Ba Bb Bm : Nat} {va vb vm : Value} {x y : List CP} {M : List Nat} (h : Tb w Ba Bb Bm va vb vm x y M) (hb : Below w.heap.size w w') : Tb w' Ba Bb Bm va vb vm x y M := ⟨own_call h.a hb, own_call h.b hb, own_call h.m hb, h.cx, h.cy, h.len, h.nx, h.ny⟩
theorem place_lt {i j n m : Nat} (hi : i ≤ n) (hj : j ≤ m) : i * (m + 1) + j < (n + 1) * (m + 1) := by
  have := Nat.mul_le_mul_right (m + 1) hi
  rw [Nat.add_mul]
  omega
theorem place_inj {i j i' j' m : Nat} (hj : j ≤ m) (hj' : j' ≤ m) (h : i * (m + 1) + j = i' * (m + 1) + j') : i = i' ∧ j = j' := by
  have e1 : (i * (m + 1) + j) / (m + 1) = i := by rw [Nat.mul_comm, Nat.mul_add_div (by omega), Nat.div_eq_of_lt (by omega)]; omega
  have e2 : (i' * (m + 1) + j') / (m + 1) = i' := by rw [Nat.mul_comm, Nat.mul_add_div (by omega), Nat.div_eq_of_lt (by omega)]; omega
  have : i = i' := by rw [← e1, ← e2, h]
  subst this
  exact ⟨rfl, by omega⟩
theorem place_small {i j m : Nat} (hi : i ≤ 1025) (hj : j ≤ 1025) (hm : m ≤ 1024) : i * (m + 1) + j ≤ 1100000 := by
  have := Nat.mul_le_mul hi (show m + 1 ≤ 1025 by omega)
  omega
set_option maxRecDepth 100000 in
set_option maxHeartbeats 4000000 in
theorem place_any (va vm : Value) (ab : Option Addr) (nb cb i j : Nat) (w : World) (hi : i ≤ 1025) (hj : j ≤ 1025) (hn : nb ≤ 1024) :
    Calls Tryd.prog 57 #[.agg #[va, .slice ab nb cb, vm], .int .i64 (i : Int), .int .i64 (j : Int)] w fun r w' => r = .returned (.int .i64 ((i * (nb + 1) + j : Nat) : Int)) ∧ Below w.heap.size w w' := by
  have hp := place_small hi hj hn
  obtain ⟨P, hP⟩ : ∃ z, i * (nb + 1) + j = z := ⟨_, rfl⟩
  obtain ⟨Q, hQ⟩ : ∃ z, i * (nb + 1) = z := ⟨_, rfl⟩
  rw [hP] at hp ⊢
  rw [hQ] at hP
  have hmul : (i : Int) * ((nb : Int) + 1) = (Q : Int) := by rw [← hQ]; simp
  have hPI : (P : Int) = (Q : Int) + (j : Int) := by omega
  rw [hPI]
  have hQI : (Q : Int) ≤ 1100000 := by omega
  have hB : Below w.heap.size w (w.alloc (.cells #[va, .slice ab nb cb, vm] 63)) := (Below.refl _ _).alloc (Nat.le_refl _) _
  have hc := (RowAt.new w 63 [va, .slice ab nb cb, vm]).cell 1
  have HB := hide hB
  clear hB hP hQ hp hPI
  go_enter Tryd.func57, Tryd.ntmps57
  go_wp2_with fail
  go_ret
  exact ⟨by first | rfl | simp, unhide HB⟩
end Go.Proofs.YtonabfpgdgnpnaaDoor
