/- How often stretches meet. -/
import Derived.Test.YtonabfpgdgnpnaaDoorDSt
namespace Go.Proofs.YtonabfpgdgnpnaaDoor
set_option linter.unusedVariables false
set_option linter.unusedSimpArgs false
open Go.ChangeShapes Go.WideShapes Go.ChangeAt Go.RowKit Go.Joins Go.Deep

/-- whether two stretches meet -/
def mtB (x y : Cut2) : Bool := decide (x.1 ≤ y.2) && decide (y.1 ≤ x.2)
theorem mtB_comm (x y : Cut2) : mtB x y = mtB y x := by unfold mtB; rw [Bool.and_comm]
def meetN (X Y : List Cut2) : Nat := (X.map fun x => Y.countP (mtB x)).sum
theorem meetN_nil (Y : List Cut2) : meetN [] Y = 0 := rfl
theorem meetN_cons (x : Cut2) (X Y : List Cut2) : meetN (x :: X) Y = Y.countP (mtB x) + meetN X Y := by
  unfold meetN
  rw [List.map_cons, List.sum_cons]
theorem meetN_nil_right : ∀ X : List Cut2, meetN X [] = 0
  | [] => rfl
  | x :: X => by rw [meetN_cons, meetN_nil_right X]; rfl
theorem meetN_cons_right (y : Cut2) : ∀ X Y : List Cut2, meetN X (y :: Y) = X.countP (mtB y) + meetN X Y
  | [], Y => rfl
  | x :: X, Y => by
    rw [meetN_cons, meetN_cons, meetN_cons_right y X Y, List.countP_cons, List.countP_cons, mtB_comm x y]
    omega
theorem meetN_comm : ∀ X Y : List Cut2, meetN X Y = meetN Y X
  | [], Y => by rw [meetN_nil, meetN_nil_right]
  | x :: X, Y => by rw [meetN_cons, meetN_cons_right, meetN_comm X Y]
theorem meetN_take {X Y : List Cut2} {k : Nat} {x : Cut2} (h : X[k]? = some x) : meetN (X.take (k + 1)) Y = meetN (X.take k) Y + Y.countP (mtB x) := by
  unfold meetN
  rw [List.take_add_one, h, List.map_append, List.sum_append]
  simp
theorem count_take {Y : List Cut2} {k : Nat} {x y : Cut2} (h : Y[k]? = some y) : (Y.take (k + 1)).countP (mtB x) = (Y.take k).countP (mtB x) + if mtB x y then 1 else 0 := by
  rw [List.take_add_one, h, List.countP_append]
  simp [List.countP_cons]
/-- no stretch meets another: none at all -/
theorem meetN_zero {X Y : List Cut2} (h : meetN X Y = 0) : ∀ x ∈ X, ∀ y ∈ Y, mtB x y = false := by
  induction X with
  | nil => intro x hx; cases hx
  | cons z X ih =>
    rw [meetN_cons] at h
    intro x hx y hy
    rcases List.mem_cons.1 hx with rfl | hx
    · have h1 : Y.countP (mtB x) = 0 := by omega
      rw [List.countP_eq_zero] at h1
      simpa using h1 y hy
    · exact ih (by omega) x hx y hy
end Go.Proofs.YtonabfpgdgnpnaaDoor
