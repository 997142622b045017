/- The numbers of the frames' example, by the kernel. -/
import Derived.Test.YtonkgiiacholeaaDoorFUnwr
import Derived.Test.YtonkgiiacholeaaDoorFKey
namespace Go.Proofs.YtonkgiiacholeaaDoor
set_option linter.unusedVariables false
set_option linter.unusedSimpArgs false
open Go.ChangeShapes Go.WideShapes Go.ChangeAt Go.RowKit Go.Joins

theorem u8_app {l m : List Nat} (h : U8 l) (h' : U8 m) : U8 (l ++ m) := by
  intro y hy
  rcases List.mem_append.1 hy with hy | hy
  · exact h y hy
  · exact h' y hy
def KK : List Nat := (keyAll (keyedL [115] (putN [] (keyN 1 2) 2)) 2).take 64
def HH : List Nat := [0, 0, 0, 0, 0, 0, 0, 2, 0, 0, 0, 0, 0, 0, 0, 0, 0, 0, 0, 0, 0, 0, 0, 3]
theorem num_head : headL 2 ((0 : Nat) : Int) 3 = HH := by kernel_rfl
set_option maxRecDepth 100000 in
theorem num_frame : decide (tagL KK 0 HH [] = tagL KK 1 HH []) = false := by kernel_rfl
theorem fkey_s (s : List Nat) (h : s = [115]) : fkeyL s 1 2 = KK := by
  subst h
  rw [fkeyL, KK]
  exact keyAll_take _ 2 253 64 (by omega)
theorem num_ne : ¬ tagL KK 0 HH [] = tagL KK 1 HH [] := of_decide_eq_false num_frame
theorem tk_nil (key : List Nat) (o : Nat) : tkL key o [] = [] := List.eq_nil_of_length_eq_zero (tkL_len key o [])
theorem wrap_parts (key : List Nat) (up : Bool) : (wrapL key up 2 0 3 []).take 24 = HH ∧ (wrapL key up 2 0 3 []).drop 24 = tagL key (onceU 0 up) HH [] := by
  have hl : HH.length = 24 := rfl
  have e : wrapL key up 2 0 3 [] = HH ++ tagL key (onceU 0 up) HH [] := by rw [wrapL, num_head, sealL, tk_nil]; rfl
  rw [e]
  exact ⟨by rw [← hl, List.take_left], by rw [← hl, List.drop_left]⟩
theorem wrap_nums (key : List Nat) (up : Bool) : Oct.numOf ((wrapL key up 2 0 3 []).take 8) = 2 ∧ Oct.numOf (((wrapL key up 2 0 3 []).drop 8).take 8) = 0 ∧ Oct.numOf (((wrapL key up 2 0 3 []).drop 16).take 8) = 3 := by
  have h := (wrap_parts key up).1
  have h0 : (wrapL key up 2 0 3 []).take 8 = HH.take 8 := by rw [← h, List.take_take, Nat.min_eq_left (by omega)]
  have h1 : ((wrapL key up 2 0 3 []).drop 8).take 8 = (HH.drop 8).take 8 := by rw [← h]; exact (take_piece _ 8 (by omega)).symm
  have h2 : ((wrapL key up 2 0 3 []).drop 16).take 8 = (HH.drop 16).take 8 := by rw [← h]; exact (take_piece _ 16 (by omega)).symm
  rw [h0, h1, h2]
  exact ⟨rfl, rfl, rfl⟩
theorem wrap_8 (key : List Nat) (up : Bool) : U8 (wrapL key up 2 0 3 []) := u8_app (headL_8 _ _ _) (u8_app (tkL_8 _ _ (fun y hy => by cases hy)) (tagL_8 _ _ _ _))
end Go.Proofs.YtonkgiiacholeaaDoor
