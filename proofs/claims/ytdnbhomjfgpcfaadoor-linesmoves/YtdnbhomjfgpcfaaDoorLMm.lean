/- The document's Move: the mathematics. -/
import Derived.Test.YtdnbhomjfgpcfaaDoorClo
import Derived.Test.YtdnbhomjfgpcfaaDoorLB
import Derived.Test.YtdnbhomjfgpcfaaDoorLRB
namespace Go.Proofs.YtdnbhomjfgpcfaaDoor
set_option linter.unusedVariables false
set_option linter.unusedSimpArgs false
open Go.ChangeShapes Go.WideShapes Go.ChangeAt Go.RowKit Go.Joins Go.Deep

theorem toN_kr : ∀ n, At.toN (List.replicate n .k) = n
  | 0 => rfl
  | n + 1 => by rw [List.replicate_succ]; simp only [At.toN]; rw [toN_kr n]
theorem toN_dr : ∀ n, At.toN (List.replicate n .d) = 0
  | 0 => rfl
  | n + 1 => by rw [List.replicate_succ]; simp only [At.toN]; rw [toN_dr n]
theorem comp_split : ∀ (x x2 y : List At), At.comp (x ++ x2) (List.replicate (At.toN x) .k ++ y) = x ++ At.comp x2 y
  | [], x2, y => by simp [At.toN]
  | .d :: x, x2, y => by
    rw [List.cons_append]
    simp only [At.toN, At.comp]
    rw [comp_split x x2 y]
    rfl
  | .k :: x, x2, y => by
    rw [List.cons_append]
    simp only [At.toN]
    rw [List.replicate_succ, List.cons_append]
    simp only [At.comp]
    rw [comp_split x x2 y]
    rfl
  | .p c :: x, x2, y => by
    rw [List.cons_append]
    simp only [At.toN]
    rw [List.replicate_succ, List.cons_append]
    simp only [At.comp]
    rw [comp_split x x2 y]
    rfl
theorem comp_puts (W : List (List UInt8)) : ∀ (x y : List At), At.Sw (At.comp x (W.map .p ++ y)) (W.map .p ++ At.comp x y) := by
  induction W with
  | nil => intro x y; exact .refl _
  | cons c W ih =>
    intro x y
    rw [List.map_cons, List.cons_append]
    exact (At.comp_put c x _).trans ((ih x y).cons _)
theorem mv_sw (x x2 : List At) (W : List (List UInt8)) : At.Sw (At.comp (x ++ x2) (List.replicate (At.toN x) .k ++ (W.map .p ++ List.replicate (At.toN x2) .k))) (x ++ (W.map .p ++ x2)) := by
  rw [comp_split]
  refine At.Sw.app x ?_
  have h := comp_puts W x2 (List.replicate (At.toN x2) .k)
  rw [At.comp_end] at h
  exact h
theorem wAts_none : ∀ (D : List Bool), wAts (List.replicate (D.length + 1) []) D = D.map stp
  | [] => rfl
  | b :: D => by
    rw [List.length_cons, List.replicate_succ]
    simp only [wAts]
    rw [wAts_none D]
    rfl
theorem wAts_put (W : List (List UInt8)) : ∀ (T : Nat) (D : List Bool), T ≤ D.length → wAts ((List.replicate (D.length + 1) []).set T W) D = (D.take T).map stp ++ (W.map .p ++ (D.drop T).map stp)
  | 0, [], _ => by simp [wAts]
  | 0, b :: D, _ => by
    rw [List.length_cons, List.replicate_succ, List.set_cons_zero]
    simp only [wAts]
    rw [wAts_none D]
    rfl
  | T + 1, [], h => by simp at h
  | T + 1, b :: D, h => by
    rw [List.length_cons, List.replicate_succ, List.set_cons_succ]
    simp only [wAts]
    rw [wAts_put W T D (by simpa using h)]
    rfl
theorem toN_stp : ∀ (D : List Bool), At.toN (D.map stp) = D.count false
  | [] => rfl
  | true :: D => by rw [List.map_cons, List.count_cons]; simp only [stp, if_pos, At.toN]; rw [toN_stp D]; simp
  | false :: D => by rw [List.map_cons, List.count_cons]; simp [stp, At.toN]; exact toN_stp D
/-- which are dropped: so far up to i -/
def mvD (n F i : Nat) : List Bool := List.replicate F false ++ (List.replicate (i - F) true ++ List.replicate (n - i) false)
theorem mvD_len {n F i : Nat} (h1 : F ≤ i) (h2 : i ≤ n) : (mvD n F i).length = n := by simp [mvD]; omega
theorem mvD_zero {n F : Nat} (h : F ≤ n) : mvD n F F = List.replicate n false := by
  unfold mvD
  rw [Nat.sub_self, List.replicate_zero, List.nil_append, List.replicate_append_replicate]
  congr 1
  omega
theorem mvD_step {n F i : Nat} (h1 : F ≤ i) (h2 : i < n) : (mvD n F i).set i true = mvD n F (i + 1) := by
  have e : List.replicate (n - i) false = false :: List.replicate (n - (i + 1)) false := by rw [show n - i = (n - (i + 1)) + 1 by omega, List.replicate_succ]
  unfold mvD
  rw [e, List.set_append_right _ _ (by simp; omega), List.set_append_right _ _ (by simp)]
  simp only [List.length_replicate]
  rw [show i - F - (i - F) = 0 by omega, List.set_cons_zero, show i + 1 - F = (i - F) + 1 by omega, List.replicate_succ', List.append_assoc]
  rfl
theorem mv_done {cs : List (List UInt8)} {F E T A : Nat} (h1 : F ≤ E) (h2 : E ≤ cs.length) (h3 : T ≤ cs.length) (hA : T ≤ F ∧ A = T ∨ E ≤ T ∧ A = T - (E - F)) : At.can (wAts ((List.replicate (cs.length + 1) []).set T (sub cs F E)) (mvD cs.length F E)) = At.can (mvA cs F E A) := by
  have hl := mvD_len (n := cs.length) h1 h2
  have hp := wAts_put (sub cs F E) T (mvD cs.length F E) (by omega)
  rw [hl] at hp
  rw [hp]
  refine At.can_of_sw (At.Sw.symm ?_)
  have hx : List.replicate F At.k ++ (List.replicate (E - F) At.d ++ List.replicate (cs.length - E) At.k) = ((mvD cs.length F E).take T).map stp ++ ((mvD cs.length F E).drop T).map stp := by
    rw [← List.map_append, List.take_append_drop]
    unfold mvD
    simp [stp]
  have hsum : At.toN (((mvD cs.length F E).take T).map stp) + At.toN (((mvD cs.length F E).drop T).map stp) = cs.length - (E - F) := by
    rw [← At.to_app, ← hx, At.to_app, At.to_app, toN_kr, toN_dr, toN_kr]
    omega
  have hta : At.toN (((mvD cs.length F E).take T).map stp) = A := by
    rw [toN_stp]
    unfold mvD
    rcases hA with ⟨a1, rfl⟩ | ⟨a1, rfl⟩
    · rw [List.take_append_of_le_length (by simpa using a1), List.take_replicate]
      simp
      omega
    · rw [List.take_append, List.take_append]
      simp [List.count_replicate]
      omega
  unfold mvA
  rw [hx, ← hta, show cs.length - (E - F) - At.toN (((mvD cs.length F E).take T).map stp) = At.toN (((mvD cs.length F E).drop T).map stp) by omega]
  exact mv_sw _ _ _
end Go.Proofs.YtdnbhomjfgpcfaaDoor
