/- The document's table: the mathematics. -/
import Derived.Test.YtonabfpgdgnpnaaDoorDAl
namespace Go.Proofs.YtonabfpgdgnpnaaDoor
set_option linter.unusedVariables false
set_option linter.unusedSimpArgs false
open Go.ChangeShapes Go.WideShapes Go.ChangeAt Go.RowKit Go.Joins Go.Deep

theorem nsv_set (l : List Nat) (i n : Nat) : (nsv l).set i (.int .i64 (n : Int)) = nsv (l.set i n) := by simp [nsv, List.map_set]
theorem nsv_rep (n : Nat) : nsv (List.replicate n 0) = List.replicate n (.int .i64 0) := by simp [nsv]
theorem nsv_get {l : List Nat} {i a : Nat} (h : l[i]? = some a) : (nsv l)[i]? = some (.int .i64 (a : Int)) := by simp [nsv, h]
/-- a row of the document's table: of place p, how many can be kept from there on -/
def lrow (x y : List CP) (p : Nat) : List Nat := (List.range (y.length + 1)).map fun j => lcs (x.drop p) (y.drop j)
theorem lrow_len (x y : List CP) (p : Nat) : (lrow x y p).length = y.length + 1 := by simp [lrow]
theorem lrow_at {x y : List CP} {p j : Nat} (h : j ≤ y.length) : (lrow x y p)[j]? = some (lcs (x.drop p) (y.drop j)) := by
  unfold lrow
  rw [List.getElem?_map, List.getElem?_range (by omega)]
  rfl
def LRI (x y : List CP) (p k : Nat) (R : List Nat) : Prop := R.length = y.length + 1 ∧ ∀ j, k ≤ j → j ≤ y.length → R[j]? = some (lcs (x.drop p) (y.drop j))
theorem LRI.start (x y : List CP) (p : Nat) : LRI x y p y.length (List.replicate (y.length + 1) 0) := ⟨by simp, fun j h1 h2 => by
  rw [List.getElem?_replicate, if_pos (by omega), show j = y.length by omega, List.drop_length, lcs_nil_right]⟩
theorem LRI.done {x y : List CP} {p : Nat} {R : List Nat} (h : LRI x y p 0 R) : R = lrow x y p := by
  apply List.ext_getElem?
  intro j
  by_cases hj : j ≤ y.length
  · rw [h.2 j (by omega) hj, lrow_at hj]
  · rw [List.getElem?_eq_none (by rw [h.1]; omega), List.getElem?_eq_none (by rw [lrow_len]; omega)]
theorem LRI.put {x y : List CP} {p k v : Nat} {R : List Nat} (h : LRI x y p (k + 1) R) (hk : k < y.length) (hv : v = lcs (x.drop p) (y.drop k)) : LRI x y p k (R.set k v) := by
  refine ⟨by rw [List.length_set]; exact h.1, fun j h1 h2 => ?_⟩
  by_cases e : k = j
  · subst e
    rw [List.getElem?_set_self (by rw [h.1]; omega), hv]
  · rw [List.getElem?_set_ne e]
    exact h.2 j (by omega) h2
theorem lcs_miss {x y : List CP} {p k : Nat} {c d : CP} (hc : x[p]? = some c) (hd : y[k]? = some d) (h : c ≠ d) : max (lcs (x.drop (p + 1)) (y.drop k)) (lcs (x.drop p) (y.drop (k + 1))) = lcs (x.drop p) (y.drop k) := by
  obtain ⟨h1, e1⟩ := List.getElem?_eq_some_iff.1 hc
  obtain ⟨h2, e2⟩ := List.getElem?_eq_some_iff.1 hd
  rw [List.drop_eq_getElem_cons h1, List.drop_eq_getElem_cons h2, e1, e2, lcs_ne h]
theorem lcs_hit {x y : List CP} {p k : Nat} {c : CP} (hc : x[p]? = some c) (hd : y[k]? = some c) : max (max (lcs (x.drop (p + 1)) (y.drop k)) (lcs (x.drop p) (y.drop (k + 1)))) (lcs (x.drop (p + 1)) (y.drop (k + 1)) + 1) = lcs (x.drop p) (y.drop k) := by
  obtain ⟨h1, e1⟩ := List.getElem?_eq_some_iff.1 hc
  obtain ⟨h2, e2⟩ := List.getElem?_eq_some_iff.1 hd
  rw [List.drop_eq_getElem_cons h1, List.drop_eq_getElem_cons h2, e1, e2, lcs_eq]
  have a1 := (lcs_right c (x.drop (p + 1)) (y.drop (k + 1))).2
  have a2 := (lcs_left c (x.drop (p + 1)) (y.drop (k + 1))).2
  omega
def TX (x y : List CP) (X : List (List Nat)) (p : Nat) : Prop := X.length = x.length + 1 - p ∧ ∀ r, p + r ≤ x.length → X[r]? = some (lrow x y (p + r))
theorem TX.start (x y : List CP) : TX x y [List.replicate (y.length + 1) 0] x.length := by
  refine ⟨by simp, fun r h => ?_⟩
  obtain rfl : r = 0 := by omega
  have : List.replicate (y.length + 1) 0 = lrow x y x.length := by
    apply List.ext_getElem?
    intro j
    by_cases hj : j ≤ y.length
    · rw [List.getElem?_replicate, if_pos (by omega), lrow_at hj, List.drop_length, lcs_nil_left]
    · rw [List.getElem?_eq_none (by simp; omega), List.getElem?_eq_none (by rw [lrow_len]; omega)]
  rw [this]
  rfl
theorem TX.next {x y : List CP} {X : List (List Nat)} {p : Nat} (h : TX x y X (p + 1)) (hp : p < x.length) : TX x y (lrow x y p :: X) p := by
  refine ⟨by rw [List.length_cons, h.1]; omega, fun r hr => ?_⟩
  cases r with
  | zero => rfl
  | succ r =>
    rw [List.getElem?_cons_succ, h.2 r (by omega), show p + 1 + r = p + (r + 1) by omega]
/-- rows of rows of numbers -/
structure RR (w : World) (B : Nat) (v : Value) (vs : List Value) (X : List (List Nat)) : Prop where
  own : w.ownsRow B 59 1 v X.length vs
  each : ∀ (i : Nat) u x, vs[i]? = some u → X[i]? = some x → w.ownsRow B 3 1 u x.length (nsv x)
theorem RR.len {w : World} {B : Nat} {v : Value} {vs : List Value} {X : List (List Nat)} (h : RR w B v vs X) : vs.length = X.length := by have := h.own.1; omega
theorem RR.call {w w' : World} {B : Nat} {v : Value} {vs : List Value} {X : List (List Nat)} (h : RR w B v vs X) (hb : Below w.heap.size w w') : RR w' B v vs X := ⟨own_call h.own hb, fun i u x h1 h2 => own_call (h.each i u x h1 h2) hb⟩
theorem RR.at_ {w : World} {B : Nat} {v : Value} {vs : List Value} {X : List (List Nat)} (h : RR w B v vs X) {i : Nat} {x : List Nat} (hx : X[i]? = some x) : ∃ u, vs[i]? = some u ∧ w.ownsRow B 3 1 u x.length (nsv x) := by
  obtain ⟨u, hu⟩ : ∃ u, vs[i]? = some u := ⟨_, List.getElem?_eq_getElem (by rw [h.len]; exact (List.getElem?_eq_some_iff.1 hx).1)⟩
  exact ⟨u, hu, h.each i u x hu hx⟩
theorem info59 : ∃ i, Tryd.prog.info? 59 = some i ∧ i.zero = some (.slice none 0 0) ∧ i.size = 1 ∧ i.bytes = 24 := info_parts (by kernel_rfl)
theorem mk_nums (w : World) (m : Nat) (hm : m ≤ 1048576) : ∃ w1, (Instr.makeSlice 59 (.int .i64 (m : Int)) (.int .i64 (m : Int))).run Tryd.prog w = .ok (.slice (some ⟨w.heap.size, 0, none⟩) m m) w1 ∧ w1.ownsRow w.heap.size 3 1 (.slice (some ⟨w.heap.size, 0, none⟩) m m) m (nsv (List.replicate m 0)) ∧ Below w.heap.size w w1 := by
  obtain ⟨w1, hmk, hr1, hg1⟩ := run_make_full (P := Tryd.prog) w w.heap.size 59 3 (Classical.choose info64) (.int .i64 0) 1 Tryd.underlying59 (Classical.choose_spec info64).1 (Classical.choose_spec info64).2.1 (Classical.choose_spec info64).2.2.1 .i64 .i64 m (by rw [(Classical.choose_spec info64).2.2.2]; omega) (by unfold maxLen; omega) (Nat.le_refl _)
  refine ⟨w1, by simpa using hmk, ?_, (grown_only hg1).below (Nat.le_refl _) (fun k hk => by cases hk)⟩
  rw [nsv_rep]
  have e : (madeCells (Value.int .i64 0).cells (m * 1)).toList = List.replicate m (.int .i64 0) := by
    refine List.eq_replicate_iff.2 ⟨by simp [madeCells], fun v hv => ?_⟩
    simp [madeCells, Value.cells, Nat.mod_one] at hv
    first | exact hv.symm | exact hv | (obtain ⟨_, hv⟩ := hv; exact hv.symm) | (obtain ⟨_, hv⟩ := hv; exact hv) | simp_all
  rw [e] at hr1
  exact hr1
/-- a row that is being filled, in a block that world w2 doesn't know -/
structure IW (w2 wr : World) (g m : Nat) (R : List Nat) : Prop where
  own : wr.ownsRow w2.heap.size 3 1 (.slice (some ⟨g, 0, none⟩) m m) m (nsv R)
  bel : Below w2.heap.size w2 wr
  gB : w2.heap.size ≤ g
theorem IW.set {w2 wr : World} {g m : Nat} {R : List Nat} (h : IW w2 wr g m R) {i : Nat} (hi : i < m) (n : Nat) : IW w2 (wr.setCell ⟨g, i, none⟩ (.int .i64 (n : Int))) g m (R.set i n) := by
  refine ⟨?_, h.bel.setCell (by show w2.heap.size ≤ g; exact h.gB) _, h.gB⟩
  have := own_set h.own i (.int .i64 (n : Int)) hi
  rw [nsv_set] at this
  exact this
theorem IW.drew {w2 wr : World} {g m : Nat} {R : List Nat} (h : IW w2 wr g m R) : IW w2 wr.drew g m R := ⟨own_call h.own (Below.refl _ _).drew, h.bel.trans ((Below.refl _ _).drew.mono h.bel.size), h.gB⟩
end Go.Proofs.YtonabfpgdgnpnaaDoor
