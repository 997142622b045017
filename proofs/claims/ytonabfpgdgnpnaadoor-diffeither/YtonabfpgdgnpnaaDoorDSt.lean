/- The stretches of an edit. -/
import Derived.Test.YtonabfpgdgnpnaaDoorDB
namespace Go.Proofs.YtonabfpgdgnpnaaDoor
set_option linter.unusedVariables false
set_option linter.unusedSimpArgs false
open Go.ChangeShapes Go.WideShapes Go.ChangeAt Go.RowKit Go.Joins Go.Deep

abbrev Cut2 := Nat × Nat
def cut2C (L : List Cut2) : List Value := L.flatMap fun x => [.int .i64 (x.1 : Int), .int .i64 (x.2 : Int)]
theorem cut2C_len (L : List Cut2) : (cut2C L).length = L.length * 2 := by
  induction L with
  | nil => rfl
  | cons x L ih => unfold cut2C at *; rw [List.flatMap_cons, List.length_append, ih, List.length_cons]; simp; omega
theorem cut2C_app (L M : List Cut2) : cut2C (L ++ M) = cut2C L ++ cut2C M := by unfold cut2C; rw [List.flatMap_append]
theorem cut2C_last (L : List Cut2) (f o t : Nat) : (cut2C (L ++ [(f, o)])).set (L.length * 2 + 1) (.int .i64 (t : Int)) = cut2C (L ++ [(f, t)]) := by
  rw [cut2C_app, cut2C_app, List.set_append_right _ _ (by rw [cut2C_len]; omega), cut2C_len, show L.length * 2 + 1 - L.length * 2 = 1 by omega]
  rfl
theorem info84 : ∃ i, Tryd.prog.info? 84 = some i ∧ i.zero = some (.agg #[.int .i64 0, .int .i64 0]) ∧ i.size = 2 ∧ i.bytes = 16 := info_parts (by kernel_rfl)
/-- a part on the way: the stretches so far, where it stands, what the last part was -/
def sgS (s : List Cut2 × Nat × Int) (p : Pt) : List Cut2 × Nat × Int :=
  if p.kind = 2 then (s.1 ++ [(s.2.1, s.2.1)], s.2.1, p.kind)
  else if p.kind = 3 then (if s.2.2 = 2 then (s.1.dropLast ++ [((s.1.getLast?.getD (0, 0)).1, s.2.1 + p.n.toNat)], s.2.1 + p.n.toNat, p.kind) else (s.1 ++ [(s.2.1, s.2.1 + p.n.toNat)], s.2.1 + p.n.toNat, p.kind))
  else (s.1, s.2.1 + p.n.toNat, p.kind)
def sgL (l : List Pt) : List Cut2 × Nat × Int := l.foldl sgS ([], 0, 0)
theorem sgL_take {l : List Pt} {k : Nat} {p : Pt} (h : l[k]? = some p) : sgL (l.take (k + 1)) = sgS (sgL (l.take k)) p := by
  unfold sgL
  rw [List.take_add_one, h, List.foldl_append]
  rfl
theorem sgL_two {l : List Pt} : (sgL l).2.2 = 2 → (sgL l).1 ≠ [] := by
  rcases List.eq_nil_or_concat l with rfl | ⟨m, p, rfl⟩
  · intro h; simp [sgL] at h
  · unfold sgL
    rw [List.concat_eq_append, List.foldl_append, List.foldl_cons, List.foldl_nil]
    intro h
    unfold sgS at h ⊢
    split
    · simp
    · rename_i h2
      rw [if_neg h2] at h
      split at h <;> rename_i h3
      · split at h <;> simp_all
      · exact absurd h h2
theorem own_set2 {w : World} {B e n g c : Nat} {xs : List Value} (h : w.ownsRow B e 2 (.slice (some ⟨g, 0, none⟩) n c) n xs) (i : Nat) (u : Value) (hi : i < n * 2) : (w.setCell ⟨g, i, none⟩ u).ownsRow B e 2 (.slice (some ⟨g, 0, none⟩) n c) n (xs.set i u) := by
  obtain ⟨h1, h2⟩ := h
  refine ⟨by rw [List.length_set]; exact h1, ?_⟩
  rcases h2 with ⟨h2, _⟩ | ⟨g', cap, cur, e1, e2, e3, e4, e5, e6, e7⟩
  · cases h2
  · cases e1
    refine .inr ⟨g, c, cur.setIfInBounds i u, rfl, e2, ?_, e4, e5, by rw [Array.size_setIfInBounds]; exact e6, ?_⟩
    · rw [heap_setCell_same w g i _ e u e3]
    · rw [Array.toList_setIfInBounds, ← e7, List.take_set]
theorem cut2_at {L : List Cut2} {i : Nat} {x : Cut2} (h : L[i]? = some x) : (cut2C L)[i * 2]? = some (.int .i64 (x.1 : Int)) ∧ (cut2C L)[i * 2 + 1]? = some (.int .i64 (x.2 : Int)) := by
  obtain ⟨hlt, he⟩ := List.getElem?_eq_some_iff.1 h
  have e1 : L = L.take i ++ x :: L.drop (i + 1) := by
    conv => lhs; rw [← List.take_append_drop i L]
    rw [List.drop_eq_getElem_cons hlt, he]
  have hl : (L.take i).length = i := by rw [List.length_take]; omega
  rw [e1, show L.take i ++ x :: L.drop (i + 1) = L.take i ++ ([x] ++ L.drop (i + 1)) from rfl, cut2C_app, cut2C_app]
  have h2 : (cut2C (L.take i)).length = i * 2 := by rw [cut2C_len, hl]
  constructor
  · rw [List.getElem?_append_right (by omega), h2, Nat.sub_self]; rfl
  · rw [List.getElem?_append_right (by omega), h2, show i * 2 + 1 - i * 2 = 1 by omega]; rfl
end Go.Proofs.YtonabfpgdgnpnaaDoor
