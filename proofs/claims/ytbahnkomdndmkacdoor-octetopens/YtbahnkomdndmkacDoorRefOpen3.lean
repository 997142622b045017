/- The document's own Open: in one, at a block and where there is none. -/
import Derived.Test.YtbahnkomdndmkacDoorRefOpen2
namespace Go.Proofs.YtbahnkomdndmkacDoor
set_option linter.unusedVariables false
set_option linter.unusedSimpArgs false
open Go.ChangeShapes Go.WideShapes Go.ChangeAt Go.RowKit

theorem byt_cap {w : World} {a : Option Addr} {n cap : Nat} {l : List Nat} (h : Byt w (.slice a n cap) l) : n ≤ cap := by
  rcases h with ⟨h, rfl⟩ | ⟨a0, cap0, h, h1, _⟩
  · injection h with _ e2 e3; omega
  · injection h with _ e2 e3; omega
theorem cut_two {l A B : List Nat} {p : Nat} (h : l.take (p + 4) = A ++ B) (hA : A.length = p) : l.take p = A ∧ (l.drop p).take 4 = B := by
  constructor
  · have q := congrArg (List.take p) h
    rw [List.take_take, Nat.min_eq_left (by omega)] at q
    rw [q]
    subst hA
    simp
  · have q := congrArg (List.drop p) h
    rw [List.drop_take, Nat.add_sub_cancel_left] at q
    rw [q]
    subst hA
    simp
theorem sum_of_seal {l : List Nat} {m : Nat} (h8 : 8 + m + 4 ≤ l.length) (h : l.take (8 + m + 4) = sealB ((l.drop 8).take m)) : (l.drop (8 + m)).take 4 = sum4 (sumTo (l.take (8 + m))) := by
  have hdl : ((l.drop 8).take m).length = m := by rw [List.length_take, List.length_drop]; omega
  have hpl : (putB [] ((l.drop 8).take m)).length = 8 + m := by have := putB_len [] ((l.drop 8).take m); simp at this; omega
  obtain ⟨e1, e2⟩ := cut_two h hpl
  rw [e1, e2]
theorem refopen_good (a : Option Addr) (n cap : Nat) (l : List Nat) (w : World) (hv : Byt w (.slice a n cap) l) (hg : Low (.slice a n cap) w.heap.size) (hl : n ≤ 1000000000) (h256 : ∀ y ∈ l, y < 256)
    (m : Nat) (h : Good l m) :
    Calls Tryd.prog 34 #[.slice a n cap] w fun e w' => ∃ v', e = .returned (.tuple #[v', .int .i64 ((8 + m + 4 : Nat) : Int), .int .i64 0]) ∧ w'.ownsRow w.heap.size 5 1 v' m (bv ((l.drop 8).take m)) ∧ Below w.heap.size w w' := by
  have hln := byt_len hv
  have hs := good_seal h h256
  obtain ⟨h1, h2, h3, _⟩ := h
  exact refopen_any a n cap l w hv hg hl h256 (byt_cap hv) m h1 (by omega) h3 hs
theorem refopen_bad (a : Option Addr) (n cap : Nat) (l : List Nat) (e0 : Int) (w : World) (hv : Byt w (.slice a n cap) l) (hg : Low (.slice a n cap) w.heap.size) (hl : n ≤ 1000000000) (h256 : ∀ y ∈ l, y < 256)
    (hbad : BadBlock l 0 e0) :
    Calls Tryd.prog 34 #[.slice a n cap] w fun e w' => e = .returned (.tuple #[.slice none 0 0, .int .i64 0, .int .i64 e0]) ∧ Below w.heap.size w w' := by
  have hln := byt_len hv
  rcases hbad with ⟨h, _⟩ | ⟨m, hm, h1, h2, ⟨h3, rfl⟩ | ⟨h3, h4, rfl⟩⟩
  · exact refopen_bytes a n cap l e0 w hv hl h256 h
  · rw [List.drop_zero] at hm
    exact refopen_short a n cap l w hv hg hl h256 m hm (by omega) h1 (by omega)
  · rw [List.drop_zero] at hm
    rw [Nat.zero_add, List.drop_zero] at h4
    exact refopen_sum a n cap l w hv hg hl h256 (byt_cap hv) m hm (by omega) h1 (fun e => h4 (sum_of_seal (by omega) e))

theorem good_drop {l : List Nat} {k m : Nat} (h : GoodAt l k m) : Good (l.drop k) m := by
  obtain ⟨h1, h2, h3, h4⟩ := h
  refine ⟨h1, by rw [List.length_drop]; omega, h3, ?_⟩
  rw [List.drop_drop, ← Nat.add_assoc]
  exact h4
theorem bad_drop {l : List Nat} {k : Nat} {e : Int} (hk : k ≤ l.length) (h : BadBlock l k e) : BadBlock (l.drop k) 0 e := by
  rcases h with ⟨h, he⟩ | ⟨m, hm, h1, h2, h3⟩
  · refine .inl ⟨?_, he⟩
    unfold BadBytes at h ⊢
    rw [List.drop_zero, List.length_drop]
    rcases h with ⟨a1, rfl⟩ | ⟨a1, a2, rfl⟩ | ⟨a1, a2, a3, rfl⟩ | ⟨a1, a2, a3, a4, rfl⟩
    · exact .inl ⟨by omega, rfl⟩
    · exact .inr (.inl ⟨by omega, a2, rfl⟩)
    · exact .inr (.inr (.inl ⟨by omega, a2, a3, rfl⟩))
    · exact .inr (.inr (.inr ⟨by omega, a2, a3, by omega, rfl⟩))
  · refine .inr ⟨m, by rw [List.drop_zero]; exact hm, h1, by rw [List.length_drop]; omega, ?_⟩
    rcases h3 with ⟨h3, rfl⟩ | ⟨h3, h4, rfl⟩
    · exact .inl ⟨by rw [List.length_drop]; omega, rfl⟩
    · refine .inr ⟨by rw [List.length_drop]; omega, ?_, rfl⟩
      rw [List.drop_zero, List.drop_drop, Nat.zero_add, ← Nat.add_assoc]
      exact h4
end Go.Proofs.YtbahnkomdndmkacDoor
