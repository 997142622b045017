/- Where a digest is put behind those of a height: what holds whichever of the statement's operations were done. -/
import Derived.Test.YtonkgiiacholeaaDoorAInv
import Derived.Deep.AppendLies
namespace Go.Proofs.YtonkgiiacholeaaDoor
set_option linter.unusedVariables false
set_option linter.unusedSimpArgs false
open Go.ChangeShapes Go.WideShapes Go.ChangeAt Go.RowKit Go.Joins

theorem fold_list : ∀ (l : List Value) (k : Nat) (Z : Array Value), Z.size = k + l.length → (l.zipIdx k).foldl (fun (cs : Array Value) (x : Value × Nat) => cs.setIfInBounds x.2 x.1) Z = (Z.toList.take k ++ l).toArray
  | [], k, Z, h => by
    simp only [List.zipIdx_nil, List.foldl_nil, List.append_nil]
    rw [List.take_of_length_le (by simp only [Array.length_toList]; simp at h; omega)]
  | v :: l, k, Z, h => by
    rw [List.zipIdx_cons, List.foldl_cons, fold_list l (k + 1) _ (by simp at h ⊢; omega)]
    congr 1
    have hk : k < Z.toList.length := by simp at h ⊢; omega
    rw [Array.toList_setIfInBounds, List.take_succ_eq_append_getElem (by rw [List.length_set]; exact hk), List.take_set_of_le (Nat.le_refl _), List.getElem_set_self, List.append_assoc]
    rfl
theorem fold_build (A Z : Array Value) (n : Nat) (hA : A.size = n) (hZ : Z.size = n) : Array.foldl (fun (cs : Array Value) (x : Value × Nat) => cs.setIfInBounds x.2 x.1) Z A.zipIdx 0 n = A := by
  subst hA
  have h := fold_list A.toList 0 Z (by simp [hZ])
  simp only [List.take_zero, List.nil_append, Array.toArray_toList] at h
  rw [show A.size = A.zipIdx.size by simp, ← Array.foldl_toList, Array.toList_zipIdx]
  exact h

/-- what the operations yield that only read -/
def rgV (g b N hc j xn xc : Nat) (xa : Option Addr) (SA : Array Value) : Nat → Value
  | 0 | 1 | 5 | 6 => .pointer (some ⟨g, 0, none⟩)
  | 2 | 7 => .pointer (some ⟨g, 2, none⟩)
  | 3 | 8 => .slice (some ⟨b, 0, none⟩) N hc
  | 4 | 9 => .int .i64 (j : Int)
  | 10 | 15 => .pointer (some ⟨b, j, none⟩)
  | 11 => .slice xa xn xc
  | _ => .agg SA
def Gn (W0 : World) (xv : Value) (xn : Nat) (xs ss : List Value) (w3 : World) (v : Value) : Prop :=
  ∃ gn cap, v = .slice (some ⟨gn, 0, none⟩) (xn + 1) cap ∧ w3.ownsRow 0 43 32 v (xn + 1) (xs ++ ss) ∧ Only (fun k => xv.ownBlock = some k) W0 w3 ∧ (xv.ownBlock = some gn ∨ W0.heap.size ≤ gn)
structure Rg (V : Nat → Value) (W0 : World) (SA : Array Value) (b j : Nat) (G : World → Value → Prop) (d : Nat → Bool) (u : Nat → Value) (w' : World) : Prop where
  val : ∀ k, k < 16 → k ≠ 13 → k ≠ 14 → d k = true → u k = V k
  c13 : d 13 = true → d 12 = true
  c14 : d 14 = true → d 11 = true ∧ d 13 = true
  c16 : d 16 = true → ∀ k, k < 16 → d k = true
  a0 : d 13 = false → w' = W0
  a1 : d 13 = true → d 14 = false → w' = W0.alloc (.cells SA 43) ∧ u 13 = .slice (some ⟨W0.heap.size, 0, none⟩) 1 1
  a2 : d 14 = true → d 16 = false → G w' (u 14)
  a3 : d 16 = true → ∃ w3, G w3 (u 14) ∧ w' = w3.setCell ⟨b, j, none⟩ (u 14)
theorem Rg.start {V : Nat → Value} {W0 : World} {SA : Array Value} {b j : Nat} {G : World → Value → Prop} (u : Nat → Value) : Rg V W0 SA b j G (fun _ => false) u W0 :=
  ⟨(fun k _ _ _ h => nomatch h), (fun h => nomatch h), (fun h => nomatch h), (fun h => nomatch h), (fun _ => rfl), (fun h => nomatch h), (fun h => nomatch h), (fun h => nomatch h)⟩
theorem Rg.not16 {V : Nat → Value} {W0 : World} {SA : Array Value} {b j : Nat} {G : World → Value → Prop} {d : Nat → Bool} {u : Nat → Value} {w' : World} (h : Rg V W0 SA b j G d u w') {k : Nat} (hk : k < 16) (hd : d k = false) : d 16 = false := by
  cases hc : d 16 with
  | false => rfl
  | true => rw [h.c16 hc k hk] at hd; cases hd
/-- an operation that only reads -/
theorem Rg.pure {V : Nat → Value} {W0 : World} {SA : Array Value} {b j : Nat} {G : World → Value → Prop} {d : Nat → Bool} {u : Nat → Value} {w' : World} (h : Rg V W0 SA b j G d u w') (k : Nat) (hk : k < 16) (k13 : k ≠ 13) (k14 : k ≠ 14) (hd : d k = false) :
    Rg V W0 SA b j G (fun i => i == k || d i) (fun i => if i = k then V k else u i) w' := by
  have h16 := h.not16 hk hd
  have e13 : (13 == k) = false := beq_eq_false_iff_ne.2 (fun e => k13 e.symm)
  have e14 : (14 == k) = false := beq_eq_false_iff_ne.2 (fun e => k14 e.symm)
  have e16 : (16 == k) = false := beq_eq_false_iff_ne.2 (by omega)
  have u13 : (if 13 = k then V k else u 13) = u 13 := if_neg (fun e => k13 e.symm)
  have u14 : (if 14 = k then V k else u 14) = u 14 := if_neg (fun e => k14 e.symm)
  refine ⟨fun i hi i13 i14 hdi => ?_, fun h1 => ?_, fun h1 => ?_, fun h1 => ?_, fun h1 => ?_, fun h1 h2 => ?_, fun h1 h2 => ?_, fun h1 => ?_⟩
  · show (if i = k then V k else u i) = V i
    by_cases e : i = k
    · subst e; rw [if_pos rfl]
    · rw [if_neg e]
      refine h.val i hi i13 i14 ?_
      have : (i == k) = false := beq_eq_false_iff_ne.2 e
      simpa [this] using hdi
  · have h1' : d 13 = true := by simpa [e13] using h1
    simp [h.c13 h1']
  · have h1' : d 14 = true := by simpa [e14] using h1
    simp [(h.c14 h1').1, (h.c14 h1').2]
  · have h1' : d 16 = true := by simpa [e16] using h1
    rw [h16] at h1'; cases h1'
  · exact h.a0 (by simpa [e13] using h1)
  · rw [u13]
    exact h.a1 (by simpa [e13] using h1) (by simpa [e14] using h2)
  · rw [u14]
    exact h.a2 (by simpa [e14] using h1) h16
  · have h1' : d 16 = true := by simpa [e16] using h1
    rw [h16] at h1'; cases h1'
theorem Rg.s13 {V : Nat → Value} {W0 : World} {SA : Array Value} {b j : Nat} {G : World → Value → Prop} {d : Nat → Bool} {u : Nat → Value} {w' : World} (h : Rg V W0 SA b j G d u w') (hd : d 13 = false) (h12 : d 12 = true) :
    Rg V W0 SA b j G (fun i => i == 13 || d i) (fun i => if i = 13 then .slice (some ⟨W0.heap.size, 0, none⟩) 1 1 else u i) (W0.alloc (.cells SA 43)) := by
  have h16 := h.not16 (by decide) hd
  have h14 : d 14 = false := by
    cases hc : d 14 with
    | false => rfl
    | true => rw [(h.c14 hc).2] at hd; cases hd
  refine ⟨fun i hi i13 i14 hdi => ?_, fun _ => by simp [h12], fun h1 => ?_, fun h1 => ?_, fun h1 => ?_, fun h1 h2 => ⟨rfl, rfl⟩, fun h1 h2 => ?_, fun h1 => ?_⟩
  · show (if i = 13 then _ else u i) = V i
    rw [if_neg i13]
    refine h.val i hi i13 i14 ?_
    have : (i == 13) = false := beq_eq_false_iff_ne.2 i13
    simpa [this] using hdi
  all_goals simp [h14, h16] at h1
theorem Rg.s14 {V : Nat → Value} {W0 : World} {SA : Array Value} {b j : Nat} {G : World → Value → Prop} {d : Nat → Bool} {u : Nat → Value} {w' w3 : World} {v : Value} (h : Rg V W0 SA b j G d u w') (hd : d 14 = false) (h11 : d 11 = true) (h13 : d 13 = true) (hG : G w3 v) :
    Rg V W0 SA b j G (fun i => i == 14 || d i) (fun i => if i = 14 then v else u i) w3 := by
  have h16 := h.not16 (by decide) hd
  refine ⟨fun i hi i13 i14 hdi => ?_, fun h1 => ?_, fun h1 => by simp [h11, h13], fun h1 => ?_, fun h1 => ?_, fun h1 h2 => ?_, fun h1 h2 => hG, fun h1 => ?_⟩
  · show (if i = 14 then v else u i) = V i
    rw [if_neg i14]
    refine h.val i hi i13 i14 ?_
    have : (i == 14) = false := beq_eq_false_iff_ne.2 i14
    simpa [this] using hdi
  · simp [h.c13 h13]
  · simp [h16] at h1
  · simp [h13] at h1
  · simp at h2
  · simp [h16] at h1
theorem Rg.s16 {V : Nat → Value} {W0 : World} {SA : Array Value} {b j : Nat} {G : World → Value → Prop} {d : Nat → Bool} {u : Nat → Value} {w' : World} (h : Rg V W0 SA b j G d u w') (hd : d 16 = false) (hall : ∀ k, k < 16 → d k = true) :
    Rg V W0 SA b j G (fun i => i == 16 || d i) u (w'.setCell ⟨b, j, none⟩ (u 14)) := by
  refine ⟨fun i hi i13 i14 hdi => h.val i hi i13 i14 (hall i hi), fun h1 => by simp [hall 12 (by decide)], fun h1 => by simp [hall 11 (by decide), hall 13 (by decide)], fun h1 k hk => by simp [hall k hk], fun h1 => ?_, fun h1 h2 => ?_, fun h1 h2 => ?_, fun h1 => ⟨w', h.a2 (hall 14 (by decide)) hd, rfl⟩⟩
  · simp [hall 13 (by decide)] at h1
  · simp [hall 14 (by decide)] at h2
  · simp at h2
end Go.Proofs.YtonkgiiacholeaaDoor
