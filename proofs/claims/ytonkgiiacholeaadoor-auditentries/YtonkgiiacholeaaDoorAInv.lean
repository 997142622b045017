/- A region that draws its order, by what holds whatever was done so far. -/
import Derived.Test.YtonkgiiacholeaaDoorAPair
import Derived.Orders
namespace Go.Proofs.YtonkgiiacholeaaDoor
set_option linter.unusedVariables false
set_option linter.unusedSimpArgs false
open Go.ChangeShapes Go.WideShapes Go.ChangeAt Go.RowKit Go.Joins

theorem getD_set (l : Array Bool) (i j : Nat) (hi : i < l.size) : (l.setIfInBounds i true).getD j false = (j == i || l.getD j false) := by
  by_cases h : j = i
  · subst h; simp [Array.getD, hi]
  · have h' : (j == i) = false := by simp [h]
    rw [h', Bool.false_or]
    rw [Array.getD_eq_getD_getElem?, Array.getD_eq_getD_getElem?, Array.getElem?_setIfInBounds, if_neg (fun e => h e.symm)]
theorem getD_tf (l : Array Bool) (i : Nat) (hi : i < l.size) : l.getD i true = l.getD i false := by simp [Array.getD, hi]
/-- what an operation waits for stands ahead of it -/
def backB (l : List Oper) : Bool := (List.range l.length).all fun i => ((l[i]?).map (·.after.all fun e => decide (e.on < i))).getD true
theorem ready_of (l : List Oper) (hb : backB l = true) (listed : Array Bool) (hs : listed.size = l.length) (h : Region.ready .any l.toArray listed = []) : ∀ i, i < l.length → listed.getD i false = true := by
  intro i
  induction i using Nat.strongRecOn with
  | _ i ih =>
    intro hi
    cases hc : listed.getD i false with
    | true => rfl
    | false =>
      exfalso
      have hm : i ∈ Region.ready .any l.toArray listed := by
        unfold Region.ready
        rw [List.mem_filter]
        refine ⟨by simpa using hi, ?_⟩
        rw [getD_tf _ _ (by omega), hc]
        have h1 := List.all_eq_true.1 hb i (List.mem_range.2 hi)
        have e1 : l.toArray[i]? = some l[i] := by simp [hi]
        rw [e1]
        rw [List.getElem?_eq_getElem hi] at h1
        simp only [Option.map_some, Option.getD_some, Bool.not_false, Bool.true_and] at h1 ⊢
        rw [Array.all_eq_true'] at h1 ⊢
        intro e he
        have h2 : e.on < i := of_decide_eq_true (h1 e he)
        rw [ih e.on h2 (by omega)]
        simp
      rw [h] at hm
      cases hm
def dn (listed : Array Bool) : Nat → Bool := fun i => listed.getD i false
theorem wpAny_inv {P : Program} {Q : Exit → Act → World → Prop} (l : List Oper) (hb : backB l = true) (I : (Nat → Bool) → Act → World → Prop)
    (hs : ∀ d a w i, I d a w → i < l.length → d i = false → (∀ o, l[i]? = some o → ∀ e ∈ o.after, Region.binds .any e = true → d e.on = true) → wpOp P l.toArray Q i (I (fun j => j == i || d j)) a w)
    (he : ∀ d a w, I d a w → (∀ i, i < l.length → d i = true) → Q .normal a w) :
    ∀ (fuel : Nat) (listed : Array Bool) (a : Act) (w : World), listed.size = l.length → (listed.toList.filter (! ·)).length = fuel → I (dn listed) a w → wpAny P .any l.toArray Q fuel listed a w := by
  intro fuel
  induction fuel with
  | zero =>
    intro listed a w hsz hc hI
    have hall : ∀ i, i < l.length → listed.getD i false = true := by
      intro i hi
      have h1 : listed.toList.filter (! ·) = [] := List.eq_nil_of_length_eq_zero hc
      rw [List.filter_eq_nil_iff] at h1
      have h2 := h1 (listed[i]'(by omega)) (by simp)
      simpa [Array.getD, show i < listed.size by omega] using h2
    refine ⟨?_, he _ a w hI hall⟩
    unfold Region.ready
    rw [List.filter_eq_nil_iff]
    intro i hi
    have hi' : i < l.length := by simpa using hi
    rw [getD_tf _ _ (by omega), hall i hi']
    simp
  | succ fuel ih =>
    intro listed a w hsz hc hI
    refine ⟨fun hr => he _ a w hI (fun i hi => ready_of l hb listed hsz hr i hi), fun i hi => ?_⟩
    unfold Region.ready at hi
    rw [List.mem_filter] at hi
    obtain ⟨h1, h2⟩ := hi
    have hlt : i < l.length := by simpa using h1
    rw [getD_tf _ _ (by omega)] at h2
    have hf : listed.getD i false = false := by
      cases hcc : listed.getD i false with
      | false => rfl
      | true => rw [hcc] at h2; simp at h2
    refine wpOp_mono (fun a' w' hI' => ?_) (hs (dn listed) a w i hI hlt hf (fun o ho e hem hbd => ?_))
    · refine ih (listed.setIfInBounds i true) a' w' (by simpa using hsz) ?_ ?_
      · have hg : listed[i]'(by omega) = false := by simpa [Array.getD, show i < listed.size by omega] using hf
        have e1 : (listed.setIfInBounds i true).toList = listed.toList.set i true := by simp
        rw [e1]
        have hL : i < listed.toList.length := by simpa using (show i < listed.size by omega)
        have e2 : listed.toList = listed.toList.take i ++ (false :: listed.toList.drop (i + 1)) := by
          rw [← hg, ← Array.getElem_toList, ← List.drop_eq_getElem_cons hL, List.take_append_drop]
        rw [List.set_eq_take_append_cons_drop, if_pos hL, List.filter_append, List.length_append]
        rw [e2, List.filter_append, List.length_append] at hc
        simp only [Bool.not_false, List.filter_cons_of_pos, List.length_cons] at hc
        simp
        omega
      · have e : dn (listed.setIfInBounds i true) = fun j => j == i || dn listed j := by
          funext j
          exact getD_set listed i j (by omega)
        rw [e]
        exact hI'
    · have e1 : l.toArray[i]? = some o := by simpa using ho
      rw [e1] at h2
      simp only [hf, Bool.not_false, Bool.true_and, Option.map_some, Option.getD_some] at h2
      rw [Array.all_eq_true'] at h2
      have := h2 e hem
      simpa [hbd, dn] using this
theorem wp_region_inv {P : Program} {id : Nat} {Q : Exit → Act → World → Prop} {a : Act} {w : World} {l : List Oper} (I : (Nat → Bool) → Act → World → Prop) (hm : P.follows .mixedOrders = true) (hb : backB l = true)
    (h0 : I (fun _ => false) a w.drew)
    (hs : ∀ d a w i, I d a w → i < l.length → d i = false → (∀ o, l[i]? = some o → ∀ e ∈ o.after, Region.binds .any e = true → d e.on = true) → wpOp P l.toArray Q i (I (fun j => j == i || d j)) a w)
    (he : ∀ d a w, I d a w → (∀ i, i < l.length → d i = true) → Q .normal a w) : (Code.region id l.toArray true).wp P Q a w := by
  refine wp_region_any hm (wpAny_inv l hb I hs he _ _ a _ (by simp) ?_ ?_)
  · simp
  · have e : dn (Array.replicate l.toArray.size false) = fun _ => false := by
      funext j
      simp only [dn, Array.getD]
      split <;> simp
    rw [e]
    exact h0
/-- one operation of such a region, with no guard -/
theorem wpOp_of {P : Program} {ops : Array Oper} {Q : Exit → Act → World → Prop} {i : Nat} {K : Act → World → Prop} {a : Act} {w : World} {o : Oper} (ho : ops[i]? = some o) (hg : o.guard = none) (h : o.wp P a w K Q) : wpOp P ops Q i K a w := by
  unfold wpOp
  rw [ho]
  have hw : Region.wanted o (yielded ops a.tmps) = true := by simp [Region.wanted, hg]
  simp only [hw, if_true]
  exact .inl h
end Go.Proofs.YtonkgiiacholeaaDoor
