/- Frames: keys, a beat, what fits, Wrap, what reads, Peek, Unwrap, the example, the rows' lists. -/
import Derived.Test.YthhpnakgiammiaaDoorRefK
import Derived.Orders
import Derived.Deep.AppendLies
import Derived.Test.YthhpnakgiammiaaDoorConcat
import Derived.Test.YthhpnakgiammiaaDoorLists
import Derived.Deep.OwnRows
import Derived.Laws.OwnMore
import Derived.Deep.DeepCutAuto
import Derived.Test.YthhpnakgiammiaaDoorCNums
import Derived.Test.YthhpnakgiammiaaDoorCRefT
import Derived.Test.YthhpnakgiammiaaDoorCTag
import Derived.Lib.ConvBytes
import Derived.Test.YthhpnakgiammiaaDoorCRefG
import Derived.Test.YthhpnakgiammiaaDoorCSeal
import Derived.Test.YthhpnakgiammiaaDoorRefW
import Derived.Lib.SmallJoins
import Derived.OwnWalk
import Derived.Deep.RegionHeld3
import Derived.Deep.QuietTactic
import Derived.BigQuiet
import Derived.Test.YthhpnakgiammiaaDoorCOpen
import Derived.Test.YthhpnakgiammiaaDoorRefN
import Derived.Laws.ResultCell
import Derived.Test.YthhpnakgiammiaaDoorLaid
import Derived.LaidSub
namespace Go.Proofs.YthhpnakgiammiaaDoor
set_option linter.unusedVariables false
set_option linter.unusedSimpArgs false
open Go.ChangeShapes Go.WideShapes Go.ChangeAt Go.RowKit Go.Joins

theorem getD_set (l : Array Bool) (i j : Nat) (hi : i < l.size) : (l.setIfInBounds i true).getD j false = (j == i || l.getD j false) := by
  by_cases h : j = i
  · subst h; simp [Array.getD, hi]
  · have h' : (j == i) = false := by simp [h]
    rw [h', Bool.false_or]
    rw [Array.getD_eq_getD_getElem?, Array.getD_eq_getD_getElem?, Array.getElem?_setIfInBounds, if_neg (fun e => h e.symm)]
theorem getD_tf (l : Array Bool) (i : Nat) (hi : i < l.size) : l.getD i true = l.getD i false := by simp [Array.getD, hi]
/-- what an operation waits for stands ahead of it -/
def backB (l : List Oper) : Bool := (List.range l.length).all fun i => ((l[i]?).map (·.after.all fun e => decide (e.on < i))).getD true
theorem ready_of (l : List Oper) (hb : backB l = true) (listed : Array Bool) (hs : listed.size = l.length) (h : Region.ready .any l.toArray listed = []) : ∀ i, i < l.length → listed.getD i false = true := by
  intro i
  induction i using Nat.strongRecOn with
  | _ i ih =>
    intro hi
    cases hc : listed.getD i false with
    | true => rfl
    | false =>
      exfalso
      have hm : i ∈ Region.ready .any l.toArray listed := by
        unfold Region.ready
        rw [List.mem_filter]
        refine ⟨by simpa using hi, ?_⟩
        rw [getD_tf _ _ (by omega), hc]
        have h1 := List.all_eq_true.1 hb i (List.mem_range.2 hi)
        have e1 : l.toArray[i]? = some l[i] := by simp [hi]
        rw [e1]
        rw [List.getElem?_eq_getElem hi] at h1
        simp only [Option.map_some, Option.getD_some, Bool.not_false, Bool.true_and] at h1 ⊢
        rw [Array.all_eq_true'] at h1 ⊢
        intro e he
        have h2 : e.on < i := of_decide_eq_true (h1 e he)
        rw [ih e.on h2 (by omega)]
        simp
      rw [h] at hm
      cases hm
def dn (listed : Array Bool) : Nat → Bool := fun i => listed.getD i false
theorem wpAny_inv {P : Program} {Q : Exit → Act → World → Prop} (l : List Oper) (hb : backB l = true) (I : (Nat → Bool) → Act → World → Prop)
    (hs : ∀ d a w i, I d a w → i < l.length → d i = false → (∀ o, l[i]? = some o → ∀ e ∈ o.after, Region.binds .any e = true → d e.on = true) → wpOp P l.toArray Q i (I (fun j => j == i || d j)) a w)
    (he : ∀ d a w, I d a w → (∀ i, i < l.length → d i = true) → Q .normal a w) :
    ∀ (fuel : Nat) (listed : Array Bool) (a : Act) (w : World), listed.size = l.length → (listed.toList.filter (! ·)).length = fuel → I (dn listed) a w → wpAny P .any l.toArray Q fuel listed a w := by
  intro fuel
  induction fuel with
  | zero =>
    intro listed a w hsz hc hI
    have hall : ∀ i, i < l.length → listed.getD i false = true := by
      intro i hi
      have h1 : listed.toList.filter (! ·) = [] := List.eq_nil_of_length_eq_zero hc
      rw [List.filter_eq_nil_iff] at h1
      have h2 := h1 (listed[i]'(by omega)) (by simp)
      simpa [Array.getD, show i < listed.size by omega] using h2
    refine ⟨?_, he _ a w hI hall⟩
    unfold Region.ready
    rw [List.filter_eq_nil_iff]
    intro i hi
    have hi' : i < l.length := by simpa using hi
    rw [getD_tf _ _ (by omega), hall i hi']
    simp
  | succ fuel ih =>
    intro listed a w hsz hc hI
    refine ⟨fun hr => he _ a w hI (fun i hi => ready_of l hb listed hsz hr i hi), fun i hi => ?_⟩
    unfold Region.ready at hi
    rw [List.mem_filter] at hi
    obtain ⟨h1, h2⟩ := hi
    have hlt : i < l.length := by simpa using h1
    rw [getD_tf _ _ (by omega)] at h2
    have hf : listed.getD i false = false := by
      cases hcc : listed.getD i false with
      | false => rfl
      | true => rw [hcc] at h2; simp at h2
    refine wpOp_mono (fun a' w' hI' => ?_) (hs (dn listed) a w i hI hlt hf (fun o ho e hem hbd => ?_))
    · refine ih (listed.setIfInBounds i true) a' w' (by simpa using hsz) ?_ ?_
      · have hg : listed[i]'(by omega) = false := by simpa [Array.getD, show i < listed.size by omega] using hf
        have e1 : (listed.setIfInBounds i true).toList = listed.toList.set i true := by simp
        rw [e1]
        have hL : i < listed.toList.length := by simpa using (show i < listed.size by omega)
        have e2 : listed.toList = listed.toList.take i ++ (false :: listed.toList.drop (i + 1)) := by
          rw [← hg, ← Array.getElem_toList, ← List.drop_eq_getElem_cons hL, List.take_append_drop]
        rw [List.set_eq_take_append_cons_drop, if_pos hL, List.filter_append, List.length_append]
        rw [e2, List.filter_append, List.length_append] at hc
        simp only [Bool.not_false, List.filter_cons_of_pos, List.length_cons] at hc
        simp
        omega
      · have e : dn (listed.setIfInBounds i true) = fun j => j == i || dn listed j := by
          funext j
          exact getD_set listed i j (by omega)
        rw [e]
        exact hI'
    · have e1 : l.toArray[i]? = some o := by simpa using ho
      rw [e1] at h2
      simp only [hf, Bool.not_false, Bool.true_and, Option.map_some, Option.getD_some] at h2
      rw [Array.all_eq_true'] at h2
      have := h2 e hem
      simpa [hbd, dn] using this
theorem wp_region_inv {P : Program} {id : Nat} {Q : Exit → Act → World → Prop} {a : Act} {w : World} {l : List Oper} (I : (Nat → Bool) → Act → World → Prop) (hm : P.follows .mixedOrders = true) (hb : backB l = true)
    (h0 : I (fun _ => false) a w.drew)
    (hs : ∀ d a w i, I d a w → i < l.length → d i = false → (∀ o, l[i]? = some o → ∀ e ∈ o.after, Region.binds .any e = true → d e.on = true) → wpOp P l.toArray Q i (I (fun j => j == i || d j)) a w)
    (he : ∀ d a w, I d a w → (∀ i, i < l.length → d i = true) → Q .normal a w) : (Code.region id l.toArray true).wp P Q a w := by
  refine wp_region_any hm (wpAny_inv l hb I hs he _ _ a _ (by simp) ?_ ?_)
  · simp
  · have e : dn (Array.replicate l.toArray.size false) = fun _ => false := by
      funext j
      simp only [dn, Array.getD]
      split <;> simp
    rw [e]
    exact h0
/-- one operation of such a region, with no guard -/
theorem wpOp_of {P : Program} {ops : Array Oper} {Q : Exit → Act → World → Prop} {i : Nat} {K : Act → World → Prop} {a : Act} {w : World} {o : Oper} (ho : ops[i]? = some o) (hg : o.guard = none) (h : o.wp P a w K Q) : wpOp P ops Q i K a w := by
  unfold wpOp
  rw [ho]
  have hw : Region.wanted o (yielded ops a.tmps) = true := by simp [Region.wanted, hg]
  simp only [hw, if_true]
  exact .inl h
end Go.Proofs.YthhpnakgiammiaaDoor

namespace Go.Proofs.YthhpnakgiammiaaDoor
set_option linter.unusedVariables false
set_option linter.unusedSimpArgs false
open Go.ChangeShapes Go.WideShapes Go.ChangeAt Go.RowKit Go.Joins

theorem rown_call {w w' : World} {B : Nat} {v : Value} {n : Nat} {xs : List Value} (h : w.ownsRow B 5 1 v n xs) (hb : Below w.heap.size w w') : w'.ownsRow B 5 1 v n xs := by
  rcases h with ⟨h0, ⟨h1, h2⟩ | ⟨g, cap, cur, h1, h2, h3, h4⟩⟩
  · exact ⟨h0, .inl ⟨h1, h2⟩⟩
  · refine ⟨h0, .inr ⟨g, cap, cur, h1, h2, ?_, h4⟩⟩
    rw [hb.block g (Array.getElem?_eq_some_iff.1 h3).1]
    exact h3
theorem own_ne {w : World} {B : Nat} {v : Value} {n g : Nat} {xs : List Value} {E : Array Value} {t : TypeId} (h : w.ownsRow B 5 1 v n xs) (hg : w.heap[g]? = some (.cells E t (0, 0))) (ht : ¬ t = 5) : some g ≠ v.ownBlock := by
  intro he
  rcases h with ⟨h0, ⟨rfl, h2⟩ | ⟨g', cap, cur, rfl, h2, h3, h4⟩⟩
  · cases he
  · injection he with he
    subst he
    have h5 := h3.symm.trans hg
    injection h5 with h5
    injection h5 with _ h6 _
    exact ht h6.symm

structure R9 (B gr tn : Nat) (wo : World) (tv : Value) (k q : Nat) (T : List Nat) (E Z : Array Value) (d : Nat → Bool) (v12 v29 v30 v31 v32 v33 v34 v35 v36 v37 v38 : Value) (w : World) : Prop where
  bel : Below B wo w
  size : B ≤ w.heap.size
  c3 : d 3 = true → d 1 = true
  c8 : d 8 = true → d 3 = true ∧ d 7 = true
  c9 : d 9 = true → d 8 = true
  c11 : d 11 = true → d 9 = true ∧ d 10 = true
  f0 : d 0 = true → v29 = .slice (some ⟨gr, 0, none⟩) 32 32
  f2 : d 2 = true → v31 = tv
  f4 : d 4 = true → v33 = .int .i64 (k : Int)
  f5 : d 5 = true → v34 = .int .i64 ((k : Int) + 1)
  f6 : d 6 = true → v35 = .int .u8 (q : Int)
  f1 : d 1 = true → d 3 = false → w.ownsRow B 5 1 v30 0 []
  f3 : d 3 = true → d 8 = false → w.ownsRow B 5 1 v32 tn (bv T)
  f7 : d 7 = true → d 8 = false → ∃ g7, v36 = .slice (some ⟨g7, 0, none⟩) 1 1 ∧ w.cell? ⟨g7, 0, none⟩ = some (.int .u8 (q : Int)) ∧ (d 1 = true → d 3 = false → v30.ownBlock ≠ some g7) ∧ (d 3 = true → v32.ownBlock ≠ some g7)
  f8 : d 8 = true → d 9 = false → w.ownsRow B 5 1 v37 (tn + 1) (bv (T ++ [q]))
  f9 : d 9 = true → v38 = .agg E
  f10 : d 10 = true → ∃ g10, v12 = .pointer (some ⟨g10, 0, none⟩) ∧ B ≤ g10 ∧ w.heap[g10]? = some (.cells (if d 11 = true then E else Z) 78 (0, 0))

variable {B gr tn : Nat} {wo : World} {tv : Value} {k q : Nat} {T : List Nat} {E Z : Array Value} {d : Nat → Bool} {v12 v29 v30 v31 v32 v33 v34 v35 v36 v37 v38 : Value} {w w' : World}

theorem R9.call (h : R9 B gr tn wo tv k q T E Z d v12 v29 v30 v31 v32 v33 v34 v35 v36 v37 v38 w) (hb : Below w.heap.size w w') : R9 B gr tn wo tv k q T E Z d v12 v29 v30 v31 v32 v33 v34 v35 v36 v37 v38 w' where
  bel := h.bel.trans (hb.mono h.size)
  size := Nat.le_trans h.size hb.size
  c3 := h.c3
  c8 := h.c8
  c9 := h.c9
  c11 := h.c11
  f0 := h.f0
  f2 := h.f2
  f4 := h.f4
  f5 := h.f5
  f6 := h.f6
  f1 := fun a b => rown_call (h.f1 a b) hb
  f3 := fun a b => rown_call (h.f3 a b) hb
  f7 := fun a b => by
    obtain ⟨g7, h1, h2, h3, h4⟩ := h.f7 a b
    exact ⟨g7, h1, cell_keep hb (lt_of_cell h2) h2, h3, h4⟩
  f8 := fun a b => rown_call (h.f8 a b) hb
  f9 := h.f9
  f10 := fun a => by
    obtain ⟨g, h1, h2, h3⟩ := h.f10 a
    exact ⟨g, h1, h2, by rw [hb.block g (Array.getElem?_eq_some_iff.1 h3).1]; exact h3⟩
theorem R9.s0 (h : R9 B gr tn wo tv k q T E Z d v12 v29 v30 v31 v32 v33 v34 v35 v36 v37 v38 w) : R9 B gr tn wo tv k q T E Z (fun j => j == 0 || d j) v12 (.slice (some ⟨gr, 0, none⟩) 32 32) v30 v31 v32 v33 v34 v35 v36 v37 v38 w where
  bel := h.bel
  size := h.size
  c3 := by simpa using h.c3
  c8 := by simpa using h.c8
  c9 := by simpa using h.c9
  c11 := by simpa using h.c11
  f0 := fun _ => rfl
  f2 := by simpa using h.f2
  f4 := by simpa using h.f4
  f5 := by simpa using h.f5
  f6 := by simpa using h.f6
  f1 := by simpa using h.f1
  f3 := by simpa using h.f3
  f7 := by simpa using h.f7
  f8 := by simpa using h.f8
  f9 := by simpa using h.f9
  f10 := by simpa using h.f10
theorem R9.s2 (h : R9 B gr tn wo tv k q T E Z d v12 v29 v30 v31 v32 v33 v34 v35 v36 v37 v38 w) : R9 B gr tn wo tv k q T E Z (fun j => j == 2 || d j) v12 v29 v30 (tv) v32 v33 v34 v35 v36 v37 v38 w where
  bel := h.bel
  size := h.size
  c3 := by simpa using h.c3
  c8 := by simpa using h.c8
  c9 := by simpa using h.c9
  c11 := by simpa using h.c11
  f0 := by simpa using h.f0
  f2 := fun _ => rfl
  f4 := by simpa using h.f4
  f5 := by simpa using h.f5
  f6 := by simpa using h.f6
  f1 := by simpa using h.f1
  f3 := by simpa using h.f3
  f7 := by simpa using h.f7
  f8 := by simpa using h.f8
  f9 := by simpa using h.f9
  f10 := by simpa using h.f10
theorem R9.s4 (h : R9 B gr tn wo tv k q T E Z d v12 v29 v30 v31 v32 v33 v34 v35 v36 v37 v38 w) : R9 B gr tn wo tv k q T E Z (fun j => j == 4 || d j) v12 v29 v30 v31 v32 (.int .i64 (k : Int)) v34 v35 v36 v37 v38 w where
  bel := h.bel
  size := h.size
  c3 := by simpa using h.c3
  c8 := by simpa using h.c8
  c9 := by simpa using h.c9
  c11 := by simpa using h.c11
  f0 := by simpa using h.f0
  f2 := by simpa using h.f2
  f4 := fun _ => rfl
  f5 := by simpa using h.f5
  f6 := by simpa using h.f6
  f1 := by simpa using h.f1
  f3 := by simpa using h.f3
  f7 := by simpa using h.f7
  f8 := by simpa using h.f8
  f9 := by simpa using h.f9
  f10 := by simpa using h.f10
theorem R9.s5 (h : R9 B gr tn wo tv k q T E Z d v12 v29 v30 v31 v32 v33 v34 v35 v36 v37 v38 w) : R9 B gr tn wo tv k q T E Z (fun j => j == 5 || d j) v12 v29 v30 v31 v32 v33 (.int .i64 ((k : Int) + 1)) v35 v36 v37 v38 w where
  bel := h.bel
  size := h.size
  c3 := by simpa using h.c3
  c8 := by simpa using h.c8
  c9 := by simpa using h.c9
  c11 := by simpa using h.c11
  f0 := by simpa using h.f0
  f2 := by simpa using h.f2
  f4 := by simpa using h.f4
  f5 := fun _ => rfl
  f6 := by simpa using h.f6
  f1 := by simpa using h.f1
  f3 := by simpa using h.f3
  f7 := by simpa using h.f7
  f8 := by simpa using h.f8
  f9 := by simpa using h.f9
  f10 := by simpa using h.f10
theorem R9.s6 (h : R9 B gr tn wo tv k q T E Z d v12 v29 v30 v31 v32 v33 v34 v35 v36 v37 v38 w) : R9 B gr tn wo tv k q T E Z (fun j => j == 6 || d j) v12 v29 v30 v31 v32 v33 v34 (.int .u8 (q : Int)) v36 v37 v38 w where
  bel := h.bel
  size := h.size
  c3 := by simpa using h.c3
  c8 := by simpa using h.c8
  c9 := by simpa using h.c9
  c11 := by simpa using h.c11
  f0 := by simpa using h.f0
  f2 := by simpa using h.f2
  f4 := by simpa using h.f4
  f5 := by simpa using h.f5
  f6 := fun _ => rfl
  f1 := by simpa using h.f1
  f3 := by simpa using h.f3
  f7 := by simpa using h.f7
  f8 := by simpa using h.f8
  f9 := by simpa using h.f9
  f10 := by simpa using h.f10

theorem R9.s1 (h : R9 B gr tn wo tv k q T E Z d v12 v29 v30 v31 v32 v33 v34 v35 v36 v37 v38 w) (h3 : d 3 = false) : R9 B gr tn wo tv k q T E Z (fun j => j == 1 || d j) v12 v29 (.slice (some ⟨w.heap.size, 0, none⟩) 0 0) v31 v32 v33 v34 v35 v36 v37 v38 (w.alloc (.cells #[] 5)) := by
  have hc := h.call ((Below.refl _ _).alloc (Nat.le_refl _) (.cells #[] 5))
  refine ⟨hc.bel, hc.size, by simp, by simpa using hc.c8, by simpa using hc.c9, by simpa using hc.c11, by simpa using hc.f0, by simpa using hc.f2, by simpa using hc.f4, by simpa using hc.f5, by simpa using hc.f6, fun _ _ => World.ownsRow_made (base := B) (e := 5) (size := 1) w #[] 0 h.size (Nat.zero_le _) rfl, by simpa using hc.f3, fun a b => ?_, by simpa using hc.f8, by simpa using hc.f9, by simpa using hc.f10⟩
  obtain ⟨g7, x1, x2, x3, x4⟩ := h.f7 (by simpa using a) (by simpa using b)
  have hlt := lt_of_cell x2
  exact ⟨g7, x1, cell_keep ((Below.refl _ _).alloc (Nat.le_refl _) _) hlt x2, fun _ _ he => by injection he with he; simp only at he; simp only at hlt; omega, fun hx => absurd (by simpa using hx) (by simp [h3])⟩
theorem R9.s7 (h : R9 B gr tn wo tv k q T E Z d v12 v29 v30 v31 v32 v33 v34 v35 v36 v37 v38 w) (h8 : d 8 = false) : R9 B gr tn wo tv k q T E Z (fun j => j == 7 || d j) v12 v29 v30 v31 v32 v33 v34 v35 (.slice (some ⟨w.heap.size, 0, none⟩) 1 1) v37 v38 (w.alloc (.cells #[.int .u8 (q : Int)] 5)) := by
  have hc := h.call ((Below.refl _ _).alloc (Nat.le_refl _) (.cells #[.int .u8 (q : Int)] 5))
  refine ⟨hc.bel, hc.size, by simpa using hc.c3, by simp; exact fun a => (h.c8 a).1, by simpa using hc.c9, by simpa using hc.c11, by simpa using hc.f0, by simpa using hc.f2, by simpa using hc.f4, by simpa using hc.f5, by simpa using hc.f6, by simpa using hc.f1, by simpa using hc.f3, fun a b => ⟨w.heap.size, rfl, ?_, fun hx h3 he => ?_, fun hx he => ?_⟩, by simpa using hc.f8, by simpa using hc.f9, by simpa using hc.f10⟩
  · exact new_cells w [.int .u8 (q : Int)] 5 0 _ rfl
  · have := ((h.f1 (by simpa using hx) (by simpa using h3)).lt _ he).2
    omega
  · have := ((h.f3 (by simpa using hx) h8).lt _ he).2
    omega

theorem R9.s3 (h : R9 B gr tn wo tv k q T E Z d v12 v29 v30 v31 v32 v33 v34 v35 v36 v37 v38 w) (h1 : d 1 = true) (h3 : d 3 = false) {a1 : Option Addr} {c1 : Nat} {w1 : World} (ho : w1.ownsRow B 5 1 (.slice a1 tn c1) tn (bv T)) (hg : w.grownBy w1 v30.ownBlock) (h5 : Value.ownBlock (.slice a1 tn c1) = v30.ownBlock ∨ Value.ownBlock (.slice a1 tn c1) = some w.heap.size) :
    R9 B gr tn wo tv k q T E Z (fun j => j == 3 || d j) v12 v29 v30 v31 (.slice a1 tn c1) v33 v34 v35 v36 v37 v38 w1 := by
  have o1 := h.f1 h1 h3
  have h8 : d 8 = false := by cases hq : d 8 with | false => rfl | true => have := (h.c8 hq).1; rw [h3] at this; cases this
  have h9 : d 9 = false := by cases hq : d 9 with | false => rfl | true => have := h.c9 hq; rw [h8] at this; cases this
  refine ⟨h.bel.grown hg h.size (fun k hk => (o1.lt k hk).1), Nat.le_trans h.size hg.size, fun _ => by simp [h1], by simp [h8], by simp [h9, h8], by simpa using h.c11, by simpa using h.f0, by simpa using h.f2, by simpa using h.f4, by simpa using h.f5, by simpa using h.f6, fun _ b => by simp at b, fun _ _ => ho, fun a b => ?_, by simp [h8], by simpa using h.f9, fun a => ?_⟩
  · obtain ⟨g7, x1, x2, x3, x4⟩ := h.f7 (by simpa using a) (by simpa using b)
    have hn := x3 h1 h3
    refine ⟨g7, x1, ?_, fun _ hb => by simp at hb, fun _ he => ?_⟩
    · rw [hg.cell_far _ (lt_of_cell x2) (fun e => hn e.symm)]; exact x2
    · rcases h5 with h5 | h5
      · exact hn (h5.symm.trans he)
      · rw [h5] at he
        injection he with he
        have := lt_of_cell x2
        simp only at this
        omega
  · obtain ⟨g, x1, x2, x3⟩ := h.f10 (by simpa using a)
    refine ⟨g, x1, x2, ?_⟩
    rw [hg.block g (Array.getElem?_eq_some_iff.1 x3).1 (own_ne o1 x3 (by decide))]
    simpa using x3
theorem R9.s8 (h : R9 B gr tn wo tv k q T E Z d v12 v29 v30 v31 v32 v33 v34 v35 v36 v37 v38 w) (h3 : d 3 = true) (h7 : d 7 = true) (h8 : d 8 = false) {a2 : Option Addr} {c2 : Nat} {w2 : World} (ho : w2.ownsRow B 5 1 (.slice a2 (tn + 1) c2) (tn + 1) (bv (T ++ [q]))) (hg : w.grownBy w2 v32.ownBlock) :
    R9 B gr tn wo tv k q T E Z (fun j => j == 8 || d j) v12 v29 v30 v31 v32 v33 v34 v35 v36 (.slice a2 (tn + 1) c2) v38 w2 := by
  have o3 := h.f3 h3 h8
  have h9 : d 9 = false := by cases hq : d 9 with | false => rfl | true => have := h.c9 hq; rw [h8] at this; cases this
  refine ⟨h.bel.grown hg h.size (fun k hk => (o3.lt k hk).1), Nat.le_trans h.size hg.size, by simpa using h.c3, by simp [h3, h7], by simp [h9], by simpa using h.c11, by simpa using h.f0, by simpa using h.f2, by simpa using h.f4, by simpa using h.f5, by simpa using h.f6, by simp [h3], by simp, by simp, fun _ _ => ho, by simpa using h.f9, fun a => ?_⟩
  obtain ⟨g, x1, x2, x3⟩ := h.f10 (by simpa using a)
  refine ⟨g, x1, x2, ?_⟩
  rw [hg.block g (Array.getElem?_eq_some_iff.1 x3).1 (own_ne o3 x3 (by decide))]
  simpa using x3
theorem R9.s9 (h : R9 B gr tn wo tv k q T E Z d v12 v29 v30 v31 v32 v33 v34 v35 v36 v37 v38 w) (h8 : d 8 = true) {w2 : World} (hb : Below w.heap.size w w2) :
    R9 B gr tn wo tv k q T E Z (fun j => j == 9 || d j) v12 v29 v30 v31 v32 v33 v34 v35 v36 v37 (.agg E) w2 := by
  have hc := h.call hb
  refine ⟨hc.bel, hc.size, by simpa using hc.c3, by simpa using hc.c8, by simp [h8], by simp; exact fun a => (h.c11 a).2, by simpa using hc.f0, by simpa using hc.f2, by simpa using hc.f4, by simpa using hc.f5, by simpa using hc.f6, by simpa using hc.f1, by simpa using hc.f3, by simpa using hc.f7, by simp, fun _ => rfl, by simpa using hc.f10⟩
theorem R9.s10 (h : R9 B gr tn wo tv k q T E Z d v12 v29 v30 v31 v32 v33 v34 v35 v36 v37 v38 w) (h10 : d 10 = false) :
    R9 B gr tn wo tv k q T E Z (fun j => j == 10 || d j) (.pointer (some ⟨w.heap.size, 0, none⟩)) v29 v30 v31 v32 v33 v34 v35 v36 v37 v38 (w.alloc (.cells Z 78)) := by
  have hc := h.call ((Below.refl _ _).alloc (Nat.le_refl _) (.cells Z 78))
  have h11 : d 11 = false := by cases hq : d 11 with | false => rfl | true => have := (h.c11 hq).2; rw [h10] at this; cases this
  refine ⟨hc.bel, hc.size, by simpa using hc.c3, by simpa using hc.c8, by simpa using hc.c9, by simp [h11], by simpa using hc.f0, by simpa using hc.f2, by simpa using hc.f4, by simpa using hc.f5, by simpa using hc.f6, by simpa using hc.f1, by simpa using hc.f3, by simpa using hc.f7, by simpa using hc.f8, by simpa using hc.f9, fun _ => ⟨w.heap.size, rfl, h.size, ?_⟩⟩
  simp only [h11]
  exact heap_alloc_new _ _
theorem R9.s11 (h : R9 B gr tn wo tv k q T E Z d v12 v29 v30 v31 v32 v33 v34 v35 v36 v37 v38 w) (h9 : d 9 = true) (h10 : d 10 = true) (h11 : d 11 = false) {g : Nat} (hg : v12 = .pointer (some ⟨g, 0, none⟩)) (hb : B ≤ g) (hc : w.heap[g]? = some (.cells Z 78 (0, 0))) :
    R9 B gr tn wo tv k q T E Z (fun j => j == 11 || d j) v12 v29 v30 v31 v32 v33 v34 v35 v36 v37 v38 (w.setRow g E) := by
  have h8 := h.c9 h9
  have h3 := (h.c8 h8).1
  refine ⟨h.bel.trans ⟨rfl, rfl, rfl, by simp [World.setRow], fun k hk => setRow_other _ _ _ _ (by omega)⟩, by have := h.size; simp [World.setRow]; exact this, by simpa using h.c3, by simpa using h.c8, by simpa using h.c9, by simp [h9, h10], by simpa using h.f0, by simpa using h.f2, by simpa using h.f4, by simpa using h.f5, by simpa using h.f6, by simp [h3], by simp [h8], by simp [h8], by simp [h9], by simpa using h.f9, fun _ => ⟨g, hg, hb, ?_⟩⟩
  simp only [show ((11 : Nat) == 11 || d 11) = true by simp, if_true]
  exact setRow_heap _ _ _ _ _ _ hc

theorem R9.base (hB : wo.heap.size = B) : R9 B gr tn wo tv k q T E Z (fun _ => false) v12 v29 v30 v31 v32 v33 v34 v35 v36 v37 v38 wo.drew :=
  ⟨(Below.refl _ _).drew, by simp [hB], by simp, by simp, by simp, by simp, by simp, by simp, by simp, by simp, by simp, by simp, by simp, by simp, by simp, by simp, by simp⟩
theorem wp_append_src {P : Program} (w : World) {o : Oper} {a : Act} {K : Act → World → Prop} {Q : Exit → Act → World → Prop} (s x : Operand) (t : TypeId)
    (ho : o.op = .call { callee := .builtin .append, args := #[s, x], argTypes := #[t, t] })
    (base : Nat) (e : TypeId) (i : TypeInfo) (z : Value) (size bytes : Nat) (ht : P.underlying t = some (.slice e)) (hi : P.info? e = some i) (hz : i.zero = some z)
    (hsize : i.size = size) (hby : i.bytes = bytes) (hzs : z.cells.size = size) (hsz : 0 < size)
    (v : Value) (n : Nat) (xs : List Value) (hs : a.eval s = v) (hown : w.ownsRow base e size v n xs)
    (ad : Option Addr) (m c : Nat) (news : List Value) (hx : a.eval x = .slice ad m c) (hl : news.length = m * size) (hnone : ad = none → m = 0) (hnews : ∀ b, ad = some b → ∀ j u, news[j]? = some u → w.cell? (b.add j) = some u) (h1 : ∀ u ∈ news, u.oneCell' = true)
    (h63 : n + m ≤ maxLen) (hbytes : (n + m) * bytes ≤ 140737488355328) (hbase : base ≤ w.heap.size)
    (h : ∀ ad' cap w', w'.ownsRow base e size (.slice ad' (n + m) cap) (n + m) (xs ++ news) → w.grownBy w' v.ownBlock → (Value.ownBlock (.slice ad' (n + m) cap) = v.ownBlock ∨ Value.ownBlock (.slice ad' (n + m) cap) = some w.heap.size) → K (a.put o.dst (.slice ad' (n + m) cap)) w') :
    o.wp P a w K Q := by
  obtain ⟨ad', cap, w', hr, h2, h3, h5⟩ : ∃ ad' cap w', (Builtin.append_ #[t, t] o.type #[v, .slice ad m c]).run P w = .ok (.slice ad' (n + m) cap) w' ∧ w'.ownsRow base e size (.slice ad' (n + m) cap) (n + m) (xs ++ news) ∧ w.grownBy w' v.ownBlock ∧ (Value.ownBlock (.slice ad' (n + m) cap) = v.ownBlock ∨ Value.ownBlock (.slice ad' (n + m) cap) = some w.heap.size) := by
    cases ad with
    | none =>
      have hm := hnone rfl
      subst hm
      have hn0 : news = [] := List.eq_nil_of_length_eq_zero (by simpa using hl)
      subst hn0
      obtain ⟨b, cap, hv, hle⟩ : ∃ b cap, v = .slice b n cap ∧ n ≤ cap := by
        rcases hown.2 with ⟨rfl, rfl⟩ | ⟨g, cap, cur, rfl, _, _, hle, _⟩
        · exact ⟨none, 0, rfl, Nat.le_refl _⟩
        · exact ⟨_, cap, rfl, hle⟩
      subst hv
      refine ⟨b, cap, w, run_append_none w t o.type e i ht hi b n cap c hle, ?_, ⟨rfl, rfl, rfl, Nat.le_refl _, fun _ _ _ => rfl⟩, .inl ?_⟩
      · simpa using hown
      · cases b <;> rfl
    | some b =>
      obtain ⟨v', w', hr, h2, h3, _, h5⟩ := run_append_own_at (P := P) w base t o.type e i z size bytes ht hi hz hsize hby hzs hsz v n xs hown b m c news hl (hnews b rfl) h1 h63 hbytes hbase
      obtain ⟨ad', cap, rfl⟩ : ∃ ad' cap, v' = .slice ad' (n + m) cap := by
        rcases h2.2 with ⟨rfl, h0⟩ | ⟨g, cap, cur, rfl, _⟩
        · exact ⟨none, 0, by rw [h0]⟩
        · exact ⟨_, cap, rfl⟩
      exact ⟨ad', cap, w', hr, h2, h3, h5⟩
  unfold Oper.wp execOp
  simp only [ho, resolve, invoke, builtin, Sem.run_bind, Sem.run_pure, Result.andThen_ok, List.map_toArray, List.map_cons, List.map_nil, hs, hx, hr]
  exact h ad' cap w' h2 h3 h5

end Go.Proofs.YthhpnakgiammiaaDoor

namespace Go.Proofs.YthhpnakgiammiaaDoor
set_option linter.unusedVariables false
set_option linter.unusedSimpArgs false
open Go.ChangeShapes Go.WideShapes Go.ChangeAt Go.RowKit Go.Joins

/-- a piece, and all pieces up to it -/
def keyT (R : List Nat) : Nat → List Nat
  | 0 => []
  | k + 1 => keyedL R (keyT R k ++ [(k + 1) % 256])
def keyAll (R : List Nat) : Nat → List Nat
  | 0 => []
  | k + 1 => keyAll R k ++ keyT R (k + 1)
theorem keyT_len (R : List Nat) (k : Nat) : (keyT R (k + 1)).length = 32 := keyedL_len _ _
theorem keyAll_len (R : List Nat) : ∀ k, (keyAll R k).length = 32 * k
  | 0 => rfl
  | k + 1 => by rw [keyAll, List.length_append, keyAll_len, keyT_len]; omega
theorem kkeyedL_8 (key all : List Nat) : U8 (keyedL key all) := sumL_8 _ _
theorem keyT_8 (R : List Nat) : ∀ k, U8 (keyT R k)
  | 0 => fun y hy => by cases hy
  | k + 1 => kkeyedL_8 _ _
theorem keyAll_8 (R : List Nat) : ∀ k, U8 (keyAll R k)
  | 0 => fun y hy => by cases hy
  | k + 1 => fun y hy => by
    rcases List.mem_append.1 hy with h | h
    · exact keyAll_8 R k y h
    · exact keyT_8 R (k + 1) y h
theorem keyAll_take (R : List Nat) (k : Nat) : ∀ d n, n ≤ 32 * k → (keyAll R (k + d)).take n = (keyAll R k).take n
  | 0, n, _ => rfl
  | d + 1, n, h => by
    rw [show k + (d + 1) = (k + d) + 1 by omega, keyAll, List.take_append_of_le_length (by rw [keyAll_len]; omega), keyAll_take R k d n h]
theorem kmade_list (n : Nat) : (madeCells #[Value.int .u8 0] n).toList = bv (List.replicate n 0) := by
  rw [toList_madeCells_one]; simp [bv]

set_option maxRecDepth 100000 in
set_option maxHeartbeats 8000000 in
theorem key_any (sv uv : Value) (sec use : List Nat) (n : Nat) (w : World) (hT : Tabs w) (hs : Byt w sv sec) (hu : Byt w uv use) (hs8 : U8 sec) (hu8 : U8 use) (hsl : sec.length ≤ 100000) (hul : use.length ≤ 100000) (hn : n ≤ 8160) :
    Calls Tryd.prog 38 #[sv, uv, .int .i64 (n : Int)] w fun e w' => ∃ v', e = .returned (.tuple #[v', .int .i64 0]) ∧ Byt w' v' ((keyAll (keyedL sec use) 255).take n) ∧ Below w.heap.size w w' := by
  obtain ⟨i0, hi, hz0, hz1, hz2⟩ := info_parts info5
  have HT := hide hT
  obtain ⟨sa, sc, hse⟩ := byt_shape hs
  obtain ⟨ua, uc, hue⟩ := byt_shape hu
  obtain ⟨sn, hsn⟩ : ∃ x, sec.length = x := ⟨_, rfl⟩
  obtain ⟨un, hun⟩ : ∃ x, use.length = x := ⟨_, rfl⟩
  rw [hsn] at hse
  rw [hun] at hue
  subst hse hue
  have b1 : Below w.heap.size w (w.alloc (.cells #[.slice ua un uc] 22)) := (Below.refl _ _).alloc (Nat.le_refl _) _
  have eF : flat [(Value.slice ua un uc, use)] = use := by simp [flat]
  have HKD := hide (keyed_any _ sec [(.slice ua un uc, use)] _ _ (hT.below b1) (hs.call b1) hs8 hsl (LL.one hu) (fun x hx => by obtain rfl := List.mem_singleton.1 hx; exact hu8) (by rw [eF]; omega))
  rw [eF] at HKD
  have HB1 := hide b1
  obtain ⟨R, hR⟩ : ∃ R, keyedL sec use = R := ⟨_, rfl⟩
  rw [hR] at HKD
  have HRL : Hid (R.length = 32) := hide (hR ▸ keyedL_len _ _)
  have HR8 : Hid (U8 R) := hide (hR ▸ kkeyedL_8 _ _)
  have HRE := hide hR
  have hz := zero27
  generalize hZ : (bv (List.replicate 32 0)).toArray = Z at hz
  have HZS : Hid (Z.size = 32) := hide (by rw [← hZ, List.size_toArray, bv_len, List.length_replicate])
  have hn0 : ¬ (n : Int) < 0 := by omega
  have hn1 : ¬ (8160 : Int) < (n : Int) := by omega
  clear hT hs hu hs8 hu8 hsl hul hsn hun b1 eF hR hZ
  go_enter Tryd.func38, Tryd.ntmps38
  go_wp2_with fail
  generalize w.alloc (.cells #[.slice ua un uc] 22) = w1 at *
  refine Calls.mono (unhide HKD) ?_
  rintro e w2 ⟨rfl, b2⟩
  obtain ⟨S, hS⟩ : ∃ S, (bv R).toArray = S := ⟨_, rfl⟩
  rw [hS]
  have HSS : Hid (S.size = 32) := hide (by rw [← hS, List.size_toArray, bv_len, unhide HRL])
  have HSO : Hid (S.all (·.oneCell') = true) := hide (hS ▸ one_bv _)
  have R3 := RowAt.new w2 78 (bv R)
  rw [hS] at R3
  have B2 := (unhide HB1).trans (b2.mono (unhide HB1).size)
  have B3 := B2.alloc B2.size (.cells S 78)
  have HGR : Hid (w.heap.size ≤ w2.heap.size) := hide B2.size
  have R4 := R3.only (p := fun _ => False) ((Only.refl _ _).alloc (.cells (madeCells #[.int .u8 0] n) 5)) id
  have Q4 : RowAt ((w2.alloc (.cells S 78)).alloc (.cells (madeCells #[.int .u8 0] n) 5)) (w2.heap.size + 1) 5 (bv (List.replicate n 0)) := by
    have := RowAt.new (w2.alloc (.cells S 78)) 5 (bv (List.replicate n 0))
    have e : (bv (List.replicate n 0)).toArray = madeCells #[.int .u8 0] n := by rw [← kmade_list]
    rw [size_alloc, e] at this
    exact this
  have HB4 := hide (B3.alloc B3.size (.cells (madeCells #[.int .u8 0] n) 5))
  have HR4 := hide R4
  have HQ4 := hide Q4
  have HS3 : Hid ((w2.alloc (.cells S 78)).heap.size = w2.heap.size + 1) := hide (size_alloc _ _)
  clear R3 b2 B2 B3 R4 Q4 hS HKD HB1
  go_wp2_with (first
    | (refine wpList_store_new rfl 78 _ _ rfl S rfl rfl (by rw [z27, unhide HSS]) (by rw [unhide HSS, unhide HZS]) (unhide HSO) ?_)
    | (refine wpList_make_row _ rfl _ _ 22 rfl 5 i0 (.int .u8 0) Tryd.underlying22 hi hz0 hz1 rfl .i64 .i64 n rfl rfl (by rw [hz2]; omega) (by omega) ?_))
  generalize (w2.alloc (.cells S 78)).alloc (.cells (madeCells #[.int .u8 0] n) 5) = w4 at *
  obtain ⟨gr, hgr⟩ : ∃ g, w2.heap.size = g := ⟨_, rfl⟩
  rw [hgr] at HR4 HQ4 HGR ⊢
  clear HS3 hgr
  go_loopw [10, 11, 12] (fun la s i wr => ∃ k : Nat, k ≤ 255 ∧ (k = 0 ∨ 32 * (k - 1) < n) ∧ s = .int .i64 ((min (32 * k) n : Nat) : Int) ∧ i = .int .u8 (((k + 1) % 256 : Nat) : Int) ∧ (∃ a m c, la = .slice a m c) ∧ Hid (Byt wr la (keyT R k) ∧ RowAt wr gr 78 (bv R) ∧ RowAt wr (gr + 1) 5 (bv ((keyAll R k).take n ++ List.replicate (n - min (32 * k) n) 0)) ∧ Below w.heap.size w wr)) (fun _ s _ _ => (n - intOf s).toNat)
  case atStart => exact ⟨0, by omega, .inl rfl, by simp, rfl, ⟨_, _, _, rfl⟩, .inl ⟨rfl, rfl⟩, unhide HR4, by simpa [keyAll] using unhide HQ4, unhide HB4⟩
  case round =>
    obtain ⟨k, hk, hkc, rfl, rfl, ⟨la, lm, lc, rfl⟩, HC⟩ := hrel
    obtain ⟨t, ht⟩ : ∃ t, min (32 * k) n = t := ⟨_, rfl⟩
    obtain ⟨q, hq⟩ : ∃ q, (k + 1) % 256 = q := ⟨_, rfl⟩
    rw [ht] at HC ⊢
    rw [hq]
    by_cases hlt : t < n
    · have htI : (t : Int) < (n : Int) := by omega
      have hk32 : 32 * k < n := by omega
      have htk : t = 32 * k := by omega
      obtain ⟨x1, x2, x3, x4⟩ := unhide HC
      -- the piece
      have b5 : Below wr.heap.size wr (wr.alloc (.cells #[.int .u8 (q : Int)] 5)) := (Below.refl _ _).alloc (Nat.le_refl _) _
      have L5 : Byt (wr.alloc (.cells #[.int .u8 (q : Int)] 5)) (.slice (some ⟨wr.heap.size, 0, none⟩) 1 1) [q] := .inr ⟨_, 1, rfl, by simp, by unfold maxLen; omega, fun i y hy => by
        match i, hy with
        | 0, hy => simp at hy; subst hy; simp [Addr.add]
        | i + 1, hy => simp at hy⟩
      have L6 := LL.two (x1.call b5) L5
      rw [size_alloc] at L6
      have B5 := x4.trans (b5.mono x4.size)
      have b6 : Below (wr.alloc (.cells #[.int .u8 (q : Int)] 5)).heap.size (wr.alloc (.cells #[.int .u8 (q : Int)] 5)) ((wr.alloc (.cells #[.int .u8 (q : Int)] 5)).alloc (.cells #[.slice la lm lc, .slice (some ⟨wr.heap.size, 0, none⟩) 1 1] 22)) := (Below.refl _ _).alloc (Nat.le_refl _) _
      have B6 := B5.trans (b6.mono B5.size)
      have b56 := b5.trans (b6.mono b5.size)
      have RV : Byt ((wr.alloc (.cells #[.int .u8 (q : Int)] 5)).alloc (.cells #[.slice la lm lc, .slice (some ⟨wr.heap.size, 0, none⟩) 1 1] 22)) (.slice (some ⟨gr, 0, none⟩) 32 32) R := .inr ⟨⟨gr, 0, none⟩, 32, by rw [unhide HRL], by rw [unhide HRL]; omega, by unfold maxLen; omega, fun i y hy => by
        rw [add_plain, Nat.zero_add, (x2.below b56 x2.lt).cell, bv, List.getElem?_map, hy]; rfl⟩
      have eF : flat [(Value.slice la lm lc, keyT R k), (Value.slice (some ⟨wr.heap.size, 0, none⟩) 1 1, [q])] = keyT R k ++ [q] := by simp [flat]
      have hkT : (keyT R k).length ≤ 32 := by cases k with | zero => simp [keyT] | succ k => rw [keyT_len]; omega
      have HKD := hide (keyed_any _ R _ _ _ ((unhide HT).below B6) RV (unhide HR8) (by rw [unhide HRL]; omega) L6 (fun x hx => by
        rcases List.mem_cons.1 hx with rfl | hx
        · exact keyT_8 R k
        · obtain rfl := List.mem_singleton.1 hx
          intro y hy
          obtain rfl := List.mem_singleton.1 hy
          omega) (by rw [eF, List.length_append, List.length_singleton]; omega))
      rw [eF] at HKD
      have HTE : Hid (keyedL R (keyT R k ++ [q]) = keyT R (k + 1)) := hide (by rw [keyT, hq])
      rw [unhide HTE] at HKD
      have HB6 := hide B6
      have HX2 := hide (x2.below b56 x2.lt)
      have HX3 := hide (x3.below b56 x3.lt)
      have HKK := hide (And.intro hk32 (And.intro htk hk))
      have HQ := hide hq
      clear x1 x2 x3 x4 b5 L5 L6 B5 b6 B6 b56 RV eF hkT HC HTE hk32 htk hq ht hkc hk hlt HR4 HQ4 HB4
      go_wp2_with fail
      generalize (wr.alloc (.cells #[.int .u8 (q : Int)] 5)).alloc (.cells #[.slice la lm lc, .slice (some ⟨wr.heap.size, 0, none⟩) 1 1] 22) = w6 at *
      refine Calls.mono (unhide HKD) ?_
      rintro e w7 ⟨rfl, b7⟩
      obtain ⟨T, hTT⟩ : ∃ T, (bv (keyT R (k + 1))).toArray = T := ⟨_, rfl⟩
      rw [hTT]
      have HTS : Hid (T.size = 32) := hide (by rw [← hTT, List.size_toArray, bv_len, keyT_len])
      have HTO : Hid (T.all (·.oneCell') = true) := hide (hTT ▸ one_bv _)
      have R8 := RowAt.new w7 78 (bv (keyT R (k + 1)))
      rw [hTT] at R8
      have B7 := (unhide HB6).trans (b7.mono (unhide HB6).size)
      have b8 : Below w6.heap.size w6 (w7.alloc (.cells T 78)) := b7.alloc b7.size _
      have HX28 := hide ((unhide HX2).below b8 (unhide HX2).lt)
      have HX38 := hide ((unhide HX3).below b8 (unhide HX3).lt)
      have HB8 := hide (B7.alloc B7.size (.cells T 78))
      have HGP : Hid (gr + 1 < w7.heap.size) := hide (Nat.lt_of_lt_of_le (unhide HX3).lt b7.size)
      have HR8' := hide R8
      clear R8 b7 B7 b8 hTT HKD HB6 HX2 HX3
      -- the copy
      obtain ⟨m, hm⟩ : ∃ m, m = min 32 (n - t) := ⟨_, rfl⟩
      have hkk := unhide HKK
      have HML : Hid ((bv ((keyT R (k + 1)).take m)).length = m) := hide (by rw [bv_len, List.length_take, keyT_len]; omega)
      obtain ⟨hk32, htk, hk⟩ := hkk
      have e38 : (bv ((keyAll R k).take n ++ List.replicate (n - t) 0)).length = n := by rw [bv_len, List.length_append, List.length_take, keyAll_len, List.length_replicate]; omega
      have hcopy : ∀ ty, (Builtin.copy_ #[22, 22] ty #[.slice (some ⟨gr + 1, t, none⟩) (n - t) (n - t), .slice (some ⟨w7.heap.size, 0, none⟩) 32 32]).run Tryd.prog (w7.alloc (.cells T 78)).drew = .ok (goInt (bv ((keyT R (k + 1)).take m)).length) ((w7.alloc (.cells T 78)).drew.setCells (gr + 1) t (bv ((keyT R (k + 1)).take m))) := fun ty =>
        run_copy_cells (w7.alloc (.cells T 78)).drew 22 22 ty 5 (gr + 1) t (n - t) (n - t) ⟨w7.heap.size, 0, none⟩ 32 32 (bv ((keyT R (k + 1)).take m)) Tryd.underlying22 z5 (by rw [unhide HML, hm])
          (fun i u hi => by
            rw [bv, List.getElem?_map] at hi
            obtain ⟨y, hy, rfl⟩ := Option.map_eq_some_iff.1 hi
            have hy' : (keyT R (k + 1))[i]? = some y := by
              rw [List.getElem?_take] at hy
              split at hy
              · exact hy
              · cases hy
            rw [add_plain, Nat.zero_add, (unhide HR8').drew.cell, bv, List.getElem?_map, hy']; rfl)
          (fun i hi => by rw [unhide HML] at hi; rw [(unhide HX38).drew.cell, List.getElem?_eq_getElem (by rw [e38]; omega)]; rfl)
          (fun i hi => (unhide HX38).drew.frozen _) (fun u hu => one_bv' hu)
      obtain ⟨c1, c2⟩ := RowAt.setCells (bv ((keyT R (k + 1)).take m)) t _ _ (unhide HX38).drew (by rw [unhide HML, e38]; omega)
      rw [unhide HML] at hcopy
      have eN : putAt (bv ((keyAll R k).take n ++ List.replicate (n - t) 0)) t (bv ((keyT R (k + 1)).take m)) = bv ((keyAll R (k + 1)).take n ++ List.replicate (n - min (32 * (k + 1)) n) 0) := by
        have h1 : (keyAll R k).take n = keyAll R k := List.take_of_length_le (by rw [keyAll_len]; omega)
        have h2 : (keyAll R (k + 1)).take n = keyAll R k ++ (keyT R (k + 1)).take m := by
          rw [keyAll, List.take_append, keyAll_len, List.take_of_length_le (by rw [keyAll_len]; omega)]
          congr 1
          rw [hm, htk]
          rcases Nat.le_total 32 (n - 32 * k) with hle | hle
          · rw [Nat.min_eq_left hle, List.take_of_length_le (by rw [keyT_len]; omega), List.take_of_length_le (by rw [keyT_len]; omega)]
          · rw [Nat.min_eq_right hle]
        rw [h1, h2, putAt, unhide HML, bv_append, bv_append, bv_append]
        have l1 : (bv (keyAll R k)).length = t := by rw [bv_len, keyAll_len, htk]
        rw [← l1, List.take_left, l1, List.drop_append, l1, List.drop_of_length_le (by rw [l1]; omega), List.nil_append]
        congr 1
        simp only [bv, List.map_replicate, List.drop_replicate]
        congr 1
        omega
      rw [eN] at c1
      have HC1 := hide c1
      have HO2 := hide c2
      have HX29 := hide ((unhide HX28).drew.only c2 (by omega))
      have HB9 := hide (show Below w.heap.size w _ from (unhide HB8).trans (((Only.drew (Only.refl (· = gr + 1) (w7.alloc (.cells T 78)))).trans c2).below (unhide HB8).size (fun k hk => by have := unhide HGR; omega)))
      have HT9 := hide ((unhide HR8').drew.only c2 (by have := unhide HGP; omega))
      have HST : Hid (t + m = min (32 * (k + 1)) n) := hide (by omega)
      have HMI : Hid (m ≤ 32 ∧ t + m ≤ n ∧ 0 < m) := hide (by omega)
      clear c1 c2 eN e38 hm hk32 htk hk HX28 HX38 HR8' HB8
      generalize hw9 : (w7.alloc (.cells T 78)).drew.setCells (gr + 1) t (bv ((keyT R (k + 1)).take m)) = w9 at *
      have hnt : ¬ n = t := by omega
      have hnt2 : ¬ n < t := by omega
      have hnt3 : t ≤ n := by omega
      have hm32 : m ≤ 32 := (unhide HMI).1
      go_wp2_with (refine wpList_store_new rfl 78 _ _ rfl T rfl rfl (by rw [z27, unhide HTS]) (by rw [unhide HTS, unhide HZS]) (unhide HTO) ?_)
      simp only [Act.put, List.setIfInBounds_toArray, List.set_cons_succ, List.set_cons_zero]
      go_region
      clear hcopy
      have hq256 : q < 256 := by have := unhide HQ; omega
      go_wp2_with fail
      have hh1 := unhide HKK
      have hh2 := unhide HST
      have hh3 := unhide HMI
      have hh4 := unhide HQ
      refine ⟨⟨k + 1, by omega, .inr (by simpa using hh1.1), ?_, ?_, ⟨_, _, _, rfl⟩, ?_⟩, ?_⟩
      · rw [← hh2]; congr 1
      · congr 1; omega
      · refine ⟨.inr ⟨⟨w7.heap.size, 0, none⟩, 32, by rw [keyT_len], by rw [keyT_len]; omega, by unfold maxLen; omega, fun i y hy => ?_⟩, unhide HX29, unhide HC1, unhide HB9⟩
        rw [add_plain, Nat.zero_add, (unhide HT9).cell, bv, List.getElem?_map, hy]; rfl
      · simp [intOf]; omega
    · have htI : ¬ (t : Int) < (n : Int) := by omega
      obtain ⟨x1, x2, x3, x4⟩ := unhide HC
      have e1 : n - t = 0 := by omega
      rw [e1, List.replicate_zero, List.append_nil] at x3
      have e2 : (keyAll R k).take n = (keyAll R 255).take n := by
        have := keyAll_take R k (255 - k) n (by omega)
        rw [show k + (255 - k) = 255 by omega] at this
        exact this.symm
      rw [e2] at x3
      have hl : ((keyAll R 255).take n).length = n := by rw [List.length_take, keyAll_len]; omega
      have HV : Hid (Byt wr (.slice (some ⟨gr + 1, 0, none⟩) n n) ((keyAll R 255).take n)) := hide (.inr ⟨⟨gr + 1, 0, none⟩, n, by rw [hl], by rw [hl]; omega, by unfold maxLen; omega, fun i y hy => by
        rw [add_plain, Nat.zero_add, x3.cell, bv, List.getElem?_map, hy]; rfl⟩)
      have HX4 := hide x4
      clear x1 x2 x3 x4 e1 e2 hl HC ht hq hlt hkc hk HR4 HQ4 HB4
      go_wp2_with fail
      go_ret2
      refine ⟨_, rfl, ?_, unhide HX4⟩
      rw [unhide HRE]
      exact unhide HV
end Go.Proofs.YthhpnakgiammiaaDoor

namespace Go.Proofs.YthhpnakgiammiaaDoor
set_option linter.unusedVariables false
set_option linter.unusedSimpArgs false
open Go.ChangeShapes Go.WideShapes Go.ChangeAt Go.RowKit Go.Joins

set_option maxHeartbeats 1000000 in
theorem rkey_bad (sv uv : Value) (n : Int) (w : World) (hn : n < 0 ∨ 8160 < n) : Calls Tryd.prog 40 #[sv, uv, .int .i64 n] w fun e w' => e = .returned (.tuple #[.slice none 0 0, .int .i64 1]) ∧ w = w' := by
  rcases hn with hn | hn
  · go_enter Tryd.func40, Tryd.ntmps40
    go_wp2_with fail
    go_ret2
    exact ⟨rfl, rfl⟩
  · have h1 : ¬ n < 0 := by omega
    go_enter Tryd.func40, Tryd.ntmps40
    go_wp2_with fail
    go_ret2
    exact ⟨rfl, rfl⟩
set_option maxHeartbeats 1000000 in
theorem key_bad (sv uv : Value) (n : Int) (w : World) (hn : n < 0 ∨ 8160 < n) : Calls Tryd.prog 38 #[sv, uv, .int .i64 n] w fun e w' => e = .returned (.tuple #[.slice none 0 0, .int .i64 1]) ∧ w = w' := by
  rcases hn with hn | hn
  · go_enter Tryd.func38, Tryd.ntmps38
    go_wp2_with fail
    go_ret2
    exact ⟨rfl, rfl⟩
  · have h1 : ¬ n < 0 := by omega
    go_enter Tryd.func38, Tryd.ntmps38
    go_wp2_with fail
    go_ret2
    exact ⟨rfl, rfl⟩

set_option maxRecDepth 100000 in
set_option maxHeartbeats 8000000 in
theorem rkey_any (sv uv : Value) (sec use : List Nat) (n : Nat) (w : World) (hs : Byt w sv sec) (hu : Byt w uv use) (hs8 : U8 sec) (hu8 : U8 use) (hsl : sec.length ≤ 100000) (hul : use.length ≤ 100000) (hn : n ≤ 8160) :
    Calls Tryd.prog 40 #[sv, uv, .int .i64 (n : Int)] w fun e w' => ∃ v', e = .returned (.tuple #[v', .int .i64 0]) ∧ Byt w' v' ((keyAll (keyedL sec use) 255).take n) ∧ Below w.heap.size w w' := by
  obtain ⟨i0, hi, hz0, hz1, hz2⟩ := info_parts info5
  obtain ⟨sa, sc, hse⟩ := byt_shape hs
  obtain ⟨ua, uc, hue⟩ := byt_shape hu
  obtain ⟨sn, hsn⟩ : ∃ x, sec.length = x := ⟨_, rfl⟩
  obtain ⟨un, hun⟩ : ∃ x, use.length = x := ⟨_, rfl⟩
  rw [hsn] at hse
  rw [hun] at hue
  subst hse hue
  have HKD := hide (rkeyed_any _ _ sec use w hs hu hs8 hu8 (by omega) (by omega))
  obtain ⟨R, hR⟩ : ∃ R, keyedL sec use = R := ⟨_, rfl⟩
  rw [hR] at HKD
  have HRL : Hid (R.length = 32) := hide (hR ▸ keyedL_len _ _)
  have HR8 : Hid (U8 R) := hide (hR ▸ kkeyedL_8 _ _)
  have HRE := hide hR
  have hz := zero27
  generalize hZ : (bv (List.replicate 32 0)).toArray = Z at hz
  have HZS : Hid (Z.size = 32) := hide (by rw [← hZ, List.size_toArray, bv_len, List.length_replicate])
  have hn0 : ¬ (n : Int) < 0 := by omega
  have hn1 : ¬ (8160 : Int) < (n : Int) := by omega
  clear hs hu hs8 hu8 hsl hul hsn hun hR hZ
  go_enter Tryd.func40, Tryd.ntmps40
  go_wp2_with fail
  refine Calls.mono (unhide HKD) ?_
  rintro e w2 ⟨rfl, b2⟩
  obtain ⟨S, hS⟩ : ∃ S, (bv R).toArray = S := ⟨_, rfl⟩
  rw [hS]
  have HSS : Hid (S.size = 32) := hide (by rw [← hS, List.size_toArray, bv_len, unhide HRL])
  have HSO : Hid (S.all (·.oneCell') = true) := hide (hS ▸ one_bv _)
  obtain ⟨gr, hgr⟩ : ∃ x, w2.heap.size = x := ⟨_, rfl⟩
  have R3 : RowAt (w2.alloc (.cells S 78)) gr 78 (bv R) := by
    have := RowAt.new w2 78 (bv R)
    rw [hS, hgr] at this
    exact this
  have HB3 := hide (b2.alloc b2.size (.cells S 78))
  have HR3 := hide R3
  have HS3 : Hid ((w2.alloc (.cells S 78)).heap.size = gr + 1) := hide (by rw [size_alloc, hgr])
  have HGW : Hid (w.heap.size ≤ gr) := hide (by have := b2.size; omega)
  clear R3 b2 hS HKD
  go_wp2_with (refine wpList_store_new' rfl 78 _ _ rfl S gr hgr (by first | rfl | (rw [← hgr]; rfl)) rfl (by rw [z27, unhide HSS]) (by rw [unhide HSS, unhide HZS]) (unhide HSO) ?_)
  generalize w2.alloc (.cells S 78) = w3 at *
  try rw [hgr]
  go_loopw [22, 9, 10] (fun s out la wr => ∃ (k : Nat) (oa : Option Addr) (oc : Nat) (ta : Option Addr) (tn tc : Nat), k ≤ 255 ∧ (k = 0 ∨ 32 * (k - 1) < n) ∧ s = .int .i64 (k : Int) ∧ out = .slice oa (32 * k) oc ∧ la = .slice ta tn tc ∧ Hid (wr.ownsRow (gr + 1) 5 1 out (32 * k) (bv (keyAll R k)) ∧ Byt wr la (keyT R k) ∧ Below (gr + 1) w3 wr)) (fun s _ _ _ => (255 - intOf s).toNat)
  case atStart => exact ⟨0, none, 0, none, 0, 0, by omega, .inl rfl, rfl, rfl, rfl, World.ownsRow_nil _ _ _ _, .inl ⟨rfl, rfl⟩, Below.refl _ _⟩
  case round =>
    obtain ⟨k, oa, oc, ta, tn, tc, hk, hkc, rfl, rfl, rfl, HC⟩ := hrel
    rename World => wo
    have HRo := hide ((unhide HR3).below (unhide HC).2.2 (by omega))
    obtain ⟨m, hm⟩ : ∃ x, 32 * k = x := ⟨_, rfl⟩
    rw [hm] at HC ⊢
    have HM := hide hm
    have HK := hide hk
    have HKC := hide hkc
    have hmb : m ≤ 8160 := by omega
    have hkb : (k : Int) ≤ 255 := by omega
    by_cases hlt : k < 255
    · have hkI : (k : Int) < 255 := by omega
      by_cases hge : n ≤ m
      · have hgI : (n : Int) ≤ (m : Int) := by omega
        clear hm hk hkc
        obtain ⟨y1, y2, y3⟩ := unhide HC
        have hnm : n ≤ m := by omega
        have hTk : (keyAll R k).take n = (keyAll R 255).take n := by
          have := keyAll_take R k (255 - k) n (by have := unhide HM; omega)
          rw [show k + (255 - k) = 255 by have := unhide HK; omega] at this
          exact this.symm
        have HFIN : Hid ((keyAll (keyedL sec use) 255).take n = (keyAll R k).take n) := hide (by rw [unhide HRE, hTk])
        have BY : Byt wo (.slice oa m oc) (keyAll R k) := Byt.of_own (own_cast y1 (by rw [keyAll_len, unhide HM]) rfl)
        have HBW : Hid (Below w.heap.size w wo) := hide ((unhide HB3).trans (y3.mono (by have := unhide HGW; omega)))
        have HLA : Hid ((keyAll R k).length = m) := hide (by rw [keyAll_len, unhide HM])
        clear y1 y2 y3 HC hTk
        rcases BY with ⟨h1, h2⟩ | ⟨ad, cap, h1, h2, h3, h4⟩
        · injection h1 with e1 e2 e3
          have hn00 : n = 0 := by omega
          subst e1 e3 hn00
          subst e2
          go_wp2_with fail
          go_ret2
          exact ⟨_, rfl, .inl ⟨rfl, by simp⟩, unhide HBW⟩
        · injection h1 with e1 e2 e3
          rw [unhide HLA] at h2
          subst e1 e3
          have hno : n ≤ oc := by omega
          have hoc : oc ≤ 9223372036854775807 := by unfold maxLen at h3; omega
          have H3' := hide h3
          have H4 := hide h4
          have HE' := hide e2
          clear h3 h4 e2
          go_wp2_with fail
          all_goals go_ret2
          all_goals refine ⟨_, rfl, ?_, unhide HBW⟩
          all_goals rw [unhide HFIN]
          all_goals refine .inr ⟨ad, oc, ?_, ?_, unhide H3', fun i y hy => ?_⟩
          · rw [List.length_take, unhide HLA, Nat.min_eq_left hnm]; rfl
          · rw [List.length_take, unhide HLA, Nat.min_eq_left hnm]; exact hno
          · rw [List.getElem?_take] at hy
            split at hy
            · exact unhide H4 i y hy
            · cases hy
      · have hgI : ¬ (n : Int) ≤ (m : Int) := by omega
        obtain ⟨q, hq⟩ : ∃ q, (k + 1) % 256 = q := ⟨_, rfl⟩
        have hqI : ((k : Int) + 1) % 256 = (q : Int) := by omega
        have HQ := hide hq
        clear hm hk hkc hq
        go_upto_region 9 with fail
        obtain ⟨B, hB⟩ : ∃ x, wo.heap.size = x := ⟨_, rfl⟩
        obtain ⟨y1, y2, y3⟩ := unhide HC
        have htn : (keyT R k).length = tn := by
          obtain ⟨a9, c9, h9⟩ := byt_shape y2
          injection h9 with _ e2 _
          exact e2.symm
        have htn32 : tn ≤ 32 := by rw [← htn]; cases k with | zero => simp [keyT] | succ k => rw [keyT_len]; omega
        have HT8 : Hid (U8 (keyT R k)) := hide (keyT_8 R k)
        have HSR := hide (fun (w' : World) (hb : Below B wo w') => byt_src (y2.call (show Below wo.heap.size wo w' from hB ▸ hb)) htn)
        obtain ⟨T, hT⟩ : ∃ x, keyT R k = x := ⟨_, rfl⟩
        have HTE : Hid (keyedL R (T ++ [q]) = keyT R (k + 1)) := hide (by rw [keyT, ← hT, unhide HQ])
        rw [hT] at HSR HT8 htn
        have HLT : Hid ((bv T).length = tn * 1) := hide (by rw [bv_len, htn]; omega)
        obtain ⟨E, hE⟩ : ∃ x, (bv (keyT R (k + 1))).toArray = x := ⟨_, rfl⟩
        have HES : Hid (E.size = 32) := hide (by rw [← hE, List.size_toArray, bv_len, keyT_len])
        have HEO : Hid (E.all (·.oneCell') = true) := hide (hE ▸ one_bv _)
        have hq256 : q < 256 := by have := unhide HQ; omega
        have HKC := hide (p := ∀ (w2 : World) (a2 : Option Addr) (c2 : Nat), w2.ownsRow B 5 1 (.slice a2 (tn + 1) c2) (tn + 1) (bv (T ++ [q])) → Below B wo w2 → Calls Tryd.prog 55 #[.slice (some ⟨gr, 0, none⟩) 32 32, .slice a2 (tn + 1) c2] w2 (fun e w' => e = .returned (.agg E) ∧ Below w2.heap.size w2 w')) (by
          intro w2 a2 c2 ho hb
          have hl : (T ++ [q]).length = tn + 1 := by rw [List.length_append, htn]; rfl
          have R4 := (unhide HRo).below hb (by have := (unhide HRo).lt; omega)
          have := rkeyed_any (.slice (some ⟨gr, 0, none⟩) 32 32) (.slice a2 (tn + 1) c2) R (T ++ [q]) w2 (Byt.row R4 (unhide HRL) (by decide)) (Byt.of_own (own_cast ho hl.symm rfl)) (unhide HR8) (u8_app (unhide HT8) (fun y hy => by obtain rfl := List.mem_singleton.1 hy; omega)) (by rw [unhide HRL]; omega) (by rw [hl]; omega)
          rw [unhide HTE, hE] at this
          exact this)
        have HEE := hide hE
        clear y1 y2 y3 hT htn hE
        go_cut [12] (fun v wx => ∃ gs, v = .pointer (some ⟨gs, 0, none⟩) ∧ Hid (RowAt wx gs 78 (bv (keyT R (k + 1))) ∧ B ≤ gs ∧ Below B wo wx))
        case first =>
          obtain ⟨I, hI⟩ : ∃ I : (Nat → Bool) → Act → World → Prop, I = fun d a' w' => ∃ v12 v29 v30 v31 v32 v33 v34 v35 v36 v37 v38, a' = { tmps := #[.slice sa sn sc, .slice ua un uc, .int .i64 (n : Int), undef, undef, undef, .slice none 0 0, .int .i64 0, .pointer (some ⟨gr, 0, none⟩), .slice oa m oc, .slice ta tn tc, .int .i64 (k : Int), v12, .int .i64 (n : Int), .bool false, .bool false, .int .i64 (n : Int), .bool false, .bool false, .slice sa sn sc, .slice ua un uc, .agg S, .int .i64 (k : Int), .bool true, .int .i64 (k : Int), .slice oa m oc, .int .i64 (m : Int), .int .i64 (n : Int), .bool false, v29, v30, v31, v32, v33, v34, v35, v36, v37, v38, u39, u40, u41, u42, u43, undef, undef, undef], defers := [] } ∧ R9 B gr tn wo (.slice ta tn tc) k q T E Z d v12 v29 v30 v31 v32 v33 v34 v35 v36 v37 v38 w' := ⟨_, rfl⟩
          have HI := hide hI
          clear hI
          refine wp_region_inv I (by kernel_rfl) (by kernel_rfl) ?_ ?_ ?_
          · rw [unhide HI]
            exact ⟨_, _, _, _, _, _, _, _, _, _, _, rfl, R9.base hB⟩
          · intro d a' w' i hId hi12 hd hdep
            rw [unhide HI] at hId
            obtain ⟨v12, v29, v30, v31, v32, v33, v34, v35, v36, v37, v38, rfl, h⟩ := hId
            have hi13 : i < 12 := hi12
            have hsz := h.size
            rcases (by omega : i = 0 ∨ i = 1 ∨ i = 2 ∨ i = 3 ∨ i = 4 ∨ i = 5 ∨ i = 6 ∨ i = 7 ∨ i = 8 ∨ i = 9 ∨ i = 10 ∨ i = 11) with rfl | rfl | rfl | rfl | rfl | rfl | rfl | rfl | rfl | rfl | rfl | rfl
            · refine wpOp_of rfl rfl ?_
              go_wp2_with fail
              rw [unhide HI]
              exact ⟨_, _, _, _, _, _, _, _, _, _, _, rfl, h.s0⟩
            · refine wpOp_of rfl rfl ?_
              have h3 : d 3 = false := by
                cases hq3 : d 3 with
                | false => rfl
                | true => have := h.c3 hq3; rw [hd] at this; cases this
              go_wp2_with fail
              rw [unhide HI]
              exact ⟨_, _, _, _, _, _, _, _, _, _, _, rfl, h.s1 h3⟩
            · refine wpOp_of rfl rfl ?_
              go_wp2_with fail
              rw [unhide HI]
              exact ⟨_, _, _, _, _, _, _, _, _, _, _, rfl, h.s2⟩
            · have d1 := hdep _ rfl { on := 1, ground := .data } (by simp) rfl
              have d2 := hdep _ rfl { on := 2, ground := .data } (by simp) rfl
              obtain rfl := h.f2 d2
              refine wpOp_of rfl rfl ?_
              refine wp_append_src w' _ _ 22 rfl B 5 i0 (.int .u8 0) 1 1 Tryd.underlying22 hi hz0 hz1 hz2 rfl (by decide) v30 0 [] rfl (h.f1 d1 hd) ta tn tc (bv T) rfl (unhide HLT) (unhide HSR w' h.bel).1 (unhide HSR w' h.bel).2 (bv_one _) (by unfold maxLen; omega) (by omega) hsz ?_
              intro a1 c1 w1 ho hg h5
              rw [Nat.zero_add] at ho h5 ⊢
              rw [unhide HI]
              exact ⟨_, _, _, _, _, _, _, _, _, _, _, rfl, h.s3 d1 hd ho hg h5⟩
            · refine wpOp_of rfl rfl ?_
              go_wp2_with fail
              rw [unhide HI]
              exact ⟨_, _, _, _, _, _, _, _, _, _, _, rfl, h.s4⟩
            · have d4 := hdep _ rfl { on := 4, ground := .data } (by simp) rfl
              obtain rfl := h.f4 d4
              refine wpOp_of rfl rfl ?_
              go_wp2_with fail
              rw [unhide HI]
              exact ⟨_, _, _, _, _, _, _, _, _, _, _, rfl, h.s5⟩
            · have d5 := hdep _ rfl { on := 5, ground := .data } (by simp) rfl
              obtain rfl := h.f5 d5
              have h6 := h.s6
              rw [show ((q : Nat) : Int) = (k : Int) + 1 by omega] at h6
              refine wpOp_of rfl rfl ?_
              go_wp2_with fail
              rw [unhide HI]
              exact ⟨_, _, _, _, _, _, _, _, _, _, _, rfl, h6⟩
            · have d6 := hdep _ rfl { on := 6, ground := .data } (by simp) rfl
              obtain rfl := h.f6 d6
              have h8 : d 8 = false := by
                cases hq3 : d 8 with
                | false => rfl
                | true => have := (h.c8 hq3).2; rw [hd] at this; cases this
              refine wpOp_of rfl rfl ?_
              go_wp2_with fail
              rw [unhide HI]
              exact ⟨_, _, _, _, _, _, _, _, _, _, _, rfl, h.s7 h8⟩
            · have d3 := hdep _ rfl { on := 3, ground := .data } (by simp) rfl
              have d7 := hdep _ rfl { on := 7, ground := .data } (by simp) rfl
              obtain ⟨g7, rfl, x2, x3, x4⟩ := h.f7 d7 hd
              have o3 := h.f3 d3 hd
              refine wpOp_of rfl rfl ?_
              refine wp_append_src w' _ _ 22 rfl B 5 i0 (.int .u8 0) 1 1 Tryd.underlying22 hi hz0 hz1 hz2 rfl (by decide) v32 tn (bv T) rfl o3 (some ⟨g7, 0, none⟩) 1 1 [.int .u8 (q : Int)] rfl rfl (fun h => by cases h) (fun b hb j u hj => by
                injection hb with hb
                subst hb
                match j, hj with
                | 0, hj => injection hj with hj; subst hj; rw [add_plain]; exact x2) (fun u hu => by obtain rfl := List.mem_singleton.1 hu; rfl) (by unfold maxLen; omega) (by omega) hsz ?_
              intro a1 c1 w1 ho hg h5
              have e : bv T ++ [Value.int .u8 (q : Int)] = bv (T ++ [q]) := by rw [bv_append]; rfl
              rw [e] at ho
              rw [unhide HI]
              exact ⟨_, _, _, _, _, _, _, _, _, _, _, rfl, h.s8 d3 d7 hd ho hg⟩
            · have d0 := hdep _ rfl { on := 0, ground := .data } (by simp) rfl
              have d8 := hdep _ rfl { on := 8, ground := .data } (by simp) rfl
              obtain rfl := h.f0 d0
              have o8 := h.f8 d8 hd
              obtain ⟨a2, c2, hv37⟩ : ∃ a2 c2, v37 = .slice a2 (tn + 1) c2 := by
                rcases o8.2 with ⟨h1, h2⟩ | ⟨g, cap, cur, h1, _⟩
                · cases h2
                · exact ⟨_, _, h1⟩
              subst hv37
              refine wpOp_of rfl rfl ?_
              go_wp2_with fail
              refine Calls.mono (unhide HKC w' a2 c2 o8 h.bel) ?_
              rintro e w2 ⟨rfl, b2⟩
              go_wp2_with fail
              rw [unhide HI]
              exact ⟨_, _, _, _, _, _, _, _, _, _, _, rfl, h.s9 d8 b2⟩
            · refine wpOp_of rfl rfl ?_
              go_wp2_with fail
              rw [unhide HI]
              exact ⟨_, _, _, _, _, _, _, _, _, _, _, rfl, h.s10 hd⟩
            · have d9 := hdep _ rfl { on := 9, ground := .data } (by simp) rfl
              have d10 := hdep _ rfl { on := 10, ground := .data } (by simp) rfl
              obtain rfl := h.f9 d9
              obtain ⟨g10, rfl, x2, x3⟩ := h.f10 d10
              rw [hd] at x3
              simp only [Bool.false_eq_true, if_false] at x3
              refine wpOp_of rfl rfl ?_
              refine wp_store_row 78 _ _ rfl g10 E rfl rfl 78 Z x3 (by rw [z27, unhide HES]) (by rw [unhide HES, unhide HZS]) (unhide HEO) ?_
              rw [unhide HI]
              exact ⟨_, _, _, _, _, _, _, _, _, _, _, rfl, h.s11 d9 d10 hd rfl x2 x3⟩
          · intro d a' w' hId hall
            rw [unhide HI] at hId
            obtain ⟨v12, v29, v30, v31, v32, v33, v34, v35, v36, v37, v38, rfl, h⟩ := hId
            have d9 := hall 9 (by decide)
            obtain rfl := h.f9 d9
            obtain ⟨g10, rfl, x2, x3⟩ := h.f10 (hall 10 (by decide))
            rw [hall 11 (by decide)] at x3
            simp only [if_true] at x3
            have HX : Hid (RowAt w' g10 78 (bv (keyT R (k + 1))) ∧ B ≤ g10 ∧ Below B wo w') := hide ⟨by unfold RowAt; rw [unhide HEE]; exact x3, x2, h.bel⟩
            go_wp2_with fail
            go_meet
            case rel => exact ⟨g10, rfl, HX⟩
        case rest =>
          obtain ⟨gs, rfl, HP⟩ := hcut
          obtain ⟨z1, z2, z3⟩ := unhide HP
          obtain ⟨y1, y2, y3⟩ := unhide HC
          have bw : Below wo.heap.size wo wc := hB ▸ z3
          have hown := rown_call y1 bw
          have hs4 : gr + 1 ≤ wc.heap.size := by have := y3.size; have := unhide HS3; have := bw.size; omega
          have HLL : Hid ((bv (keyT R (k + 1))).length = 32 * 1) := hide (by rw [bv_len, keyT_len])
          have HCL : Hid (∀ (b : Addr), some (⟨gs, 0, none⟩ : Addr) = some b → ∀ j u, (bv (keyT R (k + 1)))[j]? = some u → wc.cell? (b.add j) = some u) := hide (fun b hb j u hj => by
            injection hb with hb
            subst hb
            rw [add_plain, Nat.zero_add, z1.cell]
            exact hj)
          have B5 := y3.trans (bw.mono (by have := y3.size; have := unhide HS3; omega))
          have HB5 := hide B5
          have HZ1 := hide z1
          have HGE : Hid (¬ n ≤ m) := hide hge
          have HKL := hide hlt
          have HOW := hide hown
          clear z1 z2 z3 y1 y2 y3 bw B5 HC
          go_wp2_with (at_builtin; refine wpList_append_src _ rfl _ _ 22 rfl (gr + 1) 5 i0 (.int .u8 0) 1 1 Tryd.underlying22 hi hz0 hz1 hz2 rfl (by decide) _ _ _ rfl hown (some ⟨gs, 0, none⟩) 32 32 (bv (keyT R (k + 1))) rfl (unhide HLL) (fun h => by cases h) (unhide HCL) (bv_one _) ?c3 ?c4 hs4 ?_)
          case c3 => unfold maxLen; omega
          case c4 => omega
          intro a5 c5 w5 ho5 hg5
          rw [← bv_append] at ho5
          have e5 : keyAll R k ++ keyT R (k + 1) = keyAll R (k + 1) := rfl
          rw [e5] at ho5
          have B6 : Below (gr + 1) w3 w5 := (unhide HB5).grown hg5 hs4 (fun k hk => ((unhide HOW).lt k hk).1)
          have R6 : RowAt w5 gs 78 (bv (keyT R (k + 1))) := by
            unfold RowAt
            rw [hg5.block gs (unhide HZ1).lt (own_ne (unhide HOW) (unhide HZ1) (by decide))]
            exact unhide HZ1
          have HF : Hid (w5.ownsRow (gr + 1) 5 1 (.slice a5 (m + 32) c5) (m + 32) (bv (keyAll R (k + 1))) ∧ Byt w5 (.slice (some ⟨gs, 0, none⟩) 32 32) (keyT R (k + 1)) ∧ Below (gr + 1) w3 w5) := hide ⟨ho5, Byt.row R6 (keyT_len R k) (by decide), B6⟩
          have HM2 : Hid (m + 32 = 32 * (k + 1)) := hide (by have := unhide HM; omega)
          clear ho5 hg5 B6 R6 hown
          go_wp2_with fail
          go_roundw
          case rel => exact ⟨k + 1, a5, c5, some ⟨gs, 0, none⟩, 32, 32, by have := unhide HKL; omega, .inr (by have := unhide HGE; have := unhide HM; omega), by go_num, by rw [unhide HM2], rfl, by rw [← unhide HM2]; exact HF⟩
          case measure => have := unhide HKL; simp [intOf]; omega
    · have hkI : ¬ (k : Int) < 255 := by omega
      clear hm hk hkc
      obtain ⟨y1, y2, y3⟩ := unhide HC
      have hnm : n ≤ m := by have := unhide HM; omega
      have hTk : (keyAll R k).take n = (keyAll R 255).take n := by
        have := keyAll_take R k (255 - k) n (by have := unhide HM; omega)
        rw [show k + (255 - k) = 255 by have := unhide HK; omega] at this
        exact this.symm
      have HFIN : Hid ((keyAll (keyedL sec use) 255).take n = (keyAll R k).take n) := hide (by rw [unhide HRE, hTk])
      have BY : Byt wo (.slice oa m oc) (keyAll R k) := Byt.of_own (own_cast y1 (by rw [keyAll_len, unhide HM]) rfl)
      have HBW : Hid (Below w.heap.size w wo) := hide ((unhide HB3).trans (y3.mono (by have := unhide HGW; omega)))
      have HLA : Hid ((keyAll R k).length = m) := hide (by rw [keyAll_len, unhide HM])
      clear y1 y2 y3 HC hTk
      rcases BY with ⟨h1, h2⟩ | ⟨ad, cap, h1, h2, h3, h4⟩
      · injection h1 with e1 e2 e3
        have hn00 : n = 0 := by omega
        subst e1 e3 hn00
        subst e2
        go_wp2_with fail
        go_ret2
        exact ⟨_, rfl, .inl ⟨rfl, by simp⟩, unhide HBW⟩
      · injection h1 with e1 e2 e3
        rw [unhide HLA] at h2
        subst e1 e3
        have hno : n ≤ oc := by omega
        have hoc : oc ≤ 9223372036854775807 := by unfold maxLen at h3; omega
        have H3' := hide h3
        have H4 := hide h4
        have HE' := hide e2
        clear h3 h4 e2
        go_wp2_with fail
        all_goals go_ret2
        all_goals refine ⟨_, rfl, ?_, unhide HBW⟩
        all_goals rw [unhide HFIN]
        all_goals refine .inr ⟨ad, oc, ?_, ?_, unhide H3', fun i y hy => ?_⟩
        · rw [List.length_take, unhide HLA, Nat.min_eq_left hnm]; rfl
        · rw [List.length_take, unhide HLA, Nat.min_eq_left hnm]; exact hno
        · rw [List.getElem?_take] at hy
          split at hy
          · exact unhide H4 i y hy
          · cases hy

end Go.Proofs.YthhpnakgiammiaaDoor

namespace Go.Proofs.YthhpnakgiammiaaDoor
set_option linter.unusedVariables false
set_option linter.unusedSimpArgs false
open Go.ChangeShapes Go.WideShapes Go.ChangeAt Go.RowKit Go.Joins

/-- a text's bytes -/
def sb (s : ByteArray) : List Nat := s.data.toList.map UInt8.toNat
theorem sb_len (s : ByteArray) : (sb s).length = s.size := by rw [sb, List.length_map]; rfl
theorem sb_8 (s : ByteArray) : U8 (sb s) := by
  intro y hy
  simp only [sb, List.mem_map] at hy
  obtain ⟨b, _, rfl⟩ := hy
  exact b.toNat_lt
theorem sb_byt (w : World) (s : ByteArray) (h : s.size ≤ maxLen) : Byt (Lib.bytesWorld w 5 s) (.slice (some ⟨w.heap.size, 0, none⟩) s.size (grownCap w s.size 0 5)) (sb s) := by
  refine .inr ⟨⟨w.heap.size, 0, none⟩, grownCap w s.size 0 5, by rw [sb_len], by rw [sb_len]; exact grownCap_ge _ _ _ _, grownCap_le_maxLen _ _ _ _ h, fun i y hy => ?_⟩
  have hi : i < s.size := by
    have := (List.getElem?_eq_some_iff.1 hy).1
    rw [sb_len] at this
    exact this
  rw [add_plain, Nat.zero_add, Lib.bytesWorld_cell w 5 s i hi]
  simp only [sb, List.getElem?_map] at hy
  obtain ⟨b, hb, rfl⟩ := Option.map_eq_some_iff.1 hy
  rw [List.getD_eq_getElem?_getD, hb]
  rfl
theorem sb_below (w : World) (s : ByteArray) : Below w.heap.size w (Lib.bytesWorld w 5 s) := by
  refine ⟨rfl, rfl, rfl, by rw [Lib.bytesWorld_size]; omega, fun k hk => Lib.bytesWorld_at_old w 5 s k hk⟩
def keyN (who conn : Int) : Nat → Int
  | 0 => who
  | _ => conn
/-- a connection's key -/
def fkeyL (sec : List Nat) (who conn : Int) : List Nat := (keyAll (keyedL sec (putN [] (keyN who conn) 2)) 255).take 64
theorem fkeyL_len (sec : List Nat) (who conn : Int) : (fkeyL sec who conn).length = 64 := by
  rw [fkeyL, List.length_take, keyAll_len]
  rfl
theorem fkeyL_8 (sec : List Nat) (who conn : Int) : U8 (fkeyL sec who conn) := fun y hy => keyAll_8 _ _ y (List.mem_of_mem_take hy)

set_option maxRecDepth 100000 in
set_option maxHeartbeats 4000000 in
theorem fkey_any (s : ByteArray) (who conn : Int) (w : World) (hT : Tabs w) (hs : s.size ≤ 100000) (hw : who ≤ 9223372036854775807) (hc : conn ≤ 9223372036854775807) :
    Calls Tryd.prog 19 #[.string s, .int .i64 who, .int .i64 conn] w fun e w' => ∃ v', e = .returned v' ∧ Byt w' v' (fkeyL (sb s) who conn) ∧ Below w.heap.size w w' := by
  have hcv := fun w' => Lib.run_convert_string_bytes (P := Tryd.prog) w' 9 22 5 s Tryd.underlying9 Tryd.underlying22 Tryd.underlying5
  have HS := hide (sb_byt w s (by unfold maxLen; omega))
  have HB := hide (sb_below w s)
  obtain ⟨FK, hFK⟩ : ∃ x, fkeyL (sb s) who conn = x := ⟨_, rfl⟩
  rw [hFK]
  have HFE : Hid (FK = (keyAll (keyedL (sb s) (putN [] (keyN who conn) 2)) 255).take 64) := hide (by rw [← hFK, fkeyL])
  clear hFK
  go_enter Tryd.func19, Tryd.ntmps19
  go_wp2_with fail
  generalize Lib.bytesWorld w 5 s = w1 at *
  clear hcv
  have b2 : Below w1.heap.size w1 (w1.alloc (.cells #[.int .i64 who, .int .i64 conn] 3)) := (Below.refl _ _).alloc (Nat.le_refl _) _
  have hcell := RowAt.new w1 3 [.int .i64 who, .int .i64 conn]
  have HPT := hide (putm_any (.slice none 0 0) [] (some ⟨w1.heap.size, 0, none⟩) 2 2 (keyN who conn) (w1.alloc (.cells #[.int .i64 who, .int .i64 conn] 3)) (.inl ⟨rfl, rfl⟩) (by simp) (by omega)
    (.inr ⟨w1.heap.size, 0, rfl, by rw [csize_alloc]; omega, fun i hi => by
      rw [Nat.zero_add]
      match i, hi with
      | 0, _ => exact hcell.cell 0
      | 1, _ => exact hcell.cell 1⟩)
    (fun i hi => by
      match i, hi with
      | 0, _ => exact hw
      | 1, _ => exact hc))
  have HB2 := hide ((unhide HB).trans (b2.mono (unhide HB).size))
  have HS2 := hide ((unhide HS).call b2)
  obtain ⟨U, hU⟩ : ∃ x, putN [] (keyN who conn) 2 = x := ⟨_, rfl⟩
  have HUL : Hid (U.length = 16) := hide (by rw [← hU, putN_len]; rfl)
  have HU8 : Hid (U8 U) := hide (hU ▸ putN_8 (fun y hy => by cases hy) _ 2)
  rw [hU] at HPT HFE
  clear hU b2 hcell
  generalize w1.alloc (.cells #[.int .i64 who, .int .i64 conn] 3) = w2 at *
  refine Calls.mono (unhide HPT) ?_
  rintro e w3 ⟨v3, rfl, o3, b3⟩
  have B3 := (unhide HB2).trans (b3.mono (unhide HB2).size)
  have hky := key_any _ v3 (sb s) U 64 w3 (hT.below B3) ((unhide HS2).call b3) (Byt.of_own o3) (sb_8 s) (unhide HU8) (by rw [sb_len]; omega) (by rw [unhide HUL]; omega) (by omega)
  rw [← unhide HFE, show ((64 : Nat) : Int) = 64 from rfl] at hky
  have HKY := hide hky
  clear hky HFE
  have HB3 := hide B3
  clear o3 b3 B3 HPT
  go_wp2_with fail
  refine Calls.mono (unhide HKY) ?_
  rintro e w4 ⟨v4, rfl, y4, b4⟩
  have HF : Hid (Byt w4 v4 FK ∧ Below w.heap.size w w4) := hide ⟨y4, (unhide HB3).trans (b4.mono (unhide HB3).size)⟩
  clear y4 b4 HKY
  go_wp2_with fail
  go_ret
  exact ⟨_, rfl, unhide HF⟩
set_option maxRecDepth 100000 in
set_option maxHeartbeats 4000000 in
theorem rfkey_any (s : ByteArray) (who conn : Int) (w : World) (hs : s.size ≤ 100000) (hw : who ≤ 9223372036854775807) (hc : conn ≤ 9223372036854775807) :
    Calls Tryd.prog 20 #[.string s, .int .i64 who, .int .i64 conn] w fun e w' => ∃ v', e = .returned v' ∧ Byt w' v' (fkeyL (sb s) who conn) ∧ Below w.heap.size w w' := by
  have hcv := fun w' => Lib.run_convert_string_bytes (P := Tryd.prog) w' 9 22 5 s Tryd.underlying9 Tryd.underlying22 Tryd.underlying5
  have HS := hide (sb_byt w s (by unfold maxLen; omega))
  have HB := hide (sb_below w s)
  obtain ⟨FK, hFK⟩ : ∃ x, fkeyL (sb s) who conn = x := ⟨_, rfl⟩
  rw [hFK]
  have HFE : Hid (FK = (keyAll (keyedL (sb s) (putN [] (keyN who conn) 2)) 255).take 64) := hide (by rw [← hFK, fkeyL])
  clear hFK
  go_enter Tryd.func20, Tryd.ntmps20
  go_wp2_with fail
  generalize Lib.bytesWorld w 5 s = w1 at *
  clear hcv
  have b2 : Below w1.heap.size w1 (w1.alloc (.cells #[.int .i64 who, .int .i64 conn] 3)) := (Below.refl _ _).alloc (Nat.le_refl _) _
  have hcell := RowAt.new w1 3 [.int .i64 who, .int .i64 conn]
  have HPT := hide (refputm_any (.slice none 0 0) [] (some ⟨w1.heap.size, 0, none⟩) 2 2 (keyN who conn) (w1.alloc (.cells #[.int .i64 who, .int .i64 conn] 3)) (.inl ⟨rfl, rfl⟩) (by simp) (by omega)
    (.inr ⟨w1.heap.size, 0, rfl, by rw [csize_alloc]; omega, fun i hi => by
      rw [Nat.zero_add]
      match i, hi with
      | 0, _ => exact hcell.cell 0
      | 1, _ => exact hcell.cell 1⟩)
    (fun i hi => by
      match i, hi with
      | 0, _ => exact hw
      | 1, _ => exact hc))
  have HB2 := hide ((unhide HB).trans (b2.mono (unhide HB).size))
  have HS2 := hide ((unhide HS).call b2)
  obtain ⟨U, hU⟩ : ∃ x, putN [] (keyN who conn) 2 = x := ⟨_, rfl⟩
  have HUL : Hid (U.length = 16) := hide (by rw [← hU, putN_len]; rfl)
  have HU8 : Hid (U8 U) := hide (hU ▸ putN_8 (fun y hy => by cases hy) _ 2)
  rw [hU] at HPT HFE
  clear hU b2 hcell
  generalize w1.alloc (.cells #[.int .i64 who, .int .i64 conn] 3) = w2 at *
  refine Calls.mono (unhide HPT) ?_
  rintro e w3 ⟨v3, rfl, o3, b3⟩
  have B3 := (unhide HB2).trans (b3.mono (unhide HB2).size)
  have hky := rkey_any _ v3 (sb s) U 64 w3 ((unhide HS2).call b3) (Byt.of_own o3) (sb_8 s) (unhide HU8) (by rw [sb_len]; omega) (by rw [unhide HUL]; omega) (by omega)
  rw [← unhide HFE, show ((64 : Nat) : Int) = 64 from rfl] at hky
  have HKY := hide hky
  clear hky HFE
  have HB3 := hide B3
  clear o3 b3 B3 HPT
  go_wp2_with fail
  refine Calls.mono (unhide HKY) ?_
  rintro e w4 ⟨v4, rfl, y4, b4⟩
  have HF : Hid (Byt w4 v4 FK ∧ Below w.heap.size w w4) := hide ⟨y4, (unhide HB3).trans (b4.mono (unhide HB3).size)⟩
  clear y4 b4 HKY
  go_wp2_with fail
  go_ret
  exact ⟨_, rfl, unhide HF⟩
end Go.Proofs.YthhpnakgiammiaaDoor

namespace Go.Proofs.YthhpnakgiammiaaDoor
set_option linter.unusedVariables false
set_option linter.unusedSimpArgs false
open Go.ChangeShapes Go.WideShapes Go.ChangeAt Go.RowKit Go.Joins

theorem rseal_not (ka : Option Addr) (kn kc : Nat) (hv uv : Value) (once : Nat) (w : World) (h : ¬ kn = 64) :
    Calls Tryd.prog 16 #[.slice ka kn kc, .int .u64 (once : Int), hv, uv] w fun e w' => e = .returned (.tuple #[.slice none 0 0, .int .i64 1]) ∧ w = w' := by
  have h1 : ¬ (kn : Int) = 64 := by omega
  go_enter Tryd.func16, Tryd.ntmps16
  go_wp2_with fail
  all_goals (first | (exfalso; omega) | (go_ret2; exact ⟨rfl, rfl⟩))

set_option maxRecDepth 100000 in
set_option maxHeartbeats 4000000 in
theorem rseal_any (kv hv uv : Value) (key head b : List Nat) (once : Nat) (w : World) (hk : Byt w kv key) (hh : Byt w hv head) (hb : Byt w uv b) (hk8 : U8 key) (hh8 : U8 head) (hb8 : U8 b) (hkl : key.length = 64) (hhl : head.length ≤ 450000) (hbl : b.length ≤ 450000) (ho : once < 18446744073709551616) :
    Calls Tryd.prog 16 #[kv, .int .u64 (once : Int), hv, uv] w fun e w' => ∃ v', e = .returned (.tuple #[v', .int .i64 0]) ∧ w'.ownsRow w.heap.size 5 1 v' (b.length + 16) (bv (sealL key once head b)) ∧ Below w.heap.size w w' := by
  obtain ⟨i0, hi, hz0, hz1, hz2⟩ := info_parts info5
  have HRT := hide (rturn_any kv uv key b once w hk hb hk8 hb8 (by omega) (by omega) ho)
  have HK := hide hk
  have HH := hide hh
  have HK8 := hide hk8
  have HH8 := hide hh8
  have HO := hide ho
  have HKL := hide hkl
  have HHL := hide hhl
  obtain ⟨ka, kc, hke⟩ := byt_shape hk
  obtain ⟨bn, hbn⟩ : ∃ x, b.length = x := ⟨_, rfl⟩
  rw [hkl] at hke
  subst hke
  rw [hbn] at HRT hbl
  rw [hbn]
  obtain ⟨T, hT⟩ : ∃ T, tkL key once b = T := ⟨_, rfl⟩
  have HSE : Hid (sealL key once head b = T ++ tagL key once head T) := hide (by rw [sealL, hT])
  have HTL : Hid (T.length = bn) := hide (by rw [← hT, tkL_len, hbn])
  have HT8 : Hid (U8 T) := hide (hT ▸ tkL_8 key once hb8)
  rw [hT] at HRT
  have HBL := hide hbl
  clear hk hh hb hk8 hh8 hb8 hkl hhl ho hT hbn
  go_enter Tryd.func16, Tryd.ntmps16
  go_wp2_with fail
  refine Calls.mono (unhide HRT) ?_
  rintro e w2 ⟨v2, rfl, o2, b2⟩
  have Y2 : Byt w2 v2 T := Byt.of_own (own_cast o2 (unhide HTL).symm rfl)
  obtain ⟨ta, tc, hte⟩ := byt_shape Y2
  rw [unhide HTL] at hte
  subst hte
  have hown : (w2.alloc (.cells #[] 5)).ownsRow w.heap.size 5 1 (.slice (some ⟨w2.heap.size, 0, none⟩) 0 0) 0 [] := World.ownsRow_made (base := w.heap.size) (e := 5) (size := 1) w2 #[] 0 b2.size (Nat.zero_le _) rfl
  have b3 : Below w2.heap.size w2 (w2.alloc (.cells #[] 5)) := (Below.refl _ _).alloc (Nat.le_refl _) _
  have B3 := b2.trans (b3.mono b2.size)
  have S1 := byt_src (Y2.call b3) (unhide HTL)
  have L1 : (bv T).length = bn * 1 := by rw [bv_len, unhide HTL]; omega
  have s3 := B3.size
  have HB3 := hide B3
  have HOW := hide hown
  have HY3 := hide (Y2.call b3)
  have HO2 := hide o2
  have HB2 := hide b2
  clear o2 b2 Y2 b3 B3 HRT
  go_wp2_with (at_builtin; refine wpList_append_src _ rfl _ _ 22 rfl w.heap.size 5 i0 (.int .u8 0) 1 1 Tryd.underlying22 hi hz0 hz1 hz2 rfl (by decide) _ _ _ rfl hown ta bn tc (bv T) rfl L1 S1.1 S1.2 (bv_one T) ?c3 ?c4 s3 ?_)
  case c3 => have := unhide HBL; unfold maxLen; omega
  case c4 => have := unhide HBL; omega
  intro a4 c4 w4 O4 g4
  have B4 := (unhide HB3).grown g4 s3 (fun k hk => ((unhide HOW).lt k hk).1)
  have O5 : w4.ownsRow w.heap.size 5 1 (.slice ta bn tc) bn (bv T) := ((unhide HO2).alloc _).kept g4 (by
    cases hq : (Value.slice ta bn tc).ownBlock with
    | none => exact .inl rfl
    | some k =>
      right
      intro e
      have := ((unhide HO2).lt k hq).2
      simp [Value.ownBlock] at e
      omega)
  have Y4 : Byt w4 (.slice ta bn tc) T := Byt.of_own (own_cast O5 (unhide HTL).symm rfl)
  have HTG := hide (rtag_any (.slice ka 64 kc) hv (.slice ta bn tc) key head T once w4 ((unhide HK).call B4) ((unhide HH).call B4) Y4 (unhide HK8) (unhide HH8) (unhide HT8) (unhide HKL) (unhide HHL) (by rw [unhide HTL]; exact unhide HBL) (unhide HO))
  have HO4 : Hid (w4.ownsRow w.heap.size 5 1 (.slice a4 bn c4) bn (bv T)) := hide (by simpa using O4)
  have HB4 := hide B4
  clear O4 g4 B4 O5 Y4 L1 S1 hown HOW HB3 HB2 HY3 HO2 s3
  go_wp2_with fail
  refine Calls.mono (unhide HTG) ?_
  rintro e w5 ⟨v5, rfl, o5, b5⟩
  have B5 := (unhide HB4).trans (b5.mono (unhide HB4).size)
  have O6 := own_call (unhide HO4) b5
  have Y5 : Byt w5 v5 (tagL key once head T) := Byt.of_own (own_cast o5 (tagL_len _ _ _ _).symm rfl)
  obtain ⟨ga, gc, hge⟩ := byt_shape Y5
  rw [tagL_len] at hge
  subst hge
  have S2 := byt_src Y5 (tagL_len _ _ _ _)
  have L2 : (bv (tagL key once head T)).length = 16 * 1 := by rw [bv_len, tagL_len]
  have s5 := B5.size
  have HB5 := hide B5
  have HO6 := hide O6
  clear o5 b5 B5 Y5 HTG HB4 HO4
  go_wp2_with (at_builtin; refine wpList_append_src _ rfl _ _ 22 rfl w.heap.size 5 i0 (.int .u8 0) 1 1 Tryd.underlying22 hi hz0 hz1 hz2 rfl (by decide) _ _ _ rfl O6 ga 16 gc (bv (tagL key once head T)) rfl L2 S2.1 S2.2 (bv_one _) ?d3 ?d4 s5 ?_)
  case d3 => have := unhide HBL; unfold maxLen; omega
  case d4 => have := unhide HBL; omega
  intro a7 c7 w7 O7 g7
  have HF : Hid (w7.ownsRow w.heap.size 5 1 (.slice a7 (bn + 16) c7) (bn + 16) (bv (sealL key once head b)) ∧ Below w.heap.size w w7) := hide ⟨own_cast O7 rfl (by rw [unhide HSE, bv_append]), (unhide HB5).grown g7 s5 (fun k hk => ((unhide HO6).lt k hk).1)⟩
  clear O7 g7 O6 HO6 HB5 S2 L2 s5
  go_wp2_with fail
  go_ret2
  exact ⟨_, rfl, unhide HF⟩
end Go.Proofs.YthhpnakgiammiaaDoor

namespace Go.Proofs.YthhpnakgiammiaaDoor
set_option linter.unusedVariables false
set_option linter.unusedSimpArgs false
open Go.ChangeShapes Go.WideShapes Go.ChangeAt Go.RowKit Go.Joins

def fieldsL : List Nat := [0, 4, 134, 62, 12, 0, 64, 6, 135, 66, 13]
def FTab (w : World) : Prop := Tab w 1 (i64v fieldsL)
def msgBeat : Value := .agg #[.int .i64 5, .int .i64 0, .int .i64 0, .int .i64 0, .int .i64 0, .int .i64 0, .int .i64 0, .int .i64 0, .slice none 0 0]
set_option maxRecDepth 100000 in
theorem size_nil (w : World) : Calls Tryd.prog 82 #[.slice none 0 0] w fun e w' => e = .returned (.tuple #[.int .i64 0, .int .i64 0, .int .i64 0]) ∧ w = w' := by
  go_enter Tryd.func82, Tryd.ntmps82
  go_wp2_with fail
  go_loopw [2, 3, 10] (fun a b i wr => a = .int .i64 0 ∧ b = .int .i64 0 ∧ i = .int .i64 0 ∧ w = wr) (fun _ _ _ _ => 0)
  case atStart => exact ⟨rfl, rfl, rfl, rfl⟩
  case round =>
    obtain ⟨rfl, rfl, rfl, rfl⟩ := hrel
    go_wp2_with fail
    (first | go_ret3 | go_ret2)
    exact ⟨rfl, rfl⟩
set_option maxRecDepth 100000 in
theorem weight_nil (w : World) : Calls Tryd.prog 83 #[.slice none 0 0] w fun e w' => e = .returned (.tuple #[.int .i64 0, .int .i64 0]) ∧ w = w' := by
  go_enter Tryd.func83, Tryd.ntmps83
  go_wp2_with fail
  go_loopw [2, 3, 8] (fun a b i wr => a = .int .i64 0 ∧ b = .int .i64 0 ∧ i = .int .i64 0 ∧ w = wr) (fun _ _ _ _ => 0)
  case atStart => exact ⟨rfl, rfl, rfl, rfl⟩
  case round =>
    obtain ⟨rfl, rfl, rfl, rfl⟩ := hrel
    go_wp2_with fail
    (first | go_ret3 | go_ret2)
    exact ⟨rfl, rfl⟩
set_option maxRecDepth 100000 in
theorem light_nil (w : World) : Calls Tryd.prog 73 #[.slice none 0 0] w fun e w' => e = .returned (.bool true) ∧ w = w' := by
  go_enter Tryd.func73, Tryd.ntmps73
  go_wp2_with fail
  refine Calls.mono (size_nil _) ?_
  rintro e wx ⟨rfl, rfl⟩
  go_wp2_with fail
  refine Calls.mono (weight_nil _) ?_
  rintro e wx ⟨rfl, rfl⟩
  go_wp2_with fail
  go_ret
  exact ⟨rfl, rfl⟩
def WiR (n lo hi : Int) (w : World) (e : Ending) (w' : World) : Prop := ∃ b, e = .returned (.bool b) ∧ (b = true ↔ lo ≤ n ∧ n ≤ hi) ∧ w = w'
set_option maxRecDepth 100000 in
theorem within_any (n lo hi : Int) (w : World) : Calls Tryd.prog 43 #[.int .i64 n, .int .i64 lo, .int .i64 hi] w fun e w' => WiR n lo hi w e w' := by
  by_cases h1 : lo ≤ n
  · by_cases h2 : n ≤ hi
    · have HH := hide (And.intro h1 h2)
      go_enter Tryd.func43, Tryd.ntmps43
      go_wp2_with fail
      go_ret
      exact ⟨true, rfl, ⟨fun _ => unhide HH, fun _ => rfl⟩, rfl⟩
    · have HH := hide h2
      go_enter Tryd.func43, Tryd.ntmps43
      go_wp2_with fail
      go_ret
      exact ⟨false, rfl, ⟨(fun h => by cases h), fun h => by have := unhide HH; omega⟩, rfl⟩
  · have HH := hide h1
    go_enter Tryd.func43, Tryd.ntmps43
    go_wp2_with fail
    go_ret
    exact ⟨false, rfl, ⟨(fun h => by cases h), fun h => by have := unhide HH; omega⟩, rfl⟩
theorem within_in (n lo hi : Int) (w : World) (h1 : lo ≤ n) (h2 : n ≤ hi) : Calls Tryd.prog 43 #[.int .i64 n, .int .i64 lo, .int .i64 hi] w fun e w' => e = .returned (.bool true) ∧ w = w' :=
  (within_any n lo hi w).mono fun e w' ⟨b, he, hb, hw⟩ => ⟨by rw [he, hb.2 ⟨h1, h2⟩], hw⟩
theorem within_out (n lo hi : Int) (w : World) (h : ¬ (lo ≤ n ∧ n ≤ hi)) : Calls Tryd.prog 43 #[.int .i64 n, .int .i64 lo, .int .i64 hi] w fun e w' => e = .returned (.bool false) ∧ w = w' :=
  (within_any n lo hi w).mono fun e w' ⟨b, he, hb, hw⟩ => ⟨by
    cases b
    · exact he
    · exact absurd (hb.1 rfl) h, hw⟩
theorem idx7 (k : Int) (w : World) (h0 : 0 ≤ k) (h7 : k < 7) : (Instr.index 109 (.agg #[.int .i64 0, .int .i64 0, .int .i64 0, .int .i64 0, .int .i64 0, .int .i64 0, .int .i64 0]) (.int .i64 k)).run Tryd.prog w = .ok (.int .i64 0) w := by
  have : k = 0 ∨ k = 1 ∨ k = 2 ∨ k = 3 ∨ k = 4 ∨ k = 5 ∨ k = 6 := by omega
  rcases this with rfl | rfl | rfl | rfl | rfl | rfl | rfl <;>
    simp [Instr.index, run_underlying Tryd.underlying109, asIntOf, part, go_sem]
set_option maxRecDepth 100000 in
set_option maxHeartbeats 4000000 in
theorem check_beat (w : World) (hF : FTab w) : Calls Tryd.prog 58 #[msgBeat] w fun e w' => e = .returned (.int .i64 0) ∧ Below w.heap.size w w' := by
  have b1 : Below w.heap.size w (w.alloc (.cells #[.int .i64 5, .int .i64 0, .int .i64 0, .int .i64 0, .int .i64 0, .int .i64 0, .int .i64 0, .int .i64 0, .slice none 0 0] 57)) := (Below.refl _ _).alloc (Nat.le_refl _) _
  have hF1 := Tab.below hF b1 hF.lt
  obtain ⟨t1, fr1, hF2⟩ := hF1
  have h5 : (w.alloc (.cells #[.int .i64 5, .int .i64 0, .int .i64 0, .int .i64 0, .int .i64 0, .int .i64 0, .int .i64 0, .int .i64 0, .slice none 0 0] 57)).cell? ⟨1, 5, none⟩ = some (.int .i64 0) := by
    unfold World.cell?
    rw [hF2]
    rfl
  have h8 : (w.alloc (.cells #[.int .i64 5, .int .i64 0, .int .i64 0, .int .i64 0, .int .i64 0, .int .i64 0, .int .i64 0, .int .i64 0, .slice none 0 0] 57)).cell? ⟨w.heap.size, 8, none⟩ = some (.slice none 0 0) := (RowAt.new w 57 [.int .i64 5, .int .i64 0, .int .i64 0, .int .i64 0, .int .i64 0, .int .i64 0, .int .i64 0, .int .i64 0, .slice none 0 0]).cell 8
  have hix := idx7
  have HB1 := hide b1
  clear hF b1 hF2
  unfold msgBeat
  go_enter Tryd.func58, Tryd.ntmps58
  go_wp2_with fail
  generalize w.alloc (.cells #[.int .i64 5, .int .i64 0, .int .i64 0, .int .i64 0, .int .i64 0, .int .i64 0, .int .i64 0, .int .i64 0, .slice none 0 0] 57) = w1 at *
  go_loopw [34] (fun s wr => ∃ k : Nat, k ≤ 7 ∧ s = .int .i64 (k : Int) ∧ w1 = wr) (fun s _ => (7 - intOf s).toNat)
  case atStart => exact ⟨0, by omega, rfl, rfl⟩
  case round =>
    obtain ⟨k, hk, rfl, rfl⟩ := hrel
    have hb : bits .and .i64 0 1 = 0 := by decide
    by_cases hlt : k < 7
    · have hkI : (k : Int) < 7 := by omega
      have hk0 : (0 : Int) ≤ (k : Int) := by omega
      go_wp2_with fail
      refine Calls.mono (within_in 0 0 0 _ (by omega) (by omega)) ?_
      rintro e wx ⟨rfl, rfl⟩
      go_wp2_with fail
      go_roundw
      case rel => exact ⟨k + 1, by omega, by go_num, by first | trivial | rfl⟩
      case measure => simp [intOf]; omega
    · have hkI : ¬ (k : Int) < 7 := by omega
      go_wp2_with fail
      refine Calls.mono (light_nil _) ?_
      rintro e wx ⟨rfl, rfl⟩
      go_wp2_with fail
      go_ret
      exact ⟨rfl, unhide HB1⟩
def beatN : Nat → Int
  | 0 => 5
  | _ => 0
set_option maxRecDepth 100000 in
set_option maxHeartbeats 4000000 in
theorem put_beat (w : World) (hF : FTab w) : Calls Tryd.prog 42 #[msgBeat] w fun e w' => ∃ a c, e = .returned (.tuple #[.slice a 72 c, .int .i64 0]) ∧ Below w.heap.size w w' := by
  have b1 : Below w.heap.size w (w.alloc (.cells #[.int .i64 5, .int .i64 0, .int .i64 0, .int .i64 0, .int .i64 0, .int .i64 0, .int .i64 0, .int .i64 0, .slice none 0 0] 57)) := (Below.refl _ _).alloc (Nat.le_refl _) _
  have HCK := hide (check_beat _ (Tab.below hF b1 hF.lt))
  have hR := RowAt.new w 57 [.int .i64 5, .int .i64 0, .int .i64 0, .int .i64 0, .int .i64 0, .int .i64 0, .int .i64 0, .int .i64 0, .slice none 0 0]
  have HR := hide hR
  have HB1 := hide b1
  clear hF b1 hR
  unfold msgBeat at *
  go_enter Tryd.func42, Tryd.ntmps42
  go_wp2_with fail
  generalize w.alloc (.cells #[.int .i64 5, .int .i64 0, .int .i64 0, .int .i64 0, .int .i64 0, .int .i64 0, .int .i64 0, .int .i64 0, .slice none 0 0] 57) = w1 at *
  refine Calls.mono (unhide HCK) ?_
  rintro e w2 ⟨rfl, b2⟩
  have R2 := (unhide HR).below b2 (unhide HR).lt
  have c0 : w2.cell? ⟨w.heap.size, 0, none⟩ = some (.int .i64 5) := R2.cell 0
  have c1 : w2.cell? ⟨w.heap.size, 1, none⟩ = some (.int .i64 0) := R2.cell 1
  have c2 : w2.cell? ⟨w.heap.size, 2, none⟩ = some (.int .i64 0) := R2.cell 2
  have c3 : w2.cell? ⟨w.heap.size, 3, none⟩ = some (.int .i64 0) := R2.cell 3
  have c4 : w2.cell? ⟨w.heap.size, 4, none⟩ = some (.int .i64 0) := R2.cell 4
  have c5 : w2.cell? ⟨w.heap.size, 5, none⟩ = some (.int .i64 0) := R2.cell 5
  have c6 : w2.cell? ⟨w.heap.size, 6, none⟩ = some (.int .i64 0) := R2.cell 6
  have c7 : w2.cell? ⟨w.heap.size, 7, none⟩ = some (.int .i64 0) := R2.cell 7
  have c8 : w2.cell? ⟨w.heap.size, 8, none⟩ = some (.slice none 0 0) := R2.cell 8
  have HR2 := hide R2
  have HB2 := hide ((unhide HB1).trans (b2.mono (by have := (unhide HB1).size; omega)))
  clear b2 R2 HCK HB1 HR
  go_wp2_with fail
  have b3 : Below w2.heap.size w2 (w2.alloc (.cells #[.int .i64 5, .int .i64 0, .int .i64 0, .int .i64 0, .int .i64 0, .int .i64 0, .int .i64 0, .int .i64 0, .int .i64 0] 3)) := (Below.refl _ _).alloc (Nat.le_refl _) _
  have R3 := RowAt.new w2 3 [.int .i64 5, .int .i64 0, .int .i64 0, .int .i64 0, .int .i64 0, .int .i64 0, .int .i64 0, .int .i64 0, .int .i64 0]
  have HPT := hide (put_any (.slice none 0 0) [] w2.heap.size 9 9 beatN (w2.alloc (.cells #[.int .i64 5, .int .i64 0, .int .i64 0, .int .i64 0, .int .i64 0, .int .i64 0, .int .i64 0, .int .i64 0, .int .i64 0] 3)) (.inl ⟨rfl, rfl⟩) (by simp) (by omega) (by rw [csize_alloc]; omega)
    (fun i hi => by
      match i, hi with
      | 0, _ => exact ⟨R3.cell 0, by decide, by decide⟩
      | 1, _ => exact ⟨R3.cell 1, by decide, by decide⟩
      | 2, _ => exact ⟨R3.cell 2, by decide, by decide⟩
      | 3, _ => exact ⟨R3.cell 3, by decide, by decide⟩
      | 4, _ => exact ⟨R3.cell 4, by decide, by decide⟩
      | 5, _ => exact ⟨R3.cell 5, by decide, by decide⟩
      | 6, _ => exact ⟨R3.cell 6, by decide, by decide⟩
      | 7, _ => exact ⟨R3.cell 7, by decide, by decide⟩
      | 8, _ => exact ⟨R3.cell 8, by decide, by decide⟩))
  have HR3 := hide ((unhide HR2).below b3 (unhide HR2).lt)
  have HB3 := hide ((unhide HB2).trans (b3.mono (by have := (unhide HB2).size; omega)))
  obtain ⟨P9, hP9⟩ : ∃ x, putN [] beatN 9 = x := ⟨_, rfl⟩
  have HPL : Hid (P9.length = 72) := hide (by rw [← hP9, putN_len]; rfl)
  rw [hP9] at HPT
  clear b3 R3 hP9 c0 c1 c2 c3 c4 c5 c6 c7 c8 HR2 HB2
  generalize w2.alloc (.cells #[.int .i64 5, .int .i64 0, .int .i64 0, .int .i64 0, .int .i64 0, .int .i64 0, .int .i64 0, .int .i64 0, .int .i64 0] 3) = w3 at *
  refine Calls.mono (unhide HPT) ?_
  rintro e w4 ⟨v4, rfl, o4, b4⟩
  obtain ⟨va, vc, hve⟩ := byt_shape (Byt.of_own o4)
  rw [unhide HPL] at hve
  subst hve
  have c8 : w4.cell? ⟨w.heap.size, 8, none⟩ = some (.slice none 0 0) := ((unhide HR3).below b4 (unhide HR3).lt).cell 8
  have HB4 := hide ((unhide HB3).trans (b4.mono (by have := (unhide HB3).size; omega)))
  clear o4 b4 HPT HR3 HB3
  go_wp2_with fail
  go_loopw [5, 37] (fun v i wr => v = .slice va 72 vc ∧ i = .int .i64 0 ∧ w4 = wr) (fun _ _ _ => 0)
  case atStart => exact ⟨rfl, rfl, rfl⟩
  case round =>
    obtain ⟨rfl, rfl, rfl⟩ := hrel
    go_wp2_with fail
    go_ret2
    exact ⟨_, _, rfl, unhide HB4⟩
end Go.Proofs.YthhpnakgiammiaaDoor

namespace Go.Proofs.YthhpnakgiammiaaDoor
set_option linter.unusedVariables false
set_option linter.unusedSimpArgs false
open Go.ChangeShapes Go.WideShapes Go.ChangeAt Go.RowKit Go.Joins

def frV (c s k : Int) (b : Value) : Value := .agg #[.int .i64 c, .int .i64 s, .int .i64 k, b]
def fitsE (c s k : Int) (bn : Nat) : Int :=
  if c < 1 ∨ 1099511627776 < c ∨ s < 0 ∨ 1099511627776 < s ∨ k < 0 ∨ 1099511627776 < k ∨ ¬ (s = 0 ↔ bn = 0) then 120 else if 16320 < bn then 4 else 0

set_option maxRecDepth 100000 in
set_option maxHeartbeats 4000000 in
theorem ffits_any (c s k : Int) (ba : Option Addr) (bn bc : Nat) (w : World) : Calls Tryd.prog 22 #[frV c s k (.slice ba bn bc)] w fun e w' => e = .returned (.int .i64 (fitsE c s k bn)) ∧ Below w.heap.size w w' := by
  unfold frV
  by_cases h1 : 1 ≤ c ∧ c ≤ 1099511627776
  · by_cases h2 : 0 ≤ s ∧ s ≤ 1099511627776
    · by_cases h3 : 0 ≤ k ∧ k ≤ 1099511627776
      · by_cases h4 : s = 0
        · subst h4
          by_cases h5 : bn = 0
          · subst h5
            have HE : Hid (fitsE c 0 k 0 = 0) := hide (by unfold fitsE; rw [if_neg (by omega), if_neg (by omega)])
            have H1 := hide h1
            have H3 := hide h3
            clear h1 h2 h3
            go_enter Tryd.func22, Tryd.ntmps22
            go_wp2_with fail
            refine Calls.mono (within_in c 1 1099511627776 _ (unhide H1).1 (unhide H1).2) ?_
            rintro e wx ⟨rfl, rfl⟩
            go_wp2_with fail
            refine Calls.mono (within_in 0 0 1099511627776 _ (by omega) (by omega)) ?_
            rintro e wx ⟨rfl, rfl⟩
            go_wp2_with fail
            refine Calls.mono (within_in k 0 1099511627776 _ (unhide H3).1 (unhide H3).2) ?_
            rintro e wx ⟨rfl, rfl⟩
            go_wp2_with fail
            all_goals (first
              | (exfalso; omega)
              | (go_ret; refine ⟨?_, (Below.refl _ _).alloc (Nat.le_refl _) _⟩; rw [unhide HE]; rfl)
              | (exfalso; have q2 := unhide H2; omega) | (exfalso; have q2 := unhide H2; simp at *; omega) | (exfalso; simp at *; omega))
          · have HE : Hid (fitsE c 0 k bn = 120) := hide (by unfold fitsE; rw [if_pos (by omega)])
            have H1 := hide h1
            have H3 := hide h3
            have h5I : ¬ (bn : Int) = 0 := by omega
            clear h1 h2 h3
            go_enter Tryd.func22, Tryd.ntmps22
            go_wp2_with fail
            refine Calls.mono (within_in c 1 1099511627776 _ (unhide H1).1 (unhide H1).2) ?_
            rintro e wx ⟨rfl, rfl⟩
            go_wp2_with fail
            refine Calls.mono (within_in 0 0 1099511627776 _ (by omega) (by omega)) ?_
            rintro e wx ⟨rfl, rfl⟩
            go_wp2_with fail
            refine Calls.mono (within_in k 0 1099511627776 _ (unhide H3).1 (unhide H3).2) ?_
            rintro e wx ⟨rfl, rfl⟩
            go_wp2_with fail
            all_goals (first
              | (exfalso; omega)
              | (go_ret; refine ⟨?_, (Below.refl _ _).alloc (Nat.le_refl _) _⟩; rw [unhide HE]; rfl)
              | (exfalso; have q2 := unhide H2; omega) | (exfalso; have q2 := unhide H2; simp at *; omega) | (exfalso; simp at *; omega))
        · by_cases h5 : bn = 0
          · subst h5
            have HE : Hid (fitsE c s k 0 = 120) := hide (by unfold fitsE; rw [if_pos (by omega)])
            have H1 := hide h1
            have H2 := hide h2
            have H3 := hide h3
            clear h1 h2 h3
            go_enter Tryd.func22, Tryd.ntmps22
            go_wp2_with fail
            refine Calls.mono (within_in c 1 1099511627776 _ (unhide H1).1 (unhide H1).2) ?_
            rintro e wx ⟨rfl, rfl⟩
            go_wp2_with fail
            refine Calls.mono (within_in s 0 1099511627776 _ (unhide H2).1 (unhide H2).2) ?_
            rintro e wx ⟨rfl, rfl⟩
            go_wp2_with fail
            refine Calls.mono (within_in k 0 1099511627776 _ (unhide H3).1 (unhide H3).2) ?_
            rintro e wx ⟨rfl, rfl⟩
            go_wp2_with fail
            all_goals (first
              | (exfalso; omega)
              | (go_ret; refine ⟨?_, (Below.refl _ _).alloc (Nat.le_refl _) _⟩; rw [unhide HE]; rfl)
              | (exfalso; have q2 := unhide H2; omega) | (exfalso; have q2 := unhide H2; simp at *; omega) | (exfalso; simp at *; omega))
          · by_cases h6 : 16320 < bn
            · have HE : Hid (fitsE c s k bn = 4) := hide (by unfold fitsE; rw [if_neg (by omega), if_pos h6])
              have H1 := hide h1
              have H2 := hide h2
              have H3 := hide h3
              have h5I : ¬ (bn : Int) = 0 := by omega
              have hb1 : (s == 0) = false := by simp [h4]
              have hb2 : ((bn : Int) == 0) = false := by simp; omega
              have h6I : (16320 : Int) < (bn : Int) := by omega
              clear h1 h2 h3
              go_enter Tryd.func22, Tryd.ntmps22
              go_wp2_with fail
              refine Calls.mono (within_in c 1 1099511627776 _ (unhide H1).1 (unhide H1).2) ?_
              rintro e wx ⟨rfl, rfl⟩
              go_wp2_with fail
              refine Calls.mono (within_in s 0 1099511627776 _ (unhide H2).1 (unhide H2).2) ?_
              rintro e wx ⟨rfl, rfl⟩
              go_wp2_with fail
              refine Calls.mono (within_in k 0 1099511627776 _ (unhide H3).1 (unhide H3).2) ?_
              rintro e wx ⟨rfl, rfl⟩
              go_wp2_with fail
              all_goals (first
                | (exfalso; omega)
                | (go_ret; refine ⟨?_, (Below.refl _ _).alloc (Nat.le_refl _) _⟩; rw [unhide HE]; rfl)
                | (exfalso; have q2 := unhide H2; omega) | (exfalso; have q2 := unhide H2; simp at *; omega) | (exfalso; simp at *; omega))
            · have HE : Hid (fitsE c s k bn = 0) := hide (by unfold fitsE; rw [if_neg (by omega), if_neg h6])
              have H1 := hide h1
              have H2 := hide h2
              have H3 := hide h3
              have h5I : ¬ (bn : Int) = 0 := by omega
              have hb1 : (s == 0) = false := by simp [h4]
              have hb2 : ((bn : Int) == 0) = false := by simp; omega
              have h6I : ¬ (16320 : Int) < (bn : Int) := by omega
              clear h1 h2 h3
              go_enter Tryd.func22, Tryd.ntmps22
              go_wp2_with fail
              refine Calls.mono (within_in c 1 1099511627776 _ (unhide H1).1 (unhide H1).2) ?_
              rintro e wx ⟨rfl, rfl⟩
              go_wp2_with fail
              refine Calls.mono (within_in s 0 1099511627776 _ (unhide H2).1 (unhide H2).2) ?_
              rintro e wx ⟨rfl, rfl⟩
              go_wp2_with fail
              refine Calls.mono (within_in k 0 1099511627776 _ (unhide H3).1 (unhide H3).2) ?_
              rintro e wx ⟨rfl, rfl⟩
              go_wp2_with fail
              all_goals (first
                | (exfalso; omega)
                | (go_ret; refine ⟨?_, (Below.refl _ _).alloc (Nat.le_refl _) _⟩; rw [unhide HE]; rfl)
                | (exfalso; have q2 := unhide H2; omega) | (exfalso; have q2 := unhide H2; simp at *; omega) | (exfalso; simp at *; omega))
      · have HE : Hid (fitsE c s k bn = 120) := hide (by unfold fitsE; rw [if_pos (by omega)])
        have H1 := hide h1
        have H2 := hide h2
        have H3 := hide h3
        clear h1 h2 h3
        go_enter Tryd.func22, Tryd.ntmps22
        go_wp2_with fail
        refine Calls.mono (within_in c 1 1099511627776 _ (unhide H1).1 (unhide H1).2) ?_
        rintro e wx ⟨rfl, rfl⟩
        go_wp2_with fail
        refine Calls.mono (within_in s 0 1099511627776 _ (unhide H2).1 (unhide H2).2) ?_
        rintro e wx ⟨rfl, rfl⟩
        go_wp2_with fail
        refine Calls.mono (within_out k 0 1099511627776 _ (unhide H3)) ?_
        rintro e wx ⟨rfl, rfl⟩
        go_wp2_with fail
        all_goals (first
          | (exfalso; omega)
          | (go_ret; refine ⟨?_, (Below.refl _ _).alloc (Nat.le_refl _) _⟩; rw [unhide HE]; rfl)
          | (exfalso; have q2 := unhide H2; omega) | (exfalso; have q2 := unhide H2; simp at *; omega) | (exfalso; simp at *; omega))
    · have HE : Hid (fitsE c s k bn = 120) := hide (by unfold fitsE; rw [if_pos (by omega)])
      have H1 := hide h1
      have H2 := hide h2
      clear h1 h2
      go_enter Tryd.func22, Tryd.ntmps22
      go_wp2_with fail
      refine Calls.mono (within_in c 1 1099511627776 _ (unhide H1).1 (unhide H1).2) ?_
      rintro e wx ⟨rfl, rfl⟩
      go_wp2_with fail
      refine Calls.mono (within_out s 0 1099511627776 _ (unhide H2)) ?_
      rintro e wx ⟨rfl, rfl⟩
      go_wp2_with fail
      all_goals (first
        | (exfalso; omega)
        | (go_ret; refine ⟨?_, (Below.refl _ _).alloc (Nat.le_refl _) _⟩; rw [unhide HE]; rfl)
        | (exfalso; have q2 := unhide H2; omega) | (exfalso; have q2 := unhide H2; simp at *; omega) | (exfalso; simp at *; omega))
  · have HE : Hid (fitsE c s k bn = 120) := hide (by unfold fitsE; rw [if_pos (by omega)])
    have H1 := hide h1
    clear h1
    go_enter Tryd.func22, Tryd.ntmps22
    go_wp2_with fail
    refine Calls.mono (within_out c 1 1099511627776 _ (unhide H1)) ?_
    rintro e wx ⟨rfl, rfl⟩
    go_wp2_with fail
    all_goals (first
      | (exfalso; omega)
      | (go_ret; refine ⟨?_, (Below.refl _ _).alloc (Nat.le_refl _) _⟩; rw [unhide HE]; rfl)
      | (exfalso; have q2 := unhide H2; omega) | (exfalso; have q2 := unhide H2; simp at *; omega) | (exfalso; simp at *; omega))

set_option maxRecDepth 100000 in
set_option maxHeartbeats 4000000 in
theorem rfits_any (c s k : Int) (ba : Option Addr) (bn bc : Nat) (w : World) : Calls Tryd.prog 23 #[frV c s k (.slice ba bn bc)] w fun e w' => e = .returned (.int .i64 (fitsE c s k bn)) ∧ Below w.heap.size w w' := by
  obtain ⟨E, hE⟩ : ∃ E, fitsE c s k bn = E := ⟨_, rfl⟩
  rw [hE]
  have HE := hide hE
  clear hE
  unfold frV
  go_enter Tryd.func23, Tryd.ntmps23
  go_wp2_with fail
  all_goals (
    go_ret
    refine ⟨?_, (Below.refl _ _).alloc (Nat.le_refl _) _⟩
    have hE := unhide HE
    unfold fitsE at hE
    rw [← hE]
    clear hE HE
    (repeat' split) <;> first | rfl | (exfalso; omega) | (exfalso; simp at *; omega))

set_option maxRecDepth 100000 in
theorem fonce_any (s : Nat) (up : Bool) (w : World) (hs : s ≤ 1099511627776) : Calls Tryd.prog 44 #[.int .i64 (s : Int), .bool up] w fun e w' => e = .returned (.int .u64 ((2 * s + (if up then 0 else 1) : Nat) : Int)) ∧ w = w' := by
  have e1 : (2 * (s : Int)) % 18446744073709551616 = 2 * (s : Int) := by omega
  have e2 : (2 * (s : Int) + 1) % 18446744073709551616 = 2 * (s : Int) + 1 := by omega
  have e3 : (s : Int) % 18446744073709551616 = (s : Int) := by omega
  cases up
  · go_enter Tryd.func44, Tryd.ntmps44
    go_wp2_with fail
    go_ret
    exact ⟨by simp, rfl⟩
  · go_enter Tryd.func44, Tryd.ntmps44
    go_wp2_with fail
    go_ret
    exact ⟨by simp, rfl⟩
set_option maxRecDepth 100000 in
theorem ronce_any (s : Nat) (up : Bool) (w : World) (hs : s ≤ 1099511627776) : Calls Tryd.prog 45 #[.int .i64 (s : Int), .bool up] w fun e w' => e = .returned (.int .u64 ((2 * s + (if up then 0 else 1) : Nat) : Int)) ∧ w = w' := by
  have e1 : (2 * (s : Int)) % 18446744073709551616 = 2 * (s : Int) := by omega
  have e2 : (2 * (s : Int) + 1) % 18446744073709551616 = 2 * (s : Int) + 1 := by omega
  have e3 : (s : Int) % 18446744073709551616 = (s : Int) := by omega
  cases up
  · go_enter Tryd.func45, Tryd.ntmps45
    go_wp2_with fail
    go_ret
    exact ⟨by simp, rfl⟩
  · go_enter Tryd.func45, Tryd.ntmps45
    go_wp2_with fail
    go_ret
    exact ⟨by simp, rfl⟩
end Go.Proofs.YthhpnakgiammiaaDoor

namespace Go.Proofs.YthhpnakgiammiaaDoor
set_option linter.unusedVariables false
set_option linter.unusedSimpArgs false
open Go.ChangeShapes Go.WideShapes Go.ChangeAt Go.RowKit Go.Joins

def headN (c s k : Int) : Nat → Int
  | 0 => c
  | 1 => s
  | _ => k
def headL (c s k : Int) : List Nat := putN [] (headN c s k) 3
theorem headL_len (c s k : Int) : (headL c s k).length = 24 := by rw [headL, putN_len]; rfl
theorem headL_8 (c s k : Int) : U8 (headL c s k) := putN_8 (fun y hy => by cases hy) _ 3
def onceU (s : Nat) (up : Bool) : Nat := 2 * s + (if up then 0 else 1)
theorem onceU_lt (s : Nat) (up : Bool) (h : s ≤ 1099511627776) : onceU s up < 18446744073709551616 := by unfold onceU; split <;> omega
def wrapL (key : List Nat) (up : Bool) (c : Int) (s : Nat) (k : Int) (body : List Nat) : List Nat := headL c s k ++ sealL key (onceU s up) (headL c s k) body
theorem wrapL_len (key : List Nat) (up : Bool) (c : Int) (s : Nat) (k : Int) (body : List Nat) : (wrapL key up c s k body).length = 40 + body.length := by rw [wrapL, List.length_append, headL_len, sealL_len]; omega
def WrR (key : List Nat) (kn : Nat) (up : Bool) (c : Int) (s : Nat) (k : Int) (body : List Nat) (w : World) (e : Ending) (w' : World) : Prop :=
  Below w.heap.size w w' ∧ (kn = 64 → ∃ v', e = .returned (.tuple #[v', .int .i64 0]) ∧ w'.ownsRow w.heap.size 5 1 v' (wrapL key up c s k body).length (bv (wrapL key up c s k body))) ∧ (¬ kn = 64 → e = .returned (.tuple #[.slice none 0 0, .int .i64 1]))
theorem fits0 {c s k : Int} {bn : Nat} (h : fitsE c s k bn = 0) : 1 ≤ c ∧ c ≤ 1099511627776 ∧ 0 ≤ s ∧ s ≤ 1099511627776 ∧ 0 ≤ k ∧ k ≤ 1099511627776 ∧ (s = 0 ↔ bn = 0) ∧ bn ≤ 16320 := by
  unfold fitsE at h
  split at h
  · omega
  · split at h
    · omega
    · omega
set_option maxRecDepth 100000 in
set_option maxHeartbeats 4000000 in
theorem wrap_bad (kv : Value) (up : Bool) (c s k : Int) (ba : Option Addr) (bn bc : Nat) (w : World) (hE : ¬ fitsE c s k bn = 0) :
    Calls Tryd.prog 24 #[kv, .bool up, frV c s k (.slice ba bn bc)] w fun e w' => e = .returned (.tuple #[.slice none 0 0, .int .i64 (fitsE c s k bn)]) ∧ Below w.heap.size w w' := by
  have b1 : Below w.heap.size w (w.alloc (.cells #[.int .i64 c, .int .i64 s, .int .i64 k, .slice ba bn bc] 37)) := (Below.refl _ _).alloc (Nat.le_refl _) _
  have HF := hide (ffits_any c s k ba bn bc (w.alloc (.cells #[.int .i64 c, .int .i64 s, .int .i64 k, .slice ba bn bc] 37)))
  have HB1 := hide b1
  obtain ⟨E, hEe⟩ : ∃ E, fitsE c s k bn = E := ⟨_, rfl⟩
  rw [hEe] at HF hE ⊢
  clear hEe b1
  have HNE := hide hE
  unfold frV at *
  go_enter Tryd.func24, Tryd.ntmps24
  go_wp2_with fail
  refine Calls.mono (unhide HF) ?_
  rintro e w2 ⟨rfl, b2⟩
  have HB2 := hide ((unhide HB1).trans (b2.mono (unhide HB1).size))
  clear b2 HF HB1
  go_wp2_with fail
  all_goals (first
    | (exfalso; omega)
    | (go_ret2; exact ⟨rfl, unhide HB2⟩)
    | (exfalso; simp at *; omega))

set_option maxRecDepth 100000 in
set_option maxHeartbeats 4000000 in
theorem rwrap_bad (kv : Value) (up : Bool) (c s k : Int) (ba : Option Addr) (bn bc : Nat) (w : World) (hE : ¬ fitsE c s k bn = 0) :
    Calls Tryd.prog 25 #[kv, .bool up, frV c s k (.slice ba bn bc)] w fun e w' => e = .returned (.tuple #[.slice none 0 0, .int .i64 (fitsE c s k bn)]) ∧ Below w.heap.size w w' := by
  have b1 : Below w.heap.size w (w.alloc (.cells #[.int .i64 c, .int .i64 s, .int .i64 k, .slice ba bn bc] 37)) := (Below.refl _ _).alloc (Nat.le_refl _) _
  have HF := hide (rfits_any c s k ba bn bc (w.alloc (.cells #[.int .i64 c, .int .i64 s, .int .i64 k, .slice ba bn bc] 37)))
  have HB1 := hide b1
  obtain ⟨E, hEe⟩ : ∃ E, fitsE c s k bn = E := ⟨_, rfl⟩
  rw [hEe] at HF hE ⊢
  clear hEe b1
  have HNE := hide hE
  unfold frV at *
  go_enter Tryd.func25, Tryd.ntmps25
  go_wp2_with fail
  refine Calls.mono (unhide HF) ?_
  rintro e w2 ⟨rfl, b2⟩
  have HB2 := hide ((unhide HB1).trans (b2.mono (unhide HB1).size))
  clear b2 HF HB1
  go_wp2_with fail
  all_goals (first
    | (exfalso; omega)
    | (go_ret2; exact ⟨rfl, unhide HB2⟩)
    | (exfalso; simp at *; omega))

set_option maxRecDepth 100000 in
set_option maxHeartbeats 4000000 in
theorem wrap_any (ka : Option Addr) (kn kc : Nat) (up : Bool) (c : Int) (s : Nat) (k : Int) (ba : Option Addr) (bn bc : Nat) (key body : List Nat) (w : World) (hT : Lay w) (hk : Byt w (.slice ka kn kc) key) (hb : Byt w (.slice ba bn bc) body) (hk8 : U8 key) (hb8 : U8 body) (hkn : key.length = kn) (hbn : body.length = bn) (hE : fitsE c s k bn = 0) :
    Calls Tryd.prog 24 #[.slice ka kn kc, .bool up, frV c s k (.slice ba bn bc)] w fun e w' => WrR key kn up c s k body w e w' := by
  obtain ⟨i0, hi, hz0, hz1, hz2⟩ := info_parts info5
  obtain ⟨f1, f2, f3, f4, f5, f6, f7, f8⟩ := fits0 hE
  have b1 : Below w.heap.size w (w.alloc (.cells #[.int .i64 c, .int .i64 (s : Int), .int .i64 k, .slice ba bn bc] 37)) := (Below.refl _ _).alloc (Nat.le_refl _) _
  have HF := hide (ffits_any c s k ba bn bc (w.alloc (.cells #[.int .i64 c, .int .i64 (s : Int), .int .i64 k, .slice ba bn bc] 37)))
  rw [hE] at HF
  have hR := RowAt.new w 37 [.int .i64 c, .int .i64 (s : Int), .int .i64 k, .slice ba bn bc]
  have HR := hide hR
  have HB1 := hide b1
  unfold frV at *
  have HT := hide hT
  have HK := hide hk
  have HB := hide hb
  have HK8 := hide hk8
  have HB8 := hide hb8
  have HKN := hide hkn
  have HBN := hide hbn
  have HON := hide (fun w => fonce_any s up w (by omega))
  rw [show (2 * s + (if up = true then 0 else 1)) = onceU s up from rfl] at HON
  have HOL := hide (onceU_lt s up (by omega))
  obtain ⟨O, hO⟩ : ∃ x, onceU s up = x := ⟨_, rfl⟩
  rw [hO] at HON HOL
  have HOE := hide hO
  obtain ⟨HD, hHD⟩ : ∃ x, headL c s k = x := ⟨_, rfl⟩
  have HDL : Hid (HD.length = 24) := hide (by rw [← hHD, headL_len])
  have HD8 : Hid (U8 HD) := hide (hHD ▸ headL_8 c s k)
  have HWE : Hid (wrapL key up c s k body = HD ++ sealL key O HD body) := hide (by rw [wrapL, hHD, hO])
  have HPE : Hid (putN [] (headN c s k) 3 = HD) := hide hHD
  have HF6 := hide f6
  have HF4 := hide f4
  have HF2 := hide f2
  have HF8 := hide f8
  clear b1 hR hk hb hk8 hb8 hkn hbn hO hHD hE hT f1 f2 f3 f4 f5 f6 f7 f8
  go_enter Tryd.func24, Tryd.ntmps24
  go_wp2_with fail
  generalize w.alloc (.cells #[.int .i64 c, .int .i64 (s : Int), .int .i64 k, .slice ba bn bc] 37) = w1 at *
  refine Calls.mono (unhide HF) ?_
  rintro e w2 ⟨rfl, b2⟩
  have R2 := (unhide HR).below b2 (unhide HR).lt
  have c0 : w2.cell? ⟨w.heap.size, 0, none⟩ = some (.int .i64 c) := R2.cell 0
  have c1 : w2.cell? ⟨w.heap.size, 1, none⟩ = some (.int .i64 (s : Int)) := R2.cell 1
  have c2 : w2.cell? ⟨w.heap.size, 2, none⟩ = some (.int .i64 k) := R2.cell 2
  have HR2 := hide R2
  have HB2 := hide ((unhide HB1).trans (b2.mono (unhide HB1).size))
  clear b2 R2 HF HB1 HR
  go_wp2_with fail
  have b3 : Below w2.heap.size w2 (w2.alloc (.cells #[.int .i64 c, .int .i64 (s : Int), .int .i64 k] 3)) := (Below.refl _ _).alloc (Nat.le_refl _) _
  have R3 := RowAt.new w2 3 [.int .i64 c, .int .i64 (s : Int), .int .i64 k]
  have hpt := putm_any (.slice none 0 0) [] (some ⟨w2.heap.size, 0, none⟩) 3 3 (headN c s k) (w2.alloc (.cells #[.int .i64 c, .int .i64 (s : Int), .int .i64 k] 3)) (.inl ⟨rfl, rfl⟩) (by simp) (by omega)
    (.inr ⟨w2.heap.size, 0, rfl, by rw [csize_alloc]; omega, fun i hi => by
      rw [Nat.zero_add]
      match i, hi with
      | 0, _ => exact R3.cell 0
      | 1, _ => exact R3.cell 1
      | 2, _ => exact R3.cell 2⟩)
    (fun i hi => by
      match i, hi with
      | 0, _ => have := unhide HF2; show c ≤ 9223372036854775807; omega
      | 1, _ => have := unhide HF4; show (s : Int) ≤ 9223372036854775807; omega
      | 2, _ => have := unhide HF6; show k ≤ 9223372036854775807; omega)
  rw [unhide HPE, unhide HDL] at hpt
  have HPT := hide hpt
  have HR3 := hide ((unhide HR2).below b3 (unhide HR2).lt)
  have HB3 := hide ((unhide HB2).trans (b3.mono (unhide HB2).size))
  clear b3 R3 hpt c0 c1 c2 HR2 HB2 HPE
  generalize w2.alloc (.cells #[.int .i64 c, .int .i64 (s : Int), .int .i64 k] 3) = w3 at *
  refine Calls.mono (unhide HPT) ?_
  rintro e w4 ⟨v4, rfl, o4, b4⟩
  have Y4 := Byt.of_own (own_cast o4 (unhide HDL).symm rfl)
  obtain ⟨da, dc, hde⟩ := byt_shape Y4
  rw [unhide HDL] at hde
  subst hde
  have R4 := (unhide HR3).below b4 (unhide HR3).lt
  have c1 : w4.cell? ⟨w.heap.size, 1, none⟩ = some (.int .i64 (s : Int)) := R4.cell 1
  have c3 : w4.cell? ⟨w.heap.size, 3, none⟩ = some (.slice ba bn bc) := R4.cell 3
  have B4 := (unhide HB3).trans (b4.mono (unhide HB3).size)
  have HO4 := hide (own_call (own_base o4 (unhide HB3).size) ((Below.refl w4.heap.size w4).drew))
  have HY4 := hide (Y4.call ((Below.refl w4.heap.size w4).drew))
  have HB4 := hide B4.drew
  clear o4 b4 Y4 R4 B4 HPT HR3 HB3
  by_cases hk64 : kn = 64
  · subst hk64
    have HSA := hide (seal_any (.slice ka 64 kc) (.slice da 24 dc) (.slice ba bn bc) key HD body O w4.drew ((unhide HT).below (unhide HB4)) ((unhide HK).call (unhide HB4)) (unhide HY4) ((unhide HB).call (unhide HB4)) (unhide HK8) (unhide HD8) (unhide HB8) (unhide HKN) (by rw [unhide HDL]; omega) (by rw [unhide HBN]; have := unhide HF8; omega) (unhide HOL))
    rw [unhide HBN] at HSA
    go_wp2_with fail
    go_region_held (fun w' => w'.cell? ⟨w.heap.size, 1, none⟩ = some (.int .i64 (s : Int)) ∧ w'.cell? ⟨w.heap.size, 3, none⟩ = some (.slice ba bn bc))
      (first | exact ⟨c1, c3⟩ | exact ⟨k1, k3⟩)
      (first
        | (go_at_call 44; refine Calls.mono (unhide HON _) ?_; rintro e wx ⟨rfl, rfl⟩)
        | (go_at_call 15; refine Calls.mono (unhide HSA) ?_; rintro e w5 ⟨v5, rfl, o5, b5⟩; have k1 := cell_keep b5 (lt_of_cell c1) c1; have k3 := cell_keep b5 (lt_of_cell c3) c3))
    clear k1 k3
    have B5 := (unhide HB4).trans (b5.mono (unhide HB4).size)
    have Y5 : Byt w5 v5 (sealL key O HD body) := Byt.of_own (own_cast o5 (by rw [sealL_len, unhide HBN]) rfl)
    have hl5 : (sealL key O HD body).length = bn + 16 := by rw [sealL_len, unhide HBN]
    obtain ⟨ga, gc, hge⟩ := byt_shape Y5
    rw [hl5] at hge
    subst hge
    have O5 := own_call (unhide HO4) b5
    have S5 := byt_src Y5 hl5
    have L5 : (bv (sealL key O HD body)).length = (bn + 16) * 1 := by rw [bv_len, hl5]; omega
    have s5 := B5.size
    have HB5 := hide B5
    have HO5 := hide O5
    clear o5 b5 B5 Y5 hl5 HSA HO4 HY4 HB4 c1 c3
    go_wp2_with (at_builtin; refine wpList_append_src _ rfl _ _ 22 rfl w.heap.size 5 i0 (.int .u8 0) 1 1 Tryd.underlying22 hi hz0 hz1 hz2 rfl (by decide) _ _ _ rfl O5 ga (bn + 16) gc (bv (sealL key O HD body)) rfl L5 S5.1 S5.2 (bv_one _) ?c3 ?c4 s5 ?_)
    case c3 => have := unhide HF8; unfold maxLen; omega
    case c4 => have := unhide HF8; omega
    intro a7 c7 w7 O7 g7
    have HFF : Hid (w7.ownsRow w.heap.size 5 1 (.slice a7 (24 + (bn + 16)) c7) (wrapL key up c s k body).length (bv (wrapL key up c s k body)) ∧ Below w.heap.size w w7) := hide ⟨own_cast O7 (by rw [wrapL_len, unhide HBN]; omega) (by rw [unhide HWE, bv_append]), (unhide HB5).grown g7 s5 (fun k hk => ((unhide HO5).lt k hk).1)⟩
    clear O7 g7 O5 HO5 HB5 S5 L5 s5
    go_wp2_with fail
    go_ret2
    exact ⟨(unhide HFF).2, fun _ => ⟨_, rfl, (unhide HFF).1⟩, fun h => absurd rfl h⟩
  · have HSN := hide (fun (w : World) => seal_not ka kn kc (.slice da 24 dc) (.slice ba bn bc) O w hk64)
    have HNK := hide hk64
    clear hk64
    go_wp2_with fail
    go_region_held (fun w' => w'.cell? ⟨w.heap.size, 1, none⟩ = some (.int .i64 (s : Int)) ∧ w'.cell? ⟨w.heap.size, 3, none⟩ = some (.slice ba bn bc))
      (exact ⟨c1, c3⟩)
      (first
        | (go_at_call 44; refine Calls.mono (unhide HON _) ?_; rintro e wx ⟨rfl, rfl⟩)
        | (go_at_call 15; refine Calls.mono (unhide HSN _) ?_; rintro e wx ⟨rfl, rfl⟩))
    go_wp2_with fail
    go_ret2
    exact ⟨unhide HB4, fun h => absurd h (unhide HNK), fun _ => rfl⟩
set_option maxRecDepth 100000 in
set_option maxHeartbeats 4000000 in
theorem rwrap_any (ka : Option Addr) (kn kc : Nat) (up : Bool) (c : Int) (s : Nat) (k : Int) (ba : Option Addr) (bn bc : Nat) (key body : List Nat) (w : World) (hk : Byt w (.slice ka kn kc) key) (hb : Byt w (.slice ba bn bc) body) (hk8 : U8 key) (hb8 : U8 body) (hkn : key.length = kn) (hbn : body.length = bn) (hE : fitsE c s k bn = 0) :
    Calls Tryd.prog 25 #[.slice ka kn kc, .bool up, frV c s k (.slice ba bn bc)] w fun e w' => WrR key kn up c s k body w e w' := by
  obtain ⟨i0, hi, hz0, hz1, hz2⟩ := info_parts info5
  obtain ⟨f1, f2, f3, f4, f5, f6, f7, f8⟩ := fits0 hE
  have b1 : Below w.heap.size w (w.alloc (.cells #[.int .i64 c, .int .i64 (s : Int), .int .i64 k, .slice ba bn bc] 37)) := (Below.refl _ _).alloc (Nat.le_refl _) _
  have HF := hide (rfits_any c s k ba bn bc (w.alloc (.cells #[.int .i64 c, .int .i64 (s : Int), .int .i64 k, .slice ba bn bc] 37)))
  rw [hE] at HF
  have hR := RowAt.new w 37 [.int .i64 c, .int .i64 (s : Int), .int .i64 k, .slice ba bn bc]
  have HR := hide hR
  have HB1 := hide b1
  unfold frV at *
  skip
  have HK := hide hk
  have HB := hide hb
  have HK8 := hide hk8
  have HB8 := hide hb8
  have HKN := hide hkn
  have HBN := hide hbn
  have HON := hide (fun w => ronce_any s up w (by omega))
  rw [show (2 * s + (if up = true then 0 else 1)) = onceU s up from rfl] at HON
  have HOL := hide (onceU_lt s up (by omega))
  obtain ⟨O, hO⟩ : ∃ x, onceU s up = x := ⟨_, rfl⟩
  rw [hO] at HON HOL
  have HOE := hide hO
  obtain ⟨HD, hHD⟩ : ∃ x, headL c s k = x := ⟨_, rfl⟩
  have HDL : Hid (HD.length = 24) := hide (by rw [← hHD, headL_len])
  have HD8 : Hid (U8 HD) := hide (hHD ▸ headL_8 c s k)
  have HWE : Hid (wrapL key up c s k body = HD ++ sealL key O HD body) := hide (by rw [wrapL, hHD, hO])
  have HPE : Hid (putN [] (headN c s k) 3 = HD) := hide hHD
  have HF6 := hide f6
  have HF4 := hide f4
  have HF2 := hide f2
  have HF8 := hide f8
  clear b1 hR hk hb hk8 hb8 hkn hbn hO hHD hE f1 f2 f3 f4 f5 f6 f7 f8
  go_enter Tryd.func25, Tryd.ntmps25
  go_wp2_with fail
  generalize w.alloc (.cells #[.int .i64 c, .int .i64 (s : Int), .int .i64 k, .slice ba bn bc] 37) = w1 at *
  refine Calls.mono (unhide HF) ?_
  rintro e w2 ⟨rfl, b2⟩
  have R2 := (unhide HR).below b2 (unhide HR).lt
  have c0 : w2.cell? ⟨w.heap.size, 0, none⟩ = some (.int .i64 c) := R2.cell 0
  have c1 : w2.cell? ⟨w.heap.size, 1, none⟩ = some (.int .i64 (s : Int)) := R2.cell 1
  have c2 : w2.cell? ⟨w.heap.size, 2, none⟩ = some (.int .i64 k) := R2.cell 2
  have HR2 := hide R2
  have HB2 := hide ((unhide HB1).trans (b2.mono (unhide HB1).size))
  clear b2 R2 HF HB1 HR
  go_wp2_with fail
  have b3 : Below w2.heap.size w2 (w2.alloc (.cells #[.int .i64 c, .int .i64 (s : Int), .int .i64 k] 3)) := (Below.refl _ _).alloc (Nat.le_refl _) _
  have R3 := RowAt.new w2 3 [.int .i64 c, .int .i64 (s : Int), .int .i64 k]
  have hpt := refputm_any (.slice none 0 0) [] (some ⟨w2.heap.size, 0, none⟩) 3 3 (headN c s k) (w2.alloc (.cells #[.int .i64 c, .int .i64 (s : Int), .int .i64 k] 3)) (.inl ⟨rfl, rfl⟩) (by simp) (by omega)
    (.inr ⟨w2.heap.size, 0, rfl, by rw [csize_alloc]; omega, fun i hi => by
      rw [Nat.zero_add]
      match i, hi with
      | 0, _ => exact R3.cell 0
      | 1, _ => exact R3.cell 1
      | 2, _ => exact R3.cell 2⟩)
    (fun i hi => by
      match i, hi with
      | 0, _ => have := unhide HF2; show c ≤ 9223372036854775807; omega
      | 1, _ => have := unhide HF4; show (s : Int) ≤ 9223372036854775807; omega
      | 2, _ => have := unhide HF6; show k ≤ 9223372036854775807; omega)
  rw [unhide HPE, unhide HDL] at hpt
  have HPT := hide hpt
  have HR3 := hide ((unhide HR2).below b3 (unhide HR2).lt)
  have HB3 := hide ((unhide HB2).trans (b3.mono (unhide HB2).size))
  clear b3 R3 hpt c0 c1 c2 HR2 HB2 HPE
  generalize w2.alloc (.cells #[.int .i64 c, .int .i64 (s : Int), .int .i64 k] 3) = w3 at *
  refine Calls.mono (unhide HPT) ?_
  rintro e w4 ⟨v4, rfl, o4, b4⟩
  have Y4 := Byt.of_own (own_cast o4 (unhide HDL).symm rfl)
  obtain ⟨da, dc, hde⟩ := byt_shape Y4
  rw [unhide HDL] at hde
  subst hde
  have R4 := (unhide HR3).below b4 (unhide HR3).lt
  have c1 : w4.cell? ⟨w.heap.size, 1, none⟩ = some (.int .i64 (s : Int)) := R4.cell 1
  have c3 : w4.cell? ⟨w.heap.size, 3, none⟩ = some (.slice ba bn bc) := R4.cell 3
  have B4 := (unhide HB3).trans (b4.mono (unhide HB3).size)
  have HO4 := hide (own_call (own_base o4 (unhide HB3).size) ((Below.refl w4.heap.size w4).drew))
  have HY4 := hide (Y4.call ((Below.refl w4.heap.size w4).drew))
  have HB4 := hide B4.drew
  clear o4 b4 Y4 R4 B4 HPT HR3 HB3
  by_cases hk64 : kn = 64
  · subst hk64
    have HSA := hide (rseal_any (.slice ka 64 kc) (.slice da 24 dc) (.slice ba bn bc) key HD body O w4.drew ((unhide HK).call (unhide HB4)) (unhide HY4) ((unhide HB).call (unhide HB4)) (unhide HK8) (unhide HD8) (unhide HB8) (unhide HKN) (by rw [unhide HDL]; omega) (by rw [unhide HBN]; have := unhide HF8; omega) (unhide HOL))
    rw [unhide HBN] at HSA
    go_wp2_with fail
    go_region_held (fun w' => w'.cell? ⟨w.heap.size, 1, none⟩ = some (.int .i64 (s : Int)) ∧ w'.cell? ⟨w.heap.size, 3, none⟩ = some (.slice ba bn bc))
      (first | exact ⟨c1, c3⟩ | exact ⟨k1, k3⟩)
      (first
        | (go_at_call 45; refine Calls.mono (unhide HON _) ?_; rintro e wx ⟨rfl, rfl⟩)
        | (go_at_call 16; refine Calls.mono (unhide HSA) ?_; rintro e w5 ⟨v5, rfl, o5, b5⟩; have k1 := cell_keep b5 (lt_of_cell c1) c1; have k3 := cell_keep b5 (lt_of_cell c3) c3))
    clear k1 k3
    have B5 := (unhide HB4).trans (b5.mono (unhide HB4).size)
    have Y5 : Byt w5 v5 (sealL key O HD body) := Byt.of_own (own_cast o5 (by rw [sealL_len, unhide HBN]) rfl)
    have hl5 : (sealL key O HD body).length = bn + 16 := by rw [sealL_len, unhide HBN]
    obtain ⟨ga, gc, hge⟩ := byt_shape Y5
    rw [hl5] at hge
    subst hge
    have O5 := own_call (unhide HO4) b5
    have S5 := byt_src Y5 hl5
    have L5 : (bv (sealL key O HD body)).length = (bn + 16) * 1 := by rw [bv_len, hl5]; omega
    have s5 := B5.size
    have HB5 := hide B5
    have HO5 := hide O5
    clear o5 b5 B5 Y5 hl5 HSA HO4 HY4 HB4 c1 c3
    go_wp2_with (at_builtin; refine wpList_append_src _ rfl _ _ 22 rfl w.heap.size 5 i0 (.int .u8 0) 1 1 Tryd.underlying22 hi hz0 hz1 hz2 rfl (by decide) _ _ _ rfl O5 ga (bn + 16) gc (bv (sealL key O HD body)) rfl L5 S5.1 S5.2 (bv_one _) ?c3 ?c4 s5 ?_)
    case c3 => have := unhide HF8; unfold maxLen; omega
    case c4 => have := unhide HF8; omega
    intro a7 c7 w7 O7 g7
    have HFF : Hid (w7.ownsRow w.heap.size 5 1 (.slice a7 (24 + (bn + 16)) c7) (wrapL key up c s k body).length (bv (wrapL key up c s k body)) ∧ Below w.heap.size w w7) := hide ⟨own_cast O7 (by rw [wrapL_len, unhide HBN]; omega) (by rw [unhide HWE, bv_append]), (unhide HB5).grown g7 s5 (fun k hk => ((unhide HO5).lt k hk).1)⟩
    clear O7 g7 O5 HO5 HB5 S5 L5 s5
    go_wp2_with fail
    go_ret2
    exact ⟨(unhide HFF).2, fun _ => ⟨_, rfl, (unhide HFF).1⟩, fun h => absurd rfl h⟩
  · have HSN := hide (fun (w : World) => rseal_not ka kn kc (.slice da 24 dc) (.slice ba bn bc) O w hk64)
    have HNK := hide hk64
    clear hk64
    go_wp2_with fail
    go_region_held (fun w' => w'.cell? ⟨w.heap.size, 1, none⟩ = some (.int .i64 (s : Int)) ∧ w'.cell? ⟨w.heap.size, 3, none⟩ = some (.slice ba bn bc))
      (exact ⟨c1, c3⟩)
      (first
        | (go_at_call 45; refine Calls.mono (unhide HON _) ?_; rintro e wx ⟨rfl, rfl⟩)
        | (go_at_call 16; refine Calls.mono (unhide HSN _) ?_; rintro e wx ⟨rfl, rfl⟩))
    go_wp2_with fail
    go_ret2
    exact ⟨unhide HB4, fun h => absurd h (unhide HNK), fun _ => rfl⟩
end Go.Proofs.YthhpnakgiammiaaDoor

namespace Go.Proofs.YthhpnakgiammiaaDoor.Oct
set_option linter.unusedVariables false
set_option linter.unusedSimpArgs false
open Go.ChangeShapes Go.WideShapes Go.ChangeAt Go.RowKit

theorem plain_of {w : World} {a : Addr} {l : List Nat} (h : ∀ (i y : Nat), l[i]? = some y → w.cell? (a.add i) = some (.int .u8 (y : Int))) (hl : 0 < l.length) : ∃ b off, a = ⟨b, off, none⟩ := by
  obtain ⟨b, off, spot⟩ := a
  have := h 0 _ (List.getElem?_eq_getElem hl)
  have hspot : spot = none := by simpa [Addr.add] using World.cell?_spot this
  subst hspot
  exact ⟨b, off, rfl⟩

/-- a place lies in block g from o on: these bytes, so far -/
def Pl (w : World) (g o : Nat) (v : Value) (k : Nat) : Prop :=
  (w.cell? ⟨g, o, none⟩ = some v ∧ w.cell? ⟨g, o + 1, none⟩ = some (.int .i64 (k : Int)) ∧ w.frozen? ⟨g, o, none⟩ = false ∧ w.frozen? ⟨g, o + 1, none⟩ = false) ∧ g < w.heap.size
/-- only the place's two cells, and blocks behind it, have turned -/
def Moved (w w' : World) (g o : Nat) : Prop :=
  Below g w w' ∧ (∀ j, j ≠ o → j ≠ o + 1 → w'.cell? ⟨g, j, none⟩ = w.cell? ⟨g, j, none⟩) ∧ (∀ j, w'.frozen? ⟨g, j, none⟩ = w.frozen? ⟨g, j, none⟩) ∧ ∀ j, j < w.heap.size → j ≠ g → w'.heap[j]? = w.heap[j]?
theorem Moved.refl (w : World) (g o : Nat) : Moved w w g o := ⟨Below.refl _ _, fun _ _ _ => rfl, fun _ => rfl, fun _ _ _ => rfl⟩
theorem Moved.trans {a b c : World} {g o : Nat} (h : Moved a b g o) (k : Moved b c g o) : Moved a c g o :=
  ⟨h.1.trans k.1, fun j h1 h2 => (k.2.1 j h1 h2).trans (h.2.1 j h1 h2), fun j => (k.2.2.1 j).trans (h.2.2.1 j), fun j h1 h2 => (k.2.2.2 j (Nat.lt_of_lt_of_le h1 h.1.size) h2).trans (h.2.2.2 j h1 h2)⟩
theorem Moved.below {w w' : World} {g o : Nat} (hg : g < w.heap.size) (h : Below w.heap.size w w') : Moved w w' g o :=
  ⟨h.mono (Nat.le_of_lt hg), fun j _ _ => h.cell (p := ⟨g, j, none⟩) hg, fun j => h.frozen (p := ⟨g, j, none⟩) hg, fun j h1 _ => h.block j h1⟩
theorem set_other {w : World} {g i j : Nat} (v : Value) (h : i ≠ j) : (w.setCell ⟨g, i, none⟩ v).cell? ⟨g, j, none⟩ = w.cell? ⟨g, j, none⟩ := by
  apply World.cell?_setCell_other
  intro e
  injection e with _ e2 _
  exact h e2
theorem set_same {w : World} {a : Addr} {u : Value} (v : Value) (h : w.cell? a = some u) : (w.setCell a v).cell? a = some v := by
  apply World.cell?_setCell_same
  exact h
theorem Moved.set1 (w : World) (g o : Nat) (v : Value) : Moved w (w.setCell ⟨g, o + 1, none⟩ v) g o :=
  ⟨(Below.refl g w).setCell (Nat.le_refl g) v, fun j h1 h2 => set_other v (fun e => h2 e.symm), fun j => by simp, fun j _ h2 => Below.heap_setCell _ _ _ _ h2⟩
theorem Moved.set0 (w : World) (g o : Nat) (v : Value) : Moved w (w.setCell ⟨g, o, none⟩ v) g o :=
  ⟨(Below.refl g w).setCell (Nat.le_refl g) v, fun j h1 h2 => set_other v (fun e => h1 e.symm), fun j => by simp, fun j _ h2 => Below.heap_setCell _ _ _ _ h2⟩
theorem Pl.below {w w' : World} {g o k : Nat} {v : Value} (h : Pl w g o v k) (hb : Below (g + 1) w w') : Pl w' g o v k := by
  obtain ⟨⟨h0, h1, h2, h3⟩, hs⟩ := h
  refine ⟨⟨cell_keep hb (Nat.lt_succ_self _) h0, cell_keep hb (Nat.lt_succ_self _) h1, ?_, ?_⟩, Nat.lt_of_lt_of_le hs hb.size⟩
  · rw [hb.frozen (p := ⟨g, o, none⟩) (Nat.lt_succ_self _)]; exact h2
  · rw [hb.frozen (p := ⟨g, o + 1, none⟩) (Nat.lt_succ_self _)]; exact h3
theorem Byt.low {w w1 : World} {g : Nat} {v : Value} {l : List Nat} (h : Byt w v l) (hb : Below g w w1) (hg : ∀ a n cap, v = .slice (some a) n cap → 0 < n → a.block < g) : Byt w1 v l := by
  rcases h with h | ⟨a, cap, hv, h1, h2, h3⟩
  · exact .inl h
  · refine .inr ⟨a, cap, hv, h1, h2, fun i y hy => ?_⟩
    have hpos : 0 < l.length := by
      cases l with
      | nil => simp at hy
      | cons x l => simp
    have := h3 i y hy
    refine cell_keep hb ?_ this
    have hlt := hg a _ cap hv hpos
    obtain ⟨b, off, s⟩ := a
    simp only [Addr.add]
    split <;> exact hlt

theorem Pl.put {w : World} {g o k : Nat} {v : Value} (h : Pl w g o v k) (v' : Value) (k' : Nat) :
    Pl ((w.setCell ⟨g, o, none⟩ v').setCell ⟨g, o + 1, none⟩ (.int .i64 (k' : Int))) g o v' k' ∧ Moved w ((w.setCell ⟨g, o, none⟩ v').setCell ⟨g, o + 1, none⟩ (.int .i64 (k' : Int))) g o := by
  obtain ⟨⟨p0, p1, p2, p3⟩, ps⟩ := h
  refine ⟨⟨⟨?_, ?_, ?_, ?_⟩, ?_⟩, (Moved.set0 _ g o _).trans (Moved.set1 _ g o _)⟩
  · rw [set_other _ (by omega)]; exact set_same _ p0
  · refine set_same (u := .int .i64 (k : Int)) _ ?_
    rw [set_other _ (by omega)]; exact p1
  · simpa using p2
  · simpa using p3
  · simpa using ps
/-- bytes that lie below a block -/
def Low (v : Value) (g : Nat) : Prop := ∀ a n cap, v = .slice (some a) n cap → 0 < n → a.block < g
theorem Low.mono {v : Value} {g g' : Nat} (h : Low v g) (hg : g ≤ g') : Low v g' := fun a n cap e hn => Nat.lt_of_lt_of_le (h a n cap e hn) hg

theorem take_byt {w w' : World} {a : Addr} {l : List Nat} {cap k m g n o : Nat} (h : ∀ (i y : Nat), l[i]? = some y → w.cell? (a.add i) = some (.int .u8 (y : Int))) (hn : l.length = n) (hk : k + m ≤ n) (hc : n ≤ cap) (hm : cap ≤ maxLen) (hg : 0 < n → a.block < g) (hb : Moved w w' g o) :
    Byt w' (.slice (some (a.add k)) m (cap - k)) ((l.drop k).take m) := by
  have hlen : ((l.drop k).take m).length = m := by rw [List.length_take, List.length_drop]; omega
  refine .inr ⟨a.add k, cap - k, by rw [hlen], by rw [hlen]; omega, by omega, fun i y hy => ?_⟩
  have hi : i < m := by
    by_cases hi : i < m
    · exact hi
    · rw [List.getElem?_eq_none (by rw [hlen]; omega)] at hy; cases hy
  rw [List.getElem?_take_of_lt hi, List.getElem?_drop] at hy
  rw [Deep.add_add]
  have := h _ y hy
  refine cell_keep hb.1 ?_ this
  have hlt := hg (by omega)
  obtain ⟨b, off, s⟩ := a
  simp only [Addr.add]
  split <;> exact hlt

set_option maxRecDepth 100000 in
set_option maxHeartbeats 400000 in
theorem left_any (g o : Nat) (a : Option Addr) (n cap k : Nat) (w : World) (hp : Pl w g o (.slice a n cap) k) (hk : k ≤ n) (hn : n ≤ maxLen) :
    Calls Tryd.prog 84 #[.pointer (some ⟨g, o, none⟩)] w fun e w' => e = .returned (.int .i64 ((n : Int) - (k : Int))) ∧ ∃ d, w' = w.drewN d := by
  unfold maxLen at hn
  have hF := hp.1
  go_enter Tryd.func84, Tryd.ntmps84
  go_wp2_with fail
  go_quiet (fail)
  go_wp2
  go_ret
  exact ⟨rfl, nq, rfl⟩

set_option maxRecDepth 100000 in
set_option maxHeartbeats 1000000 in
theorem take_short (g o : Nat) (a : Option Addr) (n cap k : Nat) (m : Int) (w : World) (hp : Pl w g o (.slice a n cap) k) (hk : k ≤ n) (hn : n ≤ maxLen) (hm : (n : Int) - (k : Int) < m) :
    Calls Tryd.prog 74 #[.pointer (some ⟨g, o, none⟩), .int .i64 m] w fun e w' => e = .returned (.tuple #[.slice none 0 0, .int .i64 2]) ∧ ∃ d, w' = w.drewN d := by
  go_enter Tryd.func74, Tryd.ntmps74
  go_wp2_with (go_at_call 84; refine (left_any g o a n cap k _ hp hk hn).mono ?_; rintro e w' ⟨rfl, d, rfl⟩)
  go_ret2
  exact ⟨rfl, d, rfl⟩

set_option maxRecDepth 100000 in
set_option maxHeartbeats 1000000 in
theorem take_any (g o : Nat) (v : Value) (l : List Nat) (k m : Nat) (w : World) (hv : Byt w v l) (hp : Pl w g o v k) (hg : Low v g) (hl : l.length ≤ 1000000000) (hk : k + m ≤ l.length) :
    Calls Tryd.prog 74 #[.pointer (some ⟨g, o, none⟩), .int .i64 (m : Int)] w fun e w' => ∃ v', e = .returned (.tuple #[v', .int .i64 0]) ∧ Byt w' v' ((l.drop k).take m) ∧ Pl w' g o v (k + m) ∧ Moved w w' g o ∧ (∀ G, Low v G → Low v' G) := by
  have hv0 := hv
  have hfin : ∀ d, Pl ((w.drewN d).setCell ⟨g, o + 1, none⟩ (.int .i64 ((k + m : Nat) : Int))) g o v (k + m) ∧ Moved w ((w.drewN d).setCell ⟨g, o + 1, none⟩ (.int .i64 ((k + m : Nat) : Int))) g o := by
    intro d
    have hp1 : Pl (w.drewN d) g o v k := hp.below (Joins.below_draws _ _ d)
    obtain ⟨⟨p0, p1, p2, p3⟩, ps⟩ := hp1
    refine ⟨⟨⟨?_, ?_, ?_, ?_⟩, ?_⟩, (Moved.below hp.2 (Joins.below_draws _ _ d)).trans (Moved.set1 _ g o _)⟩
    · rw [set_other _ (by omega)]; exact p0
    · exact set_same _ p1
    · simpa using p2
    · simpa using p3
    · simpa using ps
  have HF := hide hfin
  clear hfin
  rcases hv with ⟨rfl, rfl⟩ | ⟨a, cap, rfl, h1, h2, h3⟩
  · have hk0 : k = 0 := by simp at hk; omega
    have hm0 : m = 0 := by simp at hk; omega
    subst hk0 hm0
    have hF := hp.1
    go_enter Tryd.func74, Tryd.ntmps74
    go_wp2_with (go_at_call 84; refine (left_any g o none 0 0 0 _ hp (Nat.le_refl _) (Nat.zero_le _)).mono ?_; rintro e w' ⟨rfl, d, rfl⟩)
    go_quiet (fail)
    go_wp2
    go_ret2
    have := unhide HF (d + nq)
    refine ⟨_, rfl, .inl ⟨rfl, rfl⟩, ?_, ?_, fun G _ a n cap e => by cases e⟩
    · have q := this.1
      simpa [World.drewN, Nat.add_assoc] using q
    · have q := this.2
      simpa [World.drewN, Nat.add_assoc] using q
  · obtain ⟨n, hn⟩ : ∃ n, l.length = n := ⟨_, rfl⟩
    rw [hn] at h1 hl hk hp hg hv0 HF ⊢
    have HN := hide hn
    have HC := hide h3
    clear h3 hn
    have hF := hp.1
    have g1 : (0 : Int) ≤ (k : Int) := by omega
    have g2 : (k : Int) ≤ (k : Int) + (m : Int) := by omega
    have g3 : (k : Int) + (m : Int) ≤ (cap : Int) := by omega
    have g4 : (k : Int) + (m : Int) ≤ (n : Int) := by omega
    go_enter Tryd.func74, Tryd.ntmps74
    go_wp2_with (go_at_call 84; refine (left_any g o (some a) n cap k _ hp (by omega) (by unfold maxLen; omega)).mono ?_; rintro e w' ⟨rfl, d, rfl⟩)
    have e1 : ((k + m : Nat) : Int) = (k : Int) + (m : Int) := by omega
    have e2 : k + m - k = m := by omega
    by_cases hcap : cap = k
    · have hm0 : m = 0 := by omega
      subst hm0
      subst hcap
      go_quiet (fail)
      go_wp2
      go_ret2
      have hh := unhide HF (d + nq)
      refine ⟨_, rfl, ?_, ?_, ?_, ?_⟩
      · exact .inr ⟨a, 0, by simp, by simp, Nat.zero_le _, fun i y hy => by simp at hy⟩
      · have q := hh.1
        simpa [World.drewN, Nat.add_assoc] using q
      · have q := hh.2
        simpa [World.drewN, Nat.add_assoc] using q
      · intro G _ a' n' cap' e hpos
        injection e with _ e3 _
        omega
    · go_quiet (fail)
      go_wp2
      go_ret2
      have hh := unhide HF (d + nq)
      have hM : Moved w ((w.drewN (d + nq)).setCell ⟨g, o + 1, none⟩ (.int .i64 ((k : Int) + (m : Int)))) g o := by
        have q := hh.2
        rw [e1] at q
        exact q
      refine ⟨_, rfl, ?_, ?_, hM, ?_⟩
      · have q := take_byt (unhide HC) (unhide HN) hk h1 h2 (fun hp => hg a n cap rfl hp) hM
        rw [← e2] at q
        simpa using q
      · have q := hh.1
        rw [e1] at q
        simpa [World.drewN, Nat.add_assoc] using q
      · intro G hG a' n' cap' e hpos
        injection e with e3 e4 _
        injection e3 with e5
        subst e5
        have hlt := hG a n cap rfl (by omega)
        obtain ⟨b, off, s⟩ := a
        simp only [Addr.add]
        split <;> exact hlt

/-- the number that bytes are -/
def numOf (l : List Nat) : Nat := l.foldl (fun u x => u * 256 + x) 0
theorem numOf_take {l : List Nat} {k y : Nat} (h : l[k]? = some y) : numOf (l.take (k + 1)) = numOf (l.take k) * 256 + y := by
  have hk : k < l.length := by
    by_cases hk : k < l.length
    · exact hk
    · rw [List.getElem?_eq_none (by omega)] at h; cases h
  rw [List.take_succ_eq_append_getElem hk, numOf, List.foldl_append]
  rw [List.getElem?_eq_getElem hk] at h
  obtain rfl := Option.some.inj h
  rfl
theorem numOf_lt (l : List Nat) (h : ∀ y ∈ l, y < 256) : numOf l < 256 ^ l.length := by
  have : ∀ (l : List Nat) (c n : Nat), c < 256 ^ n → (∀ y ∈ l, y < 256) → l.foldl (fun u x => u * 256 + x) c < 256 ^ (n + l.length) := by
    intro l
    induction l with
    | nil => intro c n hc _; simpa using hc
    | cons x l ih =>
      intro c n hc hl
      have hx := hl x (List.mem_cons_self ..)
      have := ih (c * 256 + x) (n + 1) (by rw [Nat.pow_succ]; omega) (fun y hy => hl y (List.mem_cons_of_mem _ hy))
      rw [List.length_cons, show n + (l.length + 1) = n + 1 + l.length by omega]
      exact this
  have := this l 0 0 (by decide) h
  simpa [numOf] using this
theorem or_join (u x : Nat) (hu : u < 72057594037927936) (hx : x < 256) : bits .or .u64 ((u : Int) * 256) (x : Int) = ((u * 256 + x : Nat) : Int) := by
  have e : ((u : Int) * 256) = ((u * 256 : Nat) : Int) := by omega
  rw [e, u64_or_nat _ _ (by omega) (by omega)]
  congr 1
  have h : u * 256 = u <<< 8 := by rw [Nat.shiftLeft_eq]
  rw [h, ← Nat.shiftLeft_add_eq_or_of_lt (by omega)]

theorem Pl.fresh {w : World} {v : Value} {k : Nat} : Pl (w.alloc (.cells #[v, .int .i64 (k : Int)] 89)) w.heap.size 0 v k := by
  refine ⟨⟨?_, ?_, ?_, ?_⟩, ?_⟩
  all_goals (simp [go_sem]; done)

theorem byt_len {w : World} {a : Option Addr} {n cap : Nat} {l : List Nat} (h : Byt w (.slice a n cap) l) : l.length = n := by
  rcases h with ⟨e, rfl⟩ | ⟨a', cap', e, _⟩
  · injection e with _ e2 _; exact e2.symm
  · injection e with _ e2 _; exact e2.symm

set_option maxRecDepth 100000 in
set_option maxHeartbeats 2000000 in
theorem within_any (g o : Nat) (a : Option Addr) (n cap : Nat) (l : List Nat) (k : Nat) (lo hi : Int) (w : World) (hv : Byt w (.slice a n cap) l) (hp : Pl w g o (.slice a n cap) k) (hg : Low (.slice a n cap) g) (hl : n ≤ 1000000000) (hk : k + 8 ≤ n) (h256 : ∀ y ∈ l, y < 256)
    (u : Nat) (hu : numOf ((l.drop k).take 8) = u) (hin : lo ≤ (u : Int) ∧ (u : Int) ≤ hi) (hmax : u ≤ 9223372036854775807) :
    Calls Tryd.prog 60 #[.pointer (some ⟨g, o, none⟩), .int .i64 lo, .int .i64 hi] w fun e w' => e = .returned (.tuple #[.int .i64 (u : Int), .int .i64 0]) ∧ Pl w' g o (.slice a n cap) (k + 8) ∧ Moved w w' g o := by
  have hF := hp.1
  have hgz := hp.2
  have hq := Pl.fresh (w := w) (v := .slice a n cap) (k := k)
  have hb0 : Below w.heap.size w (w.alloc (.cells #[.slice a n cap, .int .i64 (k : Int)] 89)) := (Below.refl _ _).alloc (Nat.le_refl _) _
  have hv1 := hv.call hb0
  have hg1 : Low (.slice a n cap) w.heap.size := hg.mono (Nat.le_of_lt hgz)
  have hln := byt_len hv
  have HLN := hide hln
  have HU := hide hu
  have H256 := hide h256
  have hk' : k + 8 ≤ l.length := by rw [hln]; exact hk
  have hl' : l.length ≤ 1000000000 := by rw [hln]; exact hl
  clear hu h256 hln
  go_enter Tryd.func60, Tryd.ntmps60
  go_wp2_with fail
  refine (take_any w.heap.size 0 (.slice a n cap) l k 8 _ hv1 hq hg1 hl' hk').mono ?_
  rintro e w1 ⟨v1, rfl, hv2, hq1, hm1, hg2⟩
  obtain ⟨bs, hbs⟩ : ∃ bs, (l.drop k).take 8 = bs := ⟨_, rfl⟩
  have hbl : bs.length = 8 := by rw [← hbs, List.length_take, List.length_drop]; omega
  have hb256 : ∀ y ∈ bs, y < 256 := fun y hy => unhide H256 y (List.mem_of_mem_drop (List.mem_of_mem_take (by rw [hbs]; exact hy)))
  rw [hbs] at hv2 HU
  rcases hv2 with ⟨_, h0⟩ | ⟨a2, cap2, rfl, c1, c2, c3⟩
  · rw [h0] at hbl; cases hbl
  rw [hbl] at c1 ⊢
  obtain ⟨b2, off2, rfl⟩ := plain_of c3 (by rw [hbl]; decide)
  have hbelow : Below (w.heap.size) w w1 := hb0.trans hm1.1
  have hpw1 : Pl w1 g o (.slice a n cap) k := hp.below (hbelow.mono hgz)
  have HBS := hide hbs
  have HBL := hide hbl
  have HB256 := hide hb256
  have HC3 := hide c3
  clear hbs hbl hb256 c3 hv1 hg1
  have hQF := hq1.1
  have hPF := hpw1.1
  go_wp2_with fail
  go_loop [11, 26] (fun c i => ∃ j : Nat, j ≤ 8 ∧ i = .int .i64 j ∧ c = .int .u64 ((numOf (bs.take j) : Nat) : Int)) (fun _ i => 8 - (intOf i).toNat)
  case atStart => exact ⟨0, by omega, rfl, rfl⟩
  case round =>
    obtain ⟨j, hj, rfl, rfl⟩ := hrel
    have hlt0 := numOf_lt (bs.take j) (fun y hy => unhide HB256 y (List.mem_of_mem_take hy))
    rw [List.length_take, unhide HBL] at hlt0
    by_cases hlt : j < 8
    · have hlt1 : numOf (bs.take j) < 72057594037927936 := by
        have : 256 ^ min j 8 ≤ 256 ^ 7 := Nat.pow_le_pow_right (by decide) (by omega)
        have e : (256 : Nat) ^ 7 = 72057594037927936 := by decide
        omega
      obtain ⟨y, hy⟩ : ∃ y, bs[j]? = some y := ⟨_, List.getElem?_eq_getElem (by rw [unhide HBL]; exact hlt)⟩
      have hcell := unhide HC3 j y hy
      rw [add_plain] at hcell
      have hy256 := unhide HB256 y (List.mem_of_getElem? hy)
      have hnx := numOf_take hy
      clear hlt0
      generalize numOf (bs.take j) = c at *
      have hj1 := or_join c y hlt1 hy256
      have HNX := hide hnx
      clear hnx hy
      have g1 : (0 : Int) ≤ (j : Int) := by omega
      have g2 : (j : Int) < 8 := by omega
      go_wp2_with fail
      go_round
      case rel => exact ⟨j + 1, by omega, by go_num, by rw [unhide HNX]; go_num⟩
      case measure => simp [intOf]; omega
    · have hj8 : j = 8 := by omega
      subst hj8
      have e1 : bs.take 8 = bs := List.take_of_length_le (by rw [unhide HBL]; omega)
      rw [e1, unhide HU]
      clear hlt0 e1
      have t1 : decide ((9223372036854775807 : Int) < (u : Int)) = false := by simp; omega
      have t2 : decide ((u : Int) < lo) = false := by simp; omega
      have t3 : decide (hi < (u : Int)) = false := by simp; omega
      go_wp2_with fail
      go_ret2
      refine ⟨rfl, ?_, ?_⟩
      · have q := (Pl.put hpw1 (.slice a n cap) (k + 8)).1
        simpa using q
      · refine (Moved.below hgz hbelow).trans ?_
        have q := (Pl.put hpw1 (.slice a n cap) (k + 8)).2
        simpa using q

/-- a reader in block g -/
def Rdr (w : World) (g : Nat) (v : Value) (k : Nat) (e : Int) : Prop :=
  Pl w g 0 v k ∧ w.cell? ⟨g, 2, none⟩ = some (.bool true) ∧ w.cell? ⟨g, 3, none⟩ = some (.int .i64 e) ∧ w.frozen? ⟨g, 2, none⟩ = false ∧ w.frozen? ⟨g, 3, none⟩ = false
theorem Rdr.below {w w' : World} {g k : Nat} {v : Value} {e : Int} (h : Rdr w g v k e) (hb : Below (g + 1) w w') : Rdr w' g v k e := by
  obtain ⟨h0, h1, h2, h3, h4⟩ := h
  refine ⟨h0.below hb, cell_keep hb (Nat.lt_succ_self _) h1, cell_keep hb (Nat.lt_succ_self _) h2, ?_, ?_⟩
  · rw [hb.frozen (p := ⟨g, 2, none⟩) (Nat.lt_succ_self _)]; exact h3
  · rw [hb.frozen (p := ⟨g, 3, none⟩) (Nat.lt_succ_self _)]; exact h4
theorem Rdr.moved {w w' : World} {g k k' : Nat} {v : Value} {e : Int} (h : Rdr w g v k e) (hp : Pl w' g 0 v k') (hm : Moved w w' g 0) : Rdr w' g v k' e := by
  obtain ⟨h0, h1, h2, h3, h4⟩ := h
  refine ⟨hp, ?_, ?_, ?_, ?_⟩
  · rw [hm.2.1 2 (by decide) (by decide)]; exact h1
  · rw [hm.2.1 3 (by decide) (by decide)]; exact h2
  · rw [hm.2.2.1 2]; exact h3
  · rw [hm.2.2.1 3]; exact h4
theorem Rdr.err {w : World} {g k : Nat} {v : Value} {e : Int} (h : Rdr w g v k e) (e' : Int) : Rdr (w.setCell ⟨g, 3, none⟩ (.int .i64 e')) g v k e' := by
  obtain ⟨⟨⟨p0, p1, p2, p3⟩, ps⟩, h1, h2, h3, h4⟩ := h
  refine ⟨⟨⟨?_, ?_, ?_, ?_⟩, ?_⟩, ?_, ?_, ?_, ?_⟩
  · rw [set_other _ (by decide)]; exact p0
  · rw [set_other _ (by decide)]; exact p1
  · simpa using p2
  · simpa using p3
  · simpa using ps
  · rw [set_other _ (by decide)]; exact h1
  · exact set_same _ h2
  · simpa using h3
  · simpa using h4
theorem Rdr.fresh {w : World} {v : Value} : Rdr (w.alloc (.cells #[v, .int .i64 0, .bool true, .int .i64 0] 91)) w.heap.size v 0 0 := by
  refine ⟨⟨⟨?_, ?_, ?_, ?_⟩, ?_⟩, ?_, ?_, ?_, ?_⟩
  all_goals (simp [go_sem]; done)
theorem byt_shape {w : World} {v : Value} {l : List Nat} (h : Byt w v l) : ∃ a cap, v = .slice a l.length cap := by
  rcases h with ⟨rfl, rfl⟩ | ⟨a, cap, rfl, _⟩
  · exact ⟨none, 0, rfl⟩
  · exact ⟨some a, cap, rfl⟩
theorem byt_low {w : World} {v : Value} {l : List Nat} (h : Byt w v l) : Low v w.heap.size := by
  rcases h with ⟨rfl, rfl⟩ | ⟨a, cap, rfl, h1, h2, h3⟩
  · intro a n cap e; cases e
  · intro a' n' cap' e hpos
    injection e with e1 e2 _
    injection e1 with e1
    subst e1 e2
    have := lt_of_cell (h3 0 _ (List.getElem?_eq_getElem hpos))
    obtain ⟨b, off, s⟩ := a
    simp only [Addr.add] at this
    split at this <;> exact this

set_option maxRecDepth 100000 in
set_option maxHeartbeats 1000000 in
theorem read_any (v : Value) (l : List Nat) (w : World) (hv : Byt w v l) (hl : l.length ≤ 1000000000) :
    Calls Tryd.prog 46 #[v] w fun e w' => ∃ v' g, e = .returned (.pointer (some ⟨g, 0, none⟩)) ∧ w.heap.size ≤ g ∧ Rdr w' g v' 0 0 ∧ Byt w' v' l ∧ Low v' g ∧ Below w.heap.size w w' := by
  go_enter Tryd.func46, Tryd.ntmps46
  go_wp2_with fail
  refine (clone_any v l _ hv hl).mono ?_
  rintro e w1 ⟨v1, rfl, ho1, hb1⟩
  have hB := Byt.of_own ho1
  have hlow := byt_low hB
  obtain ⟨a1, cap1, rfl⟩ := byt_shape hB
  go_wp2_with fail
  go_ret
  have hb2 : Below w1.heap.size w1 (w1.alloc (.cells #[.slice a1 l.length cap1, .int .i64 0, .bool true, .int .i64 0] 91)) := (Below.refl _ _).alloc (Nat.le_refl _) _
  exact ⟨_, w1.heap.size, rfl, hb1.size, Rdr.fresh, hB.call hb2, hlow, hb1.trans (hb2.mono hb1.size)⟩

set_option maxRecDepth 100000 in
set_option maxHeartbeats 400000 in
theorem made_any (g : Nat) (v : Value) (k : Nat) (e0 : Int) (w : World) (hr : Rdr w g v k e0) :
    Calls Tryd.prog 61 #[.pointer (some ⟨g, 0, none⟩)] w fun e w' => e = .returned (.bool true) ∧ w = w' := by
  have h2 := hr.2
  go_enter Tryd.func61, Tryd.ntmps61
  go_wp2
  go_ret
  exact ⟨rfl, rfl⟩

set_option maxRecDepth 100000 in
set_option maxHeartbeats 400000 in
theorem err_any (g : Nat) (v : Value) (k : Nat) (e0 : Int) (w : World) (hr : Rdr w g v k e0) :
    Calls Tryd.prog 48 #[.pointer (some ⟨g, 0, none⟩)] w fun e w' => e = .returned (.int .i64 e0) ∧ w = w' := by
  have h2 := hr.2
  go_enter Tryd.func48, Tryd.ntmps48
  go_wp2_with (go_at_call 61; refine (made_any g v k e0 _ hr).mono ?_; rintro e w' ⟨rfl, rfl⟩)
  go_ret
  exact ⟨rfl, rfl⟩

set_option maxRecDepth 100000 in
set_option maxHeartbeats 1000000 in
theorem Within_any (g : Nat) (a : Option Addr) (n cap : Nat) (l : List Nat) (k : Nat) (lo hi : Int) (w : World) (hv : Byt w (.slice a n cap) l) (hr : Rdr w g (.slice a n cap) k 0) (hg : Low (.slice a n cap) g) (hl : n ≤ 1000000000) (hk : k + 8 ≤ n) (h256 : ∀ y ∈ l, y < 256)
    (u : Nat) (hu : numOf ((l.drop k).take 8) = u) (hin : lo ≤ (u : Int) ∧ (u : Int) ≤ hi) (hmax : u ≤ 9223372036854775807) :
    Calls Tryd.prog 47 #[.pointer (some ⟨g, 0, none⟩), .int .i64 lo, .int .i64 hi] w fun e w' => e = .returned (.int .i64 (u : Int)) ∧ Rdr w' g (.slice a n cap) (k + 8) 0 ∧ Below g w w' := by
  have HU := hide hu
  have H256 := hide h256
  clear hu h256
  go_enter Tryd.func47, Tryd.ntmps47
  go_wp2_with fail
  refine (err_any g _ k 0 _ hr).mono ?_
  rintro e w0 ⟨rfl, rfl⟩
  go_wp2_with fail
  refine (within_any g 0 a n cap l k lo hi _ hv hr.1 hg hl hk (unhide H256) u (unhide HU) hin hmax).mono ?_
  rintro e w1 ⟨rfl, hp1, hm1⟩
  have hr1 := hr.moved hp1 hm1
  have hc := hr1.2
  go_wp2_with fail
  go_ret
  refine ⟨rfl, hr1.err 0, hm1.1.setCell (Nat.le_refl g) _⟩

end Go.Proofs.YthhpnakgiammiaaDoor.Oct

namespace Go.Proofs.YthhpnakgiammiaaDoor
set_option linter.unusedVariables false
set_option linter.unusedSimpArgs false
open Go.ChangeShapes Go.WideShapes Go.ChangeAt Go.RowKit Go.Joins

theorem results_row_tmp {P : Program} {fn : Func} {p u : Tmp} {ty : TypeId} (h : fn.results = #[.cell p ty, .tmp u]) (tmps : Array Value) (w : World) (g : Nat) (t : TypeId) (cs : Array Value) (fr : Nat × Nat) (d : TypeDesc)
    (hp : tmps.getD p undef = .pointer (some ⟨g, 0, none⟩)) (hg : w.heap[g]? = some (.cells cs t fr))
    (hu : P.underlying ty = some d) (hd : (match d with | .struct _ | .array _ _ => true | _ => false) = true) (hi : (P.info? ty).map (·.size) = some cs.size) :
    (results fn tmps).run P w = .ok (.tuple #[.agg cs, tmps.getD u undef]) w := by
  rw [results_cell_tmp h, hp]
  simp [asAddr, _root_.Go.run_loadVar_row w g t ty cs fr d hg hu hd hi, Result.andThen]
theorem z37 : (Tryd.prog.info? 37).map (·.size) = some 4 := by kernel_rfl
theorem take_piece (l : List Nat) (k : Nat) (hk : k + 8 ≤ 24) : ((l.take 24).drop k).take 8 = (l.drop k).take 8 := by
  rw [List.drop_take, List.take_take, Nat.min_eq_left (by omega)]

set_option maxRecDepth 100000 in
set_option maxHeartbeats 4000000 in
theorem peek_ok (a : Addr) (n cap : Nat) (l : List Nat) (c s k : Nat) (w : World) (hv : Byt w (.slice (some a) n cap) l) (h8 : U8 l) (hn : l.length = n) (h40 : 40 ≤ n) (hn2 : n ≤ 16360)
    (hc : Oct.numOf (l.take 8) = c) (hs : Oct.numOf ((l.drop 8).take 8) = s) (hk : Oct.numOf ((l.drop 16).take 8) = k) (c1 : 1 ≤ c) (c2 : c ≤ 1099511627776) (s2 : s ≤ 1099511627776) (k2 : k ≤ 1099511627776) (hsb : s = 0 ↔ n = 40) :
    Calls Tryd.prog 26 #[.slice (some a) n cap] w fun e w' => e = .returned (.tuple #[frV c s k (.slice none 0 0), .int .i64 0]) ∧ Below w.heap.size w w' := by
  have hcap : n ≤ cap := by
    rcases hv with ⟨e, _⟩ | ⟨a', c', e, h1, _⟩
    · cases e
    · injection e with e1 e2 e3; omega
  have hmn : min (n : Int) 24 = 24 := by omega
  have hcI : (24 : Int) ≤ (cap : Int) := by omega
  obtain ⟨m, hm⟩ : ∃ m : Nat, n - 40 = m := ⟨_, rfl⟩
  have hmI : (n : Int) - 24 - 16 = (m : Int) := by omega
  have HWI := hide (fun w => within_in (m : Int) 0 16320 w (by omega) (by omega))
  have hm0 : s = 0 ↔ m = 0 := by omega
  have HM0 := hide hm0
  clear hm hm0
  have b1 : Below w.heap.size w (w.alloc (.cells #[.int .i64 0, .int .i64 0, .int .i64 0, .slice none 0 0] 37)) := (Below.refl _ _).alloc (Nat.le_refl _) _
  have hR := RowAt.new w 37 [.int .i64 0, .int .i64 0, .int .i64 0, .slice none 0 0]
  have HR := hide hR
  have HB1 := hide b1
  have HRD := hide (Oct.read_any (.slice (some a) 24 cap) (l.take 24) (w.alloc (.cells #[.int .i64 0, .int .i64 0, .int .i64 0, .slice none 0 0] 37)) ((hv.call b1).take 24 (by omega)) (by rw [List.length_take]; omega))
  clear hR b1
  have HN24 : Hid ((l.take 24).length = 24) := hide (by rw [List.length_take]; omega)
  have H256 : Hid (∀ y ∈ l.take 24, y < 256) := hide (fun y hy => h8 y (List.mem_of_mem_take hy))
  have p1 : Oct.numOf (((l.take 24).drop 0).take 8) = c := by rw [take_piece l 0 (by omega), List.drop_zero]; exact hc
  have p2 : Oct.numOf (((l.take 24).drop 8).take 8) = s := by rw [take_piece l 8 (by omega)]; exact hs
  have p3 : Oct.numOf (((l.take 24).drop 16).take 8) = k := by rw [take_piece l 16 (by omega)]; exact hk
  have P1 := hide p1
  have P2 := hide p2
  have P3 := hide p3
  generalize l.take 24 = l24 at *
  have HC1 := hide c1
  have HC2 := hide c2
  have HS2 := hide s2
  have HK2 := hide k2
  have HSB := hide hsb
  have H40 := hide h40
  have HNN := hide hn2
  clear p1 p2 p3 hc hs hk hv h8 hn
  go_enter Tryd.func26, Tryd.ntmps26
  go_wp2_with fail
  generalize w.alloc (.cells #[.int .i64 0, .int .i64 0, .int .i64 0, .slice none 0 0] 37) = w1 at *
  refine Calls.mono (unhide HRD) ?_
  rintro e w2 ⟨v2, g, rfl, hg, r2, y2, low2, b2⟩
  obtain ⟨va, vc, hve⟩ := byt_shape y2
  rw [unhide HN24] at hve
  subst hve
  have W1 := Oct.Within_any g va 24 vc l24 0 1 1099511627776 w2 y2 r2 low2 (by omega) (by omega) (unhide H256) c (unhide P1) ⟨by have := unhide HC1; omega, by have := unhide HC2; omega⟩ (by have := unhide HC2; omega)
  have HW1 := hide W1
  have HY2 := hide y2
  have HL2 := hide low2
  have R2 := (unhide HR).below b2 (unhide HR).lt
  have HR2 := hide R2
  have HGG : Hid (w.heap.size < g) := hide (by have := (unhide HR).lt; omega)
  have HB2 := hide ((unhide HB1).trans (b2.mono (unhide HB1).size))
  clear r2 y2 low2 b2 R2 W1 HRD HR HB1 hg
  go_wp2_with fail
  refine Calls.mono (unhide HW1) ?_
  rintro e w3 ⟨rfl, r3, b3⟩
  have y3 := Oct.Byt.low (unhide HY2) b3 (unhide HL2)
  have W2 := Oct.Within_any g va 24 vc l24 8 0 1099511627776 w3 y3 r3 (unhide HL2) (by omega) (by omega) (unhide H256) s (unhide P2) ⟨by omega, by have := unhide HS2; omega⟩ (by have := unhide HS2; omega)
  have HW2 := hide W2
  have HY3 := hide y3
  have HR3 := hide ((unhide HR2).below b3 (unhide HGG))
  have HB3 := hide ((unhide HB2).trans (b3.mono (Nat.le_of_lt (unhide HGG))))
  clear r3 b3 y3 W2 HW1 HY2 HR2 HB2
  go_wp2_with fail
  refine Calls.mono (unhide HW2) ?_
  rintro e w4 ⟨rfl, r4, b4⟩
  have y4 := Oct.Byt.low (unhide HY3) b4 (unhide HL2)
  have W3 := Oct.Within_any g va 24 vc l24 16 0 1099511627776 w4 y4 r4 (unhide HL2) (by omega) (by omega) (unhide H256) k (unhide P3) ⟨by omega, by have := unhide HK2; omega⟩ (by have := unhide HK2; omega)
  have HW3 := hide W3
  have HR4 := hide ((unhide HR3).below b4 (unhide HGG))
  have HB4 := hide ((unhide HB3).trans (b4.mono (Nat.le_of_lt (unhide HGG))))
  clear r4 b4 y4 W3 HW2 HY3 HR3 HB3
  go_wp2_with fail
  refine Calls.mono (unhide HW3) ?_
  rintro e w5 ⟨rfl, r5, b5⟩
  have hg5 : g < w5.heap.size := lt_of_cell r5.2.1
  have b6 : Below w5.heap.size w5 (w5.alloc (.cells #[.int .i64 (c : Int), .int .i64 (s : Int), .int .i64 (k : Int), .slice none 0 0] 37)) := (Below.refl _ _).alloc (Nat.le_refl _) _
  have HER := hide (Oct.err_any g _ _ 0 _ (r5.below (b6.mono hg5)))
  have hF := RowAt.new w5 37 [.int .i64 (c : Int), .int .i64 (s : Int), .int .i64 (k : Int), .slice none 0 0]
  have HF := hide hF
  have HG5 := hide hg5
  have HB6 := hide b6
  clear hF hg5 b6
  have HR5 := hide ((unhide HR4).below b5 (unhide HGG))
  have HB5 := hide ((unhide HB4).trans (b5.mono (Nat.le_of_lt (unhide HGG))))
  clear r5 b5 HW3 HR4 HB4
  go_wp2_with fail
  have HB7 := hide ((unhide HB5).trans ((unhide HB6).mono (by have := unhide HG5; have := unhide HGG; omega)))
  have HR7 := hide ((unhide HR5).below (unhide HB6) (unhide HR5).lt)
  have cz0 := (unhide HF).cell 1
  obtain ⟨gf, hgf⟩ : ∃ x, w5.heap.size = x := ⟨_, rfl⟩
  have HGF : Hid (w.heap.size < gf) := hide (by have := (unhide HR5).lt; omega)
  rw [hgf] at HF cz0
  clear HR5 HB5 HB6 HG5
  generalize w5.alloc (.cells #[.int .i64 (c : Int), .int .i64 (s : Int), .int .i64 (k : Int), .slice none 0 0] 37) = w6 at *
  refine Calls.mono (unhide HER) ?_
  rintro e wx ⟨rfl, rfl⟩
  have cz : w6.cell? ⟨gf, 1, none⟩ = some (.int .i64 (s : Int)) := cz0
  rw [hgf]
  clear HER cz0
  go_wp2_with fail
  refine Calls.mono (unhide HWI _) ?_
  rintro e wx ⟨rfl, rfl⟩
  obtain ⟨E, hE⟩ : ∃ E : Array Value, ([.int .i64 (c : Int), .int .i64 (s : Int), .int .i64 (k : Int), .slice none 0 0] : List Value).toArray = E := ⟨_, rfl⟩
  obtain ⟨Z, hZ⟩ : ∃ E : Array Value, ([.int .i64 0, .int .i64 0, .int .i64 0, .slice none 0 0] : List Value).toArray = E := ⟨_, rfl⟩
  have HE1 := hide ((unhide HF).arr hE)
  have HE2 := hide ((unhide HR7).arr hZ)
  have HES : Hid (E.size = 4) := hide (by rw [← hE]; rfl)
  have HZS : Hid (Z.size = 4) := hide (by rw [← hZ]; rfl)
  have HEO : Hid (E.all (·.oneCell') = true) := hide (by rw [← hE]; simp only [List.all_toArray, List.all_cons, List.all_nil, Bool.and_true]; rfl)
  have HEE := hide hE
  clear hE hZ
  obtain ⟨b, hb1, hb2⟩ : ∃ b, ((s : Int) == 0) = b ∧ ((m : Int) == 0) = b := by
    have h0 := unhide HM0
    by_cases h : s = 0
    · have h' := h0.1 h
      subst h h'
      exact ⟨true, rfl, rfl⟩
    · have h' : ¬ m = 0 := fun e => h (h0.2 e)
      exact ⟨false, by simp [h], by simp [h']⟩
  have hbx : (b == b) = true := by cases b <;> rfl
  have hbn : (!(b == b)) = false := by cases b <;> rfl
  have hbm : (b != b) = false := by cases b <;> rfl
  go_wp2_with (first
    | (refine wpList_load_row rfl 37 _ rfl gf (by kernel_rfl) 37 E (0, 0) _ (unhide HE1) Tryd.underlying37 rfl (by rw [z37, unhide HES]) ?_)
    | (refine wpList_store_row rfl 37 _ _ rfl w.heap.size E (by kernel_rfl) (by kernel_rfl) 37 Z (unhide HE2) (by rw [z37, unhide HES]) (by rw [unhide HES, unhide HZS]) (unhide HEO) ?_))
  refine bodyPost_ret (results_row_tmp Tryd.results26 _ _ w.heap.size 37 E (0, 0) _ rfl (setRow_heap _ _ _ _ _ _ (unhide HE2)) Tryd.underlying37 rfl (by rw [z37, unhide HES])) rfl ⟨?_, ?_⟩
  · rw [← unhide HEE]
    rfl
  · exact Below.trans (unhide HB7) ⟨rfl, rfl, rfl, by simp [World.setRow], fun k hk => setRow_other _ _ _ _ (by omega)⟩
end Go.Proofs.YthhpnakgiammiaaDoor

namespace Go.Proofs.YthhpnakgiammiaaDoor
set_option linter.unusedVariables false
set_option linter.unusedSimpArgs false
open Go.ChangeShapes Go.WideShapes Go.ChangeAt Go.RowKit Go.Joins

def UnR (key : List Nat) (O : Nat) (c k : Nat) (l : List Nat) (w : World) (e : Ending) (w' : World) : Prop :=
  Below w.heap.size w w' ∧ (l.drop 24 = tagL key O (l.take 24) [] → e = .returned (.tuple #[frV c 0 k (.slice none 0 0), .int .i64 0])) ∧ (¬ l.drop 24 = tagL key O (l.take 24) [] → e = .returned (.tuple #[frV 0 0 0 (.slice none 0 0), .int .i64 121]))
set_option maxRecDepth 100000 in
set_option maxHeartbeats 4000000 in
theorem unwrap0 (ka : Option Addr) (kc : Nat) (up : Bool) (a : Addr) (cap : Nat) (key l : List Nat) (c k : Nat) (w : World) (hT : Lay w) (hK : Byt w (.slice ka 64 kc) key) (hk8 : U8 key) (hkl : key.length = 64) (hv : Byt w (.slice (some a) 40 cap) l) (h8 : U8 l) (hn : l.length = 40)
    (hc : Oct.numOf (l.take 8) = c) (hs : Oct.numOf ((l.drop 8).take 8) = 0) (hk : Oct.numOf ((l.drop 16).take 8) = k) (c1 : 1 ≤ c) (c2 : c ≤ 1099511627776) (k2 : k ≤ 1099511627776) :
    Calls Tryd.prog 28 #[.slice ka 64 kc, .bool up, .slice (some a) 40 cap] w fun e w' => UnR key (onceU 0 up) c k l w e w' := by
  obtain ⟨O, hO⟩ : ∃ x, onceU 0 up = x := ⟨_, rfl⟩
  rw [hO]
  have HOE := hide hO
  clear hO
  have hcap : 40 ≤ cap := by
    rcases hv with ⟨e, _⟩ | ⟨a', c', e, h1, _⟩
    · cases e
    · injection e with e1 e2 e3; omega
  have b1 : Below w.heap.size w (w.alloc (.cells #[.int .i64 0, .int .i64 0, .int .i64 0, .slice none 0 0] 37)) := (Below.refl _ _).alloc (Nat.le_refl _) _
  have hR := RowAt.new w 37 [.int .i64 0, .int .i64 0, .int .i64 0, .slice none 0 0]
  have HR := hide hR
  have HB1 := hide b1
  have HPK := hide (peek_ok a 40 cap l c 0 k (w.alloc (.cells #[.int .i64 0, .int .i64 0, .int .i64 0, .slice none 0 0] 37)) (hv.call b1) h8 hn (by omega) (by omega) hc hs hk c1 c2 (by omega) k2 (by simp))
  have HT := hide hT
  have HK := hide hK
  have HK8 := hide hk8
  have HKL := hide hkl
  have HV := hide hv
  have H8 := hide h8
  have HN := hide hn
  have hci : (24 : Int) ≤ (cap : Int) := by omega
  have hcn : ¬ cap = 24 := by omega
  rw [frV] at HPK
  clear hR b1 hT hK hk8 hkl hv h8 hn hc hs hk c1 c2 k2
  go_enter Tryd.func28, Tryd.ntmps28
  go_wp2_with fail
  generalize w.alloc (.cells #[.int .i64 0, .int .i64 0, .int .i64 0, .slice none 0 0] 37) = w1 at *
  refine Calls.mono (unhide HPK) ?_
  rintro e w2 ⟨rfl, b2⟩
  have HB2 := hide ((unhide HB1).trans (b2.mono (unhide HB1).size))
  have HR2 := hide ((unhide HR).below b2 (unhide HR).lt)
  clear b2 HPK HB1 HR
  have b3 : Below w2.heap.size w2 (w2.alloc (.cells #[.int .i64 (c : Int), .int .i64 0, .int .i64 (k : Int), .slice none 0 0] 37)) := (Below.refl _ _).alloc (Nat.le_refl _) _
  have hF := RowAt.new w2 37 [.int .i64 (c : Int), .int .i64 0, .int .i64 (k : Int), .slice none 0 0]
  have B3 := (unhide HB2).trans (b3.mono (unhide HB2).size)
  have R3 := (unhide HR2).below b3 (unhide HR2).lt
  have hcw : (w2.alloc (.cells #[.int .i64 (c : Int), .int .i64 0, .int .i64 (k : Int), .slice none 0 0] 37)).cell? ⟨w2.heap.size, 1, none⟩ = some (.int .i64 0) := hF.cell 1
  have HGF : Hid (w.heap.size < w2.heap.size) := hide (unhide HR2).lt
  have D3 := B3.drew
  have hsl : (l.drop 24).length = 16 := by rw [List.length_drop, unhide HN]
  have hop := open_any (.slice ka 64 kc) (.slice (some a) 24 cap) (.slice (some (a.add 24)) 16 (cap - 24)) key (l.take 24) (l.drop 24) (onceU 0 up) (w2.alloc (.cells #[.int .i64 (c : Int), .int .i64 0, .int .i64 (k : Int), .slice none 0 0] 37)).drew ((unhide HT).below D3) ((unhide HK).call D3) (((unhide HV).call D3).take 24 (by omega)) (((unhide HV).call D3).drop 24 (by omega)) (unhide HK8) (fun y hy => unhide H8 y (List.mem_of_mem_take hy)) (fun y hy => unhide H8 y (List.mem_of_mem_drop hy)) (unhide HKL) (by rw [List.length_take, unhide HN]; omega) (by rw [hsl]; omega) (by rw [hsl]; omega) (onceU_lt 0 up (by omega))
  rw [hsl, show 16 - 16 = 0 from rfl, List.take_zero, List.drop_zero] at hop
  have HOP := hide hop
  have HON := hide (fun w => fonce_any 0 up w (by omega))
  rw [show (2 * 0 + (if up = true then 0 else 1)) = onceU 0 up from rfl] at HON
  have HFr := hide hF
  have HB3 := hide D3
  have HR3 := hide (R3.below ((Below.refl _ (w2.alloc (.cells #[.int .i64 (c : Int), .int .i64 0, .int .i64 (k : Int), .slice none 0 0] 37))).drew) R3.lt)
  clear b3 B3 R3 D3 hsl hop HR2 HB2 hF
  rw [unhide HOE] at HOP HON
  obtain ⟨gf, hgf⟩ : ∃ x, w2.heap.size = x := ⟨_, rfl⟩
  rw [hgf] at HFr HGF hcw
  by_cases hq : l.drop 24 = tagL key O (l.take 24) []
  · have HQ := hide hq
    clear hq
    go_wp2_with fail
    try rw [hgf]
    generalize w2.alloc (.cells #[.int .i64 (c : Int), .int .i64 0, .int .i64 (k : Int), .slice none 0 0] 37) = w3 at *
    go_region_held (fun w' => w'.cell? ⟨gf, 1, none⟩ = some (.int .i64 0))
      (first | exact hcw | exact k4)
      (first
        | (go_at_call 44; refine Calls.mono (unhide HON _) ?_; rintro e wx ⟨rfl, rfl⟩)
        | (go_at_call 17; refine Calls.mono (unhide HOP) ?_; rintro e w4 ⟨b4, q4, q5⟩; obtain ⟨v4, rfl, o4⟩ := q4 (unhide HQ); have k4 := cell_keep b4 (lt_of_cell hcw) hcw))
    all_goals (
      have HB5 := hide ((unhide HB3).trans (b4.mono (unhide HB3).size))
      have F4 : RowAt w4 gf 37 [.int .i64 (c : Int), .int .i64 0, .int .i64 (k : Int), .slice none 0 0] := (unhide HFr).drew.below b4 (unhide HFr).drew.lt
      have R4 : RowAt w4 w.heap.size 37 [.int .i64 0, .int .i64 0, .int .i64 0, .slice none 0 0] := (unhide HR3).below b4 (unhide HR3).lt
      obtain ⟨E, hE⟩ : ∃ E : Array Value, ([.int .i64 (c : Int), .int .i64 0, .int .i64 (k : Int), .slice none 0 0] : List Value).toArray = E := ⟨_, rfl⟩
      obtain ⟨Z, hZ⟩ : ∃ E : Array Value, ([.int .i64 0, .int .i64 0, .int .i64 0, .slice none 0 0] : List Value).toArray = E := ⟨_, rfl⟩
      have HE1 := hide (F4.arr hE)
      have HE2 := hide (R4.arr hZ)
      have HES : Hid (E.size = 4) := hide (by rw [← hE]; rfl)
      have HZS : Hid (Z.size = 4) := hide (by rw [← hZ]; rfl)
      have HEO : Hid (E.all (·.oneCell') = true) := hide (by rw [← hE]; simp only [List.all_toArray, List.all_cons, List.all_nil, Bool.and_true]; rfl)
      have HZO : Hid (Z.all (·.oneCell') = true) := hide (by rw [← hZ]; simp only [List.all_toArray, List.all_cons, List.all_nil, Bool.and_true]; rfl)
      have HEE := hide hE
      have HZZ := hide hZ
      clear b4 F4 R4 q4 q5 o4 hE hZ HOP HON HB3 HR3 HFr hcw
      go_wp2_with (first
        | (refine wpList_load_row rfl 37 _ rfl gf (by kernel_rfl) 37 E (0, 0) _ (unhide HE1) Tryd.underlying37 rfl (by rw [z37, unhide HES]) ?_)
        | (refine wpList_store_row rfl 37 _ _ rfl w.heap.size E (by kernel_rfl) (by kernel_rfl) 37 Z (unhide HE2) (by rw [z37, unhide HES]) (by rw [unhide HES, unhide HZS]) (unhide HEO) ?_))
      refine bodyPost_ret (results_row_tmp Tryd.results28 _ _ w.heap.size 37 E (0, 0) _ rfl (setRow_heap _ _ _ _ _ _ (unhide HE2)) Tryd.underlying37 rfl (by rw [z37, unhide HES])) rfl ⟨?_, fun _ => ?_, fun h => absurd (unhide HQ) h⟩
      · exact Below.trans (unhide HB5) ⟨rfl, rfl, rfl, by simp [World.setRow], fun k hk => setRow_other _ _ _ _ (by omega)⟩
      · rw [← unhide HEE]
        rfl)
  · have HQ := hide hq
    clear hq
    go_wp2_with fail
    try rw [hgf]
    generalize w2.alloc (.cells #[.int .i64 (c : Int), .int .i64 0, .int .i64 (k : Int), .slice none 0 0] 37) = w3 at *
    go_region_held (fun w' => w'.cell? ⟨gf, 1, none⟩ = some (.int .i64 0))
      (first | exact hcw | exact k4)
      (first
        | (go_at_call 44; refine Calls.mono (unhide HON _) ?_; rintro e wx ⟨rfl, rfl⟩)
        | (go_at_call 17; refine Calls.mono (unhide HOP) ?_; rintro e w4 ⟨b4, q4, q5⟩; obtain rfl := q5 (unhide HQ); have k4 := cell_keep b4 (lt_of_cell hcw) hcw))
    all_goals (
      have HB5 := hide ((unhide HB3).trans (b4.mono (unhide HB3).size))
      have F4 : RowAt w4 gf 37 [.int .i64 (c : Int), .int .i64 0, .int .i64 (k : Int), .slice none 0 0] := (unhide HFr).drew.below b4 (unhide HFr).drew.lt
      have R4 : RowAt w4 w.heap.size 37 [.int .i64 0, .int .i64 0, .int .i64 0, .slice none 0 0] := (unhide HR3).below b4 (unhide HR3).lt
      obtain ⟨E, hE⟩ : ∃ E : Array Value, ([.int .i64 (c : Int), .int .i64 0, .int .i64 (k : Int), .slice none 0 0] : List Value).toArray = E := ⟨_, rfl⟩
      obtain ⟨Z, hZ⟩ : ∃ E : Array Value, ([.int .i64 0, .int .i64 0, .int .i64 0, .slice none 0 0] : List Value).toArray = E := ⟨_, rfl⟩
      have HE1 := hide (F4.arr hE)
      have HE2 := hide (R4.arr hZ)
      have HES : Hid (E.size = 4) := hide (by rw [← hE]; rfl)
      have HZS : Hid (Z.size = 4) := hide (by rw [← hZ]; rfl)
      have HEO : Hid (E.all (·.oneCell') = true) := hide (by rw [← hE]; simp only [List.all_toArray, List.all_cons, List.all_nil, Bool.and_true]; rfl)
      have HZO : Hid (Z.all (·.oneCell') = true) := hide (by rw [← hZ]; simp only [List.all_toArray, List.all_cons, List.all_nil, Bool.and_true]; rfl)
      have HEE := hide hE
      have HZZ := hide hZ
      clear b4 F4 R4 q4 q5 hE HOP HON HB3 HR3 HFr hcw HZZ
      subst hZ
      go_wp2_with (first
        | (refine wpList_store_row rfl 37 _ _ rfl w.heap.size ([.int .i64 0, .int .i64 0, .int .i64 0, .slice none 0 0] : List Value).toArray rfl rfl 37 ([.int .i64 0, .int .i64 0, .int .i64 0, .slice none 0 0] : List Value).toArray (unhide HE2) (by rw [z37, unhide HZS]) (by rw [unhide HZS]) (unhide HZO) ?_))
      refine bodyPost_ret (results_row_tmp Tryd.results28 _ _ w.heap.size 37 ([.int .i64 0, .int .i64 0, .int .i64 0, .slice none 0 0] : List Value).toArray (0, 0) _ rfl (setRow_heap _ _ _ _ _ _ (unhide HE2)) Tryd.underlying37 rfl (by rw [z37, unhide HZS])) rfl ⟨?_, fun h => absurd h (unhide HQ), fun _ => ?_⟩
      · exact Below.trans (unhide HB5) ⟨rfl, rfl, rfl, by simp [World.setRow], fun k hk => setRow_other _ _ _ _ (by omega)⟩
      · rfl)
end Go.Proofs.YthhpnakgiammiaaDoor

namespace Go.Proofs.YthhpnakgiammiaaDoor
set_option linter.unusedVariables false
set_option linter.unusedSimpArgs false
open Go.ChangeShapes Go.WideShapes Go.ChangeAt Go.RowKit Go.Joins

def KK : List Nat := (keyAll (keyedL [115] (putN [] (keyN 1 2) 2)) 2).take 64
def HH : List Nat := [0, 0, 0, 0, 0, 0, 0, 2, 0, 0, 0, 0, 0, 0, 0, 0, 0, 0, 0, 0, 0, 0, 0, 3]
theorem num_head : headL 2 ((0 : Nat) : Int) 3 = HH := by kernel_rfl
set_option maxRecDepth 100000 in
theorem num_frame : decide (tagL KK 0 HH [] = tagL KK 1 HH []) = false := by kernel_rfl
theorem fkey_s (s : List Nat) (h : s = [115]) : fkeyL s 1 2 = KK := by
  subst h
  rw [fkeyL, KK]
  exact keyAll_take _ 2 253 64 (by omega)
theorem num_ne : ¬ tagL KK 0 HH [] = tagL KK 1 HH [] := of_decide_eq_false num_frame
theorem tk_nil (key : List Nat) (o : Nat) : tkL key o [] = [] := List.eq_nil_of_length_eq_zero (tkL_len key o [])
theorem wrap_parts (key : List Nat) (up : Bool) : (wrapL key up 2 0 3 []).take 24 = HH ∧ (wrapL key up 2 0 3 []).drop 24 = tagL key (onceU 0 up) HH [] := by
  have hl : HH.length = 24 := rfl
  have e : wrapL key up 2 0 3 [] = HH ++ tagL key (onceU 0 up) HH [] := by rw [wrapL, num_head, sealL, tk_nil]; rfl
  rw [e]
  exact ⟨by rw [← hl, List.take_left], by rw [← hl, List.drop_left]⟩
theorem wrap_nums (key : List Nat) (up : Bool) : Oct.numOf ((wrapL key up 2 0 3 []).take 8) = 2 ∧ Oct.numOf (((wrapL key up 2 0 3 []).drop 8).take 8) = 0 ∧ Oct.numOf (((wrapL key up 2 0 3 []).drop 16).take 8) = 3 := by
  have h := (wrap_parts key up).1
  have h0 : (wrapL key up 2 0 3 []).take 8 = HH.take 8 := by rw [← h, List.take_take, Nat.min_eq_left (by omega)]
  have h1 : ((wrapL key up 2 0 3 []).drop 8).take 8 = (HH.drop 8).take 8 := by rw [← h]; exact (take_piece _ 8 (by omega)).symm
  have h2 : ((wrapL key up 2 0 3 []).drop 16).take 8 = (HH.drop 16).take 8 := by rw [← h]; exact (take_piece _ 16 (by omega)).symm
  rw [h0, h1, h2]
  exact ⟨rfl, rfl, rfl⟩
theorem wrap_8 (key : List Nat) (up : Bool) : U8 (wrapL key up 2 0 3 []) := u8_app (headL_8 _ _ _) (u8_app (tkL_8 _ _ (fun y hy => by cases hy)) (tagL_8 _ _ _ _))
end Go.Proofs.YthhpnakgiammiaaDoor

namespace Go.Proofs.YthhpnakgiammiaaDoor
set_option linter.unusedVariables false
set_option linter.unusedSimpArgs false
open Go.ChangeShapes Go.WideShapes Go.ChangeAt Go.RowKit Go.Joins

def FLay (w : World) : Prop := Lay w ∧ FTab w
theorem FLay.below {w w' : World} (h : FLay w) (hb : Below w.heap.size w w') : FLay w' := ⟨h.1.below hb, Tab.below h.2 hb (Tab.lt h.2)⟩
theorem fits_ex : fitsE 2 ((0 : Nat) : Int) 3 0 = 0 := by decide
set_option maxRecDepth 100000 in
set_option maxHeartbeats 4000000 in
theorem fawake_any (w : World) (hT : FLay w) : Calls Tryd.prog 21 #[] w fun e w' => e = .returned (.bool true) ∧ Below w.heap.size w w' := by
  have HT := hide hT
  have HPB := hide (put_beat w hT.2)
  rw [msgBeat] at HPB
  clear hT
  go_enter Tryd.func21, Tryd.ntmps21
  go_wp2_with fail
  refine Calls.mono (unhide HPB) ?_
  rintro e w2 ⟨pa, pc, rfl, b2⟩
  have HB2 := hide b2
  clear b2 HPB
  go_wp2_with fail
  have hky := fkey_any ⟨#[115]⟩ 1 2 w2 ((unhide HT).below (unhide HB2)).1.1 (by decide) (by decide) (by decide)
  rw [fkey_s _ (show sb ⟨#[115]⟩ = [115] from rfl)] at hky
  have HKY := hide hky
  have HKL : Hid (KK.length = 64) := hide (by rw [← fkey_s [115] rfl, fkeyL_len])
  have HK8 : Hid (U8 KK) := hide (by rw [← fkey_s [115] rfl]; exact fkeyL_8 _ _ _)
  have HNE := hide num_ne
  have HWP := hide (wrap_parts KK true)
  have HWN := hide (wrap_nums KK true)
  have HW8 := hide (wrap_8 KK true)
  have HWL : Hid ((wrapL KK true 2 0 3 []).length = 40) := hide (wrapL_len _ _ _ _ _ _)
  clear hky
  obtain ⟨K, hK⟩ : ∃ x, KK = x := ⟨_, rfl⟩
  rw [hK] at HKY HKL HK8 HNE HWP HWN HW8 HWL
  have HWR := hide (fun (ka : Option Addr) (kc : Nat) (wx : World) (hk : Byt wx (.slice ka 64 kc) K) (hl : Lay wx) => wrap_any ka 64 kc true 2 0 3 none 0 0 K [] wx hl hk (.inl ⟨rfl, rfl⟩) (unhide HK8) (fun y hy => by cases hy) (unhide HKL) rfl fits_ex)
  simp only [frV, show ((0 : Nat) : Int) = 0 from rfl] at HWR
  obtain ⟨L, hL⟩ : ∃ x, wrapL K true 2 0 3 [] = x := ⟨_, rfl⟩
  have HLE := hide hL
  rw [hL] at HWP HWN HW8 HWL
  clear hK hL
  refine Calls.mono (unhide HKY) ?_
  rintro e w3 ⟨v3, rfl, y3, b3⟩
  obtain ⟨ka, kc, hke⟩ := byt_shape y3
  rw [unhide HKL] at hke
  subst hke
  have B3 := (unhide HB2).trans (b3.mono (unhide HB2).size)
  have HW3 := hide (unhide HWR ka kc w3 y3 ((unhide HT).below B3).1)
  have HY3 := hide y3
  have HB3 := hide B3
  clear y3 b3 B3 HKY HWR HB2
  go_wp2_with fail
  refine Calls.mono (unhide HW3) ?_
  rintro e w4 ⟨b4, q4, q5⟩
  obtain ⟨v4, rfl, o4⟩ := q4 rfl
  clear q4 q5
  rw [unhide HLE, unhide HWL] at o4
  have y4 : Byt w4 v4 L := Byt.of_own (own_cast o4 (unhide HWL).symm rfl)
  obtain ⟨wa, wc, hwe⟩ : ∃ wa wc, v4 = .slice (some wa) 40 wc := by
    rcases y4 with ⟨_, h⟩ | ⟨a, c, h, _⟩
    · have := unhide HWL; rw [h] at this; cases this
    · exact ⟨a, c, by rw [h, unhide HWL]⟩
  subst hwe
  have B4 := (unhide HB3).trans (b4.mono (unhide HB3).size)
  have hu1 := unwrap0 ka kc true wa wc K L 2 3 w4 ((unhide HT).below B4).1 ((unhide HY3).call b4) (unhide HK8) (unhide HKL) y4 (unhide HW8) (unhide HWL) (unhide HWN).1 (unhide HWN).2.1 (unhide HWN).2.2 (by omega) (by omega) (by omega)
  have HU1 := hide hu1
  have HU2 := hide (fun (wx : World) (hb : Below w4.heap.size w4 wx) => unwrap0 ka kc false wa wc K L 2 3 wx (((unhide HT).below B4).1.below hb) (((unhide HY3).call b4).call hb) (unhide HK8) (unhide HKL) (y4.call hb) (unhide HW8) (unhide HWL) (unhide HWN).1 (unhide HWN).2.1 (unhide HWN).2.2 (by omega) (by omega) (by omega))
  have HB4 := hide B4
  clear b4 o4 y4 B4 hu1 HW3 HY3 HB3
  go_wp2_with fail
  refine Calls.mono (unhide HU1) ?_
  rintro e w5 ⟨b5, q5, q6⟩
  have he5 := q5 (by rw [(unhide HWP).1, (unhide HWP).2])
  rw [frV, show ((2 : Nat) : Int) = 2 from rfl, show ((3 : Nat) : Int) = 3 from rfl] at he5
  subst he5
  have HB5 := hide b5
  have HB5' := hide ((unhide HB4).trans (b5.mono (unhide HB4).size))
  clear b5 q5 q6 HU1
  have b6 : Below w5.heap.size w5 (w5.alloc (.cells #[.int .i64 2, .int .i64 0, .int .i64 3, .slice none 0 0] 37)) := (Below.refl _ _).alloc (Nat.le_refl _) _
  have R6 := RowAt.new w5 37 [.int .i64 2, .int .i64 0, .int .i64 3, .slice none 0 0]
  have HU3 := hide (unhide HU2 (w5.alloc (.cells #[.int .i64 2, .int .i64 0, .int .i64 3, .slice none 0 0] 37)) ((unhide HB5).trans (b6.mono (unhide HB5).size)))
  have HR6 := hide R6
  have HB6 := hide ((unhide HB5').trans (b6.mono (unhide HB5').size))
  clear b6 R6 HU2 HB5 HB5'
  go_wp2_with fail
  obtain ⟨gx, hgx⟩ : ∃ x, w5.heap.size = x := ⟨_, rfl⟩
  rw [hgx] at HR6
  try rw [hgx]
  generalize w5.alloc (.cells #[.int .i64 2, .int .i64 0, .int .i64 3, .slice none 0 0] 37) = w6 at *
  refine Calls.mono (unhide HU3) ?_
  rintro e w7 ⟨b7, q5, q6⟩
  have he7 := q6 (by rw [(unhide HWP).1, (unhide HWP).2]; exact unhide HNE)
  rw [frV] at he7
  subst he7
  have b8 : Below w7.heap.size w7 (w7.alloc (.cells #[.int .i64 0, .int .i64 0, .int .i64 0, .slice none 0 0] 37)) := (Below.refl _ _).alloc (Nat.le_refl _) _
  have R7 := (unhide HR6).below b7 (unhide HR6).lt
  have cx : (w7.alloc (.cells #[.int .i64 0, .int .i64 0, .int .i64 0, .slice none 0 0] 37)).cell? ⟨gx, 2, none⟩ = some (.int .i64 3) := (R7.below b8 R7.lt).cell 2
  have B7 := (unhide HB6).trans (b7.mono (unhide HB6).size)
  have HB7 := hide (B7.trans (b8.mono B7.size))
  clear b8 R7 B7
  clear b7 q5 q6 HU3 HB6 HR6
  go_wp2_with fail
  go_ret
  exact ⟨rfl, unhide HB7⟩
end Go.Proofs.YthhpnakgiammiaaDoor

namespace Go.Proofs.YthhpnakgiammiaaDoor
set_option linter.unusedVariables false
set_option linter.unusedSimpArgs false
open Go.ChangeShapes Go.WideShapes Go.ChangeAt Go.RowKit Go.Joins

def flaidList : List (String × DataW Unit) := [("unicode/utf8.acceptRanges", Rows.laid_unicode_utf8_acceptRanges), ("sealskin/hash.first", Rows.laid_sealskin_hash_first), ("sealskin/hash.orders", Rows.laid_sealskin_hash_orders), ("sealskin/cipher.first", Rows.laid_sealskin_cipher_first), ("sealskin/frame.fields", Rows.laid_sealskin_frame_fields), ("sealskin/frame.most", Rows.laid_sealskin_frame_most), ("unicode/utf8.first", Rows.laid_unicode_utf8_first)]
def keepHC (x : String × DataW Unit) : Bool := x.1 == "sealskin/hash.first" || x.1 == "sealskin/hash.orders" || x.1 == "sealskin/cipher.first"
theorem keep_list : flaidList.filter keepHC = laidList := by
  simp only [flaidList, keepHC, laidList]
  rfl
theorem gFld : Tryd.prog.globalNamed "sealskin/frame.fields" = some 1 := by kernel_rfl
theorem yFld : (Tryd.prog.globals[1]?).map (·.type) = some 108 := by kernel_rfl
theorem cells3 : Tryd.prog.cellsOf 3 = 1 := by kernel_rfl
theorem cells108 : Tryd.prog.cellsOf 108 = 11 := by kernel_rfl
theorem flay_of {W : World} (h : laidMet Tryd.prog flaidList W) : FLay W := by
  refine ⟨tabs_of (keep_list ▸ laidMet.filter keepHC h), ?_⟩
  obtain ⟨g, t, cs, fuel, p, hg, hty, hvar, hd⟩ := Lib.laidMet.reads h (n := "sealskin/frame.fields") (d := Rows.laid_sealskin_frame_fields) (by simp [flaidList])
  obtain rfl := Option.some.inj (gFld.symm.trans hg)
  obtain rfl := Option.some.inj (yFld.symm.trans hty)
  have e1 : cs.toList = i64v fieldsL := Lib.cells_of_tab (zs := [0, 4, 134, 62, 12, 0, 64, 6, 135, 66, 13]) Tryd.underlying108 Tryd.underlying3 cells3 cells108 hd
  obtain ⟨t, fr, hh⟩ := var_row gFld hvar
  exact ⟨t, fr, by rw [hh, ← e1]⟩
def accCells : Array Value := #[.int .u8 128, .int .u8 191, .int .u8 160, .int .u8 191, .int .u8 128, .int .u8 159, .int .u8 144, .int .u8 191, .int .u8 128, .int .u8 143, .int .u8 0, .int .u8 0, .int .u8 0, .int .u8 0, .int .u8 0, .int .u8 0, .int .u8 0, .int .u8 0, .int .u8 0, .int .u8 0, .int .u8 0, .int .u8 0, .int .u8 0, .int .u8 0, .int .u8 0, .int .u8 0, .int .u8 0, .int .u8 0, .int .u8 0, .int .u8 0, .int .u8 0, .int .u8 0]
def ufirstIn : Obj → Obj
  | .cells _ t frozen => .cells (Go.Pinned.utf8FirstZ.map fun (n : Nat) => Value.int .u8 (n : Int)).toArray t frozen
  | o => o
def accIn : Obj → Obj
  | .cells _ t frozen => .cells accCells t frozen
  | o => o
def fldIn : Obj → Obj
  | .cells _ t frozen => .cells #[.int .i64 0, .int .i64 4, .int .i64 134, .int .i64 62, .int .i64 12, .int .i64 0, .int .i64 64, .int .i64 6, .int .i64 135, .int .i64 66, .int .i64 13] t frozen
  | o => o
def mostIn : Obj → Obj
  | .cells _ t frozen => .cells #[.int .i64 7, .int .i64 1099511627776, .int .i64 1099511627776, .int .i64 1099511627776, .int .i64 1099511627776, .int .i64 31, .int .i64 1000] t frozen
  | o => o
/-- A world for the witness: all tables as their initialisers lay them. -/
noncomputable def flaidWorld (os : Os) : World :=
  { World.holding Tryd.prog os ⟨#[], #[], []⟩ with heap := (((((((World.holding Tryd.prog os ⟨#[], #[], []⟩).heap.modify 0 cipIn).modify 1 fldIn).modify 2 mostIn).modify 3 firstIn).modify 4 ordsIn).modify 5 ufirstIn).modify 6 accIn }
end Go.Proofs.YthhpnakgiammiaaDoor
