/- A region that draws its order and stores where it loads: what must hold of the world is asked behind some of its operations alone (hd), for which all others wait. -/
import Derived.Test.YtonabfpgdgnpnaaDoorMem
import Derived.StillTail
import Derived.Deep.RegionHeld
namespace Go.Proofs.YtonabfpgdgnpnaaDoor
set_option linter.unusedVariables false
set_option linter.unusedSimpArgs false

section
variable {P : Program} {ops : Array Oper} {Q : Exit → Act → World → Prop} {md : Region.Mode} {S : World → Prop} {hd : Nat → Bool}

def wpAnyT (P : Program) (md : Region.Mode) (ops : Array Oper) (Q : Exit → Act → World → Prop) (S : World → Prop) (hd : Nat → Bool) : Nat → Array Bool → Act → World → Prop
  | 0, listed, a, w => Region.ready md ops listed = [] ∧ Q .normal a w
  | fuel + 1, listed, a, w =>
    (Region.ready md ops listed = [] → Q .normal a w) ∧
    ∀ i ∈ Region.ready md ops listed, wpOp P ops Q i (fun a' w' => (hd i = true → S w') ∧ wpAnyT P md ops Q S hd fuel (listed.setIfInBounds i true) a' w') a w
theorem wpAny_of_T : ∀ (fuel : Nat) (listed : Array Bool) (a : Act) (w : World), wpAnyT P md ops Q S hd fuel listed a w → wpAny P md ops Q fuel listed a w
  | 0, _, _, _, h => h
  | fuel + 1, _, _, _, h => ⟨h.1, fun i hi => wpOp_mono (fun a' w' h' => wpAny_of_T fuel _ a' w' h'.2) (h.2 i hi)⟩
/-- j waits for i, at once or through another one -/
def waits2 (md : Region.Mode) (ops : Array Oper) (j i : Nat) : Bool := Region.waitsFor md ops j i || (List.range ops.size).any fun k => Region.waitsFor md ops j k && Region.waitsFor md ops k i
/-- what has come up did so behind what it waited for -/
def closedB (md : Region.Mode) (ops : Array Oper) (listed : Array Bool) : Bool := (List.range ops.size).all fun k => !listed.getD k false || (List.range ops.size).all fun i => !Region.waitsFor md ops k i || listed.getD i false
/-- whatever has not come up, and behind which nothing is asked, waits for i -/
def tailWaits (md : Region.Mode) (ops : Array Oper) (hd : Nat → Bool) (listed : Array Bool) (i : Nat) : Bool := (List.range ops.size).all fun j => hd j || listed.getD j true || waits2 md ops j i
theorem waits_lt {j i : Nat} (h : Region.waitsFor md ops j i = true) : j < ops.size := by
  obtain ⟨o, ho, _⟩ := Region.waitsFor_spec h
  rcases Nat.lt_or_ge j ops.size with h' | h'
  · exact h'
  · rw [Array.getElem?_eq_none h'] at ho; cases ho
theorem closed_at {k i : Nat} {listed : Array Bool} (h : closedB md ops listed = true) (hi : i < ops.size) (hk : listed.getD k false = true) (hw : Region.waitsFor md ops k i = true) : listed.getD i false = true := by
  have := List.all_eq_true.1 h k (List.mem_range.2 (waits_lt hw))
  rw [hk] at this
  simp only [Bool.not_true, Bool.false_or] at this
  have := List.all_eq_true.1 this i (List.mem_range.2 hi)
  rw [hw] at this
  simpa using this
theorem getD_set_up {listed : Array Bool} {x j : Nat} (h : listed.getD x false = true) : (listed.setIfInBounds j true).getD x false = true := by
  by_cases hjx : j = x
  · subst hjx
    rcases Nat.lt_or_ge j listed.size with h' | h'
    · simp [h']
    · simp [Array.getElem?_eq_none h'] at h
  · rw [getD_set_ne false hjx]; exact h
theorem waits_listed {j i : Nat} {oj : Oper} {listed : Array Bool} (hj : ops[j]? = some oj) (hall : ∀ e ∈ oj.after, Region.binds md e = true → listed.getD e.on false = true) (hw : Region.waitsFor md ops j i = true) : listed.getD i false = true := by
  obtain ⟨o, ho, e, he, hb, hon⟩ := Region.waitsFor_spec hw
  rw [hj] at ho
  obtain rfl := Option.some.inj ho
  rw [← hon]
  exact hall e he hb
theorem closed_set {j : Nat} {oj : Oper} {listed : Array Bool} (h : closedB md ops listed = true) (hj : ops[j]? = some oj) (hall : ∀ e ∈ oj.after, Region.binds md e = true → listed.getD e.on false = true) : closedB md ops (listed.setIfInBounds j true) = true := by
  refine List.all_eq_true.2 fun k hk => ?_
  cases hl : (listed.setIfInBounds j true).getD k false with
  | false => rfl
  | true =>
    simp only [Bool.not_true, Bool.false_or]
    refine List.all_eq_true.2 fun i hi => ?_
    cases hw : Region.waitsFor md ops k i with
    | false => rfl
    | true =>
      simp only [Bool.not_true, Bool.false_or]
      refine getD_set_up ?_
      by_cases hjk : j = k
      · subst hjk; exact waits_listed hj hall hw
      · rw [getD_set_ne false hjk] at hl
        exact closed_at h (List.mem_range.1 hi) hl hw
theorem tailWaits_hd {i j : Nat} {oj : Oper} {listed : Array Bool} (hc : closedB md ops listed = true) (h : tailWaits md ops hd listed i = true) (hj : ops[j]? = some oj) (hun : listed.getD j true = false) (hall : ∀ e ∈ oj.after, Region.binds md e = true → listed.getD e.on false = true) (hii : i < ops.size) (hi : listed.getD i false = false) : hd j = true := by
  have hlt : j < ops.size := by
    rcases Nat.lt_or_ge j ops.size with h' | h'
    · exact h'
    · rw [Array.getElem?_eq_none h'] at hj; cases hj
  have := List.all_eq_true.1 h j (List.mem_range.2 hlt)
  simp only [Bool.or_eq_true, hun, Bool.false_eq_true, or_false] at this
  rcases this with this | this
  · exact this
  · exfalso
    simp only [waits2, Bool.or_eq_true, List.any_eq_true, Bool.and_eq_true] at this
    rcases this with this | ⟨k, hk, h1, h2⟩
    · rw [waits_listed hj hall this] at hi; cases hi
    · rw [closed_at hc hii (waits_listed hj hall h1) h2] at hi; cases hi
theorem tailWaits_set {i j : Nat} {listed : Array Bool} (h : tailWaits md ops hd listed i = true) : tailWaits md ops hd (listed.setIfInBounds j true) i = true := by
  refine List.all_eq_true.2 fun k hk => ?_
  have := List.all_eq_true.1 h k hk
  simp only [Bool.or_eq_true] at this ⊢
  rcases this with (h1 | h1) | h1
  · exact .inl (.inl h1)
  · refine .inl (.inr ?_)
    by_cases hjk : j = k
    · subst hjk
      rcases Nat.lt_or_ge j listed.size with h' | h'
      · simp [h']
      · simp [Array.getElem?_eq_none h', h']
    · rw [getD_set_ne true hjk]; exact h1
  · exact .inr h1
theorem ready_no {i : Nat} {oj : Oper} {listed : Array Bool} (hr : i ∈ Region.ready md ops listed) (hall : ∀ e ∈ oj.after, Region.binds md e = true → listed.getD e.on false = true) : ∀ e ∈ oj.after, Region.binds md e = true → e.on ≠ i := by
  intro d hd hb heq
  have g1 := hall d hd hb
  have g0 := (mem_ready.1 hr).1
  rw [heq] at g1
  rcases Nat.lt_or_ge i listed.size with h' | h'
  · simp [h'] at g0 g1; rw [g0] at g1; cases g1
  · simp [Array.getElem?_eq_none h'] at g1
/-- taken first: what yields under S, if all else waits for it or keeps S -/
theorem wpAnyT_first {i : Nat} {oi : Oper} {v : Value} (S' : World → Prop) (hi : ops[i]? = some oi) (hsel : ∀ (j : Nat) (o : Oper) cs b, ops[j]? = some o → o.op ≠ .select cs b)
    (hQ : ∀ c a w, Q (.panic c) (a.put oi.dst v) w → Q (.panic c) a w) :
    ∀ (fuel : Nat) (listed : Array Bool) (a : Act) (w : World), ((∀ w, S w → S' w) ∧ tailWaits md ops hd listed i = true ∧ closedB md ops listed = true ∨ (∀ w, S' w) ∧ hd i = false) →
      (∀ j oj, ops[j]? = some oj → j ≠ i → listed.getD j true = false → (∀ e ∈ oj.after, Region.binds md e = true → e.on ≠ i) → oi.apart ops oj = true) →
      i ∈ Region.ready md ops listed → YieldsIf P ops S' oi v a → (hd i = true → S w) → S' w →
      wpAnyT P md ops Q S hd fuel (listed.setIfInBounds i true) (a.put oi.dst v) w → wpAnyT P md ops Q S hd (fuel + 1) listed a w := by
  intro fuel
  induction fuel with
  | zero =>
    intro listed a w _ _ hr hy hS hS' H
    refine ⟨fun h => (by rw [h] at hr; cases hr), fun j hj => ?_⟩
    by_cases e : j = i
    · subst e; exact hy.wpOp hi hS' ⟨hS, H⟩
    · have hx := ready_mono hj e
      rw [H.1] at hx
      cases hx
  | succ fuel ih =>
    intro listed a w hT hap hr hy hS hS' H
    refine ⟨fun h => (by rw [h] at hr; cases hr), fun j hj => ?_⟩
    by_cases e : j = i
    · subst e; exact hy.wpOp hi hS' ⟨hS, H⟩
    · obtain ⟨un, oj, hoj, hall⟩ := mem_ready.1 hj
      have hno := ready_no hr hall
      have step := wpOp_putIf hoj (hap j oj hoj e un hno) (fun cs b => hsel i oi cs b hi) (fun cs b => hsel j oj cs b hoj) hQ hy (H.2 j (ready_mono hj e))
      have hap' : ∀ k ok, ops[k]? = some ok → k ≠ i → (listed.setIfInBounds j true).getD k true = false → (∀ e ∈ ok.after, Region.binds md e = true → e.on ≠ i) → oi.apart ops ok = true := by
        intro k ok hk hki hun hno'
        refine hap k ok hk hki ?_ hno'
        by_cases hjk : j = k
        · subst hjk; exact un
        · rw [getD_set_ne true hjk] at hun; exact hun
      refine wpOp_mono (fun a' w' g => ⟨g.2.1, ?_⟩) step
      have H' := g.2.2
      rw [← Array.setIfInBounds_comm _ _ e] at H'
      rcases hT with ⟨h1, h2, h3⟩ | ⟨h1, h2⟩
      · have hs := g.2.1 (tailWaits_hd h3 h2 hoj un hall (by
          rcases Nat.lt_or_ge i ops.size with h' | h'
          · exact h'
          · rw [Array.getElem?_eq_none h'] at hi; cases hi) (getD_both (mem_ready.1 hr).1))
        exact ih _ a' w' (.inl ⟨h1, tailWaits_set h2, closed_set h3 hoj hall⟩) hap' (ready_mono hr (Ne.symm e)) g.1 (fun _ => hs) (h1 _ hs) H'
      · exact ih _ a' w' (.inr ⟨h1, h2⟩) hap' (ready_mono hr (Ne.symm e)) g.1 (fun h => by rw [h2] at h; cases h) (h1 _) H'
theorem wpAnyT_take {i : Nat} {oi : Oper} {v : Value} {fuel : Nat} {listed : Array Bool} {a : Act} {w : World} (hi : ops[i]? = some oi)
    (hs : Region.noSelect ops = true) (hf : Region.free md ops listed i = true) (hr : (Region.ready md ops listed).contains i = true) (hT : (tailWaits md ops hd listed i && closedB md ops listed) = true)
    (hQ : ∀ c a w, Q (.panic c) (a.put oi.dst v) w → Q (.panic c) a w) (hy : YieldsIf P ops S oi v a) (hS : S w)
    (h : wpAnyT P md ops Q S hd fuel (listed.setIfInBounds i true) (a.put oi.dst v) w) : wpAnyT P md ops Q S hd (fuel + 1) listed a w :=
  wpAnyT_first S hi (Region.noSelect_spec hs) hQ fuel listed a w (.inl ⟨fun _ h => h, (Bool.and_eq_true _ _ ▸ hT).1, (Bool.and_eq_true _ _ ▸ hT).2⟩) (Region.free_spec hi hf) (by simpa using hr) hy (fun _ => hS) hS h
/-- what yields whatever the world -/
theorem wpAnyT_pure {i : Nat} {oi : Oper} {v : Value} {fuel : Nat} {listed : Array Bool} {a : Act} {w : World} (hi : ops[i]? = some oi)
    (hs : Region.noSelect ops = true) (hf : Region.free md ops listed i = true) (hr : (Region.ready md ops listed).contains i = true) (hT : hd i = false)
    (hQ : ∀ c a w, Q (.panic c) (a.put oi.dst v) w → Q (.panic c) a w) (hy : YieldsIf P ops (fun _ => True) oi v a)
    (h : wpAnyT P md ops Q S hd fuel (listed.setIfInBounds i true) (a.put oi.dst v) w) : wpAnyT P md ops Q S hd (fuel + 1) listed a w :=
  wpAnyT_first (fun _ => True) hi (Region.noSelect_spec hs) hQ fuel listed a w (.inr ⟨fun _ => trivial, hT⟩) (Region.free_spec hi hf) (by simpa using hr) hy (fun h => by rw [hT] at h; cases h) trivial h
/-- what alone may come up -/
theorem wpAnyT_one {i : Nat} {o : Oper} {fuel : Nat} {listed : Array Bool} {a : Act} {w : World} (hr : Region.ready md ops listed = [i]) (ho : ops[i]? = some o)
    (h : ∀ K' : Act → World → Prop, Shut (∀ a w, (hd i = true → S w) → wpAnyT P md ops Q S hd fuel (listed.setIfInBounds i true) a w → K' a w) → if Region.wanted o (yielded ops a.tmps) = true then Oper.wp P o a w K' Q else K' (a.put o.dst undef) w) :
    wpAnyT P md ops Q S hd (fuel + 1) listed a w := by
  refine ⟨fun h0 => absurd (hr ▸ h0) (by simp), fun j hj => ?_⟩
  rw [hr] at hj
  obtain rfl := List.mem_singleton.1 hj
  exact wpOp_step ho (fun K' hK => h K' (fun a w hS hW => hK a w ⟨hS, hW⟩))
theorem wpAnyT_done {listed : Array Bool} {a : Act} {w : World} (hr : Region.ready md ops listed = []) (h : Q .normal a w) : ∀ fuel, wpAnyT P md ops Q S hd fuel listed a w
  | 0 => ⟨hr, h⟩
  | _ + 1 => ⟨fun _ => h, by rw [hr]; simp⟩
theorem wp_region_T {id : Nat} {a : Act} {w : World} (hd : Nat → Bool) (hm : P.follows .mixedOrders = true) (hS : S w.drew)
    (h : S w.drew → wpAnyT P .any ops Q S hd ops.size (Array.replicate ops.size false) a w.drew) : (Code.region id ops true).wp P Q a w :=
  wp_region_any hm (wpAny_of_T _ _ _ _ (h hS))
end
end Go.Proofs.YtonabfpgdgnpnaaDoor
