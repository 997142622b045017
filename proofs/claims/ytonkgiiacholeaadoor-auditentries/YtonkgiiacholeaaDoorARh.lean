/- Regions that draw their order, with four operations in a chain (the last one behind all others) and others that only read: what holds whichever were done. -/
import Derived.Test.YtonkgiiacholeaaDoorAInv
namespace Go.Proofs.YtonkgiiacholeaaDoor
set_option linter.unusedVariables false
set_option linter.unusedSimpArgs false

structure Rh (V : Nat → Value) (pu : Nat → Prop) (x y c1 c2 c3 c4 : Nat) (M0 : World → Prop) (M1 : World → Value → Prop) (M2 : World → Value → Value → Prop) (M3 : World → Value → Prop) (M4 : World → Prop) (d : Nat → Bool) (u : Nat → Value) (w' : World) : Prop where
  val : ∀ k, pu k → d k = true → u k = V k
  kx : d y = true → d x = true
  k2 : d c2 = true → d c1 = true
  k3 : d c3 = true → d c2 = true
  k4 : d c4 = true → ∀ k, k < c4 → d k = true
  m0 : d c1 = false → M0 w'
  m1 : d c1 = true → d c2 = false → M1 w' (u c1)
  m2 : d c2 = true → d c3 = false → M2 w' (u c1) (u c2)
  m3 : d c3 = true → d c4 = false → M3 w' (u c3)
  m4 : d c4 = true → M4 w'
section
variable {V : Nat → Value} {pu : Nat → Prop} {x y c1 c2 c3 c4 : Nat} {M0 : World → Prop} {M1 : World → Value → Prop} {M2 : World → Value → Value → Prop} {M3 : World → Value → Prop} {M4 : World → Prop} {d : Nat → Bool} {u : Nat → Value} {w' w2 : World} {v : Value}
theorem Rh.start (h : M0 w') (u : Nat → Value) : Rh V pu x y c1 c2 c3 c4 M0 M1 M2 M3 M4 (fun _ => false) u w' :=
  ⟨(fun k _ h => nomatch h), (fun h => nomatch h), (fun h => nomatch h), (fun h => nomatch h), (fun h => nomatch h), (fun _ => h), (fun h => nomatch h), (fun h => nomatch h), (fun h => nomatch h), (fun h => nomatch h)⟩
theorem Rh.not4 (h : Rh V pu x y c1 c2 c3 c4 M0 M1 M2 M3 M4 d u w') {k : Nat} (hk : k < c4) (hd : d k = false) : d c4 = false := by
  cases hc : d c4 with
  | false => rfl
  | true => rw [h.k4 hc k hk] at hd; cases hd
theorem Rh.pure (h : Rh V pu x y c1 c2 c3 c4 M0 M1 M2 M3 M4 d u w') (k : Nat) (hk : k < c4) (h1 : k ≠ c1) (h2 : k ≠ c2) (h3 : k ≠ c3) (hd : d k = false) (hy : y = k → d x = true) :
    Rh V pu x y c1 c2 c3 c4 M0 M1 M2 M3 M4 (fun i => i == k || d i) (fun i => if i = k then V k else u i) w' := by
  have h4 := h.not4 hk hd
  have e1 : (c1 == k) = false := beq_eq_false_iff_ne.2 (Ne.symm h1)
  have e2 : (c2 == k) = false := beq_eq_false_iff_ne.2 (Ne.symm h2)
  have e3 : (c3 == k) = false := beq_eq_false_iff_ne.2 (Ne.symm h3)
  have e4 : (c4 == k) = false := beq_eq_false_iff_ne.2 (by omega)
  have u1 : (if c1 = k then V k else u c1) = u c1 := if_neg (Ne.symm h1)
  have u2 : (if c2 = k then V k else u c2) = u c2 := if_neg (Ne.symm h2)
  have u3 : (if c3 = k then V k else u c3) = u c3 := if_neg (Ne.symm h3)
  refine ⟨fun i hi hdi => ?_, (fun q => by
    by_cases e : y = k
    · simp [hy e]
    · have e' : (y == k) = false := beq_eq_false_iff_ne.2 e
      have q1 : d y = true := by simpa [e'] using q
      simp [h.kx q1]), fun q => ?_, fun q => ?_, fun q => ?_, fun q => ?_, fun q q' => ?_, fun q q' => ?_, fun q q' => ?_, fun q => ?_⟩
  · show (if i = k then V k else u i) = V i
    by_cases e : i = k
    · subst e; rw [if_pos rfl]
    · rw [if_neg e]
      refine h.val i hi ?_
      have : (i == k) = false := beq_eq_false_iff_ne.2 e
      simpa [this] using hdi
  · have q1 : d c2 = true := by simpa [e2] using q
    simp [h.k2 q1]
  · have q1 : d c3 = true := by simpa [e3] using q
    simp [h.k3 q1]
  · have q1 : d c4 = true := by simpa [e4] using q
    rw [h4] at q1; cases q1
  · exact h.m0 (by simpa [e1] using q)
  · rw [u1]; exact h.m1 (by simpa [e1] using q) (by simpa [e2] using q')
  · rw [u1, u2]; exact h.m2 (by simpa [e2] using q) (by simpa [e3] using q')
  · rw [u3]; exact h.m3 (by simpa [e3] using q) h4
  · have q1 : d c4 = true := by simpa [e4] using q
    rw [h4] at q1; cases q1
theorem Rh.s1 (h : Rh V pu x y c1 c2 c3 c4 M0 M1 M2 M3 M4 d u w') (l1 : c1 < c2) (l2 : c2 < c3) (l3 : c3 < c4) (hp : ¬ pu c1) (hy : y ≠ c1) (hd : d c1 = false) (hm : M1 w2 v) :
    Rh V pu x y c1 c2 c3 c4 M0 M1 M2 M3 M4 (fun i => i == c1 || d i) (fun i => if i = c1 then v else u i) w2 := by
  have h4 := h.not4 (by omega) hd
  have h2 : d c2 = false := by cases hc : d c2 with
    | false => rfl
    | true => rw [h.k2 hc] at hd; cases hd
  have h3 : d c3 = false := by cases hc : d c3 with
    | false => rfl
    | true => rw [h.k3 hc] at h2; cases h2
  have e2 : (c2 == c1) = false := beq_eq_false_iff_ne.2 (by omega)
  have e3 : (c3 == c1) = false := beq_eq_false_iff_ne.2 (by omega)
  have e4 : (c4 == c1) = false := beq_eq_false_iff_ne.2 (by omega)
  refine ⟨fun i hi hdi => ?_, (fun q => by
    have e' : (y == c1) = false := beq_eq_false_iff_ne.2 hy
    have q1 : d y = true := by simpa [e'] using q
    simp [h.kx q1]), fun q => ?_, fun q => ?_, fun q => ?_, fun q => ?_, fun q q' => ?_, fun q q' => ?_, fun q q' => ?_, fun q => ?_⟩
  · have e : i ≠ c1 := fun e => hp (e ▸ hi)
    show (if i = c1 then v else u i) = V i
    rw [if_neg e]
    refine h.val i hi ?_
    have : (i == c1) = false := beq_eq_false_iff_ne.2 e
    simpa [this] using hdi
  · simp [e2, h2] at q
  · simp [e3, h3] at q
  · simp [e4, h4] at q
  · simp at q
  · rw [if_pos rfl]; exact hm
  · simp [e2, h2] at q
  · simp [e3, h3] at q
  · simp [e4, h4] at q
theorem Rh.s2 (h : Rh V pu x y c1 c2 c3 c4 M0 M1 M2 M3 M4 d u w') (l1 : c1 < c2) (l2 : c2 < c3) (l3 : c3 < c4) (hp : ¬ pu c2) (hy : y ≠ c2) (hd : d c2 = false) (h1 : d c1 = true) (hm : M2 w2 (u c1) v) :
    Rh V pu x y c1 c2 c3 c4 M0 M1 M2 M3 M4 (fun i => i == c2 || d i) (fun i => if i = c2 then v else u i) w2 := by
  have h4 := h.not4 (by omega) hd
  have h3 : d c3 = false := by cases hc : d c3 with
    | false => rfl
    | true => rw [h.k3 hc] at hd; cases hd
  have e3 : (c3 == c2) = false := beq_eq_false_iff_ne.2 (by omega)
  have e4 : (c4 == c2) = false := beq_eq_false_iff_ne.2 (by omega)
  refine ⟨fun i hi hdi => ?_, (fun q => by
    have e' : (y == c2) = false := beq_eq_false_iff_ne.2 hy
    have q1 : d y = true := by simpa [e'] using q
    simp [h.kx q1]), fun q => ?_, fun q => ?_, fun q => ?_, fun q => ?_, fun q q' => ?_, fun q q' => ?_, fun q q' => ?_, fun q => ?_⟩
  · have e : i ≠ c2 := fun e => hp (e ▸ hi)
    show (if i = c2 then v else u i) = V i
    rw [if_neg e]
    refine h.val i hi ?_
    have : (i == c2) = false := beq_eq_false_iff_ne.2 e
    simpa [this] using hdi
  · simp [h1]
  · simp [e3, h3] at q
  · simp [e4, h4] at q
  · simp [h1] at q
  · simp at q'
  · rw [if_pos rfl, if_neg (by omega)]; exact hm
  · simp [e3, h3] at q
  · simp [e4, h4] at q
theorem Rh.s3 (h : Rh V pu x y c1 c2 c3 c4 M0 M1 M2 M3 M4 d u w') (l1 : c1 < c2) (l2 : c2 < c3) (l3 : c3 < c4) (hp : ¬ pu c3) (hy : y ≠ c3) (hd : d c3 = false) (h2 : d c2 = true) (hm : M3 w2 v) :
    Rh V pu x y c1 c2 c3 c4 M0 M1 M2 M3 M4 (fun i => i == c3 || d i) (fun i => if i = c3 then v else u i) w2 := by
  have h4 := h.not4 (by omega) hd
  have h1 := h.k2 h2
  have e4 : (c4 == c3) = false := beq_eq_false_iff_ne.2 (by omega)
  refine ⟨fun i hi hdi => ?_, (fun q => by
    have e' : (y == c3) = false := beq_eq_false_iff_ne.2 hy
    have q1 : d y = true := by simpa [e'] using q
    simp [h.kx q1]), fun q => ?_, fun q => ?_, fun q => ?_, fun q => ?_, fun q q' => ?_, fun q q' => ?_, fun q q' => ?_, fun q => ?_⟩
  · have e : i ≠ c3 := fun e => hp (e ▸ hi)
    show (if i = c3 then v else u i) = V i
    rw [if_neg e]
    refine h.val i hi ?_
    have : (i == c3) = false := beq_eq_false_iff_ne.2 e
    simpa [this] using hdi
  · simp [h1]
  · simp [h2]
  · simp [e4, h4] at q
  · simp [h1] at q
  · simp [h2] at q'
  · simp at q'
  · rw [if_pos rfl]; exact hm
  · simp [e4, h4] at q
theorem Rh.s4 (h : Rh V pu x y c1 c2 c3 c4 M0 M1 M2 M3 M4 d u w') (l1 : c1 < c2) (l2 : c2 < c3) (l3 : c3 < c4) (hpu : ∀ k, pu k → k < c4) (hy : y ≠ c4) (hd : d c4 = false) (hall : ∀ k, k < c4 → d k = true) (hm : M4 w2) :
    Rh V pu x y c1 c2 c3 c4 M0 M1 M2 M3 M4 (fun i => i == c4 || d i) u w2 := by
  have h1 := hall c1 (by omega)
  have h2 := hall c2 (by omega)
  have h3 := hall c3 (by omega)
  refine ⟨fun i hi hdi => h.val i hi (hall i (hpu i hi)), (fun q => by
    have e' : (y == c4) = false := beq_eq_false_iff_ne.2 hy
    have q1 : d y = true := by simpa [e'] using q
    simp [h.kx q1]), fun q => ?_, fun q => ?_, fun q k hk => ?_, fun q => ?_, fun q q' => ?_, fun q q' => ?_, fun q q' => ?_, fun q => hm⟩
  · simp [h1]
  · simp [h2]
  · simp [hall k hk]
  · simp [h1] at q
  · simp [h2] at q'
  · simp [h3] at q'
  · simp at q'
end
end Go.Proofs.YtonkgiiacholeaaDoor
