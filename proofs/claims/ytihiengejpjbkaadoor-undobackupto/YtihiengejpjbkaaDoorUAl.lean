/- Piles of edits: no model in it. -/
import Derived.Test.YtihiengejpjbkaaDoorAtm
namespace Go.Proofs.YtihiengejpjbkaaDoor
set_option linter.unusedVariables false
set_option linter.unusedSimpArgs false

namespace At
theorem count : ∀ x : List At, toN x + dropsN x = fromN x + putsN x
  | [] => rfl
  | .p c :: x => by have := count x; simp only [toN, dropsN, fromN, putsN]; omega
  | .k :: x => by have := count x; simp only [toN, dropsN, fromN, putsN]; omega
  | .d :: x => by have := count x; simp only [toN, dropsN, fromN, putsN]; omega
theorem len_le : ∀ x : List At, x.length ≤ fromN x + toN x
  | [] => by simp
  | .p c :: x => by have := len_le x; simp only [toN, fromN, List.length_cons]; omega
  | .k :: x => by have := len_le x; simp only [toN, fromN, List.length_cons]; omega
  | .d :: x => by have := len_le x; simp only [toN, fromN, List.length_cons]; omega
theorem inv_inv : ∀ (x : List At) (s : List (List UInt8)), s.length = fromN x → inv (inv x s) (app x s) = x
  | [], s, h => by simp [inv]
  | .p c :: x, s, h => by simp only [inv, app]; rw [inv_inv x s h]
  | .k :: x, [], h => by simp [fromN] at h
  | .k :: x, c :: s, h => by simp only [inv, app]; rw [inv_inv x s (by simpa [fromN] using h)]
  | .d :: x, [], h => by simp [fromN] at h
  | .d :: x, c :: s, h => by simp only [inv, app]; rw [inv_inv x s (by simpa [fromN] using h)]
theorem inv_sw {x y : List At} (h : Sw x y) : ∀ s, Sw (inv x s) (inv y s) := by
  induction h with
  | refl x => intro s; exact .refl _
  | cons t _ ih =>
    intro s
    cases t with
    | p c => simp only [inv]; exact (ih s).cons _
    | k => cases s with
      | nil => simp only [inv]; exact ih []
      | cons c s => simp only [inv]; exact (ih s).cons _
    | d => cases s with
      | nil => simp only [inv]; exact ih []
      | cons c s => simp only [inv]; exact (ih s).cons _
  | swap c x =>
    intro s
    cases s with
    | nil => simp only [inv]; exact .refl _
    | cons e s => simp only [inv]; exact (Sw.swap e _).symm
  | symm _ ih => intro s; exact (ih s).symm
  | trans _ _ ih1 ih2 => intro s; exact (ih1 s).trans (ih2 s)
theorem can_inv (x : List At) (s : List (List UInt8)) : can (inv (can x) s) = can (inv x s) := (can_of_sw (inv_sw (can_sw x) s)).symm
/-- what is undone and done again is the edit itself -/
theorem inv_twice (x : List At) (s : List (List UInt8)) (h : s.length = fromN x) : can (inv (can (inv x s)) (app x s)) = can x := by rw [can_inv, inv_inv x s h]
theorem can_from (x : List At) : fromN (can x) = fromN x := (fromN_sw (can_sw x)).symm
theorem can_to (x : List At) : toN (can x) = toN x := (toN_sw (can_sw x)).symm
theorem can_puts (x : List At) : putsN (can x) = putsN x := (putsN_sw (can_sw x)).symm
end At
/-- each edit of a pile, the last one first, is of what the one ahead of it makes -/
def Chain : Nat → List (List At) → Prop
  | _, [] => True
  | n, x :: r => At.fromN x = n ∧ Chain (At.toN x) r
/-- no size is above M -/
def Sz (M : Nat) (P : List (List At)) : Prop := ∀ x ∈ P, At.fromN x ≤ M ∧ At.toN x ≤ M
/-- a pile behind an edit; and what is left of the edit below it -/
def beh : List (List At) → List At → List (List At)
  | [], _ => []
  | x :: r, e => At.can (At.one x e) :: beh r (At.can (At.two x e))
def behE : List (List At) → List At → List At
  | [], e => e
  | x :: r, e => behE r (At.can (At.two x e))
theorem two_puts {x e : List At} (h : At.fromN x = At.fromN e) : At.putsN (At.can (At.two x e)) = At.putsN e := by rw [At.can_puts, (At.sizes x e h).2.2.2.2]
theorem two_to {x e : List At} (h : At.fromN x = At.fromN e) : At.toN (At.can (At.two x e)) ≤ At.toN x + At.putsN e := by
  have h1 := At.count (At.two x e)
  have h2 := At.sizes x e h
  rw [At.can_to]
  omega
theorem beh_len : ∀ (P : List (List At)) (e : List At), (beh P e).length = P.length
  | [], e => rfl
  | x :: r, e => by simp only [beh, List.length_cons, beh_len r]
theorem Chain.beh : ∀ {P : List (List At)} {e : List At}, Chain (At.fromN e) P → Chain (At.toN e) (beh P e)
  | [], e, _ => trivial
  | x :: r, e, h => by
    have h1 := At.sizes x e h.1
    refine ⟨by rw [At.can_from, h1.1], ?_⟩
    rw [At.can_to, h1.2.2.1, ← At.can_to (At.two x e)]
    refine Chain.beh ?_
    rw [At.can_from, h1.2.1]
    exact h.2
theorem Sz.beh {M q : Nat} : ∀ {P : List (List At)} {e : List At}, Chain (At.fromN e) P → Sz M P → At.putsN e ≤ q → At.toN e ≤ M + q → Sz (M + q) (beh P e)
  | [], e, _, _, _, _ => fun x hx => by cases hx
  | x :: r, e, h, hM, hp, ht => by
    have h1 := At.sizes x e h.1
    have h2 := two_to h.1
    have h3 := hM x List.mem_cons_self
    have h4 : At.toN (At.can (At.two x e)) ≤ M + q := by omega
    intro y hy
    rcases List.mem_cons.1 hy with rfl | hy
    · refine ⟨by rw [At.can_from, h1.1]; exact ht, ?_⟩
      rw [At.can_to, h1.2.2.1, ← At.can_to (At.two x e)]
      exact h4
    · exact Sz.beh (by rw [At.can_from, h1.2.1]; exact h.2) (fun z hz => hM z (List.mem_cons_of_mem _ hz)) (by rw [two_puts h.1]; exact hp) h4 y hy
theorem Sz.mono {M N : Nat} {P : List (List At)} (h : Sz M P) (hN : M ≤ N) : Sz N P := fun x hx => ⟨Nat.le_trans (h x hx).1 hN, Nat.le_trans (h x hx).2 hN⟩
theorem Chain.pre : ∀ {n : Nat} {P Q : List (List At)}, Chain n (P ++ Q) → Chain n P
  | n, [], Q, _ => trivial
  | n, x :: r, Q, h => ⟨h.1, Chain.pre h.2⟩
theorem Chain.take {n k : Nat} {P : List (List At)} (h : Chain n P) : Chain n (P.take k) := by
  rw [← List.take_append_drop k P] at h
  exact h.pre
theorem Sz.take {M k : Nat} {P : List (List At)} (h : Sz M P) : Sz M (P.take k) := fun x hx => h x (List.mem_of_mem_take hx)
end Go.Proofs.YtihiengejpjbkaaDoor
