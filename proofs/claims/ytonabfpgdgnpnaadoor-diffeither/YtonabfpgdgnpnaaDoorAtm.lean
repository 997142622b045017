/- Edits as rows of single steps: each keeps, drops, or puts one code point. -/
import Derived.Test.YtonabfpgdgnpnaaDoorTxt
namespace Go.Proofs.YtonabfpgdgnpnaaDoor
set_option linter.unusedVariables false
set_option linter.unusedSimpArgs false

/-- a single step -/
inductive At where
  | k : At
  | d : At
  | p : List UInt8 → At
namespace At
def fromN : List At → Nat
  | [] => 0
  | .p _ :: x => fromN x
  | .k :: x => fromN x + 1
  | .d :: x => fromN x + 1
def toN : List At → Nat
  | [] => 0
  | .p _ :: x => toN x + 1
  | .k :: x => toN x + 1
  | .d :: x => toN x
def putsN : List At → Nat
  | [] => 0
  | .p _ :: x => putsN x + 1
  | .k :: x => putsN x
  | .d :: x => putsN x
def dropsN : List At → Nat
  | [] => 0
  | .p _ :: x => dropsN x
  | .k :: x => dropsN x
  | .d :: x => dropsN x + 1
/-- between what is kept, what is put stands ahead of what is dropped -/
def canG : List (List UInt8) → Nat → List At → List At
  | ps, n, [] => ps.map .p ++ List.replicate n .d
  | ps, n, .k :: x => ps.map .p ++ List.replicate n .d ++ .k :: canG [] 0 x
  | ps, n, .d :: x => canG ps (n + 1) x
  | ps, n, .p c :: x => canG (ps ++ [c]) n x
def can (x : List At) : List At := canG [] 0 x
/-- by swaps of what is dropped and what is put beside it -/
inductive Sw : List At → List At → Prop where
  | refl (x) : Sw x x
  | cons (s) {x y} : Sw x y → Sw (s :: x) (s :: y)
  | swap (c x) : Sw (.d :: .p c :: x) (.p c :: .d :: x)
  | symm {x y} : Sw x y → Sw y x
  | trans {x y z} : Sw x y → Sw y z → Sw x z
theorem Sw.app (l : List At) {x y : List At} (h : Sw x y) : Sw (l ++ x) (l ++ y) := by
  induction l with
  | nil => exact h
  | cons s l ih => exact ih.cons s
theorem Sw.reps (n : Nat) (c : List UInt8) (x : List At) : Sw (List.replicate n .d ++ .p c :: x) (.p c :: (List.replicate n .d ++ x)) := by
  induction n with
  | zero => exact .refl _
  | succ n ih =>
    rw [List.replicate_succ]
    exact ((ih.cons .d)).trans (.swap c _)
theorem rep_snoc (n : Nat) (x : List At) : List.replicate n At.d ++ .d :: x = List.replicate (n + 1) At.d ++ x := by
  induction n with
  | zero => rfl
  | succ n ih =>
    rw [List.replicate_succ, List.cons_append, ih, List.replicate_succ (n := n + 1), List.cons_append]
theorem canG_sw : ∀ (x : List At) (ps : List (List UInt8)) (n : Nat), Sw (ps.map .p ++ (List.replicate n .d ++ x)) (canG ps n x)
  | [], ps, n => by simp only [canG, List.append_nil]; exact .refl _
  | .k :: x, ps, n => by
    simp only [canG, List.append_assoc]
    refine Sw.app _ (Sw.app _ ?_)
    have := canG_sw x [] 0
    exact this.cons _
  | .d :: x, ps, n => by
    simp only [canG]
    have := canG_sw x ps (n + 1)
    rw [rep_snoc]
    exact this
  | .p c :: x, ps, n => by
    simp only [canG]
    have := canG_sw x (ps ++ [c]) n
    refine Sw.trans ?_ this
    rw [List.map_append, List.append_assoc]
    exact Sw.app _ (Sw.reps n c x)
theorem can_sw (x : List At) : Sw x (can x) := canG_sw x [] 0
theorem canG_of_sw {x y : List At} (h : Sw x y) : ∀ ps n, canG ps n x = canG ps n y := by
  induction h with
  | refl x => intro _ _; rfl
  | cons s _ ih => intro ps n; cases s <;> simp only [canG, ih]
  | swap c x => intro ps n; simp only [canG]
  | symm _ ih => intro ps n; exact (ih ps n).symm
  | trans _ _ ih1 ih2 => intro ps n; exact (ih1 ps n).trans (ih2 ps n)
theorem can_of_sw {x y : List At} (h : Sw x y) : can x = can y := canG_of_sw h [] 0
theorem can_can (x : List At) : can (can x) = can x := (can_of_sw (can_sw x)).symm
theorem fromN_sw {x y : List At} (h : Sw x y) : fromN x = fromN y := by
  induction h with
  | refl x => rfl
  | cons s _ ih => cases s <;> simp only [fromN, ih]
  | swap c x => simp only [fromN]
  | symm _ ih => exact ih.symm
  | trans _ _ ih1 ih2 => exact ih1.trans ih2
theorem toN_sw {x y : List At} (h : Sw x y) : toN x = toN y := by
  induction h with
  | refl x => rfl
  | cons s _ ih => cases s <;> simp only [toN, ih]
  | swap c x => simp only [toN]
  | symm _ ih => exact ih.symm
  | trans _ _ ih1 ih2 => exact ih1.trans ih2
theorem putsN_sw {x y : List At} (h : Sw x y) : putsN x = putsN y := by
  induction h with
  | refl x => rfl
  | cons s _ ih => cases s <;> simp only [putsN, ih]
  | swap c x => simp only [putsN]
  | symm _ ih => exact ih.symm
  | trans _ _ ih1 ih2 => exact ih1.trans ih2
theorem dropsN_sw {x y : List At} (h : Sw x y) : dropsN x = dropsN y := by
  induction h with
  | refl x => rfl
  | cons s _ ih => cases s <;> simp only [dropsN, ih]
  | swap c x => simp only [dropsN]
  | symm _ ih => exact ih.symm
  | trans _ _ ih1 ih2 => exact ih1.trans ih2
theorem from_app (x y : List At) : fromN (x ++ y) = fromN x + fromN y := by
  induction x with
  | nil => simp [fromN]
  | cons s x ih => cases s <;> simp only [List.cons_append, fromN, ih] <;> omega
theorem to_app (x y : List At) : toN (x ++ y) = toN x + toN y := by
  induction x with
  | nil => simp [toN]
  | cons s x ih => cases s <;> simp only [List.cons_append, toN, ih] <;> omega
theorem puts_app (x y : List At) : putsN (x ++ y) = putsN x + putsN y := by
  induction x with
  | nil => simp [putsN]
  | cons s x ih => cases s <;> simp only [List.cons_append, putsN, ih] <;> omega
theorem drops_app (x y : List At) : dropsN (x ++ y) = dropsN x + dropsN y := by
  induction x with
  | nil => simp [dropsN]
  | cons s x ih => cases s <;> simp only [List.cons_append, dropsN, ih] <;> omega

/-- one behind the other -/
def comp : List At → List At → List At
  | [], y => y
  | .d :: x, y => .d :: comp x y
  | .k :: x, [] => comp x []
  | .k :: x, .p c :: y => .p c :: comp (.k :: x) y
  | .k :: x, .k :: y => .k :: comp x y
  | .k :: x, .d :: y => .d :: comp x y
  | .p e :: x, [] => comp x []
  | .p e :: x, .p c :: y => .p c :: comp (.p e :: x) y
  | .p e :: x, .k :: y => .p e :: comp x y
  | .p e :: x, .d :: y => comp x y
termination_by x y => x.length + y.length
theorem comp_from : ∀ (x y : List At), toN x = fromN y → fromN (comp x y) = fromN x
  | [], y, h => by simp only [comp, fromN, toN] at *; omega
  | .d :: x, y, h => by simp only [comp, fromN, toN] at *; rw [comp_from x y h]
  | .k :: x, [], h => by simp [fromN, toN] at h
  | .k :: x, .p c :: y, h => by simp only [comp, fromN, toN] at *; rw [comp_from (.k :: x) y (by simp only [toN]; omega)]; simp only [fromN]
  | .k :: x, .k :: y, h => by simp only [comp, fromN, toN] at *; rw [comp_from x y (by omega)]
  | .k :: x, .d :: y, h => by simp only [comp, fromN, toN] at *; rw [comp_from x y (by omega)]
  | .p e :: x, [], h => by simp [fromN, toN] at h
  | .p e :: x, .p c :: y, h => by simp only [comp, fromN, toN] at *; rw [comp_from (.p e :: x) y (by simp only [toN]; omega)]; simp only [fromN]
  | .p e :: x, .k :: y, h => by simp only [comp, fromN, toN] at *; rw [comp_from x y (by omega)]
  | .p e :: x, .d :: y, h => by simp only [comp, fromN, toN] at *; rw [comp_from x y (by omega)]
termination_by x y => x.length + y.length
theorem comp_to : ∀ (x y : List At), toN x = fromN y → toN (comp x y) = toN y
  | [], y, h => by simp only [comp]
  | .d :: x, y, h => by simp only [comp, fromN, toN] at *; rw [comp_to x y h]
  | .k :: x, [], h => by simp [fromN, toN] at h
  | .k :: x, .p c :: y, h => by simp only [comp, fromN, toN] at *; rw [comp_to (.k :: x) y (by simp only [toN]; omega)]
  | .k :: x, .k :: y, h => by simp only [comp, fromN, toN] at *; rw [comp_to x y (by omega)]
  | .k :: x, .d :: y, h => by simp only [comp, fromN, toN] at *; rw [comp_to x y (by omega)]
  | .p e :: x, [], h => by simp [fromN, toN] at h
  | .p e :: x, .p c :: y, h => by simp only [comp, fromN, toN] at *; rw [comp_to (.p e :: x) y (by simp only [toN]; omega)]
  | .p e :: x, .k :: y, h => by simp only [comp, fromN, toN] at *; rw [comp_to x y (by omega)]
  | .p e :: x, .d :: y, h => by simp only [comp, fromN, toN] at *; rw [comp_to x y (by omega)]
termination_by x y => x.length + y.length
theorem comp_put (c : List UInt8) : ∀ (x y : List At), Sw (comp x (.p c :: y)) (.p c :: comp x y)
  | [], y => by simp only [comp]; exact .refl _
  | .d :: x, y => by
    simp only [comp]
    exact ((comp_put c x y).cons .d).trans (.swap c _)
  | .k :: x, y => by simp only [comp]; exact .refl _
  | .p e :: x, y => by simp only [comp]; exact .refl _
theorem comp_swap (c : List UInt8) : ∀ (x y : List At), Sw (comp x (.d :: .p c :: y)) (comp x (.p c :: .d :: y))
  | [], y => by simp only [comp]; exact .swap c y
  | .d :: x, y => by simp only [comp]; exact (comp_swap c x y).cons .d
  | .k :: x, y => by
    simp only [comp]
    exact ((comp_put c x y).cons .d).trans (.swap c _)
  | .p e :: x, y => by
    simp only [comp]
    exact comp_put c x y
theorem comp_cons {y z : List At} (h : Sw y z) (ih : ∀ x, Sw (comp x y) (comp x z)) (s : At) : ∀ x, Sw (comp x (s :: y)) (comp x (s :: z))
  | [] => by simp only [comp]; exact h.cons s
  | .d :: x => by simp only [comp]; exact (comp_cons h ih s x).cons .d
  | .k :: x => by
    cases s with
    | k => simp only [comp]; exact (ih x).cons _
    | d => simp only [comp]; exact (ih x).cons _
    | p c => simp only [comp]; exact (ih _).cons _
  | .p e :: x => by
    cases s with
    | k => simp only [comp]; exact (ih x).cons _
    | d => simp only [comp]; exact (ih x)
    | p c => simp only [comp]; exact (ih _).cons _
theorem comp_right {y z : List At} (h : Sw y z) : ∀ x, Sw (comp x y) (comp x z) := by
  induction h with
  | refl y => intro x; exact .refl _
  | cons s h ih => exact comp_cons h ih s
  | swap c y => intro x; exact comp_swap c x y
  | symm _ ih => intro x; exact (ih x).symm
  | trans _ _ ih1 ih2 => intro x; exact (ih1 x).trans (ih2 x)
theorem comp_lswap (c : List UInt8) (x : List At) : ∀ y, Sw (comp (.d :: .p c :: x) y) (comp (.p c :: .d :: x) y)
  | [] => by simp only [comp]; exact .refl _
  | .p e :: y => by
    have ih := comp_lswap c x y
    simp only [comp] at ih ⊢
    exact (Sw.swap e _).trans (ih.cons _)
  | .k :: y => by simp only [comp]; exact .swap c _
  | .d :: y => by simp only [comp]; exact .refl _
theorem comp_lcons {x z : List At} (ih : ∀ y, Sw (comp x y) (comp z y)) (s : At) : ∀ y, Sw (comp (s :: x) y) (comp (s :: z) y)
  | [] => by cases s <;> simp only [comp] <;> first | exact ih _ | exact (ih _).cons _
  | .p e :: y => by
    have h := comp_lcons ih s y
    cases s with
    | d => simp only [comp]; exact (ih _).cons _
    | k => simp only [comp]; exact h.cons _
    | p c => simp only [comp]; exact h.cons _
  | .k :: y => by cases s <;> simp only [comp] <;> exact (ih _).cons _
  | .d :: y => by cases s <;> simp only [comp] <;> first | exact (ih _).cons _ | exact ih _
theorem comp_left {x z : List At} (h : Sw x z) : ∀ y, Sw (comp x y) (comp z y) := by
  induction h with
  | refl y => intro x; exact .refl _
  | cons s h ih => exact comp_lcons ih s
  | swap c x => exact comp_lswap c x
  | symm _ ih => intro x; exact (ih x).symm
  | trans _ _ ih1 ih2 => intro x; exact (ih1 x).trans (ih2 x)
/-- the canonical forms may be taken at any time -/
theorem can_comp (x y : List At) : can (comp (can x) (can y)) = can (comp x y) :=
  can_of_sw (((comp_left (can_sw x) (can y)).symm).trans ((comp_right (can_sw y) x).symm))
theorem can_comp_left (x y : List At) : can (comp (can x) y) = can (comp x y) := can_of_sw (comp_left (can_sw x) y).symm
theorem can_comp_right (x y : List At) : can (comp x (can y)) = can (comp x y) := can_of_sw (comp_right (can_sw y) x).symm
theorem comp_assoc : ∀ (a b c : List At), toN a = fromN b → toN b = fromN c → comp (comp a b) c = comp a (comp b c)
  | [], b, c, _, _ => by simp only [comp]
  | .d :: a, b, c, h, i => by simp only [comp, toN, fromN] at *; rw [comp_assoc a b c (by omega) (by omega)]
  | .k :: a, [], c, h, i => by simp [fromN, toN] at h
  | .p e :: a, [], c, h, i => by simp [fromN, toN] at h
  | .k :: a, .d :: b, c, h, i => by simp only [comp, toN, fromN] at *; rw [comp_assoc a b c (by omega) (by omega)]
  | .p e :: a, .d :: b, c, h, i => by simp only [comp, toN, fromN] at *; rw [comp_assoc a b c (by omega) (by omega)]
  | .k :: a, .k :: b, [], h, i => by simp [fromN, toN] at i
  | .k :: a, .k :: b, .p f :: c, h, i => by have := comp_assoc (.k :: a) (.k :: b) c h (by simpa [fromN, toN] using i); simp only [comp] at this ⊢; rw [this]
  | .k :: a, .k :: b, .k :: c, h, i => by simp only [comp, toN, fromN] at *; rw [comp_assoc a b c (by omega) (by omega)]
  | .k :: a, .k :: b, .d :: c, h, i => by simp only [comp, toN, fromN] at *; rw [comp_assoc a b c (by omega) (by omega)]
  | .k :: a, .p g :: b, [], h, i => by simp [fromN, toN] at i
  | .k :: a, .p g :: b, .p f :: c, h, i => by have := comp_assoc (.k :: a) (.p g :: b) c h (by simpa [fromN, toN] using i); simp only [comp] at this ⊢; rw [this]
  | .k :: a, .p g :: b, .k :: c, h, i => by simp only [comp, toN, fromN] at *; rw [comp_assoc (.k :: a) b c (by simpa only [toN] using h) (by omega)]
  | .k :: a, .p g :: b, .d :: c, h, i => by simp only [comp, toN, fromN] at *; rw [comp_assoc (.k :: a) b c (by simpa only [toN] using h) (by omega)]
  | .p e :: a, .k :: b, [], h, i => by simp [fromN, toN] at i
  | .p e :: a, .k :: b, .p f :: c, h, i => by have := comp_assoc (.p e :: a) (.k :: b) c h (by simpa [fromN, toN] using i); simp only [comp] at this ⊢; rw [this]
  | .p e :: a, .k :: b, .k :: c, h, i => by simp only [comp, toN, fromN] at *; rw [comp_assoc a b c (by omega) (by omega)]
  | .p e :: a, .k :: b, .d :: c, h, i => by simp only [comp, toN, fromN] at *; rw [comp_assoc a b c (by omega) (by omega)]
  | .p e :: a, .p g :: b, [], h, i => by simp [fromN, toN] at i
  | .p e :: a, .p g :: b, .p f :: c, h, i => by have := comp_assoc (.p e :: a) (.p g :: b) c h (by simpa [fromN, toN] using i); simp only [comp] at this ⊢; rw [this]
  | .p e :: a, .p g :: b, .k :: c, h, i => by simp only [comp, toN, fromN] at *; rw [comp_assoc (.p e :: a) b c (by simpa only [toN] using h) (by omega)]
  | .p e :: a, .p g :: b, .d :: c, h, i => by simp only [comp, toN, fromN] at *; rw [comp_assoc (.p e :: a) b c (by simpa only [toN] using h) (by omega)]
termination_by a b c => a.length + b.length + c.length
/-- an edit as it is behind another one; what it puts stands ahead -/
def one : List At → List At → List At
  | .p c :: x, y => .p c :: one x y
  | [], [] => []
  | [], .p c :: y => .k :: one [] y
  | [], .k :: y => one [] y
  | [], .d :: y => one [] y
  | .k :: x, [] => one x []
  | .k :: x, .p c :: y => .k :: one (.k :: x) y
  | .k :: x, .k :: y => .k :: one x y
  | .k :: x, .d :: y => one x y
  | .d :: x, [] => one x []
  | .d :: x, .p c :: y => .k :: one (.d :: x) y
  | .d :: x, .k :: y => .d :: one x y
  | .d :: x, .d :: y => one x y
termination_by x y => x.length + y.length
/-- the other one as it is behind the first -/
def two : List At → List At → List At
  | .p c :: x, y => .k :: two x y
  | [], [] => []
  | [], .p c :: y => .p c :: two [] y
  | [], .k :: y => two [] y
  | [], .d :: y => two [] y
  | .k :: x, [] => two x []
  | .k :: x, .p c :: y => .p c :: two (.k :: x) y
  | .k :: x, .k :: y => .k :: two x y
  | .k :: x, .d :: y => .d :: two x y
  | .d :: x, [] => two x []
  | .d :: x, .p c :: y => .p c :: two (.d :: x) y
  | .d :: x, .k :: y => two x y
  | .d :: x, .d :: y => two x y
termination_by x y => x.length + y.length
theorem square : ∀ (a b : List At), fromN a = fromN b → Sw (comp a (two a b)) (comp b (one a b))
  | .p c :: x, y, h => by
    have ih := square x y (by simpa [fromN] using h)
    simp only [one, two, comp]
    exact (ih.cons _).trans (comp_put c y (one x y)).symm
  | [], [], h => by simp only [one, two, comp]; exact .refl _
  | [], .p c :: y, h => by
    have ih := square [] y (by simpa [fromN] using h)
    simp only [one, two, comp] at ih ⊢
    exact ih.cons _
  | [], .k :: y, h => by simp [fromN] at h
  | [], .d :: y, h => by simp [fromN] at h
  | .k :: x, [], h => by simp [fromN] at h
  | .k :: x, .p c :: y, h => by
    have ih := square (.k :: x) y (by simpa [fromN] using h)
    simp only [one, two, comp]
    exact ih.cons _
  | .k :: x, .k :: y, h => by
    have ih := square x y (by simpa [fromN] using h)
    simp only [one, two, comp]
    exact ih.cons _
  | .k :: x, .d :: y, h => by
    have ih := square x y (by simpa [fromN] using h)
    simp only [one, two, comp]
    exact ih.cons _
  | .d :: x, [], h => by simp [fromN] at h
  | .d :: x, .p c :: y, h => by
    have ih := square (.d :: x) y (by simpa [fromN] using h)
    simp only [one, two]
    refine (comp_put c (.d :: x) _).trans ?_
    simp only [comp] at ih ⊢
    exact ih.cons _
  | .d :: x, .k :: y, h => by
    have ih := square x y (by simpa [fromN] using h)
    simp only [one, two, comp]
    exact ih.cons _
  | .d :: x, .d :: y, h => by
    have ih := square x y (by simpa [fromN] using h)
    simp only [one, two, comp]
    exact ih.cons _
termination_by a b => a.length + b.length
theorem sizes : ∀ (a b : List At), fromN a = fromN b → fromN (one a b) = toN b ∧ fromN (two a b) = toN a ∧ toN (one a b) = toN (two a b) ∧ putsN (one a b) = putsN a ∧ putsN (two a b) = putsN b
  | .p c :: x, y, h => by
    have ih := sizes x y (by simpa [fromN] using h)
    simp only [one, two, fromN, toN, putsN]
    omega
  | [], [], h => by simp [one, two, fromN, toN, putsN]
  | [], .p c :: y, h => by
    have ih := sizes [] y (by simpa [fromN] using h)
    simp only [one, two, fromN, toN, putsN] at ih ⊢
    omega
  | [], .k :: y, h => by simp [fromN] at h
  | [], .d :: y, h => by simp [fromN] at h
  | .k :: x, [], h => by simp [fromN] at h
  | .k :: x, .p c :: y, h => by
    have ih := sizes (.k :: x) y (by simpa [fromN] using h)
    simp only [one, two, fromN, toN, putsN] at ih ⊢
    omega
  | .k :: x, .k :: y, h => by
    have ih := sizes x y (by simpa [fromN] using h)
    simp only [one, two, fromN, toN, putsN] at ih ⊢
    omega
  | .k :: x, .d :: y, h => by
    have ih := sizes x y (by simpa [fromN] using h)
    simp only [one, two, fromN, toN, putsN] at ih ⊢
    omega
  | .d :: x, [], h => by simp [fromN] at h
  | .d :: x, .p c :: y, h => by
    have ih := sizes (.d :: x) y (by simpa [fromN] using h)
    simp only [one, two, fromN, toN, putsN] at ih ⊢
    omega
  | .d :: x, .k :: y, h => by
    have ih := sizes x y (by simpa [fromN] using h)
    simp only [one, two, fromN, toN, putsN] at ih ⊢
    omega
  | .d :: x, .d :: y, h => by
    have ih := sizes x y (by simpa [fromN] using h)
    simp only [one, two, fromN, toN, putsN] at ih ⊢
    omega
termination_by a b => a.length + b.length
/-- what an edit makes of a text -/
def app : List At → List (List UInt8) → List (List UInt8)
  | [], s => s
  | .p c :: x, s => c :: app x s
  | .k :: x, [] => app x []
  | .k :: x, c :: s => c :: app x s
  | .d :: x, [] => app x []
  | .d :: x, _ :: s => app x s
theorem app_len : ∀ (x : List At) (s : List (List UInt8)), s.length = fromN x → (app x s).length = toN x
  | [], s, h => by simpa [app, fromN, toN] using h
  | .p c :: x, s, h => by simp only [app, fromN, toN, List.length_cons] at *; rw [app_len x s h]
  | .k :: x, [], h => by simp [fromN] at h
  | .k :: x, c :: s, h => by simp only [app, fromN, toN, List.length_cons] at *; rw [app_len x s (by omega)]
  | .d :: x, [], h => by simp [fromN] at h
  | .d :: x, c :: s, h => by simp only [app, fromN, toN, List.length_cons] at *; rw [app_len x s (by omega)]
theorem app_sw {x y : List At} (h : Sw x y) : ∀ s, app x s = app y s := by
  induction h with
  | refl x => intro _; rfl
  | cons t _ ih =>
    intro s
    cases t with
    | p c => simp only [app, ih]
    | k => cases s <;> simp only [app, ih]
    | d => cases s <;> simp only [app, ih]
  | swap c x => intro s; cases s <;> simp only [app]
  | symm _ ih => intro s; exact (ih s).symm
  | trans _ _ ih1 ih2 => intro s; exact (ih1 s).trans (ih2 s)
theorem app_can (x : List At) (s : List (List UInt8)) : app (can x) s = app x s := (app_sw (can_sw x) s).symm
theorem app_comp : ∀ (a b : List At) (s : List (List UInt8)), s.length = fromN a → toN a = fromN b → app (comp a b) s = app b (app a s)
  | [], b, s, h, i => by simp only [comp, app]
  | .d :: a, b, [], h, i => by simp [fromN] at h
  | .d :: a, b, c :: s, h, i => by simp only [comp, app, fromN, toN, List.length_cons] at *; rw [app_comp a b s (by omega) i]
  | .k :: a, [], s, h, i => by simp [fromN, toN] at i
  | .p e :: a, [], s, h, i => by simp [fromN, toN] at i
  | .k :: a, .p f :: b, s, h, i => by
    have := app_comp (.k :: a) b s h (by simpa [fromN, toN] using i)
    simp only [comp, app, this]
  | .p e :: a, .p f :: b, s, h, i => by
    have := app_comp (.p e :: a) b s h (by simpa [fromN, toN] using i)
    simp only [comp, app] at this ⊢
    rw [this]
  | .k :: a, .k :: b, [], h, i => by simp [fromN] at h
  | .k :: a, .k :: b, c :: s, h, i => by simp only [comp, app, fromN, toN, List.length_cons] at *; rw [app_comp a b s (by omega) (by omega)]
  | .k :: a, .d :: b, [], h, i => by simp [fromN] at h
  | .k :: a, .d :: b, c :: s, h, i => by simp only [comp, app, fromN, toN, List.length_cons] at *; rw [app_comp a b s (by omega) (by omega)]
  | .p e :: a, .k :: b, s, h, i => by simp only [comp, app, fromN, toN] at *; rw [app_comp a b s (by omega) (by omega)]
  | .p e :: a, .d :: b, s, h, i => by simp only [comp, app, fromN, toN] at *; rw [app_comp a b s (by omega) (by omega)]
termination_by a b => a.length + b.length
/-- the way around: both make one text -/
theorem diamond (a b : List At) (s : List (List UInt8)) (ha : s.length = fromN a) (hb : s.length = fromN b) : app (two a b) (app a s) = app (one a b) (app b s) := by
  have z := sizes a b (by omega)
  rw [← app_comp a (two a b) s ha (by omega), ← app_comp b (one a b) s hb (by omega)]
  exact app_sw (square a b (by omega)) s
/-- the edit that undoes one -/
def inv : List At → List (List UInt8) → List At
  | [], s => []
  | .p c :: x, s => .d :: inv x s
  | .k :: x, [] => inv x []
  | .k :: x, c :: s => .k :: inv x s
  | .d :: x, [] => inv x []
  | .d :: x, c :: s => .p c :: inv x s
theorem inv_sizes : ∀ (x : List At) (s : List (List UInt8)), s.length = fromN x → fromN (inv x s) = toN x ∧ toN (inv x s) = fromN x
  | [], s, h => by simp [inv, fromN, toN]
  | .p c :: x, s, h => by have := inv_sizes x s h; simp only [inv, fromN, toN, List.length_cons] at *; omega
  | .k :: x, [], h => by simp [fromN] at h
  | .k :: x, c :: s, h => by have := inv_sizes x s (by simpa [fromN] using h); simp only [inv, fromN, toN, List.length_cons] at *; omega
  | .d :: x, [], h => by simp [fromN] at h
  | .d :: x, c :: s, h => by have := inv_sizes x s (by simpa [fromN] using h); simp only [inv, fromN, toN, List.length_cons] at *; omega
theorem inv_app : ∀ (x : List At) (s : List (List UInt8)), s.length = fromN x → app (inv x s) (app x s) = s
  | [], s, h => by simp [inv, app]
  | .p c :: x, s, h => by simp only [inv, app]; exact inv_app x s h
  | .k :: x, [], h => by simp [fromN] at h
  | .k :: x, c :: s, h => by simp only [inv, app]; rw [inv_app x s (by simpa [fromN] using h)]
  | .d :: x, [], h => by simp [fromN] at h
  | .d :: x, c :: s, h => by simp only [inv, app]; rw [inv_app x s (by simpa [fromN] using h)]
/-- what is kept and what is dropped, without what is put -/
def mask : List At → List Bool
  | [] => []
  | .p _ :: x => mask x
  | .k :: x => false :: mask x
  | .d :: x => true :: mask x
def cntB : List Bool → List Bool → Nat
  | true :: x, false :: y => cntB x y + 1
  | _ :: x, _ :: y => cntB x y
  | _, _ => 0
theorem mask_sw {x y : List At} (h : Sw x y) : mask x = mask y := by
  induction h with
  | refl x => rfl
  | cons s _ ih => cases s <;> simp only [mask, ih]
  | swap c x => simp only [mask]
  | symm _ ih => exact ih.symm
  | trans _ _ ih1 ih2 => exact ih1.trans ih2
theorem cntB_nil (x : List Bool) : cntB x [] = 0 := by cases x <;> simp [cntB]
theorem one_nil : ∀ x : List At, dropsN (one x []) = 0
  | [] => by simp [one, dropsN]
  | .p c :: x => by simp only [one, dropsN]; exact one_nil x
  | .k :: x => by simp only [one]; exact one_nil x
  | .d :: x => by simp only [one]; exact one_nil x
theorem drops_mask : ∀ (x y : List At), dropsN (one x y) = cntB (mask x) (mask y)
  | .p c :: x, y => by simp only [one, dropsN, mask]; exact drops_mask x y
  | x, [] => by rw [one_nil]; simp [mask, cntB_nil]
  | [], .p c :: y => by have := drops_mask [] y; simpa only [one, dropsN, mask] using this
  | [], .k :: y => by have := drops_mask [] y; simp only [one, dropsN, mask, cntB] at this ⊢; rw [this]
  | [], .d :: y => by have := drops_mask [] y; simp only [one, dropsN, mask, cntB] at this ⊢; rw [this]
  | .k :: x, .p c :: y => by have := drops_mask (.k :: x) y; simpa only [one, dropsN, mask] using this
  | .k :: x, .k :: y => by simp only [one, dropsN, mask, cntB]; exact drops_mask x y
  | .k :: x, .d :: y => by simp only [one, dropsN, mask, cntB]; exact drops_mask x y
  | .d :: x, .p c :: y => by have := drops_mask (.d :: x) y; simpa only [one, dropsN, mask] using this
  | .d :: x, .k :: y => by simp only [one, dropsN, mask, cntB]; rw [drops_mask x y]
  | .d :: x, .d :: y => by simp only [one, dropsN, mask, cntB]; exact drops_mask x y
termination_by x y => x.length + y.length
theorem drops_sw {x z y u : List At} (h : Sw x z) (k : Sw y u) : dropsN (one x y) = dropsN (one z u) := by
  rw [drops_mask, drops_mask, mask_sw h, mask_sw k]
/-- how much is dropped behind another one -/
theorem drops_one : ∀ (a b c : List At), fromN a = fromN b → toN b = fromN c → dropsN (one (one a b) c) = dropsN (one a (comp b c))
  | .p e :: a, b, c, h, i => by
    simp only [one, dropsN]
    exact drops_one a b c (by simpa [fromN] using h) i
  | [], [], c, h, i => by simp only [one, comp]
  | [], .p f :: b, [], h, i => by simp [fromN, toN] at i
  | [], .p f :: b, .p g :: c, h, i => by
    have ih := drops_one [] (.p f :: b) c h (by simpa [fromN, toN] using i)
    simp only [one, comp, dropsN] at ih ⊢
    rw [ih]
  | [], .p f :: b, .k :: c, h, i => by
    have ih := drops_one [] b c (by simpa [fromN] using h) (by simpa [fromN, toN] using i)
    simp only [one, comp, dropsN] at ih ⊢
    rw [ih]
  | [], .p f :: b, .d :: c, h, i => by
    have ih := drops_one [] b c (by simpa [fromN] using h) (by simpa [fromN, toN] using i)
    simp only [one, comp, dropsN] at ih ⊢
    rw [ih]
  | .k :: a, .p f :: b, [], h, i => by simp [fromN, toN] at i
  | .k :: a, .p f :: b, .p g :: c, h, i => by
    have ih := drops_one (.k :: a) (.p f :: b) c h (by simpa [fromN, toN] using i)
    simp only [one, comp, dropsN] at ih ⊢
    rw [ih]
  | .k :: a, .p f :: b, .k :: c, h, i => by
    have ih := drops_one (.k :: a) b c (by simpa [fromN] using h) (by simpa [fromN, toN] using i)
    simp only [one, comp, dropsN] at ih ⊢
    rw [ih]
  | .k :: a, .p f :: b, .d :: c, h, i => by
    have ih := drops_one (.k :: a) b c (by simpa [fromN] using h) (by simpa [fromN, toN] using i)
    simp only [one, comp, dropsN] at ih ⊢
    rw [ih]
  | .d :: a, .p f :: b, [], h, i => by simp [fromN, toN] at i
  | .d :: a, .p f :: b, .p g :: c, h, i => by
    have ih := drops_one (.d :: a) (.p f :: b) c h (by simpa [fromN, toN] using i)
    simp only [one, comp, dropsN] at ih ⊢
    rw [ih]
  | .d :: a, .p f :: b, .k :: c, h, i => by
    have ih := drops_one (.d :: a) b c (by simpa [fromN] using h) (by simpa [fromN, toN] using i)
    simp only [one, comp, dropsN] at ih ⊢
    rw [ih]
  | .d :: a, .p f :: b, .d :: c, h, i => by
    have ih := drops_one (.d :: a) b c (by simpa [fromN] using h) (by simpa [fromN, toN] using i)
    simp only [one, comp, dropsN] at ih ⊢
    rw [ih]
  | [], .k :: b, c, h, i => by simp [fromN] at h
  | [], .d :: b, c, h, i => by simp [fromN] at h
  | .k :: a, [], c, h, i => by simp [fromN] at h
  | .d :: a, [], c, h, i => by simp [fromN] at h
  | .k :: a, .d :: b, c, h, i => by
    have ih := drops_one a b c (by simpa [fromN] using h) (by simpa [fromN, toN] using i)
    simp only [one, comp, dropsN] at ih ⊢
    rw [ih]
  | .k :: a, .k :: b, [], h, i => by simp [fromN, toN] at i
  | .k :: a, .k :: b, .p g :: c, h, i => by
    have ih := drops_one (.k :: a) (.k :: b) c h (by simpa [fromN, toN] using i)
    simp only [one, comp, dropsN] at ih ⊢
    rw [ih]
  | .k :: a, .k :: b, .k :: c, h, i => by
    have ih := drops_one a b c (by simpa [fromN] using h) (by simpa [fromN, toN] using i)
    simp only [one, comp, dropsN] at ih ⊢
    rw [ih]
  | .k :: a, .k :: b, .d :: c, h, i => by
    have ih := drops_one a b c (by simpa [fromN] using h) (by simpa [fromN, toN] using i)
    simp only [one, comp, dropsN] at ih ⊢
    rw [ih]
  | .d :: a, .d :: b, c, h, i => by
    have ih := drops_one a b c (by simpa [fromN] using h) (by simpa [fromN, toN] using i)
    simp only [one, comp, dropsN] at ih ⊢
    rw [ih]
  | .d :: a, .k :: b, [], h, i => by simp [fromN, toN] at i
  | .d :: a, .k :: b, .p g :: c, h, i => by
    have ih := drops_one (.d :: a) (.k :: b) c h (by simpa [fromN, toN] using i)
    simp only [one, comp, dropsN] at ih ⊢
    rw [ih]
  | .d :: a, .k :: b, .k :: c, h, i => by
    have ih := drops_one a b c (by simpa [fromN] using h) (by simpa [fromN, toN] using i)
    simp only [one, comp, dropsN] at ih ⊢
    rw [ih]
  | .d :: a, .k :: b, .d :: c, h, i => by
    have ih := drops_one a b c (by simpa [fromN] using h) (by simpa [fromN, toN] using i)
    simp only [one, comp, dropsN] at ih ⊢
    rw [ih]
termination_by a b c => a.length + b.length + c.length
/-- where a place is -/
def cur : List At → Nat → Bool → Nat
  | [], _, _ => 0
  | .p _ :: x, n, f => (if n = 0 ∧ f = false then 0 else 1) + cur x n f
  | .k :: x, 0, f => 0
  | .k :: x, n + 1, f => 1 + cur x n f
  | .d :: x, 0, f => 0
  | .d :: x, n + 1, f => cur x n f
theorem cur_zero : ∀ x : List At, cur x 0 false = 0
  | [] => by simp [cur]
  | .p _ :: x => by simp [cur, cur_zero x]
  | .k :: x => by simp [cur]
  | .d :: x => by simp [cur]
theorem cur_le : ∀ (x : List At) (n : Nat) (f : Bool), cur x n f ≤ toN x
  | [], _, _ => by simp [cur]
  | .p _ :: x, n, f => by have := cur_le x n f; simp only [cur, toN]; split <;> omega
  | .k :: x, 0, f => by simp [cur]
  | .k :: x, n + 1, f => by have := cur_le x n f; simp only [cur, toN]; omega
  | .d :: x, 0, f => by simp [cur]
  | .d :: x, n + 1, f => by have := cur_le x n f; simp only [cur, toN]; omega
theorem cur_flag : ∀ (x : List At) (n : Nat), cur x n false ≤ cur x n true
  | [], _ => by simp [cur]
  | .p _ :: x, n => by have := cur_flag x n; simp only [cur]; split <;> simp <;> omega
  | .k :: x, 0 => by simp [cur]
  | .k :: x, n + 1 => by have := cur_flag x n; simp only [cur]; omega
  | .d :: x, 0 => by simp [cur]
  | .d :: x, n + 1 => by have := cur_flag x n; simp only [cur]; omega
theorem cur_mono : ∀ (x : List At) (n m : Nat), n ≤ m → cur x n false ≤ cur x m false
  | [], _, _, _ => by simp [cur]
  | .p _ :: x, n, m, h => by
    have := cur_mono x n m h
    simp only [cur, and_true]
    split
    · omega
    · rw [if_neg (by omega)]; omega
  | .k :: x, 0, m, h => by simp [cur]
  | .k :: x, n + 1, 0, h => by omega
  | .k :: x, n + 1, m + 1, h => by have := cur_mono x n m (by omega); simp only [cur]; omega
  | .d :: x, 0, m, h => by simp [cur]
  | .d :: x, n + 1, 0, h => by omega
  | .d :: x, n + 1, m + 1, h => by have := cur_mono x n m (by omega); simp only [cur]; omega
theorem cur_comp : ∀ (a b : List At) (n : Nat) (f : Bool), dropsN a = 0 → dropsN b = 0 → toN a = fromN b → n ≤ fromN a → cur (comp a b) n f = cur b (cur a n f) f
  | [], b, n, f, _, _, h, hn => by simp only [comp, cur, fromN] at *; obtain rfl : n = 0 := by omega
                                   rfl
  | .d :: a, b, n, f, h, _, _, _ => by simp [dropsN] at h
  | .k :: a, [], n, f, _, _, h, _ => by simp [fromN, toN] at h
  | .p e :: a, [], n, f, _, _, h, _ => by simp [fromN, toN] at h
  | .k :: a, .d :: b, n, f, _, h, _, _ => by simp [dropsN] at h
  | .p e :: a, .d :: b, n, f, _, h, _, _ => by simp [dropsN] at h
  | .k :: a, .p c :: b, n, f, h1, h2, h3, h4 => by
    have ih := cur_comp (.k :: a) b n f h1 (by simpa [dropsN] using h2) (by simpa [fromN, toN] using h3) h4
    cases n with
    | zero => simp only [comp, cur] at ih ⊢; rw [ih]
    | succ n =>
      have e1 : cur (.k :: a) (n + 1) f = 1 + cur a n f := by simp only [cur]
      rw [e1] at ih ⊢
      have e2 : cur (comp (.k :: a) (.p c :: b)) (n + 1) f = 1 + cur (comp (.k :: a) b) (n + 1) f := by simp [comp, cur]
      have e3 : cur (.p c :: b) (1 + cur a n f) f = 1 + cur b (1 + cur a n f) f := by
        rw [cur, if_neg (by omega)]
      rw [e2, e3, ih]
  | .k :: a, .k :: b, 0, f, h1, h2, h3, h4 => by simp only [comp, cur]
  | .k :: a, .k :: b, n + 1, f, h1, h2, h3, h4 => by
    have ih := cur_comp a b n f (by simpa [dropsN] using h1) (by simpa [dropsN] using h2) (by simpa [fromN, toN] using h3) (by simpa [fromN] using h4)
    simp only [comp, cur, ih]
    rw [Nat.add_comm 1 (cur a n f)]
    simp only [cur]
  | .p e :: a, .p c :: b, n, f, h1, h2, h3, h4 => by
    have ih := cur_comp (.p e :: a) b n f h1 (by simpa [dropsN] using h2) (by simpa [fromN, toN] using h3) h4
    simp only [comp]
    rw [cur, ih]
    conv => rhs; rw [cur]
    congr 1
    by_cases hf : n = 0 ∧ f = false
    · obtain ⟨rfl, rfl⟩ := hf
      rw [cur_zero]
    · rw [if_neg hf]
      have : ¬ (cur (.p e :: a) n f = 0) := by simp only [cur]; rw [if_neg hf]; omega
      rw [if_neg (fun q => this q.1)]
  | .p e :: a, .k :: b, n, f, h1, h2, h3, h4 => by
    have ih := cur_comp a b n f (by simpa [dropsN] using h1) (by simpa [dropsN] using h2) (by simpa [fromN, toN] using h3) (by simpa [fromN] using h4)
    simp only [comp]
    by_cases hf : n = 0 ∧ f = false
    · obtain ⟨rfl, rfl⟩ := hf
      rw [cur_zero, cur_zero, cur_zero]
    · simp only [cur]
      rw [if_neg hf, ih, Nat.add_comm 1 (cur a n f)]
      simp only [cur]
termination_by a b => a.length + b.length
theorem drops_comp : ∀ (a b : List At), dropsN a = 0 → dropsN b = 0 → dropsN (comp a b) = 0
  | [], b, _, h => by simpa only [comp] using h
  | .d :: a, b, h, _ => by simp [dropsN] at h
  | .k :: a, [], h, _ => by simp only [comp]; exact drops_comp a [] (by simpa [dropsN] using h) rfl
  | .p e :: a, [], h, _ => by simp only [comp]; exact drops_comp a [] (by simpa [dropsN] using h) rfl
  | .k :: a, .d :: b, _, h => by simp [dropsN] at h
  | .p e :: a, .d :: b, _, h => by simp [dropsN] at h
  | .k :: a, .p c :: b, h, i => by simp only [comp, dropsN]; exact drops_comp (.k :: a) b h (by simpa [dropsN] using i)
  | .p e :: a, .p c :: b, h, i => by simp only [comp, dropsN]; exact drops_comp (.p e :: a) b h (by simpa [dropsN] using i)
  | .k :: a, .k :: b, h, i => by simp only [comp, dropsN]; exact drops_comp a b (by simpa [dropsN] using h) (by simpa [dropsN] using i)
  | .p e :: a, .k :: b, h, i => by simp only [comp, dropsN]; exact drops_comp a b (by simpa [dropsN] using h) (by simpa [dropsN] using i)
termination_by a b => a.length + b.length
theorem canG_nodrop : ∀ (x : List At) (ps : List (List UInt8)), dropsN x = 0 → canG ps 0 x = ps.map .p ++ x
  | [], ps, _ => by simp [canG]
  | .d :: x, ps, h => by simp [dropsN] at h
  | .k :: x, ps, h => by simp only [canG]; rw [canG_nodrop x [] (by simpa [dropsN] using h)]; simp
  | .p c :: x, ps, h => by simp only [canG]; rw [canG_nodrop x _ (by simpa [dropsN] using h)]; simp
theorem can_nodrop (x : List At) (h : dropsN x = 0) : can x = x := by
  have := canG_nodrop x [] h
  simpa [can] using this
theorem comp_same (n : Nat) : ∀ y : List At, fromN y = n → comp (List.replicate n .k) y = y := by
  induction n with
  | zero => intro y h; simp [comp]
  | succ n ih =>
    intro y h
    rw [List.replicate_succ]
    induction y with
    | nil => simp [fromN] at h
    | cons s y ih2 =>
      cases s with
      | k => simp only [comp]; rw [ih y (by simpa [fromN] using h)]
      | d => simp only [comp]; rw [ih y (by simpa [fromN] using h)]
      | p c => simp only [comp]; rw [ih2 (by simpa [fromN] using h)]
theorem comp_end : ∀ x : List At, comp x (List.replicate (toN x) .k) = x
  | [] => by simp [comp, toN]
  | .d :: x => by simp only [comp, toN]; rw [comp_end x]
  | .k :: x => by simp only [toN, List.replicate_succ, comp]; rw [comp_end x]
  | .p c :: x => by simp only [toN, List.replicate_succ, comp]; rw [comp_end x]
theorem one_same : ∀ x : List At, one x (List.replicate (fromN x) .k) = x
  | [] => by simp [one, fromN]
  | .d :: x => by simp only [fromN, List.replicate_succ, one]; rw [one_same x]
  | .k :: x => by simp only [fromN, List.replicate_succ, one]; rw [one_same x]
  | .p c :: x => by simp only [fromN, one]; rw [one_same x]
theorem two_same : ∀ x : List At, two x (List.replicate (fromN x) .k) = List.replicate (toN x) .k
  | [] => by simp [two, fromN, toN]
  | .d :: x => by simp only [fromN, toN, List.replicate_succ, two]; rw [two_same x]
  | .k :: x => by simp only [fromN, toN, List.replicate_succ, two]; rw [two_same x]
  | .p c :: x => by simp only [fromN, toN, List.replicate_succ, two]; rw [two_same x]
end At
end Go.Proofs.YtonabfpgdgnpnaaDoor
