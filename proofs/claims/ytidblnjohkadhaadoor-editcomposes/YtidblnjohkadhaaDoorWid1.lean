/- What the document's loops over edits spread out make, step by step; no model in it. -/
import Derived.Test.YtidblnjohkadhaaDoorWid0
namespace Go.Proofs.YtidblnjohkadhaaDoor
set_option linter.unusedVariables false
set_option linter.unusedSimpArgs false

/-- the one that a code point makes, or none -/
def kp {α : Type} (b : Bool) (c : α) : List α := if b then [] else [c]
theorem appW_map (q : List (List UInt8)) (x : List At) (s : List (List UInt8)) : At.app (q.map .p ++ x) s = q ++ At.app x s := by
  induction q with
  | nil => rfl
  | cons c q ih => simp only [List.map_cons, List.cons_append, At.app, ih]
theorem appW_step (q : List (List UInt8)) (b : Bool) (x : List At) (c : List UInt8) (s : List (List UInt8)) : At.app (q.map .p ++ stp b :: x) (c :: s) = q ++ (kp b c ++ At.app x s) := by
  rw [appW_map]
  cases b <;> simp [stp, kp, At.app]
theorem appW_end (q : List (List UInt8)) : At.app (q.map .p) [] = q := by
  have := appW_map q [] []
  simpa [At.app] using this
theorem curW_map (q : List (List UInt8)) (x : List At) (n : Nat) (f : Bool) : At.cur (q.map .p ++ x) n f = (if n = 0 ∧ f = false then 0 else q.length) + At.cur x n f := by
  induction q with
  | nil => simp
  | cons c q ih =>
    simp only [List.map_cons, List.cons_append, At.cur, ih, List.length_cons]
    split <;> omega
theorem curW_step (q : List (List UInt8)) (b : Bool) (x : List At) (n : Nat) (f : Bool) : At.cur (q.map .p ++ stp b :: x) (n + 1) f = q.length + (if b then 0 else 1) + At.cur x n f := by
  rw [curW_map]
  cases b <;> simp [stp, At.cur] <;> omega
theorem curW_stop (q : List (List UInt8)) (b : Bool) (x : List At) (f : Bool) : At.cur (q.map .p ++ stp b :: x) 0 f = if f then q.length else 0 := by
  rw [curW_map]
  cases b <;> cases f <;> simp [stp, At.cur]
theorem curW_end (q : List (List UInt8)) (f : Bool) : At.cur (q.map .p) 0 f = if f then q.length else 0 := by
  have := curW_map q [] 0 f
  rw [List.append_nil] at this
  rw [this]
  cases f <;> simp [At.cur]
theorem invW_map (q : List (List UInt8)) (x : List At) (s : List (List UInt8)) : At.inv (q.map .p ++ x) s = List.replicate q.length .d ++ At.inv x s := by
  induction q with
  | nil => rfl
  | cons c q ih => simp only [List.map_cons, List.cons_append, At.inv, ih, List.length_cons, List.replicate_succ]
theorem invW_step (b : Bool) (x : List At) (c : List UInt8) (s : List (List UInt8)) : At.inv (stp b :: x) (c :: s) = (if b then .p c else .k) :: At.inv x s := by
  cases b <;> simp [stp, At.inv]
theorem compW_map (q : List (List UInt8)) (x : List At) (y : List At) (s : At) (hs : s ≠ .d) : At.comp (s :: x) (q.map .p ++ y) = q.map .p ++ At.comp (s :: x) y := by
  induction q with
  | nil => rfl
  | cons c q ih =>
    cases s with
    | d => exact absurd rfl hs
    | k => simp only [List.map_cons, List.cons_append, At.comp, ih]
    | p e => simp only [List.map_cons, List.cons_append, At.comp, ih]
theorem compW_p (c : List UInt8) (x : List At) (q : List (List UInt8)) (b : Bool) (y : List At) : At.comp (.p c :: x) (q.map .p ++ stp b :: y) = (q ++ kp b c).map .p ++ At.comp x y := by
  rw [compW_map _ _ _ _ (by intro h; cases h)]
  cases b <;> simp [stp, kp, At.comp]
theorem compW_k (x : List At) (q : List (List UInt8)) (b : Bool) (y : List At) : At.comp (.k :: x) (q.map .p ++ stp b :: y) = q.map .p ++ stp b :: At.comp x y := by
  rw [compW_map _ _ _ _ (by intro h; cases h)]
  cases b <;> simp [stp, kp, At.comp]
/-- one edit as it is behind another one: the first, or the second -/
def mt (f : Bool) (u v : List At) : List At := if f then At.one u v else At.two v u
theorem oneW_l (q : List (List UInt8)) (x y : List At) : At.one (q.map .p ++ x) y = q.map .p ++ At.one x y := by
  induction q with
  | nil => rfl
  | cons c q ih => simp only [List.map_cons, List.cons_append, At.one, ih]
theorem oneW_r (r : List (List UInt8)) (x y : List At) (hx : x = [] ∨ ∃ b z, x = stp b :: z) : At.one x (r.map .p ++ y) = List.replicate r.length .k ++ At.one x y := by
  induction r with
  | nil => rfl
  | cons c r ih =>
    rcases hx with rfl | ⟨b, z, rfl⟩
    · simp only [List.map_cons, List.cons_append, At.one, List.length_cons, List.replicate_succ]; rw [ih]
    · cases b
      · simp only [stp, Bool.false_eq_true, ↓reduceIte, List.map_cons, List.cons_append, At.one, List.length_cons, List.replicate_succ] at *; rw [ih]
      · simp only [stp, ↓reduceIte, List.map_cons, List.cons_append, At.one, List.length_cons, List.replicate_succ] at *; rw [ih]
theorem twoW_l (q : List (List UInt8)) (x y : List At) : At.two (q.map .p ++ x) y = List.replicate q.length .k ++ At.two x y := by
  induction q with
  | nil => rfl
  | cons c q ih => simp only [List.map_cons, List.cons_append, At.two, ih, List.length_cons, List.replicate_succ]
theorem twoW_r (r : List (List UInt8)) (x y : List At) (hx : x = [] ∨ ∃ b z, x = stp b :: z) : At.two x (r.map .p ++ y) = r.map .p ++ At.two x y := by
  induction r with
  | nil => rfl
  | cons c r ih =>
    rcases hx with rfl | ⟨b, z, rfl⟩
    · simp only [List.map_cons, List.cons_append, At.two, List.length_cons, List.replicate_succ]; rw [ih]
    · cases b
      · simp only [stp, Bool.false_eq_true, ↓reduceIte, List.map_cons, List.cons_append, At.two, List.length_cons, List.replicate_succ] at *; rw [ih]
      · simp only [stp, ↓reduceIte, List.map_cons, List.cons_append, At.two, List.length_cons, List.replicate_succ] at *; rw [ih]
/-- what is put of the one, and what is kept of what the other puts -/
def mtP (f : Bool) (q r : List (List UInt8)) : List At := if f then q.map .p ++ List.replicate r.length .k else List.replicate r.length .k ++ q.map .p
theorem mt_step (f : Bool) (q r : List (List UInt8)) (b c : Bool) (x y : List At) : mt f (q.map .p ++ stp b :: x) (r.map .p ++ stp c :: y) = mtP f q r ++ (kp c (stp b) ++ mt f x y) := by
  cases f
  · simp only [mt, mtP, Bool.false_eq_true, ↓reduceIte]
    rw [twoW_l, twoW_r _ _ _ (.inr ⟨_, _, rfl⟩)]
    cases b <;> cases c <;> simp [stp, kp, At.two]
  · simp only [mt, mtP, ↓reduceIte]
    rw [oneW_l, oneW_r _ _ _ (.inr ⟨_, _, rfl⟩)]
    cases b <;> cases c <;> simp [stp, kp, At.one]
theorem mt_end (f : Bool) (q r : List (List UInt8)) : mt f (q.map .p) (r.map .p) = mtP f q r := by
  cases f
  · simp only [mt, mtP, Bool.false_eq_true, ↓reduceIte]
    have h1 := twoW_l r [] (q.map .p)
    have h2 := twoW_r q [] [] (.inl rfl)
    rw [List.append_nil] at h1 h2
    rw [h1, h2]
    simp [At.two]
  · simp only [mt, mtP, ↓reduceIte]
    have h1 := oneW_l q [] (r.map .p)
    have h2 := oneW_r r [] [] (.inl rfl)
    rw [List.append_nil] at h1 h2
    rw [h1, h2]
    simp [At.one]
/-- a wide edit that grows at its end -/
theorem wAts_next {P : List (List (List UInt8))} {D : List Bool} (h : P.length = D.length + 1) (b : Bool) : wAts (P ++ [[]]) (D ++ [b]) = wAts P D ++ [stp b] := by
  rcases List.eq_nil_or_concat P with rfl | ⟨P', q, rfl⟩
  · simp at h
  · rw [List.concat_eq_append] at h ⊢
    have hl : P'.length = D.length := by simpa using h
    rw [wAts_snoc (P' ++ [q]) (D ++ [b]) [] (by simp [hl]), wPre_snoc _ _ _ _ hl, wAts_snoc _ _ _ hl]
    simp
theorem wAts_more {P : List (List (List UInt8))} {D : List Bool} {q r : List (List UInt8)} (h : P.length = D.length) : wAts (P ++ [q ++ r]) D = wAts (P ++ [q]) D ++ r.map .p := by
  rw [wAts_snoc _ _ _ h, wAts_snoc _ _ _ h, List.map_append, List.append_assoc]
end Go.Proofs.YtidblnjohkadhaaDoor
