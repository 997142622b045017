/- How many code points can be kept between two texts, and the edit that keeps them: mathematics. -/
import Derived.Test.YtonabfpgdgnpnaaDoorAtm
namespace Go.Proofs.YtonabfpgdgnpnaaDoor
set_option linter.unusedVariables false
set_option linter.unusedSimpArgs false

abbrev CP := List UInt8
def lcs : List CP → List CP → Nat
  | [], _ => 0
  | _ :: _, [] => 0
  | c :: x, d :: y => if c = d then lcs x y + 1 else max (lcs x (d :: y)) (lcs (c :: x) y)
termination_by x y => x.length + y.length
theorem lcs_nil_left (y : List CP) : lcs [] y = 0 := by rw [lcs]
theorem lcs_nil_right : ∀ x : List CP, lcs x [] = 0
  | [] => by rw [lcs]
  | _ :: _ => by rw [lcs]
theorem lcs_eq {c : CP} (x y : List CP) : lcs (c :: x) (c :: y) = lcs x y + 1 := by rw [lcs, if_pos rfl]
theorem lcs_ne {c d : CP} (h : c ≠ d) (x y : List CP) : lcs (c :: x) (d :: y) = max (lcs x (d :: y)) (lcs (c :: x) y) := by rw [lcs, if_neg h]
theorem lcs_grow : ∀ (n : Nat) (x y : List CP), x.length + y.length ≤ n → (∀ c, lcs x y ≤ lcs (c :: x) y ∧ lcs (c :: x) y ≤ lcs x y + 1) ∧ (∀ d, lcs x y ≤ lcs x (d :: y) ∧ lcs x (d :: y) ≤ lcs x y + 1)
  | n, [], [], _ => by
    refine ⟨fun c => ?_, fun c => ?_⟩
    · rw [lcs_nil_right, lcs_nil_right]; omega
    · rw [lcs_nil_left, lcs_nil_left]; omega
  | 0, [], _ :: _, h => by simp at h
  | 0, _ :: _, _, h => by simp at h
  | n + 1, x, y, h => by
    have left : ∀ c, lcs x y ≤ lcs (c :: x) y ∧ lcs (c :: x) y ≤ lcs x y + 1 := fun c => by
      cases y with
      | nil => rw [lcs_nil_right, lcs_nil_right]; omega
      | cons d y =>
        have ih := lcs_grow n x y (by rw [List.length_cons] at h; omega)
        have r := ih.2 d
        have l := ih.1 c
        by_cases e : c = d
        · subst e
          rw [lcs_eq]
          omega
        · rw [lcs_ne e]
          omega
    have right : ∀ d, lcs x y ≤ lcs x (d :: y) ∧ lcs x (d :: y) ≤ lcs x y + 1 := fun d => by
      cases x with
      | nil => rw [lcs_nil_left, lcs_nil_left]; omega
      | cons c x =>
        have ih := lcs_grow n x y (by rw [List.length_cons] at h; omega)
        have r := ih.2 d
        have l := ih.1 c
        by_cases e : c = d
        · subst e
          rw [lcs_eq]
          omega
        · rw [lcs_ne e]
          omega
    exact ⟨left, right⟩
theorem lcs_left (c : CP) (x y : List CP) : lcs x y ≤ lcs (c :: x) y ∧ lcs (c :: x) y ≤ lcs x y + 1 := (lcs_grow _ x y (Nat.le_refl _)).1 c
theorem lcs_right (d : CP) (x y : List CP) : lcs x y ≤ lcs x (d :: y) ∧ lcs x (d :: y) ≤ lcs x y + 1 := (lcs_grow _ x y (Nat.le_refl _)).2 d
theorem lcs_symm : ∀ (n : Nat) (x y : List CP), x.length + y.length ≤ n → lcs x y = lcs y x
  | _, [], y, _ => by rw [lcs_nil_left, lcs_nil_right]
  | _, _ :: _, [], _ => by rw [lcs_nil_left, lcs_nil_right]
  | 0, _ :: _, _ :: _, h => by simp at h
  | n + 1, c :: x, d :: y, h => by
    rw [List.length_cons, List.length_cons] at h
    by_cases e : c = d
    · subst e
      rw [lcs_eq, lcs_eq, lcs_symm n x y (by omega)]
    · rw [lcs_ne e, lcs_ne (Ne.symm e), lcs_symm n x (d :: y) (by rw [List.length_cons]; omega), lcs_symm n (c :: x) y (by rw [List.length_cons]; omega)]
      omega
theorem lcs_le : ∀ (n : Nat) (x y : List CP), x.length + y.length ≤ n → lcs x y ≤ x.length ∧ lcs x y ≤ y.length
  | _, [], y, _ => by rw [lcs_nil_left]; omega
  | _, _ :: _, [], _ => by rw [lcs_nil_right]; omega
  | 0, _ :: _, _ :: _, h => by simp at h
  | n + 1, c :: x, d :: y, h => by
    rw [List.length_cons, List.length_cons] at h ⊢
    by_cases e : c = d
    · subst e
      have := lcs_le n x y (by omega)
      rw [lcs_eq]
      omega
    · have h1 := lcs_le n x (d :: y) (by rw [List.length_cons]; omega)
      have h2 := lcs_le n (c :: x) y (by rw [List.length_cons]; omega)
      rw [List.length_cons] at h1 h2
      rw [lcs_ne e]
      omega
/-- the edit, one code point at a time -/
def leadA : List CP → List CP → List At
  | [], [] => []
  | [], d :: y => .p d :: leadA [] y
  | _ :: x, [] => .d :: leadA x []
  | c :: x, d :: y => if c = d then .k :: leadA x y else if lcs (c :: x) y ≤ lcs x (d :: y) then .d :: leadA x (d :: y) else .p d :: leadA (c :: x) y
termination_by x y => x.length + y.length
structure LeadOk (x y : List CP) (e : List At) : Prop where
  frm : At.fromN e = x.length
  to_ : At.toN e = y.length
  app : At.app e x = y
  drops : At.dropsN e + lcs x y = x.length
  puts : At.putsN e + lcs x y = y.length
theorem lead_ok : ∀ (n : Nat) (x y : List CP), x.length + y.length ≤ n → LeadOk x y (leadA x y)
  | _, [], [], _ => by rw [leadA]; exact ⟨rfl, rfl, rfl, by rw [lcs_nil_left]; rfl, by rw [lcs_nil_left]; rfl⟩
  | 0, [], _ :: _, h => by simp at h
  | 0, _ :: _, _, h => by simp at h
  | n + 1, [], d :: y, h => by
    rw [List.length_cons] at h
    have ih := lead_ok n [] y (by omega)
    have i4 := ih.drops
    have i5 := ih.puts
    rw [lcs_nil_left] at i4 i5
    rw [leadA]
    exact ⟨by simp only [At.fromN]; exact ih.frm, by simp only [At.toN, List.length_cons]; rw [ih.to_], by simp only [At.app]; rw [ih.app], by rw [lcs_nil_left]; simp only [At.dropsN]; omega, by rw [lcs_nil_left]; simp only [At.putsN, List.length_cons]; omega⟩
  | n + 1, c :: x, [], h => by
    rw [List.length_cons] at h
    have ih := lead_ok n x [] (by omega)
    have i4 := ih.drops
    have i5 := ih.puts
    rw [lcs_nil_right] at i4 i5
    rw [leadA]
    exact ⟨by simp only [At.fromN, List.length_cons]; rw [ih.frm], by simp only [At.toN]; exact ih.to_, by simp only [At.app]; rw [ih.app], by rw [lcs_nil_right]; simp only [At.dropsN, List.length_cons]; omega, by rw [lcs_nil_right]; simp only [At.putsN]; omega⟩
  | n + 1, c :: x, d :: y, h => by
    rw [List.length_cons, List.length_cons] at h
    by_cases e : c = d
    · subst e
      have ih := lead_ok n x y (by omega)
      have i4 := ih.drops
      have i5 := ih.puts
      rw [leadA, if_pos rfl]
      exact ⟨by simp only [At.fromN, List.length_cons]; rw [ih.frm], by simp only [At.toN, List.length_cons]; rw [ih.to_], by simp only [At.app]; rw [ih.app], by rw [lcs_eq]; simp only [At.dropsN, List.length_cons]; omega, by rw [lcs_eq]; simp only [At.putsN, List.length_cons]; omega⟩
    · have hl := lcs_ne e x y
      by_cases g : lcs (c :: x) y ≤ lcs x (d :: y)
      · have ih := lead_ok n x (d :: y) (by rw [List.length_cons]; omega)
        have i4 := ih.drops
        have i5 := ih.puts
        rw [leadA, if_neg e, if_pos g]
        exact ⟨by simp only [At.fromN, List.length_cons]; rw [ih.frm], by simp only [At.toN]; exact ih.to_, by simp only [At.app]; rw [ih.app], by rw [hl]; simp only [At.dropsN, List.length_cons]; omega, by rw [hl]; simp only [At.putsN]; omega⟩
      · have ih := lead_ok n (c :: x) y (by rw [List.length_cons]; omega)
        have i4 := ih.drops
        have i5 := ih.puts
        rw [leadA, if_neg e, if_neg g]
        exact ⟨by simp only [At.fromN]; exact ih.frm, by simp only [At.toN, List.length_cons]; rw [ih.to_], by simp only [At.app]; rw [ih.app], by rw [hl]; simp only [At.dropsN]; omega, by rw [hl]; simp only [At.putsN, List.length_cons]; omega⟩
theorem lead_is (x y : List CP) : LeadOk x y (leadA x y) := lead_ok _ x y (Nat.le_refl _)
/-- no edit of x keeps more -/
theorem keeps_most : ∀ (e : List At) (x : List CP), At.fromN e = x.length → x.length ≤ At.dropsN e + lcs x (At.app e x)
  | [], x, h => by simp [At.fromN] at h; simp [← h]
  | .p c :: e, x, h => by
    have ih := keeps_most e x (by simpa [At.fromN] using h)
    simp only [At.app, At.dropsN]
    have := lcs_right c x (At.app e x)
    omega
  | .k :: e, [], h => by simp [At.fromN] at h
  | .k :: e, c :: x, h => by
    have ih := keeps_most e x (by simpa [At.fromN] using h)
    simp only [At.app, At.dropsN, List.length_cons]
    rw [lcs_eq]
    omega
  | .d :: e, [], h => by simp [At.fromN] at h
  | .d :: e, c :: x, h => by
    have ih := keeps_most e x (by simpa [At.fromN] using h)
    simp only [At.app, At.dropsN, List.length_cons]
    have := lcs_left c x (At.app e x)
    omega
theorem from_to (e : List At) : At.fromN e + At.putsN e = At.toN e + At.dropsN e := by
  induction e with
  | nil => rfl
  | cons s e ih => cases s <;> simp only [At.fromN, At.putsN, At.toN, At.dropsN] <;> omega
/-- of all edits that make the same, the lead drops and puts least -/
theorem lead_short {e : List At} {x : List CP} (h : At.fromN e = x.length) : At.dropsN (leadA x (At.app e x)) ≤ At.dropsN e ∧ At.putsN (leadA x (At.app e x)) ≤ At.putsN e := by
  have h1 := keeps_most e x h
  have l := lead_is x (At.app e x)
  have l4 := l.drops
  have f1 := from_to e
  have f2 := from_to (leadA x (At.app e x))
  rw [l.frm, l.to_] at f2
  have hl : (At.app e x).length = At.toN e := At.app_len e x h.symm
  omega
theorem lead_same : ∀ x : List CP, leadA x x = List.replicate x.length .k
  | [] => by rw [leadA]; rfl
  | c :: x => by rw [leadA, if_pos rfl, lead_same x]; rfl
/-- the lead changes nothing just where the texts are the same -/
theorem lead_none {x y : List CP} (h : leadA x y = List.replicate x.length .k) : x = y := by
  have l := lead_is x y
  rw [h] at l
  have h2 := l.app
  have : ∀ z : List CP, At.app (List.replicate z.length .k) z = z := fun z => by
    induction z with
    | nil => rfl
    | cons c z ih => rw [List.length_cons, List.replicate_succ]; simp only [At.app]; rw [ih]
  rw [this] at h2
  exact h2
end Go.Proofs.YtonabfpgdgnpnaaDoor
