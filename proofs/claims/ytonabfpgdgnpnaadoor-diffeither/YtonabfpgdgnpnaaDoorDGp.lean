/- Where two edits don't put at one place, their order doesn't matter. -/
import Derived.Test.YtonabfpgdgnpnaaDoorDMt
namespace Go.Proofs.YtonabfpgdgnpnaaDoor
set_option linter.unusedVariables false
set_option linter.unusedSimpArgs false
open Go.ChangeShapes Go.WideShapes Go.ChangeAt Go.RowKit Go.Joins Go.Deep

/-- where it puts: so many code points of what it is of stand before -/
def gp : List At → Nat → List Nat
  | [], _ => []
  | .p _ :: x, b => b :: gp x b
  | .k :: x, b => gp x (b + 1)
  | .d :: x, b => gp x (b + 1)
theorem one_two : ∀ (X Y : List At) (b : Nat), (∀ g ∈ gp X b, g ∉ gp Y b) → At.fromN X = At.fromN Y → At.one X Y = At.two Y X
  | .p c :: x, .p d :: y, b, h, hf => by
    exfalso
    exact h b (by simp [gp]) (by simp [gp])
  | .p c :: x, [], b, h, hf => by
    have ih := one_two x [] b (fun g hg => h g (by simp [gp, hg])) (by simpa [At.fromN] using hf)
    simp only [At.one, At.two]
    rw [ih]
  | .p c :: x, .k :: y, b, h, hf => by
    have ih := one_two x (.k :: y) b (fun g hg => h g (by simp [gp, hg])) (by simpa [At.fromN] using hf)
    simp only [At.one, At.two]
    rw [ih]
  | .p c :: x, .d :: y, b, h, hf => by
    have ih := one_two x (.d :: y) b (fun g hg => h g (by simp [gp, hg])) (by simpa [At.fromN] using hf)
    simp only [At.one, At.two]
    rw [ih]
  | [], .p d :: y, b, h, hf => by
    have ih := one_two [] y b (fun g hg => by simp [gp] at hg) (by simpa [At.fromN] using hf)
    simp only [At.one, At.two]
    rw [ih]
  | .k :: x, .p d :: y, b, h, hf => by
    have ih := one_two (.k :: x) y b (fun g hg hy => h g hg (by simp [gp, hy])) (by simpa [At.fromN] using hf)
    simp only [At.one, At.two]
    rw [ih]
  | .d :: x, .p d :: y, b, h, hf => by
    have ih := one_two (.d :: x) y b (fun g hg hy => h g hg (by simp [gp, hy])) (by simpa [At.fromN] using hf)
    simp only [At.one, At.two]
    rw [ih]
  | [], [], _, _, _ => by simp only [At.one, At.two]
  | [], .k :: y, _, _, hf => by simp [At.fromN] at hf
  | [], .d :: y, _, _, hf => by simp [At.fromN] at hf
  | .k :: x, [], _, _, hf => by simp [At.fromN] at hf
  | .d :: x, [], _, _, hf => by simp [At.fromN] at hf
  | .k :: x, .k :: y, b, h, hf => by
    have ih := one_two x y (b + 1) h (by simpa [At.fromN] using hf)
    simp only [At.one, At.two]
    rw [ih]
  | .k :: x, .d :: y, b, h, hf => by
    have ih := one_two x y (b + 1) h (by simpa [At.fromN] using hf)
    simp only [At.one, At.two]
    first | rw [ih] | exact ih
  | .d :: x, .k :: y, b, h, hf => by
    have ih := one_two x y (b + 1) h (by simpa [At.fromN] using hf)
    simp only [At.one, At.two]
    first | rw [ih] | exact ih
  | .d :: x, .d :: y, b, h, hf => by
    have ih := one_two x y (b + 1) h (by simpa [At.fromN] using hf)
    simp only [At.one, At.two]
    first | rw [ih] | exact ih
termination_by X Y => X.length + Y.length
theorem gp_app : ∀ (X Y : List At) (b : Nat), gp (X ++ Y) b = gp X b ++ gp Y (b + At.fromN X)
  | [], Y, b => by simp [gp, At.fromN]
  | .p c :: X, Y, b => by rw [List.cons_append]; simp only [gp, At.fromN]; rw [gp_app X Y b]; rfl
  | .k :: X, Y, b => by rw [List.cons_append]; simp only [gp, At.fromN]; rw [gp_app X Y (b + 1), show b + 1 + At.fromN X = b + (At.fromN X + 1) by omega]
  | .d :: X, Y, b => by rw [List.cons_append]; simp only [gp, At.fromN]; rw [gp_app X Y (b + 1), show b + 1 + At.fromN X = b + (At.fromN X + 1) by omega]
theorem gp_keep : ∀ (n b : Nat), gp (List.replicate n .k) b = []
  | 0, b => rfl
  | n + 1, b => by rw [List.replicate_succ]; simp only [gp]; exact gp_keep n _
theorem gp_drop : ∀ (n b : Nat), gp (List.replicate n .d) b = []
  | 0, b => rfl
  | n + 1, b => by rw [List.replicate_succ]; simp only [gp]; exact gp_drop n _
theorem gp_put : ∀ (cs : List (List UInt8)) (b : Nat), ∀ g ∈ gp (cs.map .p) b, g = b
  | [], b => by simp [gp]
  | c :: cs, b => by
    intro g hg
    rw [List.map_cons] at hg
    simp only [gp, List.mem_cons] at hg
    rcases hg with h | h
    · exact h
    · exact gp_put cs b g h
end Go.Proofs.YtonabfpgdgnpnaaDoor
