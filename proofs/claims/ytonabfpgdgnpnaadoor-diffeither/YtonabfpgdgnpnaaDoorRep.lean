/- Replace, Same. -/
import Derived.Test.YtonabfpgdgnpnaaDoorNrm
namespace Go.Proofs.YtonabfpgdgnpnaaDoor
set_option linter.unusedVariables false
set_option linter.unusedSimpArgs false
open Go.ChangeShapes Go.WideShapes Go.ChangeAt Go.RowKit Go.Joins Go.Deep

theorem Cps.len {cs : List (List UInt8)} (h : Cps cs) : cs.length ≤ cs.flatten.length := by
  induction cs with
  | nil => simp
  | cons c cs ih =>
    have h1 := List.length_pos_iff.2 h.head.ne
    have h2 := ih h.tail
    simp only [List.length_cons, List.flatten_cons, List.length_append]
    omega
theorem Cp.four {c : List UInt8} (h : Cp c) : c.length ≤ 4 := by
  rw [← h.all, Lib.decodeL_N]
  unfold Lib.decodeN
  repeat' split
  all_goals simp
theorem Cps.most {cs : List (List UInt8)} (h : Cps cs) : cs.flatten.length ≤ 4 * cs.length := by
  induction cs with
  | nil => simp
  | cons c cs ih =>
    have h1 := h.head.four
    have h2 := ih h.tail
    simp only [List.length_cons, List.flatten_cons, List.length_append]
    omega
/-- these parts are an own row -/
def OwnP (w : World) (B : Nat) (v : Value) (l : List Pt) : Prop := w.ownsRow B 39 3 v l.length (ptc l)
theorem OwnP.call {w w' : World} {B : Nat} {v : Value} {l : List Pt} (h : OwnP w B v l) (hb : Below w.heap.size w w') : OwnP w' B v l := own_call h hb
theorem OwnP.nil (w : World) (B : Nat) : OwnP w B (.slice none 0 0) [] := World.ownsRow_nil _ _ _ _
theorem OwnP.slice {w : World} {B : Nat} {v : Value} {l : List Pt} (h : OwnP w B v l) : ∃ a c, v = .slice a l.length c ∧ PtsAt w a l ∧ l.length ≤ c ∧ c ≤ maxLen := by
  rcases h.2 with ⟨rfl, h0⟩ | ⟨g, cap, cur, rfl, h1, h2, h3, h4, h5, h6⟩
  · exact ⟨none, 0, by rw [h0], .inl (List.length_eq_zero_iff.1 h0), by omega, by unfold maxLen; omega⟩
  · refine ⟨_, _, rfl, ?_, h3, h4⟩
    by_cases hl : l = []
    · exact .inl hl
    · refine .inr ⟨g, 0, rfl, (Array.getElem?_eq_some_iff.1 h2).1, fun i p hp => ?_⟩
      obtain ⟨q0, q1, q2⟩ := ptc_at l i p hp
      have hc : ∀ j u, (ptc l)[j]? = some u → w.cell? ⟨g, j, none⟩ = some u := fun j u hu => by
        have := World.ownsRow.cells h (g := g) rfl j u hu
        simpa [Addr.add_lit] using this
      rw [Nat.zero_add]
      exact ⟨hc _ _ q0, hc _ _ q1, hc _ _ q2⟩
theorem own_base {w : World} {b b' s n : Nat} {e : TypeId} {v : Value} {xs : List Value} (h : w.ownsRow b e s v n xs) (hb : b' ≤ b) : w.ownsRow b' e s v n xs := by
  obtain ⟨h1, h2⟩ := h
  refine ⟨h1, ?_⟩
  rcases h2 with h2 | ⟨g, cap, cur, e1, e2, e3⟩
  · exact .inl h2
  · exact .inr ⟨g, cap, cur, e1, Nat.le_trans hb e2, e3⟩
theorem row_pts {w : World} {g : Nat} {l : List Pt} (h : RowAt w g 39 (ptc l)) : PtsAt w (some ⟨g, 0, none⟩) l := by
  refine .inr ⟨g, 0, rfl, h.lt, fun i p hp => ?_⟩
  obtain ⟨q0, q1, q2⟩ := ptc_at l i p hp
  rw [Nat.zero_add, h.cell, h.cell, h.cell]
  exact ⟨q0, q1, q2⟩
/-- may a stretch become a text? -/
def repB (n at_ k : Int) (s : ByteArray) : Bool := (decide (0 ≤ n) && decide (n ≤ 1099511627776)) && ((decide (0 ≤ at_) && decide (at_ ≤ n)) && ((decide (0 ≤ k) && decide (k ≤ n - at_)) && (Lib.validD s.data.toList && decide ((Lib.runeCount s : Int) ≤ 1099511627776 - n))))
def repL (n at_ k : Int) (s : ByteArray) : List Pt := normL [⟨1, at_, ByteArray.empty⟩, ⟨2, (Lib.runeCount s : Int), s⟩, ⟨3, k, ByteArray.empty⟩, ⟨1, n - at_ - k, ByteArray.empty⟩]
def RepR (w w' : World) (n at_ k : Int) (s : ByteArray) (r : Ending) : Prop := (repB n at_ k s = false ∧ r = .returned (.tuple #[.slice none 0 0, .int .i64 30]) ∨ repB n at_ k s = true ∧ ∃ v, r = .returned (.tuple #[v, .int .i64 0]) ∧ OwnP w' w.heap.size v (repL n at_ k s)) ∧ Below w.heap.size w w'
/-- the parts, or none -/
def repO (n at_ k : Int) (s : ByteArray) : List Pt := if repB n at_ k s = true then repL n at_ k s else []
end Go.Proofs.YtonabfpgdgnpnaaDoor
