/- An edit is handed out; what becomes of two pieces; the limit. -/
import Derived.Test.YtonabfpgdgnpnaaDoorBth
import Derived.Test.YtonabfpgdgnpnaaDoorChk
namespace Go.Proofs.YtonabfpgdgnpnaaDoor
set_option linter.unusedVariables false
set_option linter.unusedSimpArgs false
open Go.ChangeShapes Go.WideShapes Go.ChangeAt Go.RowKit Go.Joins Go.Deep

/-- where a slice begins there is a block -/
def AtB (w : World) (a : Option Addr) : Prop := ∀ b off, a = some ⟨b, off, none⟩ → b < w.heap.size
theorem AtB.call {w w' : World} {a : Option Addr} (h : AtB w a) (hb : Below w.heap.size w w') : AtB w' a := fun b off e => Nat.lt_of_lt_of_le (h b off e) hb.size
theorem AtB.none (w : World) : AtB w none := fun b off e => by cases e
theorem OwnP.open {w : World} {B : Nat} {v : Value} {l : List Pt} (h : OwnP w B v l) : ∃ a c, v = .slice a l.length c ∧ PtsAt w a l ∧ AtB w a ∧ l.length ≤ c ∧ c ≤ maxLen := by
  have h' : ∃ a c, v = .slice a l.length c ∧ AtB w a := by
    rcases h.2 with ⟨rfl, h0⟩ | ⟨g, cap, cur, rfl, h1, h2, _⟩
    · exact ⟨Option.none, 0, by rw [h0], AtB.none w⟩
    · refine ⟨_, _, rfl, fun b off e => ?_⟩
      obtain ⟨rfl, _⟩ : g = b ∧ 0 = off := by simpa using e
      exact (Array.getElem?_eq_some_iff.1 h2).1
  obtain ⟨a, c, e, hp, hc⟩ := h.slice
  obtain ⟨a', c', e', hb⟩ := h'
  rw [e] at e'
  obtain ⟨rfl, rfl⟩ : a = a' ∧ c = c' := by simpa using e'
  exact ⟨a, c, e, hp, hb, hc⟩
set_option maxRecDepth 100000 in
set_option maxHeartbeats 4000000 in
theorem feedOf_any {w : World} {B : Nat} {a : Option Addr} {c : Nat} {l : List Pt} (hp : PtsAt w a l) (hB : ∀ b off, a = some ⟨b, off, none⟩ → b < B) (hBw : B ≤ w.heap.size) (hc : l.length ≤ c) (hm : c ≤ maxLen) (hg : ∀ p ∈ l, Fit1 p) :
    Calls Tryd.prog 63 #[.slice a l.length c] w fun r w' => r = .returned (.pointer (some ⟨w.heap.size, 0, none⟩)) ∧ Fa w' w.heap.size B l ∧ Below w.heap.size w w' := by
  have hb : Below w.heap.size w (w.alloc (.cells #[.int .i64 0, .int .i64 0, .string ⟨#[]⟩, .slice a l.length c] 129)) := (Below.refl _ _).alloc (Nat.le_refl _) _
  have hf : Fd (w.alloc (.cells #[.int .i64 0, .int .i64 0, .string ⟨#[]⟩, .slice a l.length c] 129)) w.heap.size noPt a c l := ⟨RowAt.new w 129 _, hp.call hb, fun b off e => by have := hB b off e; omega, hc, hm⟩
  have HX := hide (next_any hf hB)
  have HB := hide hb
  have HG := hide hg
  have HBW := hide hBw
  obtain ⟨n, hn⟩ : ∃ n, l.length = n := ⟨_, rfl⟩
  rw [hn] at HX HB hf ⊢
  clear hb hf hp hB hg hn hBw hc hm
  go_enter Tryd.func63, Tryd.ntmps63
  go_wp2_with fail
  refine Calls.mono (unhide HX) ?_
  rintro r w2 ⟨rfl, hf, ho⟩
  have HF := hide hf
  have HO := hide ho
  clear hf ho HX
  go_wp2_with fail
  go_ret
  have hbel := (unhide HB).trans ((unhide HO).below (unhide HB).size (fun k hk => by omega))
  exact ⟨rfl, ⟨unhide HF, unhide HG, Nat.le_trans (unhide HBW) hbel.size⟩, hbel⟩
set_option maxRecDepth 100000 in
set_option maxHeartbeats 4000000 in
theorem beside_any (p q : Pt) (w : World) : Calls Tryd.prog 68 #[pv p, pv q] w fun r w' => r = .returned (pv (if q.kind = 3 then noPt else p)) ∧ Below w.heap.size w w' := by
  obtain ⟨pk, pn, pt⟩ := p
  obtain ⟨qk, qn, qt⟩ := q
  unfold pv
  simp only
  by_cases h : qk = 3
  · subst h
    rw [if_pos rfl]
    go_enter Tryd.func68, Tryd.ntmps68
    go_wp2_with fail
    go_returns
    exact ⟨rfl, by go_grown⟩
  · rw [if_neg h]
    have hb : (qk == 3) = false := by simp [h]
    go_enter Tryd.func68, Tryd.ntmps68
    go_wp2_with fail
    go_returns
    exact ⟨rfl, by go_grown⟩
/-- what becomes of a piece, one behind the other -/
def rowP (p q : Pt) : Pt := if q.kind = 1 then p else if p.kind = 1 then q else noPt
end Go.Proofs.YtonabfpgdgnpnaaDoor
