/- Compose. -/
import Derived.Test.YtonabfpgdgnpnaaDoorCm0
import Derived.Deep.LoopGhost
namespace Go.Proofs.YtonabfpgdgnpnaaDoor
set_option linter.unusedVariables false
set_option linter.unusedSimpArgs false
open Go.ChangeShapes Go.WideShapes Go.ChangeAt Go.RowKit Go.Joins Go.Deep

theorem kind_any {w : World} {g B : Nat} {l : List Pt} (f : Fa w g B l) : Calls Tryd.prog 64 #[.pointer (some ⟨g, 0, none⟩)] w fun r w' => r = .returned (.int .i64 (l.headD noPt).kind) ∧ w = w' := by
  obtain ⟨a, c, fd, _⟩ := f.feed
  exact kind_ok fd
theorem Fa.row {w : World} {g B : Nat} {l : List Pt} (f : Fa w g B l) : ∃ cs, RowAt w g 129 cs := by
  obtain ⟨a, c, fd, _⟩ := f.feed
  exact ⟨_, fd.row⟩
theorem OwnP.ne {w : World} {B0 g B : Nat} {v : Value} {l L : List Pt} (h : OwnP w B0 v L) (f : Fa w g B l) : v.ownBlock ≠ some g := by
  obtain ⟨cs, hr⟩ := f.row
  exact tag_ne h hr (by decide)
/-- two feeds, and own parts -/
structure CW (w wr : World) (g1 g2 B : Nat) (v : Value) (lf lg L : List Pt) : Prop where
  f1 : Fa wr g1 B lf
  f2 : Fa wr g2 B lg
  own : OwnP wr w.heap.size v L
  bel : Below w.heap.size w wr
  ne : g1 ≠ g2
  h1 : w.heap.size ≤ g1
  h2 : w.heap.size ≤ g2
  hB : B ≤ w.heap.size
theorem CW.call {w wr w' : World} {g1 g2 B : Nat} {v : Value} {lf lg L : List Pt} (h : CW w wr g1 g2 B v lf lg L) (hb : Below wr.heap.size wr w') : CW w w' g1 g2 B v lf lg L :=
  ⟨h.f1.call hb, h.f2.call hb, h.own.call hb, h.bel.trans (hb.mono h.bel.size), h.ne, h.h1, h.h2, h.hB⟩
theorem CW.one {w wr w' : World} {g1 g2 B : Nat} {v : Value} {lf lg L lf' : List Pt} (h : CW w wr g1 g2 B v lf lg L) (f : Fa w' g1 B lf') (ho : Only (· = g1) wr w') : CW w w' g1 g2 B v lf' lg L :=
  ⟨f, h.f2.keep ho (fun e => h.ne e.symm) (fun k hk => by have := h.h1; have := h.hB; omega), own_only h.own ho (fun k hk e => h.own.ne h.f1 (e ▸ hk)), h.bel.trans (ho.below h.bel.size (fun k hk => by have := h.h1; omega)), h.ne, h.h1, h.h2, h.hB⟩
theorem CW.two {w wr w' : World} {g1 g2 B : Nat} {v : Value} {lf lg L lg' : List Pt} (h : CW w wr g1 g2 B v lf lg L) (f : Fa w' g2 B lg') (ho : Only (· = g2) wr w') : CW w w' g1 g2 B v lf lg' L :=
  ⟨h.f1.keep ho (fun e => h.ne e) (fun k hk => by have := h.h2; have := h.hB; omega), f, own_only h.own ho (fun k hk e => h.own.ne h.f2 (e ▸ hk)), h.bel.trans (ho.below h.bel.size (fun k hk => by have := h.h2; omega)), h.ne, h.h1, h.h2, h.hB⟩
theorem CW.both {w wr w' : World} {g1 g2 B : Nat} {v : Value} {lf lg L lf' lg' : List Pt} (h : CW w wr g1 g2 B v lf lg L) (f : Fa w' g1 B lf') (f' : Fa w' g2 B lg') (ho : Only (fun k => k = g1 ∨ k = g2) wr w') : CW w w' g1 g2 B v lf' lg' L :=
  ⟨f, f', own_only h.own ho (fun k hk e => by rcases e with e | e; exact h.own.ne h.f1 (e ▸ hk); exact h.own.ne h.f2 (e ▸ hk)), h.bel.trans (ho.below h.bel.size (fun k hk => by have := h.h1; have := h.h2; omega)), h.ne, h.h1, h.h2, h.hB⟩
theorem CW.app {w wr w' : World} {g1 g2 B : Nat} {v v' : Value} {lf lg L : List Pt} {p : Pt} (h : CW w wr g1 g2 B v lf lg L) (hv : w'.ownsRow w.heap.size 39 3 v' (L.length + 1) (ptc L ++ pcs p)) (ho : Only (fun k => v.ownBlock = some k) wr w') : CW w w' g1 g2 B v' lf lg (L ++ [p]) :=
  ⟨h.f1.keep ho (fun e => h.own.ne h.f1 e) (fun k hk => Nat.le_trans h.hB (h.own.lt k hk).1), h.f2.keep ho (fun e => h.own.ne h.f2 e) (fun k hk => Nat.le_trans h.hB (h.own.lt k hk).1), by unfold OwnP; rw [List.length_append, List.length_singleton, ptc_snoc]; exact hv, h.bel.trans (ho.below h.bel.size (fun k hk => (h.own.lt k hk).1)), h.ne, h.h1, h.h2, h.hB⟩
/-- the sizes meet -/
def comB (la lb : List Pt) : Bool := match sizeL la with
  | none => false
  | some (_, t, _) => decide (checkE lb t = 0)
theorem check_two (l : List Pt) (n : Int) : checkE l n = 0 ∨ checkE l n = 30 := by
  unfold checkE
  split
  · exact .inr rfl
  · split
    · exact .inl rfl
    · exact .inr rfl
theorem check_ed {l : List Pt} {n : Int} (h : checkE l n = 0) : ∃ t, IsEd l n.toNat t ∧ (n.toNat : Int) = n := by
  unfold checkE at h
  split at h
  · cases h
  · rename_i f t k e
    split at h
    · rename_i hf
      subst hf
      obtain ⟨h1, h2, h3⟩ := size_ed e
      exact ⟨_, h1, h2⟩
    · cases h
theorem ed_fit {l : List Pt} {f t : Nat} (h : IsEd l f t) : ∀ p ∈ l, Fit1 p := by
  obtain ⟨_, h2, _⟩ := size_fold l _ _ _ _ _ _ (ed_size h)
  intro p hp
  have := good_of_fits (h2 p hp)
  exact ⟨this.1, this.2⟩
theorem ed_len {l : List Pt} {f t : Nat} (h : IsEd l f t) : (atomsL l).length ≤ 2199023255552 := by
  have := len_counts (atomsL l)
  obtain ⟨_, h2, h3, h4, h5⟩ := h
  omega
/-- what Compose answers -/
def ComR (w w' : World) (la lb : List Pt) (r : Ending) : Prop := (comB la lb = false ∧ r = .returned (.tuple #[.slice none 0 0, .int .i64 30]) ∨ comB la lb = true ∧ ∃ v c, r = .returned (.tuple #[v, .int .i64 0]) ∧ OwnP w' w.heap.size v c ∧ NfG 0 c ∧ atomsL c = At.can (At.comp (atomsL la) (atomsL lb)) ∧ c.length ≤ 2 * (la.length + lb.length) + 3) ∧ Below w.heap.size w w'
theorem allS_len (st : St) : (allS st).length ≤ st.done.length + 3 := by
  have h1 := endK_len st
  unfold allS endC
  simp only
  split <;> split <;> first | omega | (simp; omega)
theorem normL_len (l : List Pt) : (normL l).length ≤ 2 * l.length + 3 := by
  have h := (normSt_ok l l.length).len
  rw [List.take_of_length_le (Nat.le_refl _)] at h
  have := allS_len (normSt l)
  unfold normL
  omega
theorem head_kind {l : List Pt} (h : ∀ p ∈ l, Fit1 p) : l = [] ∧ (l.headD noPt).kind = 0 ∨ ∃ p l', l = p :: l' ∧ Fit1 p ∧ (p.kind = 1 ∨ p.kind = 2 ∨ p.kind = 3) := by
  cases l with
  | nil => exact .inl ⟨rfl, rfl⟩
  | cons p l =>
    refine .inr ⟨p, l, rfl, h p (List.mem_cons_self ..), ?_⟩
    rcases (h p (List.mem_cons_self ..)).1.cases with ⟨k, _⟩ | ⟨k, _⟩ | ⟨k, _⟩ <;> omega
end Go.Proofs.YtonabfpgdgnpnaaDoor
