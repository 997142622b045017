/- The law's desk beside the policy that it was made of. -/
import Derived.Test.YthgacmlbmcehmaaDPur
namespace Go.Proofs.Ythgacmlbmcehmaa
set_option linter.unusedVariables false
set_option linter.unusedSimpArgs false
open Go.ChangeShapes Go.WideShapes Go.ChangeAt Go.RowKit Go.Joins Go.Deep

/-- a desk in the world of a law that began in w: the policy's row is there, too -/
structure Sk (w wr : World) (P : List Value) (g gg c nq : Nat) (sv : Value) (ex : List Value) (Q : Nat → Int) (D : List Gst) : Prop where
  ds : Ds wr g gg c nq sv ex Q D
  bel : Below w.heap.size w wr
  row : RowAt wr w.heap.size 26 P
  ge : w.heap.size < gg
theorem Sk.step {w wr w' : World} {P : List Value} {g gg c nq : Nat} {sv : Value} {ex : List Value} {Q : Nat → Int} {D D' : List Gst} (h : Sk w wr P g gg c nq sv ex Q D) (hd : Ds w' g gg c nq sv ex Q D') (ho : Only (· = gg) wr w') : Sk w w' P g gg c nq sv ex Q D' :=
  ⟨hd, h.bel.trans (ho.below h.bel.size (fun q hq => by have := h.ge; omega)), h.row.only ho (by have := h.ge; omega), h.ge⟩
theorem Sk.call {w wr w' : World} {P : List Value} {g gg c nq : Nat} {sv : Value} {ex : List Value} {Q : Nat → Int} {D : List Gst} (h : Sk w wr P g gg c nq sv ex Q D) (hb : Below wr.heap.size wr w') : Sk w w' P g gg c nq sv ex Q D :=
  ⟨h.ds.call hb, h.bel.trans (hb.mono h.bel.size), h.row.below hb h.row.lt, h.ge⟩
theorem Sk.alloc {w wr : World} {P : List Value} {g gg c nq : Nat} {sv : Value} {ex : List Value} {Q : Nat → Int} {D : List Gst} (h : Sk w wr P g gg c nq sv ex Q D) (o : Obj) : Sk w (wr.alloc o) P g gg c nq sv ex Q D :=
  h.call ((Below.refl _ _).alloc (Nat.le_refl _) o)
theorem right_seats {n0 n1 n2 : Nat} {L C Q1 Q2 Q3 E : Nat → Int} {S : Nat → ByteArray} (h : rightN n0 n1 n2 L C Q1 Q2 Q3 E S = 0) : n0 = n1 ∧ ∀ i, i < n1 → 0 ≤ Q3 i ∧ Q3 i ≤ 4096 := by
  unfold rightN at h
  split at h
  · rename_i hh
    simp only [Bool.and_eq_true] at hh
    obtain ⟨⟨hl, hq⟩, he⟩ := hh
    unfold quotasB at hq
    simp only [Bool.and_eq_true, beq_iff_eq] at hq
    refine ⟨by omega, fun i hi => ?_⟩
    have h2 := allB_get hq.2 hi
    unfold quotaB at h2
    simp only [Bool.and_eq_true, withinB, decide_eq_true_eq] at h2
    omega
  · cases h
theorem newD_len (n2 : Nat) (E : Nat → Int) : (newD n2 E).length = n2 := by simp [newD]
theorem newD_shut (n2 : Nat) (E : Nat → Int) : ∀ x ∈ newD n2 E, x.opn = false := by
  intro x hx
  obtain ⟨i, _, rfl⟩ := List.mem_map.1 hx
  rfl
theorem seats_shut (l : Int) : ∀ D : List Gst, (∀ x ∈ D, x.opn = false) → seatsN D l = 0
  | [], _ => rfl
  | x :: D, h => by
    rw [seats_cons, seats_shut l D (fun y hy => h y (List.mem_cons_of_mem _ hy))]
    simp [isIn, h x (List.mem_cons_self ..)]
theorem sok_new {nq n2 : Nat} {Q E : Nat → Int} (h : ∀ i, i < nq → 0 ≤ Q i) : SOk nq Q (newD n2 E) :=
  ⟨fun lb hl => by rw [seats_shut _ _ (newD_shut n2 E)]; simpa using h lb hl, fun x hx ho => by rw [newD_shut n2 E x hx] at ho; cases ho⟩
/-- a call that came in, in a world in which it still lies -/
theorem DosAt.at_ {w wr : World} {a : Option Addr} {l : List DoV} (h : DosAt w a l) (hb : Below w.heap.size w wr) {i : Nat} {k : DoV} (hk : l[i]? = some k) : ∃ b off, a = some ⟨b, off, none⟩ ∧
    wr.cell? ⟨b, off + i * 4, none⟩ = some (.int .i64 k.o) ∧ wr.cell? ⟨b, off + i * 4 + 1, none⟩ = some (.int .i64 k.who) ∧ wr.cell? ⟨b, off + i * 4 + 2, none⟩ = some (.int .i64 k.conn) ∧ wr.cell? ⟨b, off + i * 4 + 3, none⟩ = some (.int .i64 k.n) := by
  rcases h.call hb with h0 | ⟨b, off, rfl, hbl, hcs⟩
  · rw [h0] at hk; cases hk
  · exact ⟨b, off, rfl, hcs i k hk⟩
end Go.Proofs.Ythgacmlbmcehmaa
