/- An end and the calls that come to it, one behind the other. -/
import Derived.Test.YtmkpphkdaiienaaCInv
import Derived.Test.YtmkpphkdaiienaaCDo
namespace Go.Proofs.Ytmkpphkdaiienaa
set_option linter.unusedVariables false
set_option linter.unusedSimpArgs false
open Go.ChangeShapes Go.WideShapes Go.ChangeAt Go.RowKit Go.Joins Go.Deep

theorem wrap_u64_nonneg (k : Int) : 0 ≤ IntKind.u64.wrap k := by
  unfold IntKind.wrap
  simp [IntKind.signed, IntKind.bits]
  omega
theorem mod_nat (k : Int) (n : Nat) (h : 0 < n) (h2 : n ≤ 1000000) : ∃ j : Nat, wrap64 ((IntKind.u64.wrap k).tmod (n : Int)) = (j : Int) ∧ j < n := by
  have h0 : 0 ≤ IntKind.u64.wrap k := wrap_u64_nonneg k
  rw [Int.tmod_eq_emod_of_nonneg h0]
  have g1 := Int.emod_nonneg (IntKind.u64.wrap k) (show (n : Int) ≠ 0 by omega)
  have g2 := Int.emod_lt_of_pos (IntKind.u64.wrap k) (show (0 : Int) < (n : Int) by omega)
  generalize IntKind.u64.wrap k % (n : Int) = x at *
  refine ⟨x.toNat, ?_, by omega⟩
  unfold wrap64
  omega
theorem kind6 (k : Int) : wrap64 ((IntKind.u64.wrap k).tmod 6) = 0 ∨ wrap64 ((IntKind.u64.wrap k).tmod 6) = 1 ∨ wrap64 ((IntKind.u64.wrap k).tmod 6) = 2 ∨ wrap64 ((IntKind.u64.wrap k).tmod 6) = 3 ∨ wrap64 ((IntKind.u64.wrap k).tmod 6) = 4 ∨ wrap64 ((IntKind.u64.wrap k).tmod 6) = 5 := by
  obtain ⟨j, h1, h2⟩ := mod_nat k 6 (by decide) (by decide)
  rw [show ((6 : Nat) : Int) = 6 from rfl] at h1
  omega
structure St (w0 wr : World) (g m : Nat) (vq : Value) (s : CS) (k : Nat) : Prop where
  ch : Ch wr w0.heap.size g m vq s
  inv : Inv k 1 s
  bel : Below w0.heap.size w0 wr
theorem St.turn {w0 wr w' : World} {g m k k' : Nat} {vq vq' : Value} {s s' : CS} (h : St w0 wr g m vq s k) (c : Ch w' w0.heap.size g m vq' s') (t : Turn wr w' g m vq vq') (i : Inv k' 1 s') : St w0 w' g m vq' s' k' :=
  ⟨c, i, h.bel.trans (h.ch.low1 t.1)⟩
theorem St.call {w0 wr w' : World} {g m k : Nat} {vq : Value} {s : CS} (h : St w0 wr g m vq s k) (hb : Below wr.heap.size wr w') : St w0 w' g m vq s k :=
  ⟨h.ch.call hb, h.inv, h.bel.trans (hb.mono h.bel.size)⟩
theorem St.vis {w0 wr : World} {g m k : Nat} {vq v : Value} {s : CS} {l : List Nat} (h : St w0 wr g m vq s k) (hv : Byt w0 v l) : Vis wr w0.heap.size v l :=
  ⟨hv.call h.bel, (byt_lt hv).imp id .inl⟩
theorem St.start {w0 w1 : World} {g m : Nat} (c : Ch w1 w0.heap.size g m (.slice none 0 0) (newS 1)) (b : Below w0.heap.size w0 w1) : St w0 w1 g m (.slice none 0 0) (newS 1) 0 := ⟨c, Inv.new 1, b⟩
theorem St.send {w0 wr w' : World} {g m k : Nat} {vq : Value} {s : CS} {l : List Nat} {r : Ending} (h : St w0 wr g m vq s k) (hr : SendR w0.heap.size g m vq s l wr r w') : ∃ v vq', r = .returned (.int .i64 (sendE s l.length)) ∧ St w0 w' g m vq' (sendS s v l) (k + 1) := by
  obtain ⟨e, v, vq', c, t⟩ := hr
  exact ⟨v, vq', e, h.turn c t (h.inv.send v l)⟩
theorem St.take {w0 wr w' : World} {g m k : Nat} {vq : Value} {s : CS} {c q a : Int} {l : List Nat} {r : Ending} (h : St w0 wr g m vq s k) (hr : TakeR w0.heap.size g m vq s c q a l wr r w') : ∃ o v vq', r = .returned (.tuple #[o, .int .i64 (takeE s c q a l.length)]) ∧ TakeI wr w' w0.heap.size g m vq s c q a l o v vq' ∧ St w0 w' g m vq' (takeS s c q a l v) (k + 1) := by
  obtain ⟨o, v, vq', e, i⟩ := hr
  exact ⟨o, v, vq', e, i, h.turn i.ch i.tu (h.inv.take c q a l v)⟩
theorem St.tick {w0 wr w' : World} {g m k : Nat} {vq : Value} {s : CS} {r : Ending} (h : St w0 wr g m vq s k) (hr : TickR w0.heap.size g m vq s wr r w') : r = .returned (.int .i64 0) ∧ St w0 w' g m vq (tickS s) (k + 1) :=
  ⟨hr.1, h.turn hr.2.1 hr.2.2 h.inv.tickI⟩
theorem St.out {w0 wr w' : World} {g m k : Nat} {vq : Value} {s : CS} {r : Ending} (h : St w0 wr g m vq s k) (hr : OutR w0.heap.size g m vq s wr r w') : ∃ L l, r = .returned l ∧ OutI wr w' w0.heap.size g m vq s L l ∧ St w0 w' g m vq (outS s) k := by
  obtain ⟨L, l, e, i⟩ := hr
  exact ⟨L, l, e, i, h.turn i.ch i.tu h.inv.out⟩
theorem St.more {w0 wr : World} {g m k : Nat} {vq : Value} {s : CS} (h : St w0 wr g m vq s k) : St w0 wr g m vq s (k + 1) := ⟨h.ch, h.inv.more, h.bel⟩
theorem cl_boxed {w : World} {c : Cl} : RowAt (w.alloc (.cells #[.int .i64 c.op, .int .i64 c.conn, .int .i64 c.seq, .int .i64 c.ack, c.v] 36)) w.heap.size 36 c.cs := RowAt.new w 36 c.cs
end Go.Proofs.Ytmkpphkdaiienaa
