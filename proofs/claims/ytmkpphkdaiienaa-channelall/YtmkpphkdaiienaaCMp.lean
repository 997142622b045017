/- A move of two ends. -/
import Derived.Test.YtmkpphkdaiienaaCCa
namespace Go.Proofs.Ytmkpphkdaiienaa
set_option linter.unusedVariables false
set_option linter.unusedSimpArgs false
open Go.ChangeShapes Go.WideShapes Go.ChangeAt Go.RowKit Go.Joins Go.Deep

theorem cs_len (P : PS) : P.cs.length = 9 := rfl
structure FOk (f : Fm) : Prop where
  conn : f.conn = 1
  seq : 0 ≤ f.seq ∧ f.seq ≤ 2199023255552
  ack : 0 ≤ f.ack
  nil : f.seq = 0 ↔ f.body = []
  len : f.body.length ≤ 16320
structure Good (N : Nat) (P : PS) : Prop where
  inv : ∀ i, i < 2 → Inv N 1 (P.s i)
  len : ∀ i, i < 4 → (P.X i).length ≤ N
  fl : ∀ i, i < 2 → (P.F i).length ≤ 4 * N
  fr : ∀ i, i < 2 → ∀ f ∈ P.F i, FOk f
  ok : P.ok = true
theorem FOk.takeE {f : Fm} (h : FOk f) {N : Nat} {s : CS} (i : Inv N 1 s) : takeE s f.conn f.seq f.ack f.body.length = 0 := by
  have h1 := h.seq.1
  have h2 := h.ack
  unfold Go.Proofs.Ytmkpphkdaiienaa.takeE
  rw [if_neg (by rw [h.conn, i.conn]; exact fun e => e rfl), if_neg]
  rintro (e | e | e)
  · omega
  · omega
  · exact e ⟨fun e1 => by rw [h.nil.1 e1]; rfl, fun e1 => h.nil.2 (List.eq_nil_of_length_eq_zero e1)⟩
theorem tell_olen : ∀ (f : Nat) (a : Int) (E : List Er), (tellE f a E).1.length ≤ f
  | 0, a, E => Nat.le_refl _
  | f + 1, a, E => by
    unfold tellE
    split
    · simp
    · have := tell_olen f (a + 1) (E.eraseP (fun x => decide (x.key = a)))
      simp only [List.length_cons]
      omega
theorem takeO_len {N : Nat} {s : CS} (i : Inv N 1 s) (c q a : Int) (b : List Nat) (v : Value) : (takeO s c q a b v).length ≤ N + 1 := by
  unfold takeO
  split
  · simp
  · split
    · simp
    · have h1 := tell_olen (keepS (ackS s a) q v b).early.length (keepS (ackS s a) q v b).want (keepS (ackS s a) q v b).early
      have h2 := keepS_len (ackS s a) q v b
      have h3 : (ackS s a).early.length ≤ N := i.el
      omega
theorem outs_len4 (s : CS) : (outs s).length ≤ 4 := by
  unfold outs
  split
  · split <;> simp
  · rw [List.length_map]; exact lvOf_len s
def P1 (P : PS) (i : Nat) (s : CS) (vq : Value) : PS := { P with vq := upd P.vq i vq, s := upd P.s i s }
def P2 (P : PS) (i : Nat) (v : Value) (x : List VB) : PS := { P with V := upd P.V i v, X := upd P.X i x }
def P3 (P : PS) (i : Nat) (v : Value) (x : List Fm) : PS := { P with W := upd P.W i v, F := upd P.F i x }
/-- what a move does -/
def Step (P : PS) (b : List Nat) (P' : PS) : Prop :=
  P' = P ∨
  (∃ i, i < 2 ∧ ∃ v vq l, P' = P1 P i (sendS (P.s i) v l) vq ∧ sendE (P.s i) l.length ≠ 0) ∨
  (∃ i, i < 2 ∧ ∃ v vq vb tv l, P' = P2 (P1 P i (sendS (P.s i) v l) vq) i tv (P.X i ++ [(vb, l)]) ∧ sendE (P.s i) l.length = 0 ∧ l = b) ∨
  (∃ i, i < 2 ∧ P' = P1 P i (tickS (P.s i)) (P.vq i)) ∨
  (∃ i, i < 2 ∧ ∃ v L, P' = P3 (P1 P i (outS (P.s i)) (P.vq i)) i v (P.F i ++ L) ∧ L.map Fm.key = outs (P.s i)) ∨
  (∃ i, i < 2 ∧ ∃ v k, k < (P.F i).length ∧ P' = P3 P i v ((P.F i).take k ++ (P.F i).drop (k + 1))) ∨
  (∃ i, i < 2 ∧ ∃ f, f ∈ P.F i ∧ ∃ v vq tv, P' = cameP P (1 - i) f.conn f.seq f.ack f.body v vq tv) ∨
  (∃ i, i < 2 ∧ ∃ w k f, (P.F i)[k]? = some f ∧ ∃ v vq tv, P' = cameP (P3 P i w ((P.F i).take k ++ (P.F i).drop (k + 1))) (1 - i) f.conn f.seq f.ack f.body v vq tv)
def MoveR (B gp : Nat) (P : PS) (b : List Nat) (w : World) (r : Ending) (w' : World) : Prop := r = .returned (.tuple #[]) ∧ ∃ P', Step P b P' ∧ Pair w' B gp P' ∧ Below B w w'
theorem kind12 (k : Int) : ∃ j : Nat, wrap64 ((IntKind.u64.wrap k).tmod 12) = (j : Int) ∧ j < 12 := mod_nat k 12 (by decide) (by decide)
theorem send_end {B gp i : Nat} {P : PS} {w w' : World} {vb : Value} {l : List Nat} {r : Ending} (h : Pair w B gp P) (hi : i < 2) (hr : SendR B (P.g i) (P.m i) (P.vq i) (P.s i) l w r w') : ∃ v vq, r = .returned (.int .i64 (sendE (P.s i) l.length)) ∧ Pair w' B gp (P1 P i (sendS (P.s i) v l) vq) ∧ Below B w w' := by
  obtain ⟨e, v, vq, c, t⟩ := hr
  exact ⟨v, vq, e, h.turn i hi c t, (h.ch i hi).low1 t.1⟩
theorem tick_end {B gp i : Nat} {P : PS} {w w' : World} {r : Ending} (h : Pair w B gp P) (hi : i < 2) (hr : TickR B (P.g i) (P.m i) (P.vq i) (P.s i) w r w') : r = .returned (.int .i64 0) ∧ Pair w' B gp (P1 P i (tickS (P.s i)) (P.vq i)) ∧ Below B w w' :=
  ⟨hr.1, h.turn i hi hr.2.1 hr.2.2, (h.ch i hi).low1 hr.2.2.1⟩
theorem out_endP {B gp i : Nat} {P : PS} {w w' : World} {r : Ending} (h : Pair w B gp P) (hi : i < 2) (hr : OutR B (P.g i) (P.m i) (P.vq i) (P.s i) w r w') : ∃ L l, r = .returned l ∧ OutI w w' B (P.g i) (P.m i) (P.vq i) (P.s i) L l ∧ Pair w' B gp (P1 P i (outS (P.s i)) (P.vq i)) ∧ Below B w w' := by
  obtain ⟨L, l, e, i1⟩ := hr
  exact ⟨L, l, e, i1, h.turn i hi i1.ch i1.tu, (h.ch i hi).low1 i1.tu.1⟩
end Go.Proofs.Ytmkpphkdaiienaa
