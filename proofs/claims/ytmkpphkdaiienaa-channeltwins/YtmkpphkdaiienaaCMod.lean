/- An end of a connection: what it is, and how it lies in memory. -/
import Derived.Test.YtmkpphkdaiienaaMem
import Derived.Laws.CopyRow
import Derived.Laws.OwnMore
namespace Go.Proofs.Ytmkpphkdaiienaa
set_option linter.unusedVariables false
set_option linter.unusedSimpArgs false
open Go.ChangeShapes Go.WideShapes Go.ChangeAt Go.RowKit Go.Joins Go.Deep

/-- a body that waits -/
structure Par where
  seq : Int
  v : Value
  body : List Nat
  sent : Bool
  ticks : Int
/-- a body that came early -/
structure Er where
  key : Int
  v : Value
  body : List Nat
structure CS where
  next : Int
  q : List Par
  want : Int
  early : List Er
  owes : Bool
  conn : Int
def Par.cs (p : Par) : List Value := [.int .i64 p.seq, p.v, .bool p.sent, .int .i64 p.ticks]
def qcs (q : List Par) : List Value := q.flatMap Par.cs
theorem qcs_len (q : List Par) : (qcs q).length = q.length * 4 := by
  induction q with
  | nil => rfl
  | cons p r ih => simp only [qcs, List.flatMap_cons, List.length_append] at *; rw [ih]; simp [Par.cs]; omega
theorem qcs_app (a b : List Par) : qcs (a ++ b) = qcs a ++ qcs b := by simp [qcs]
theorem qcs_get : ∀ (q : List Par) (i f : Nat) (p : Par), q[i]? = some p → f < 4 → (qcs q)[i * 4 + f]? = p.cs[f]?
  | [], i, f, p, h, _ => by simp at h
  | x :: r, 0, f, p, h, hf => by
    obtain rfl : x = p := by simpa using h
    simp only [qcs, List.flatMap_cons, Nat.zero_mul, Nat.zero_add]
    rw [List.getElem?_append_left (by simp [Par.cs]; omega)]
  | x :: r, i + 1, f, p, h, hf => by
    simp only [qcs, List.flatMap_cons]
    rw [List.getElem?_append_right (by simp [Par.cs]; omega)]
    rw [show (i + 1) * 4 + f - x.cs.length = i * 4 + f by simp [Par.cs]; omega]
    exact qcs_get r i f p (by simpa using h) hf
theorem qcs_set : ∀ (q : List Par) (i f : Nat) (p p' : Par) (u : Value), q[i]? = some p → f < 4 → p.cs.set f u = p'.cs → (qcs q).set (i * 4 + f) u = qcs (q.set i p')
  | [], i, f, p, p', u, h, _, _ => by simp at h
  | x :: r, 0, f, p, p', u, h, hf, hu => by
    obtain rfl : x = p := by simpa using h
    simp only [qcs, List.flatMap_cons, Nat.zero_mul, Nat.zero_add, List.set_cons_zero]
    rw [List.set_append_left _ _ (by simp [Par.cs]; omega), hu]
  | x :: r, i + 1, f, p, p', u, h, hf, hu => by
    simp only [qcs, List.flatMap_cons, List.set_cons_succ]
    rw [List.set_append_right _ _ (by simp [Par.cs]; omega)]
    rw [show (i + 1) * 4 + f - x.cs.length = i * 4 + f by simp [Par.cs]; omega]
    rw [show (r.flatMap Par.cs).set (i * 4 + f) u = (r.set i p').flatMap Par.cs from qcs_set r i f p p' u (by simpa using h) hf hu]
theorem qcs_drop (q : List Par) (n : Nat) : (qcs q).drop (n * 4) = qcs (q.drop n) := by
  induction n generalizing q with
  | zero => simp
  | succ n ih =>
    cases q with
    | nil => simp [qcs]
    | cons x r =>
      rw [List.drop_succ_cons, ← ih r]
      simp only [qcs, List.flatMap_cons]
      rw [show (n + 1) * 4 = x.cs.length + n * 4 by simp [Par.cs]; omega, List.drop_append, List.drop_eq_nil_of_le (by omega), List.nil_append, Nat.add_sub_cancel_left]
theorem qcs_one (q : List Par) (h : ∀ p ∈ q, p.v.oneCell' = true) : ∀ u ∈ qcs q, u.oneCell' = true := by
  intro u hu
  simp only [qcs, List.mem_flatMap] at hu
  obtain ⟨p, hp, hu⟩ := hu
  simp only [Par.cs, List.mem_cons, List.not_mem_nil, or_false] at hu
  rcases hu with rfl | rfl | rfl | rfl
  · rfl
  · exact h p hp
  · rfl
  · rfl
/-- the map's entries -/
def MapIs (w : World) (m : Nat) (E : List Er) : Prop := ∃ es clk, w.heap[m]? = some (.map es clk) ∧ es.toList.map (fun e => (e.key, e.val)) = E.map (fun x => (Value.int .i64 x.key, x.v)) ∧ MapKept.Stamped es clk
theorem MapIs.lt {w : World} {m : Nat} {E : List Er} (h : MapIs w m E) : m < w.heap.size := by
  obtain ⟨es, clk, h, _⟩ := h
  rcases Nat.lt_or_ge m w.heap.size with hlt | hge
  · exact hlt
  · rw [Array.getElem?_eq_none hge] at h; cases h
def findE (k : Int) : List Er → Nat → Option (Nat × Value)
  | [], _ => none
  | x :: r, i => if x.key = k then some (i, x.v) else findE k r (i + 1)
theorem findNow_er (k : Int) : ∀ (es : List MapEntry) (E : List Er) (i : Nat), es.map (fun e => (e.key, e.val)) = E.map (fun x => (Value.int .i64 x.key, x.v)) → Instr.findNow (.int .i64) (.int .i64 k) es i = some (findE k E i)
  | [], [], i, _ => rfl
  | [], x :: r, i, h => by simp at h
  | e :: es, [], i, h => by simp at h
  | e :: es, x :: r, i, h => by
    simp only [List.map_cons, List.cons.injEq, Prod.mk.injEq] at h
    obtain ⟨⟨h1, h2⟩, h3⟩ := h
    unfold Instr.findNow findE
    rw [h1, h2]
    by_cases hk : x.key = k
    · simp [Instr.sameNow, hk]
    · have hk' : ¬ k = x.key := fun e => hk e.symm
      simp only [Instr.sameNow, if_true, hk, if_false]
      rw [show (k == x.key) = false by simp [hk']]
      exact findNow_er k es r (i + 1) h3
def lookE (k : Int) (E : List Er) : Option Er := E.find? (fun x => decide (x.key = k))
def valE : Option Er → Value
  | none => .slice none 0 0
  | some x => x.v
theorem findE_look (k : Int) : ∀ (E : List Er) (i : Nat), (findE k E i).map (·.2) = (lookE k E).map (·.v)
  | [], i => rfl
  | x :: r, i => by
    unfold findE lookE
    by_cases hk : x.key = k
    · simp [hk]
    · rw [if_neg hk, List.find?_cons_of_neg (by simp [hk])]
      exact findE_look k r (i + 1)
theorem findE_erase (k : Int) : ∀ (E : List Er) (i j : Nat) (v : Value), findE k E i = some (j, v) → i ≤ j ∧ j - i < E.length ∧ E.eraseIdx (j - i) = E.eraseP (fun x => decide (x.key = k))
  | [], i, j, v, h => by simp [findE] at h
  | x :: r, i, j, v, h => by
    unfold findE at h
    by_cases hk : x.key = k
    · rw [if_pos hk] at h
      obtain ⟨rfl, _⟩ : i = j ∧ x.v = v := by simpa using h
      rw [List.eraseP_cons_of_pos (by simp [hk])]
      simp
    · rw [if_neg hk] at h
      obtain ⟨h1, h2, h3⟩ := findE_erase k r (i + 1) j v h
      refine ⟨by omega, by simp; omega, ?_⟩
      rw [List.eraseP_cons_of_neg (by simp [hk]), ← h3, show j - i = (j - (i + 1)) + 1 by omega, List.eraseIdx_cons_succ]
theorem zero32 (w : World) : (zeroValue 32).run Try.prog w = .ok (.slice none 0 0) w := by kernel_rfl
theorem key_ok (w : World) (e : Bool) (k : Int) : (Instr.checkKey e 10000 3 (.int .i64 k)).run Try.prog w = .ok () w := MapKept.run_checkKey Try.underlying3 (show MapKept.IsKey (.int .i64) (.int .i64 k) from rfl) e 9999
theorem find_key {w : World} {k : Int} {es : Array MapEntry} {E : List Er} (h : es.toList.map (fun e => (e.key, e.val)) = E.map (fun x => (Value.int .i64 x.key, x.v))) : (Instr.findKey 3 (.int .i64 k) es.toList).run Try.prog w = .ok (findE k E 0) w := MapKept.run_findKey Try.underlying3 (findNow_er k _ E 0 h)
theorem run_look {w : World} {m : Nat} {E : List Er} (h : MapIs w m E) (k : Int) : (Instr.lookup 76 (.map (some m)) (.int .i64 k) false).run Try.prog w = .ok (valE (lookE k E)) w := by
  obtain ⟨es, clk, hb, he, hst⟩ := h
  have hl := findE_look k E 0
  have h1 := find_key (w := w) (k := k) he
  cases hf : findE k E 0 with
  | none =>
    rw [hf] at hl h1
    have : lookE k E = none := by
      cases hq : lookE k E with
      | none => rfl
      | some x => rw [hq] at hl; simp at hl
    simp [Instr.lookup, run_underlying Try.underlying76, MapKept.run_getObj_map hb, key_ok, h1, zero32, this, valE, Result.andThen]
  | some x =>
    rw [hf] at hl h1
    cases hq : lookE k E with
    | none => rw [hq] at hl; simp at hl
    | some y =>
      rw [hq] at hl
      have hv : x.2 = y.v := by simpa using hl
      simp [Instr.lookup, run_underlying Try.underlying76, MapKept.run_getObj_map hb, key_ok, h1, valE, hv, Result.andThen]
open Go.ChangeMaps (setBlock)
theorem setBlock_only (w : World) (m : Nat) (o : Obj) : Only (· = m) w (setBlock w m o) := ⟨rfl, rfl, rfl, by simp [setBlock], fun k hk hn => by simp [setBlock, Array.getElem?_setIfInBounds, Ne.symm hn]⟩
theorem key_new {es : Array MapEntry} {E : List Er} {k : Int} (he : es.toList.map (fun e => (e.key, e.val)) = E.map (fun x => (Value.int .i64 x.key, x.v))) (hk : lookE k E = none) : ∀ x ∈ es.toList, x.key ≠ .int .i64 k := fun x hx e => by
  have h1 : (x.key, x.val) ∈ es.toList.map (fun e => (e.key, e.val)) := List.mem_map.2 ⟨x, hx, rfl⟩
  rw [he] at h1
  obtain ⟨y, hy, h2⟩ := List.mem_map.1 h1
  simp only [Prod.mk.injEq] at h2
  rw [e] at h2
  unfold lookE at hk
  rw [List.find?_eq_none] at hk
  refine hk y hy ?_
  have := h2.1
  injection this with _ this
  simpa using this
theorem run_store {w : World} {m : Nat} {E : List Er} (h : MapIs w m E) (k : Int) (v : Value) (body : List Nat) (hk : lookE k E = none) :
    ∃ w', (Instr.mapUpdate 76 (.map (some m)) (.int .i64 k) v).run Try.prog w = .ok () w' ∧ MapIs w' m (E ++ [⟨k, v, body⟩]) ∧ Only (· = m) w w' := by
  obtain ⟨es, clk, hb, he, hst⟩ := h
  have hl := findE_look k E 0
  have h1 := find_key (w := w) (k := k) he
  have hf : findE k E 0 = none := by
    cases hf : findE k E 0 with
    | none => rfl
    | some x => rw [hf, hk] at hl; simp at hl
  rw [hf] at h1
  have hlt := MapIs.lt (E := E) ⟨es, clk, hb, he, hst⟩
  refine ⟨setBlock w m (.map (es.push ⟨.int .i64 k, v, clk⟩) (clk + 1)), ?_, ⟨es.push ⟨.int .i64 k, v, clk⟩, clk + 1, ?_, ?_, MapKept.stamped_push hst ?_⟩, setBlock_only _ _ _⟩
  · simp [Instr.mapUpdate, run_underlying Try.underlying76, MapKept.run_getObj_map hb, key_ok, h1, MapKept.run_setObj_map _ hb, Result.andThen, setBlock]
  · simp [setBlock, hlt]
  · simp [he]
  · exact key_new he hk
theorem run_drop {w : World} {m : Nat} {E : List Er} (h : MapIs w m E) (k : Int) (ty : TypeId) :
    ∃ w', (Builtin.delete_ #[76, 3] ty #[.map (some m), .int .i64 k]).run Try.prog w = .ok (.tuple #[]) w' ∧ MapIs w' m (E.eraseP (fun x => decide (x.key = k))) ∧ Only (· = m) w w' := by
  obtain ⟨es, clk, hb, he, hst⟩ := h
  have h1 := find_key (w := w) (k := k) he
  have hlt := MapIs.lt (E := E) ⟨es, clk, hb, he, hst⟩
  have hlen : es.size = E.length := by have := congrArg List.length he; simpa using this
  cases hf : findE k E 0 with
  | none =>
    rw [hf] at h1
    have hn : E.eraseP (fun x => decide (x.key = k)) = E := by
      refine List.eraseP_of_forall_not (fun x hx => ?_)
      have hl := findE_look k E 0
      rw [hf] at hl
      have : lookE k E = none := by
        cases hq : lookE k E with
        | none => rfl
        | some x => rw [hq] at hl; simp at hl
      exact List.find?_eq_none.1 this x hx
    rw [hn]
    refine ⟨setBlock w m (.map es clk), ?_, ⟨es, clk, ?_, he, hst⟩, setBlock_only _ _ _⟩
    · simp [Builtin.delete_, run_underlying Try.underlying76, MapKept.run_getObj_map hb, key_ok, h1, MapKept.run_setObj_map _ hb, Result.andThen, setBlock]
    · simp [setBlock, hlt]
  | some x =>
    obtain ⟨j, v⟩ := x
    rw [hf] at h1
    obtain ⟨_, h3, h4⟩ := findE_erase k E 0 j v hf
    rw [Nat.sub_zero] at h3 h4
    rw [← h4]
    refine ⟨setBlock w m (.map (es.eraseIdxIfInBounds j) clk), ?_, ⟨es.eraseIdxIfInBounds j, clk, ?_, ?_, MapKept.stamped_erase hst j⟩, setBlock_only _ _ _⟩
    · simp [Builtin.delete_, run_underlying Try.underlying76, MapKept.run_getObj_map hb, key_ok, h1, MapKept.run_setObj_map _ hb, Result.andThen, setBlock]
    · simp [setBlock, hlt]
    · rw [show (es.eraseIdxIfInBounds j).toList = es.toList.eraseIdx j by simp [Array.eraseIdxIfInBounds, hlen, h3]]
      rw [Go.ChangeMaps.map_eraseIdx, he, ← Go.ChangeMaps.map_eraseIdx]
theorem MapIs.only {p : Nat → Prop} {w w' : World} {m : Nat} {E : List Er} (h : MapIs w m E) (ho : Only p w w') (hm : ¬ p m) : MapIs w' m E := by
  have hl := h.lt
  obtain ⟨es, clk, hb, he, hst⟩ := h
  exact ⟨es, clk, (ho.block m hl hm).trans hb, he, hst⟩
theorem own_ne {w : World} {B1 B2 s1 s2 n1 n2 : Nat} {e1 e2 : TypeId} {v1 v2 : Value} {x1 x2 : List Value} (h1 : w.ownsRow B1 e1 s1 v1 n1 x1) (h2 : w.ownsRow B2 e2 s2 v2 n2 x2) (hne : e1 ≠ e2) : ∀ k, v1.ownBlock = some k → v2.ownBlock ≠ some k := by
  intro k hk hk2
  rcases h1.2 with ⟨rfl, _⟩ | ⟨g, c, cur, rfl, _, e', _⟩
  · cases hk
  rcases h2.2 with ⟨rfl, _⟩ | ⟨g', c', cur', rfl, _, e'', _⟩
  · cases hk2
  obtain rfl : g = k := by simpa [Value.ownBlock] using hk
  obtain rfl : g' = g := by simpa [Value.ownBlock] using hk2
  rw [e'] at e''
  injection e'' with e''
  injection e'' with _ e'' _
  exact hne e''
theorem own_map {w : World} {B s n : Nat} {e : TypeId} {v : Value} {xs : List Value} {m : Nat} {E : List Er} (h : w.ownsRow B e s v n xs) (hm : MapIs w m E) : v.ownBlock ≠ some m := by
  intro hk
  obtain ⟨es, clk, hb, _⟩ := hm
  rcases h.2 with ⟨rfl, _⟩ | ⟨g, c, cur, rfl, _, e', _⟩
  · cases hk
  obtain rfl : g = m := by simpa [Value.ownBlock] using hk
  rw [hb] at e'
  cases e'
theorem row_map {w : World} {g m : Nat} {t : TypeId} {cs : List Value} {E : List Er} (h : RowAt w g t cs) (hm : MapIs w m E) : g ≠ m := by
  intro e
  subst e
  obtain ⟨es, clk, hb, _⟩ := hm
  rw [h] at hb
  cases hb
/-- its own bytes -/
def Own (w : World) (v : Value) (l : List Nat) : Prop := w.ownsRow 0 5 1 v l.length (bv l)
theorem Own.byt {w : World} {v : Value} {l : List Nat} (h : Own w v l) : Byt w v l := Byt.of_own h
theorem Own.one {w : World} {v : Value} {l : List Nat} (h : Own w v l) : v.oneCell' = true := by
  rcases h.2 with ⟨rfl, _⟩ | ⟨g, c, cur, rfl, _⟩ <;> rfl
def fp (g m : Nat) (vq : Value) (k : Nat) : Prop := k = g ∨ k = m ∨ vq.ownBlock = some k
structure Ch (w : World) (B g m : Nat) (vq : Value) (s : CS) : Prop where
  row : RowAt w g 80 [.int .i64 s.next, vq, .int .i64 s.want, .map (some m), .bool s.owes, .int .i64 s.conn]
  own : w.ownsRow B 96 4 vq s.q.length (qcs s.q)
  map : MapIs w m s.early
  bod : ∀ p ∈ s.q, Own w p.v p.body
  erl : ∀ x ∈ s.early, Own w x.v x.body
  gB : B ≤ g
  mB : B ≤ m
theorem Ch.far {w : World} {B g m : Nat} {vq : Value} {s : CS} (h : Ch w B g m vq s) {v : Value} {l : List Nat} (ho : Own w v l) : ∀ k, v.ownBlock = some k → ¬ fp g m vq k := by
  intro k hk hf
  rcases hf with rfl | rfl | hf
  · exact tag_ne ho h.row (by decide) hk
  · exact own_map ho h.map hk
  · exact own_ne ho h.own (by decide) k hk hf
theorem Ch.keep {w w' : World} {B g m : Nat} {vq : Value} {s : CS} (h : Ch w B g m vq s) (hw : Only (fp g m vq) w w') {v : Value} {l : List Nat} (ho : Own w v l) : Own w' v l := own_only ho hw (h.far ho)
theorem Ch.call {w w' : World} {B g m : Nat} {vq : Value} {s : CS} (h : Ch w B g m vq s) (hb : Below w.heap.size w w') : Ch w' B g m vq s :=
  ⟨h.row.below hb h.row.lt, own_call h.own hb, h.map.only (Only.of_below (p := fun _ => False) hb) id, fun p hp => own_call (h.bod p hp) hb, fun x hx => own_call (h.erl x hx) hb, h.gB, h.mB⟩
/-- another end turns -/
theorem Ch.other {w w' : World} {B g m B' g' m' : Nat} {vq vq' : Value} {s s' : CS} (h : Ch w B g m vq s) (h' : Ch w B' g' m' vq' s') (hg : g ≠ g') (hm : m ≠ m') (hq : ∀ k, vq.ownBlock = some k → vq'.ownBlock ≠ some k) (ho : Only (fp g' m' vq') w w') : Ch w' B g m vq s := by
  refine ⟨h.row.only ho ?_, own_only h.own ho (fun k hk hf => ?_), h.map.only ho ?_, fun p hp => own_only (h.bod p hp) ho (h'.far (h.bod p hp)), fun x hx => own_only (h.erl x hx) ho (h'.far (h.erl x hx)), h.gB, h.mB⟩
  · rintro (e | e | e)
    · exact hg e
    · exact row_map h.row h'.map e
    · exact tag_ne h'.own h.row (by decide) e
  · rcases hf with rfl | rfl | e
    · exact tag_ne h.own h'.row (by decide) hk
    · exact own_map h.own h'.map hk
    · exact hq k hk e
  · rintro (e | e | e)
    · exact row_map h'.row h.map e.symm
    · exact hm e
    · exact own_map h'.own h.map e
theorem Ch.low {w w' : World} {B g m : Nat} {vq : Value} {s : CS} (h : Ch w B g m vq s) (ho : Only (fp g m vq) w w') (hB : B ≤ w.heap.size) : Below B w w' := ho.below hB (fun k hk => by
  rcases hk with rfl | rfl | hk
  · exact h.gB
  · exact h.mB
  · exact (h.own.lt k hk).1)
end Go.Proofs.Ytmkpphkdaiienaa
