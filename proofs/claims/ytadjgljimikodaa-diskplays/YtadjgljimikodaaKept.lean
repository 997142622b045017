/- A disk, and blocks that are not its own. -/
import Derived.Test.YtadjgljimikodaaBurnt0
namespace Go.Proofs.Ytadjgljimikodaa
set_option linter.unusedVariables false
set_option linter.unusedSimpArgs false
open Go.ChangeShapes Go.WideShapes Go.ChangeAt Go.RowKit

/-- these blocks are as they were -/
structure Kept (X : Nat → Prop) (w w' : World) : Prop where
  os : w'.os = w.os
  tape : w'.tape = w.tape
  output : w'.output = w.output
  size : w.heap.size ≤ w'.heap.size
  block : ∀ k, X k → w'.heap[k]? = w.heap[k]?
theorem Kept.refl (X : Nat → Prop) (w : World) : Kept X w w := ⟨rfl, rfl, rfl, Nat.le_refl _, fun _ _ => rfl⟩
theorem Kept.trans {X : Nat → Prop} {a b c : World} (h : Kept X a b) (k : Kept X b c) : Kept X a c :=
  ⟨k.os.trans h.os, k.tape.trans h.tape, k.output.trans h.output, Nat.le_trans h.size k.size, fun i hi => (k.block i hi).trans (h.block i hi)⟩
theorem Kept.mono {X Y : Nat → Prop} {a b : World} (h : Kept X a b) (hY : ∀ k, Y k → X k) : Kept Y a b := ⟨h.os, h.tape, h.output, h.size, fun i hi => h.block i (hY i hi)⟩
theorem Kept.below {X : Nat → Prop} {B : Nat} {a b : World} (h : Kept X a b) (hX : ∀ k, k < B → X k) : Below B a b := ⟨h.os, h.tape, h.output, h.size, fun i hi => h.block i (hX i hi)⟩
theorem Kept.of_below {X : Nat → Prop} {B : Nat} {a b : World} (h : Below B a b) (hX : ∀ k, X k → k < B) : Kept X a b := ⟨h.os, h.tape, h.output, h.size, fun i hi => h.block i (hX i hi)⟩
theorem Kept.of_only {X p : Nat → Prop} {a b : World} (h : Only p a b) (hX : ∀ k, X k → k < a.heap.size ∧ ¬ p k) : Kept X a b := ⟨h.os, h.tape, h.output, h.size, fun i hi => h.block i (hX i hi).1 (hX i hi).2⟩
theorem Kept.cell {X : Nat → Prop} {a b : World} (h : Kept X a b) {q : Addr} (hq : X q.block) : b.cell? q = a.cell? q := World.cell?_of_block (w := a) (h.block q.block hq)
theorem Kept.frozen {X : Nat → Prop} {a b : World} (h : Kept X a b) {q : Addr} (hq : X q.block) : b.frozen? q = a.frozen? q := World.frozen?_of_block (w := a) (h.block q.block hq)
theorem Kept.out {X : Nat → Prop} {a b : World} (h : Kept X a b) {o : Nat} {V : Nat → Value} (ho : Out a o V) (hq : X o) : Out b o V := by
  obtain ⟨⟨q0, q1, q2⟩, z0, z1, z2⟩ := ho
  exact ⟨⟨by rw [h.cell (q := ⟨o, 0, none⟩) hq]; exact q0, by rw [h.cell (q := ⟨o, 1, none⟩) hq]; exact q1, by rw [h.cell (q := ⟨o, 2, none⟩) hq]; exact q2⟩,
    by rw [h.frozen (q := ⟨o, 0, none⟩) hq]; exact z0, by rw [h.frozen (q := ⟨o, 1, none⟩) hq]; exact z1, by rw [h.frozen (q := ⟨o, 2, none⟩) hq]; exact z2⟩
theorem Kept.new {X : Nat → Prop} {a b : World} (h : Kept X a b) {B : Nat} {v : Value} {l : List Nat} (hn : New B a v l) (hX : ∀ k, B ≤ k → k < a.heap.size → X k) : New B b v l := by
  have hlt := hn.lt
  obtain ⟨h1, hh | ⟨g, cap, cur, rfl, hg, hc, r⟩⟩ := hn
  · exact ⟨h1, .inl hh⟩
  · have := hlt g rfl
    exact ⟨h1, .inr ⟨g, cap, cur, rfl, hg, by rw [h.block g (hX g this.1 this.2)]; exact hc, r⟩⟩
theorem Kept.byt {X : Nat → Prop} {a b : World} (h : Kept X a b) {v : Value} {l : List Nat} (hb : Byt a v l) (hX : ∀ k, k < a.heap.size → v.ownBlock = some k → X k) : Byt b v l := by
  rcases hb with hb | ⟨ad, cap, rfl, h1, h2, h3⟩
  · exact .inl hb
  · refine .inr ⟨ad, cap, rfl, h1, h2, fun i y hy => ?_⟩
    have q := h3 i y hy
    have hl := lt_of_cell q
    rw [add_block] at hl
    rw [h.cell (q := ad.add i) (by rw [add_block]; exact hX _ hl rfl)]
    exact q

/-- a disk none of whose blocks is one of these -/
def AtX (X : Nat → Prop) (w : World) (g : Nat) (d : DS) : Prop := ∃ S, Dk w g S d ∧ ∀ k, Ft g S k → ¬ X k
theorem AtX.of_at {B : Nat} {w : World} {g : Nat} {d : DS} (h : At B w g d) : AtX (fun k => k < B) w g d := by
  obtain ⟨S, h1, h2⟩ := h
  exact ⟨S, h1, fun k hk q => by have := h2 k hk; omega⟩
theorem AtX.lt {X : Nat → Prop} {w : World} {g : Nat} {d : DS} (h : AtX X w g d) : g < w.heap.size := by obtain ⟨S, h1, _⟩ := h; exact h1.cells.lt
theorem AtX.ok {X : Nat → Prop} {w : World} {g : Nat} {d : DS} (h : AtX X w g d) : d.Ok := by obtain ⟨S, h1, _⟩ := h; exact h1.ok
theorem AtX.not {X : Nat → Prop} {w : World} {g : Nat} {d : DS} (h : AtX X w g d) : ¬ X g := by obtain ⟨S, h1, h2⟩ := h; exact h2 g (.inl rfl)
theorem AtX.call {X : Nat → Prop} {w w' : World} {g : Nat} {d : DS} (h : AtX X w g d) (hb : Below w.heap.size w w') : AtX X w' g d := by
  obtain ⟨S, h1, h2⟩ := h
  exact ⟨S, h1.call hb, h2⟩
theorem AtX.more {X Y : Nat → Prop} {w : World} {g : Nat} {d : DS} (h : AtX X w g d) (hY : ∀ k, Y k → X k ∨ w.heap.size ≤ k) : AtX Y w g d := by
  obtain ⟨S, h1, h2⟩ := h
  exact ⟨S, h1, fun k hk q => by
    rcases hY k q with q | q
    · exact h2 k hk q
    · have := h1.ft_lt hk; omega⟩
theorem AtX.did {X : Nat → Prop} {w w' : World} {g : Nat} {S : Nat → Value} {d d' : DS} (hX : ∀ k, X k → k < w.heap.size) (hS : ∀ k, Ft g S k → ¬ X k) (h : Did w w' g S d') : AtX X w' g d' ∧ Kept X w w' := by
  obtain ⟨S', h1, h2, h3⟩ := h
  exact ⟨⟨S', h1, fun k hk q => by
    rcases h3 k hk with q1 | q1
    · exact hS k q1 q
    · have := hX k q; omega⟩, Kept.of_only h2 (fun k hk => ⟨hX k hk, fun q => hS k q hk⟩)⟩

theorem append_x (X : Nat → Prop) (g : Nat) (d : DS) (file : Int) (v : Value) (l : List Nat) (w : World) (h : AtX X w g d) (hX : ∀ k, X k → k < w.heap.size) (hv : Byt w v l) (hfar : 0 < l.length → ∀ k, v.ownBlock = some k → k ≠ g) :
    Calls Try.prog 28 #[.pointer (some ⟨g, 0, none⟩), .int .i64 file, v] w fun e w' => e = .returned (.int .i64 (d.appE file l.length)) ∧ AtX X w' g (d.appD file l) ∧ Kept X w w' := by
  obtain ⟨S, h1, h2⟩ := h
  exact (append_any g S d file v l w h1 hv hfar).mono (fun e w' q => ⟨q.1, AtX.did (d := d) hX h2 q.2⟩)
theorem arm_x (X : Nat → Prop) (g : Nat) (d : DS) (n : Int) (w : World) (h : AtX X w g d) (hX : ∀ k, X k → k < w.heap.size) (hn : n ≤ 9223372036854775807) :
    Calls Try.prog 27 #[.pointer (some ⟨g, 0, none⟩), .int .i64 n] w fun e w' => e = .returned (.int .i64 (d.armE n)) ∧ AtX X w' g (d.armD n) ∧ Kept X w w' := by
  obtain ⟨S, h1, h2⟩ := h
  exact (arm_any g S d n w h1 hn).mono (fun e w' q => ⟨q.1, AtX.did (d := d) hX h2 (Did.same q.2.1 q.2.2)⟩)
theorem disarm_x (X : Nat → Prop) (g : Nat) (d : DS) (w : World) (h : AtX X w g d) (hX : ∀ k, X k → k < w.heap.size) :
    Calls Try.prog 31 #[.pointer (some ⟨g, 0, none⟩)] w fun e w' => e = .returned (.int .i64 d.check) ∧ AtX X w' g d.disarmD ∧ Kept X w w' := by
  obtain ⟨S, h1, h2⟩ := h
  exact (disarm_any g S d w h1).mono (fun e w' q => ⟨q.1, AtX.did (d := d) hX h2 (Did.same q.2.1 q.2.2)⟩)
theorem does_x (X : Nat → Prop) (g : Nat) (d : DS) (c : Cl) (w : World) (h : AtX X w g d) (hX : ∀ k, X k → k < w.heap.size) (hc : ClOk w c) (hfar : 0 < c.b.length → ∀ k, c.v.ownBlock = some k → k ≠ g) :
    Calls Try.prog 14 #[.pointer (some ⟨g, 0, none⟩), .agg #[.int .i64 c.op, .int .i64 c.file, .int .i64 c.n, c.v]] w fun e w' => e = .returned (.int .i64 (d.doE c.op c.file c.n c.b)) ∧ AtX X w' g (d.step c) ∧ Kept X w w' := by
  obtain ⟨S, h1, h2⟩ := h
  exact (does_any g S d c.op c.file c.n c.v c.b w h1 hc.byt hfar hc.n).mono (fun e w' q => ⟨q.1, AtX.did (d := d) hX h2 q.2⟩)
theorem used_x (X : Nat → Prop) (g : Nat) (d : DS) (w : World) (h : AtX X w g d) :
    Calls Try.prog 20 #[.pointer (some ⟨g, 0, none⟩)] w fun e w' => e = .returned (.int .i64 (d.used : Int)) ∧ w = w' := by
  obtain ⟨S, h1, h2⟩ := h
  exact used_any g S d w h1
theorem readbad_x (X : Nat → Prop) (g : Nat) (d : DS) (file : Int) (w : World) (h : AtX X w g d) (hbad : d.on = false ∨ ¬ inF file) :
    Calls Try.prog 22 #[.pointer (some ⟨g, 0, none⟩), .int .i64 file] w fun e w' => e = .returned (.tuple #[.slice none 0 0, .int .i64 (d.checkF file)]) ∧ w = w' := by
  obtain ⟨S, h1, h2⟩ := h
  exact read_bad g S d file w h1 hbad
theorem read_x (X : Nat → Prop) (g : Nat) (d : DS) (i : Nat) (w : World) (h : AtX X w g d) (hon : d.on = true) (hi : i < 3) :
    Calls Try.prog 22 #[.pointer (some ⟨g, 0, none⟩), .int .i64 (i : Int)] w fun e w' => ∃ v', e = .returned (.tuple #[v', .int .i64 0]) ∧ New w.heap.size w' v' (d.F i) ∧ Below w.heap.size w w' := by
  obtain ⟨S, h1, h2⟩ := h
  exact read_ok g S d i w h1 hon hi
theorem files_x (X : Nat → Prop) (g : Nat) (d : DS) (w : World) (h : AtX X w g d) (hX : ∀ k, X k → k < w.heap.size) :
    Calls Try.prog 26 #[.pointer (some ⟨g, 0, none⟩)] w fun e w' => ∃ v0 v1 v2, e = .returned (.agg #[v0, v1, v2]) ∧ (∀ hi, AtX (fun k => X k ∨ (w.heap.size ≤ k ∧ k < hi)) w' g { d with on := true }) ∧ Kept X w w' ∧ New w.heap.size w' v0 (d.F 0) ∧ New w.heap.size w' v1 (d.F 1) ∧ New w.heap.size w' v2 (d.F 2) := by
  obtain ⟨S, h1, h2⟩ := h
  refine (files_any g S d w h1).mono ?_
  rintro e w' ⟨v0, v1, v2, rfl, hd, ho, n0, n1, n2⟩
  refine ⟨v0, v1, v2, rfl, fun hi => ⟨S, hd, fun k hk q => ?_⟩, Kept.of_only ho (fun k hk => ⟨hX k hk, fun e => h2 k (.inl e) hk⟩), n0, n1, n2⟩
  rcases q with q | q
  · exact h2 k hk q
  · have := h1.ft_lt hk; omega
theorem own : ownKnob Try.prog.godebug = none := by kernel_rfl
theorem laidOut : laidOutB Try.prog = true := by kernel_rfl
end Go.Proofs.Ytadjgljimikodaa
