/- Parts of the walk: Fed, Tak, Tkp, Two, Bth, Chk, Fof, Cm0, Cmp, Bla, Apl. -/
import Derived.Test.YtonabfpgdgnpnaaDoorMz00
import Derived.Test.YtonabfpgdgnpnaaDoorMz02
import Derived.Deep.LoopGhost
namespace Go.Proofs.YtonabfpgdgnpnaaDoor
set_option linter.unusedVariables false
set_option linter.unusedSimpArgs false
open Go.ChangeShapes Go.WideShapes Go.ChangeAt Go.RowKit Go.Joins Go.Deep

/-- no part -/
def noPt : Pt := ⟨0, 0, ⟨#[]⟩⟩
/-- a feed in block g: what is left of the part at its head, and the others -/
structure Fd (w : World) (g : Nat) (h : Pt) (a : Option Addr) (c : Nat) (l : List Pt) : Prop where
  row : RowAt w g 129 [.int .i64 h.kind, .int .i64 h.n, .string h.text, .slice a l.length c]
  pts : PtsAt w a l
  far : ∀ b off, a = some ⟨b, off, none⟩ → b ≠ g
  cap : l.length ≤ c ∧ c ≤ maxLen
theorem Fd.call {w w' : World} {g : Nat} {h : Pt} {a : Option Addr} {c : Nat} {l : List Pt} (f : Fd w g h a c l) (hb : Below w.heap.size w w') : Fd w' g h a c l :=
  ⟨f.row.below hb f.row.lt, f.pts.call hb, f.far, f.cap⟩
theorem PtsAt.only {p : Nat → Prop} {w w' : World} {a : Option Addr} {l : List Pt} (h : PtsAt w a l) (ho : Only p w w') (hp : ∀ b off, a = some ⟨b, off, none⟩ → ¬ p b) : PtsAt w' a l := by
  rcases h with h | ⟨b, off, rfl, hlt, hc⟩
  · exact .inl h
  · refine .inr ⟨b, off, rfl, Nat.lt_of_lt_of_le hlt ho.size, fun i k hk => ?_⟩
    obtain ⟨q0, q1, q2⟩ := hc i k hk
    have hb := hp b off rfl
    exact ⟨ho.cell (q := ⟨b, _, none⟩) hb q0, ho.cell (q := ⟨b, _, none⟩) hb q1, ho.cell (q := ⟨b, _, none⟩) hb q2⟩
/-- the head is another part -/
theorem Fd.head {w : World} {g : Nat} {h : Pt} {a : Option Addr} {c : Nat} {l : List Pt} (f : Fd w g h a c l) (q : Pt) :
    Fd (((w.setCell ⟨g, 0, none⟩ (.int .i64 q.kind)).setCell ⟨g, 1, none⟩ (.int .i64 q.n)).setCell ⟨g, 2, none⟩ (.string q.text)) g q a c l ∧ Only (· = g) w (((w.setCell ⟨g, 0, none⟩ (.int .i64 q.kind)).setCell ⟨g, 1, none⟩ (.int .i64 q.n)).setCell ⟨g, 2, none⟩ (.string q.text)) := by
  have ho : Only (· = g) w (((w.setCell ⟨g, 0, none⟩ (.int .i64 q.kind)).setCell ⟨g, 1, none⟩ (.int .i64 q.n)).setCell ⟨g, 2, none⟩ (.string q.text)) := (((Only.refl (· = g) w).set g 0 _ rfl).set g 1 _ rfl).set g 2 _ rfl
  exact ⟨⟨((f.row.set 0 (.int .i64 q.kind)).set 1 (.int .i64 q.n)).set 2 (.string q.text), f.pts.only ho (fun b off e => f.far b off e), f.far, f.cap⟩, ho⟩
/-- the others without the first one -/
theorem Fd.rest {w : World} {g b off : Nat} {h p : Pt} {c : Nat} {l : List Pt} {a1 : Option Addr} (f : Fd w g h (some ⟨b, off, none⟩) c (p :: l)) (ha : (if c = 1 then some (⟨b, off, none⟩ : Addr) else some ⟨b, off + 3, none⟩) = a1) :
    Fd (w.setCell ⟨g, 3, none⟩ (.slice a1 l.length (c - 1))) g h a1 (c - 1) l ∧ Only (· = g) w (w.setCell ⟨g, 3, none⟩ (.slice a1 l.length (c - 1))) := by
  have ho : Only (· = g) w (w.setCell ⟨g, 3, none⟩ (.slice a1 l.length (c - 1))) := (Only.refl (· = g) w).set g 3 _ rfl
  have hbg := f.far b off rfl
  have hcap := f.cap
  simp only [List.length_cons] at hcap
  refine ⟨⟨f.row.set 3 _, ?_, ?_, ⟨by omega, by omega⟩⟩, ho⟩
  · by_cases hl : l = []
    · exact .inl hl
    · right
      have hlp : 0 < l.length := List.length_pos_iff.2 hl
      rw [if_neg (by omega)] at ha
      rcases f.pts with h0 | ⟨b', off', e, hlt, hc⟩
      · cases h0
      obtain ⟨rfl, rfl⟩ : b = b' ∧ off = off' := by simpa using e
      refine ⟨b, off + 3, ha.symm, Nat.lt_of_lt_of_le hlt ho.size, fun i k hk => ?_⟩
      obtain ⟨q0, q1, q2⟩ := hc (i + 1) k (by simpa using hk)
      have e3 : off + (i + 1) * 3 = off + 3 + i * 3 := by omega
      rw [e3] at q0 q1 q2
      exact ⟨ho.cell (q := ⟨b, _, none⟩) hbg q0, ho.cell (q := ⟨b, _, none⟩) hbg q1, ho.cell (q := ⟨b, _, none⟩) hbg q2⟩
  · intro b' off' e
    rw [← ha] at e
    split at e
    · obtain ⟨rfl, _⟩ : b = b' ∧ off = off' := by simpa using e
      exact hbg
    · obtain ⟨rfl, _⟩ : b = b' ∧ off + 3 = off' := by simpa using e
      exact hbg
set_option maxRecDepth 100000 in
set_option maxHeartbeats 4000000 in
theorem kind_ok {w : World} {g : Nat} {h : Pt} {a : Option Addr} {c : Nat} {l : List Pt} (f : Fd w g h a c l) : Calls Tryd.prog 64 #[.pointer (some ⟨g, 0, none⟩)] w fun r w' => r = .returned (.int .i64 h.kind) ∧ w = w' := by
  have c0 : w.cell? ⟨g, 0, none⟩ = some (.int .i64 h.kind) := f.row.cell 0
  clear f
  go_enter Tryd.func64, Tryd.ntmps64
  go_wp2_with fail
  go_ret
  exact ⟨rfl, rfl⟩
set_option maxRecDepth 100000 in
set_option maxHeartbeats 4000000 in
theorem next_end {w : World} {g : Nat} {h : Pt} {a : Option Addr} {c : Nat} (f : Fd w g h a c []) : Calls Tryd.prog 82 #[.pointer (some ⟨g, 0, none⟩)] w fun r w' => r = .returned (.tuple #[]) ∧ Fd w' g noPt a c [] ∧ Only (· = g) w w' := by
  have c0 : w.cell? ⟨g, 0, none⟩ = some (.int .i64 h.kind) := f.row.cell 0
  have c1 : w.cell? ⟨g, 1, none⟩ = some (.int .i64 h.n) := f.row.cell 1
  have c2 : w.cell? ⟨g, 2, none⟩ = some (.string h.text) := f.row.cell 2
  have c3 : w.cell? ⟨g, 3, none⟩ = some (.slice a 0 c) := f.row.cell 3
  have z0 : w.frozen? ⟨g, 0, none⟩ = false := f.row.frozen 0
  have z1 : w.frozen? ⟨g, 1, none⟩ = false := f.row.frozen 1
  have z2 : w.frozen? ⟨g, 2, none⟩ = false := f.row.frozen 2
  have HF := hide f
  clear f
  go_enter Tryd.func82, Tryd.ntmps82
  go_wp2_with fail
  go_end0
  exact ⟨rfl, ((unhide HF).head noPt).1, ((unhide HF).head noPt).2⟩
set_option maxRecDepth 100000 in
set_option maxHeartbeats 4000000 in
theorem next_cons {w : World} {g : Nat} {h p : Pt} {a : Option Addr} {c : Nat} {l : List Pt} (f : Fd w g h a c (p :: l)) : Calls Tryd.prog 82 #[.pointer (some ⟨g, 0, none⟩)] w fun r w' => r = .returned (.tuple #[]) ∧ (∃ a' c', Fd w' g p a' c' l ∧ ∀ b' off', a' = some ⟨b', off', none⟩ → ∃ o0, a = some ⟨b', o0, none⟩) ∧ Only (· = g) w w' := by
  have c0 : w.cell? ⟨g, 0, none⟩ = some (.int .i64 h.kind) := f.row.cell 0
  have c1 : w.cell? ⟨g, 1, none⟩ = some (.int .i64 h.n) := f.row.cell 1
  have c2 : w.cell? ⟨g, 2, none⟩ = some (.string h.text) := f.row.cell 2
  have c3 : w.cell? ⟨g, 3, none⟩ = some (.slice a (p :: l).length c) := f.row.cell 3
  have z0 : w.frozen? ⟨g, 0, none⟩ = false := f.row.frozen 0
  have z1 : w.frozen? ⟨g, 1, none⟩ = false := f.row.frozen 1
  have z2 : w.frozen? ⟨g, 2, none⟩ = false := f.row.frozen 2
  have HF := hide f
  have hm := f.cap
  obtain ⟨n, hn⟩ : ∃ n, (p :: l).length = n := ⟨_, rfl⟩
  rw [hn] at c3 hm
  have hn1 : 0 < n := by rw [← hn]; simp
  have nI : (0 : Int) < (n : Int) := by omega
  have nI2 : (n : Int) ≤ 9223372036854775807 := by unfold maxLen at hm; omega
  have HN := hide hn
  obtain ⟨b, off, ha, e0, e1, e2⟩ := f.pts.at_ (Below.refl _ _) (i := 0) (p := p) rfl
  subst ha
  simp only [Nat.zero_mul, Nat.add_zero] at e0 e1 e2
  clear f hn
  go_enter Tryd.func82, Tryd.ntmps82
  go_wp2_with fail
  have hF0 : Fd (((w.setCell ⟨g, 0, none⟩ (.int .i64 0)).setCell ⟨g, 1, none⟩ (.int .i64 0)).setCell ⟨g, 2, none⟩ (.string ⟨#[]⟩)) g noPt (some ⟨b, off, none⟩) c (p :: l) ∧ Only (· = g) w (((w.setCell ⟨g, 0, none⟩ (.int .i64 0)).setCell ⟨g, 1, none⟩ (.int .i64 0)).setCell ⟨g, 2, none⟩ (.string ⟨#[]⟩)) := (unhide HF).head noPt
  obtain ⟨w0, hw0⟩ : ∃ w0, (((w.setCell ⟨g, 0, none⟩ (.int .i64 0)).setCell ⟨g, 1, none⟩ (.int .i64 0)).setCell ⟨g, 2, none⟩ (.string ⟨#[]⟩)) = w0 := ⟨_, rfl⟩
  rw [hw0] at hF0 ⊢
  clear hw0 c0 c1 c2 c3 z0 z1 z2
  have HO0 := hide hF0.2
  have HF0 := hide hF0.1
  have c0 : w0.cell? ⟨g, 0, none⟩ = some (.int .i64 0) := hF0.1.row.cell 0
  have c1 : w0.cell? ⟨g, 1, none⟩ = some (.int .i64 0) := hF0.1.row.cell 1
  have c2 : w0.cell? ⟨g, 2, none⟩ = some (.string ⟨#[]⟩) := hF0.1.row.cell 2
  have c3 : w0.cell? ⟨g, 3, none⟩ = some (.slice (some ⟨b, off, none⟩) n c) := by have := hF0.1.row.cell 3; rw [unhide HN] at this; exact this
  have z0 : w0.frozen? ⟨g, 0, none⟩ = false := hF0.1.row.frozen 0
  have z1 : w0.frozen? ⟨g, 1, none⟩ = false := hF0.1.row.frozen 1
  have z2 : w0.frozen? ⟨g, 2, none⟩ = false := hF0.1.row.frozen 2
  have z3 : w0.frozen? ⟨g, 3, none⟩ = false := hF0.1.row.frozen 3
  have HB : Hid (b ≠ g) := hide (hF0.1.far b off rfl)
  have e0 := hF0.2.cell (q := ⟨b, _, none⟩) (unhide HB) e0
  have e1 := hF0.2.cell (q := ⟨b, _, none⟩) (unhide HB) e1
  have e2 := hF0.2.cell (q := ⟨b, _, none⟩) (unhide HB) e2
  clear hF0
  have HS : Hid (∀ W, Only (· = g) w0 W → W.cell? ⟨g, 3, none⟩ = some (.slice (some ⟨b, off, none⟩) n c) → ((W.cell? ⟨g, 3, none⟩ = some (.slice (some ⟨b, off, none⟩) n c) ∧ W.cell? ⟨b, off, none⟩ = some (.int .i64 p.kind)) ∧ W.cell? ⟨b, off + 1, none⟩ = some (.int .i64 p.n)) ∧ W.cell? ⟨b, off + 2, none⟩ = some (.string p.text)) := hide (fun W ho h3 => ⟨⟨⟨h3, ho.cell (q := ⟨b, _, none⟩) (unhide HB) e0⟩, ho.cell (q := ⟨b, _, none⟩) (unhide HB) e1⟩, ho.cell (q := ⟨b, _, none⟩) (unhide HB) e2⟩)
  have n1c : 1 ≤ n := hn1
  have n1I : (1 : Int) ≤ (n : Int) := by omega
  obtain ⟨a1, ha1⟩ : ∃ a1, (if c = 1 then some (⟨b, off, none⟩ : Addr) else some ⟨b, off + 3, none⟩) = a1 := ⟨_, rfl⟩
  have HA1 := hide ha1
  refine wp_region_T (S := fun W => ((W.cell? ⟨g, 3, none⟩ = some (.slice (some ⟨b, off, none⟩) n c) ∧ W.cell? ⟨b, off, none⟩ = some (.int .i64 p.kind)) ∧ W.cell? ⟨b, off + 1, none⟩ = some (.int .i64 p.n)) ∧ W.cell? ⟨b, off + 2, none⟩ = some (.string p.text)) (fun i => decide (i < 16)) (by kernel_rfl) ⟨⟨⟨c3, e0⟩, e1⟩, e2⟩ (fun hHeld => ?_)
  refine tk 0 (v := .pointer (some ⟨g, 0, none⟩)) rfl (Or.inl ⟨by rfl, ?_⟩) hHeld ?_
  · intro w hSw
    obtain ⟨⟨⟨h3, h4⟩, h5⟩, h6⟩ := hSw
    first
      | rfl
      | (go_simp; done)
  try go_frame
  refine tk 1 (v := .pointer (some ⟨g, 0, none⟩)) rfl (Or.inl ⟨by rfl, ?_⟩) hHeld ?_
  · intro w hSw
    obtain ⟨⟨⟨h3, h4⟩, h5⟩, h6⟩ := hSw
    first
      | rfl
      | (go_simp; done)
  try go_frame
  refine tk 2 (v := .pointer (some ⟨g, 0, none⟩)) rfl (Or.inl ⟨by rfl, ?_⟩) hHeld ?_
  · intro w hSw
    obtain ⟨⟨⟨h3, h4⟩, h5⟩, h6⟩ := hSw
    first
      | rfl
      | (go_simp; done)
  try go_frame
  refine tk 3 (v := .pointer (some ⟨g, 0, none⟩)) rfl (Or.inl ⟨by rfl, ?_⟩) hHeld ?_
  · intro w hSw
    obtain ⟨⟨⟨h3, h4⟩, h5⟩, h6⟩ := hSw
    first
      | rfl
      | (go_simp; done)
  try go_frame
  refine tk 4 (v := .pointer (some ⟨g, 3, none⟩)) rfl (Or.inl ⟨by rfl, ?_⟩) hHeld ?_
  · intro w hSw
    obtain ⟨⟨⟨h3, h4⟩, h5⟩, h6⟩ := hSw
    first
      | rfl
      | (go_simp; done)
  try go_frame
  refine tk 5 (v := .slice (some ⟨b, off, none⟩) n c) rfl (Or.inl ⟨by rfl, ?_⟩) hHeld ?_
  · intro w hSw
    obtain ⟨⟨⟨h3, h4⟩, h5⟩, h6⟩ := hSw
    first
      | rfl
      | (go_simp; done)
  try go_frame
  refine tk 6 (v := .pointer (some ⟨b, off, none⟩)) rfl (Or.inl ⟨by rfl, ?_⟩) hHeld ?_
  · intro w hSw
    obtain ⟨⟨⟨h3, h4⟩, h5⟩, h6⟩ := hSw
    first
      | rfl
      | (go_simp; done)
  try go_frame
  refine tk 7 (v := .agg #[.int .i64 p.kind, .int .i64 p.n, .string p.text]) rfl (Or.inl ⟨by rfl, ?_⟩) hHeld ?_
  · intro w hSw
    obtain ⟨⟨⟨h3, h4⟩, h5⟩, h6⟩ := hSw
    first
      | rfl
      | (go_simp; done)
  try go_frame
  refine tk 8 (v := .pointer (some ⟨g, 0, none⟩)) rfl (Or.inl ⟨by rfl, ?_⟩) hHeld ?_
  · intro w hSw
    obtain ⟨⟨⟨h3, h4⟩, h5⟩, h6⟩ := hSw
    first
      | rfl
      | (go_simp; done)
  try go_frame
  refine tk 9 (v := .pointer (some ⟨g, 0, none⟩)) rfl (Or.inl ⟨by rfl, ?_⟩) hHeld ?_
  · intro w hSw
    obtain ⟨⟨⟨h3, h4⟩, h5⟩, h6⟩ := hSw
    first
      | rfl
      | (go_simp; done)
  try go_frame
  refine tk 10 (v := .pointer (some ⟨g, 3, none⟩)) rfl (Or.inl ⟨by rfl, ?_⟩) hHeld ?_
  · intro w hSw
    obtain ⟨⟨⟨h3, h4⟩, h5⟩, h6⟩ := hSw
    first
      | rfl
      | (go_simp; done)
  try go_frame
  refine tk 11 (v := .slice (some ⟨b, off, none⟩) n c) rfl (Or.inl ⟨by rfl, ?_⟩) hHeld ?_
  · intro w hSw
    obtain ⟨⟨⟨h3, h4⟩, h5⟩, h6⟩ := hSw
    first
      | rfl
      | (go_simp; done)
  try go_frame
  refine tk 12 (v := .slice a1 (n - 1) (c - 1)) rfl (Or.inl ⟨by rfl, ?_⟩) hHeld ?_
  · intro w hSw
    obtain ⟨⟨⟨h3, h4⟩, h5⟩, h6⟩ := hSw
    first
      | rfl
      | (go_simp; done)
  try go_frame
  clear ha1
  refine tk 13 (v := .pointer (some ⟨g, 0, none⟩)) rfl (Or.inl ⟨by rfl, ?_⟩) hHeld ?_
  · intro w hSw
    obtain ⟨⟨⟨h3, h4⟩, h5⟩, h6⟩ := hSw
    first
      | rfl
      | (go_simp; done)
  try go_frame
  refine tk 14 (v := .pointer (some ⟨g, 0, none⟩)) rfl (Or.inl ⟨by rfl, ?_⟩) hHeld ?_
  · intro w hSw
    obtain ⟨⟨⟨h3, h4⟩, h5⟩, h6⟩ := hSw
    first
      | rfl
      | (go_simp; done)
  try go_frame
  refine wpAnyT_one (i := 15) (o := { dst := none, op := Op.store 39 (Operand.tmp 26) (Operand.tmp 19), type := 0, pos := "pair.go:23", after := #[{ on := 14, ground := Ground.data }, { on := 7, ground := Ground.data }, { on := 0, ground := Ground.phase }, { on := 1, ground := Ground.textOnly Departure.lateStores }, { on := 2, ground := Ground.phase }, { on := 3, ground := Ground.phase }, { on := 4, ground := Ground.phase }, { on := 5, ground := Ground.phase }, { on := 6, ground := Ground.phase }, { on := 7, ground := Ground.phase }, { on := 8, ground := Ground.textOnly Departure.lateStores }, { on := 9, ground := Ground.textOnly Departure.lateStoresUnsure }, { on := 10, ground := Ground.textOnly Departure.lateStoresUnsure }, { on := 11, ground := Ground.phase }, { on := 12, ground := Ground.textOnly Departure.lateStoresUnsure }], guard := none }) (by kernel_rfl) rfl (fun K hK => ?_)
  go_simp
  have hF3 := (unhide HF0).head p
  have hF4 : Fd (((w0.setCell ⟨g, 0, none⟩ (.int .i64 p.kind)).setCell ⟨g, 1, none⟩ (.int .i64 p.n)).setCell ⟨g, 2, none⟩ (.string p.text)).drew g p (some ⟨b, off, none⟩) c (p :: l) ∧ Only (· = g) w0 (((w0.setCell ⟨g, 0, none⟩ (.int .i64 p.kind)).setCell ⟨g, 1, none⟩ (.int .i64 p.n)).setCell ⟨g, 2, none⟩ (.string p.text)).drew := ⟨hF3.1.call (Below.refl _ _).drew, hF3.2.drew⟩
  have c3' : (((w0.setCell ⟨g, 0, none⟩ (.int .i64 p.kind)).setCell ⟨g, 1, none⟩ (.int .i64 p.n)).setCell ⟨g, 2, none⟩ (.string p.text)).drew.cell? ⟨g, 3, none⟩ = some (.slice (some ⟨b, off, none⟩) n c) := by have := hF4.1.row.cell 3; rw [unhide HN] at this; exact this
  have z3' : (((w0.setCell ⟨g, 0, none⟩ (.int .i64 p.kind)).setCell ⟨g, 1, none⟩ (.int .i64 p.n)).setCell ⟨g, 2, none⟩ (.string p.text)).drew.frozen? ⟨g, 3, none⟩ = false := hF4.1.row.frozen 3
  have HF4 := hide hF4.1
  have HO4 := hide hF4.2
  refine hK.out _ _ (fun _ => unhide HS _ (unhide HO4) c3') ?_
  clear hK K hF3 hF4 c0 c1 c2 c3 z0 z1 z2 z3 e0 e1 e2
  obtain ⟨w3, hw3⟩ : ∃ w3, (((w0.setCell ⟨g, 0, none⟩ (.int .i64 p.kind)).setCell ⟨g, 1, none⟩ (.int .i64 p.n)).setCell ⟨g, 2, none⟩ (.string p.text)).drew = w3 := ⟨_, rfl⟩
  rw [hw3] at HF4 HO4 c3' z3' ⊢
  clear hw3
  try go_frame
  refine wpAnyT_pure (i := 16) (oi := { dst := some 27, op := Op.nilCheck (Operand.tmp 13), type := 0, pos := "pair.go:23", after := #[{ on := 1, ground := Ground.data }, { on := 0, ground := Ground.phase }, { on := 1, ground := Ground.phase }, { on := 2, ground := Ground.phase }, { on := 3, ground := Ground.phase }, { on := 4, ground := Ground.phase }, { on := 5, ground := Ground.phase }, { on := 6, ground := Ground.phase }, { on := 7, ground := Ground.phase }, { on := 8, ground := Ground.phase }, { on := 9, ground := Ground.phase }, { on := 10, ground := Ground.phase }, { on := 11, ground := Ground.phase }, { on := 12, ground := Ground.phase }, { on := 13, ground := Ground.phase }, { on := 14, ground := Ground.phase }, { on := 15, ground := Ground.phase }], guard := none }) (v := .pointer (some ⟨g, 0, none⟩)) rfl (by kernel_rfl) (by kernel_rfl) (by kernel_rfl) rfl (fun _ _ _ h => h) (Or.inl ⟨by rfl, ?_⟩) ?_
  · intro w hSw
    first
      | rfl
      | (go_simp; done)
  try go_frame
  refine wpAnyT_pure (i := 17) (oi := { dst := some 28, op := Op.fieldAddr 129 (Operand.tmp 27) 1, type := 0, pos := "pair.go:23", after := #[{ on := 16, ground := Ground.data }, { on := 0, ground := Ground.phase }, { on := 1, ground := Ground.phase }, { on := 2, ground := Ground.phase }, { on := 3, ground := Ground.phase }, { on := 4, ground := Ground.phase }, { on := 5, ground := Ground.phase }, { on := 6, ground := Ground.phase }, { on := 7, ground := Ground.phase }, { on := 8, ground := Ground.phase }, { on := 9, ground := Ground.phase }, { on := 10, ground := Ground.phase }, { on := 11, ground := Ground.phase }, { on := 12, ground := Ground.phase }, { on := 13, ground := Ground.phase }, { on := 14, ground := Ground.phase }, { on := 15, ground := Ground.phase }], guard := none }) (v := .pointer (some ⟨g, 3, none⟩)) rfl (by kernel_rfl) (by kernel_rfl) (by kernel_rfl) rfl (fun _ _ _ h => h) (Or.inl ⟨by rfl, ?_⟩) ?_
  · intro w hSw
    first
      | rfl
      | (go_simp; done)
  try go_frame
  refine wpAnyT_one (i := 18) (o := { dst := none, op := Op.store 24 (Operand.tmp 28) (Operand.tmp 24), type := 0, pos := "pair.go:23", after := #[{ on := 17, ground := Ground.data }, { on := 12, ground := Ground.data }, { on := 15, ground := Ground.chain }, { on := 0, ground := Ground.phase }, { on := 1, ground := Ground.phase }, { on := 2, ground := Ground.phase }, { on := 3, ground := Ground.phase }, { on := 4, ground := Ground.phase }, { on := 5, ground := Ground.phase }, { on := 6, ground := Ground.phase }, { on := 7, ground := Ground.phase }, { on := 8, ground := Ground.phase }, { on := 9, ground := Ground.phase }, { on := 10, ground := Ground.phase }, { on := 11, ground := Ground.phase }, { on := 12, ground := Ground.phase }, { on := 13, ground := Ground.phase }, { on := 14, ground := Ground.phase }, { on := 15, ground := Ground.phase }], guard := none }) (by kernel_rfl) rfl (fun K hK => ?_)
  go_simp
  refine hK.out _ _ (fun h => by cases h) ?_
  clear hK K
  try go_frame
  refine wpAnyT_done (by kernel_rfl) ?_ _
  go_wp2_with fail
  go_end0
  have hR := (unhide HF4).rest (unhide HA1)
  have hnl : n - 1 = l.length := by have := unhide HN; simp at this; omega
  rw [hnl]
  refine ⟨rfl, ⟨a1, c - 1, hR.1, fun b' off' e => ⟨off, ?_⟩⟩, ((unhide HO0).trans (unhide HO4)).trans hR.2⟩
  have hh := unhide HA1
  rw [e] at hh
  split at hh
  · obtain ⟨rfl, _⟩ : b = b' ∧ off = off' := by simpa using hh
    rfl
  · obtain ⟨rfl, _⟩ : b = b' ∧ off + 3 = off' := by simpa using hh
    rfl
end Go.Proofs.YtonabfpgdgnpnaaDoor

namespace Go.Proofs.YtonabfpgdgnpnaaDoor
set_option linter.unusedVariables false
set_option linter.unusedSimpArgs false
open Go.ChangeShapes Go.WideShapes Go.ChangeAt Go.RowKit Go.Joins Go.Deep

/-- a feed of these parts, the head first; behind the end there is none; the parts lie below block B -/
def Feed (w : World) (g B : Nat) (l : List Pt) : Prop := ∃ a c, Fd w g (l.headD noPt) a c l.tail ∧ ∀ b off, a = some ⟨b, off, none⟩ → b < B
theorem next_any {w : World} {g B : Nat} {h : Pt} {a : Option Addr} {c : Nat} {l : List Pt} (f : Fd w g h a c l) (hB : ∀ b off, a = some ⟨b, off, none⟩ → b < B) : Calls Tryd.prog 82 #[.pointer (some ⟨g, 0, none⟩)] w fun r w' => r = .returned (.tuple #[]) ∧ Feed w' g B l ∧ Only (· = g) w w' := by
  cases l with
  | nil =>
    refine Calls.mono (next_end f) ?_
    rintro r w' ⟨rfl, h1, h2⟩
    exact ⟨rfl, ⟨a, c, h1, hB⟩, h2⟩
  | cons p l =>
    refine Calls.mono (next_cons f) ?_
    rintro r w' ⟨rfl, ⟨a', c', h1, h3⟩, h2⟩
    exact ⟨rfl, ⟨a', c', h1, fun b off e => by obtain ⟨o0, e0⟩ := h3 b off e; exact hB b o0 e0⟩, h2⟩
/-- a feed stays as it is where neither it nor its parts turn -/
theorem Feed.keep {w w' : World} {g B : Nat} {l : List Pt} (h : Feed w g B l) {p : Nat → Prop} (ho : Only p w w') (hg : ¬ p g) (hp : ∀ k, p k → B ≤ k) : Feed w' g B l := by
  obtain ⟨a, c, f, hB⟩ := h
  exact ⟨a, c, ⟨f.row.only ho hg, f.pts.only ho (fun b off e hb => by have := hp b hb; have := hB b off e; omega), f.far, f.cap⟩, hB⟩
set_option maxRecDepth 100000 in
set_option maxHeartbeats 4000000 in
theorem take_all {w : World} {g : Nat} {h : Pt} {a : Option Addr} {c : Nat} {l : List Pt} (f : Fd w g h a c l) {B : Nat} (hB : ∀ b off, a = some ⟨b, off, none⟩ → b < B) (hBw : B ≤ w.heap.size) (n : Int) (hn : h.n ≤ n) : Calls Tryd.prog 83 #[.pointer (some ⟨g, 0, none⟩), .int .i64 n] w fun r w' => r = .returned (pv h) ∧ Feed w' g B l ∧ Only (· = g) w w' := by
  have hz : Below w.heap.size w (w.alloc (.cells #[.int .i64 0, .int .i64 0, .string ⟨#[]⟩] 39)) := (Below.refl _ _).alloc (Nat.le_refl _) _
  have fz := f.call hz
  have c0 : (w.alloc (.cells #[.int .i64 0, .int .i64 0, .string ⟨#[]⟩] 39)).cell? ⟨g, 0, none⟩ = some (.int .i64 h.kind) := fz.row.cell 0
  have c1 : (w.alloc (.cells #[.int .i64 0, .int .i64 0, .string ⟨#[]⟩] 39)).cell? ⟨g, 1, none⟩ = some (.int .i64 h.n) := fz.row.cell 1
  have c2 : (w.alloc (.cells #[.int .i64 0, .int .i64 0, .string ⟨#[]⟩] 39)).cell? ⟨g, 2, none⟩ = some (.string h.text) := fz.row.cell 2
  have hb : Below w.heap.size w ((w.alloc (.cells #[.int .i64 0, .int .i64 0, .string ⟨#[]⟩] 39)).alloc (.cells #[.int .i64 h.kind, .int .i64 h.n, .string h.text] 39)) := hz.alloc hz.size _
  have HX := hide (next_any (f.call hb) hB)
  have HB := hide hb
  have HR : Hid (RowAt ((w.alloc (.cells #[.int .i64 0, .int .i64 0, .string ⟨#[]⟩] 39)).alloc (.cells #[.int .i64 h.kind, .int .i64 h.n, .string h.text] 39)) (w.heap.size + 1) 39 [.int .i64 h.kind, .int .i64 h.n, .string h.text]) := hide (by
    have := RowAt.new (w.alloc (.cells #[.int .i64 0, .int .i64 0, .string ⟨#[]⟩] 39)) 39 [.int .i64 h.kind, .int .i64 h.n, .string h.text]
    rw [size_alloc] at this
    exact this)
  have HZ : Hid (RowAt ((w.alloc (.cells #[.int .i64 0, .int .i64 0, .string ⟨#[]⟩] 39)).alloc (.cells #[.int .i64 h.kind, .int .i64 h.n, .string h.text] 39)) w.heap.size 39 [.int .i64 0, .int .i64 0, .string ⟨#[]⟩]) := hide ((RowAt.new w 39 [.int .i64 0, .int .i64 0, .string ⟨#[]⟩]).below ((Below.refl _ _).alloc (Nat.le_refl _) _) (by rw [size_alloc]; omega))
  have HG := hide f.row.lt
  clear f hb hz fz
  go_enter Tryd.func83, Tryd.ntmps83
  go_wp2_with fail
  refine Calls.mono (unhide HX) ?_
  rintro r w2 ⟨rfl, hf, ho⟩
  have hr2 := (unhide HR).only ho (by have := unhide HG; omega)
  have hz2 := (unhide HZ).only ho (by have := unhide HG; omega)
  have r0 : w2.cell? ⟨w.heap.size + 1, 0, none⟩ = some (.int .i64 h.kind) := hr2.cell 0
  have r1 : w2.cell? ⟨w.heap.size + 1, 1, none⟩ = some (.int .i64 h.n) := hr2.cell 1
  have r2 : w2.cell? ⟨w.heap.size + 1, 2, none⟩ = some (.string h.text) := hr2.cell 2
  have q0 : w2.cell? ⟨w.heap.size, 0, none⟩ = some (.int .i64 0) := hz2.cell 0
  have q1 : w2.cell? ⟨w.heap.size, 1, none⟩ = some (.int .i64 0) := hz2.cell 1
  have q2 : w2.cell? ⟨w.heap.size, 2, none⟩ = some (.string ⟨#[]⟩) := hz2.cell 2
  have z0 : w2.frozen? ⟨w.heap.size, 0, none⟩ = false := hz2.frozen 0
  have z1 : w2.frozen? ⟨w.heap.size, 1, none⟩ = false := hz2.frozen 1
  have z2 : w2.frozen? ⟨w.heap.size, 2, none⟩ = false := hz2.frozen 2
  have HF := hide hf
  have HO := hide ((Only.of_below (unhide HB)).trans ho)
  have hfin : RowAt (((w2.setCell ⟨w.heap.size, 0, none⟩ (.int .i64 h.kind)).setCell ⟨w.heap.size, 1, none⟩ (.int .i64 h.n)).setCell ⟨w.heap.size, 2, none⟩ (.string h.text)) w.heap.size 39 [.int .i64 h.kind, .int .i64 h.n, .string h.text] := ((hz2.set 0 (.int .i64 h.kind)).set 1 (.int .i64 h.n)).set 2 (.string h.text)
  have HFIN := hide hfin
  clear hf ho hr2 hz2 HX HR HZ c0 c1 c2 hfin
  go_wp2_with fail
  have hon : Only (· = w.heap.size) w2 (((w2.setCell ⟨w.heap.size, 0, none⟩ (.int .i64 h.kind)).setCell ⟨w.heap.size, 1, none⟩ (.int .i64 h.n)).setCell ⟨w.heap.size, 2, none⟩ (.string h.text)) := (((Only.refl (· = w.heap.size) w2).set _ 0 _ rfl).set _ 1 _ rfl).set _ 2 _ rfl
  have HON := hide hon
  clear hon q0 q1 q2 z0 z1 z2 r0 r1 r2
  obtain ⟨w5, hw5⟩ : ∃ w5, (((w2.setCell ⟨w.heap.size, 0, none⟩ (.int .i64 h.kind)).setCell ⟨w.heap.size, 1, none⟩ (.int .i64 h.n)).setCell ⟨w.heap.size, 2, none⟩ (.string h.text)) = w5 := ⟨_, rfl⟩
  rw [hw5] at HFIN HON ⊢
  clear hw5
  have f0 : w5.cell? ⟨w.heap.size, 0, none⟩ = some (.int .i64 h.kind) := (unhide HFIN).cell 0
  have f1 : w5.cell? ⟨w.heap.size, 1, none⟩ = some (.int .i64 h.n) := (unhide HFIN).cell 1
  have f2 : w5.cell? ⟨w.heap.size, 2, none⟩ = some (.string h.text) := (unhide HFIN).cell 2
  refine bodyPost_ret (v := pv h) (by simp [results, Tryd.results83, go_sem, f0, f1, f2, pv]) rfl ?_
  exact ⟨rfl, (unhide HF).keep (unhide HON) (by have := unhide HG; omega) (fun k hk => by omega), (unhide HO).next (unhide HON) (fun k hk => .inr (by omega))⟩
end Go.Proofs.YtonabfpgdgnpnaaDoor

namespace Go.Proofs.YtonabfpgdgnpnaaDoor
set_option linter.unusedVariables false
set_option linter.unusedSimpArgs false
open Go.ChangeShapes Go.WideShapes Go.ChangeAt Go.RowKit Go.Joins Go.Deep

/-- the first n of a part, and the rest -/
def frontPt (h : Pt) (cs : List (List UInt8)) (n : Int) : Pt := ⟨h.kind, n, h.text.extract 0 (placeOf cs (cutK n cs))⟩
def restPt (h : Pt) (cs : List (List UInt8)) (n : Int) : Pt := ⟨h.kind, h.n - n, h.text.extract (placeOf cs (cutK n cs)) h.text.size⟩
set_option maxRecDepth 100000 in
set_option maxHeartbeats 4000000 in
theorem take_part {w : World} {g : Nat} {h : Pt} {a : Option Addr} {c : Nat} {l : List Pt} (f : Fd w g h a c l) {B : Nat} (hB : ∀ b off, a = some ⟨b, off, none⟩ → b < B) (hBw : B ≤ w.heap.size) (hT : UT w) {cs : List (List UInt8)} (ht : Tx h.text cs) (hs : h.text.size ≤ 281474976710656) (n : Int) (hn0 : 0 ≤ n) (hn : n < h.n) (hm : h.n ≤ 1099511627776) :
    Calls Tryd.prog 83 #[.pointer (some ⟨g, 0, none⟩), .int .i64 n] w fun r w' => r = .returned (pv (frontPt h cs n)) ∧ Feed w' g B (restPt h cs n :: l) ∧ Only (· = g) w w' := by
  have hz : Below w.heap.size w (w.alloc (.cells #[.int .i64 0, .int .i64 0, .string ⟨#[]⟩] 39)) := (Below.refl _ _).alloc (Nat.le_refl _) _
  have fz := f.call hz
  have c0 : (w.alloc (.cells #[.int .i64 0, .int .i64 0, .string ⟨#[]⟩] 39)).cell? ⟨g, 0, none⟩ = some (.int .i64 h.kind) := fz.row.cell 0
  have c1 : (w.alloc (.cells #[.int .i64 0, .int .i64 0, .string ⟨#[]⟩] 39)).cell? ⟨g, 1, none⟩ = some (.int .i64 h.n) := fz.row.cell 1
  have c2 : (w.alloc (.cells #[.int .i64 0, .int .i64 0, .string ⟨#[]⟩] 39)).cell? ⟨g, 2, none⟩ = some (.string h.text) := fz.row.cell 2
  have hb : Below w.heap.size w ((w.alloc (.cells #[.int .i64 0, .int .i64 0, .string ⟨#[]⟩] 39)).alloc (.cells #[.int .i64 h.kind, .int .i64 h.n, .string h.text] 39)) := hz.alloc hz.size _
  have HX := hide (cut_any h.text cs n _ (hT.call hb) ht hs (by omega) (by omega))
  have HB := hide hb
  have HR : Hid (RowAt ((w.alloc (.cells #[.int .i64 0, .int .i64 0, .string ⟨#[]⟩] 39)).alloc (.cells #[.int .i64 h.kind, .int .i64 h.n, .string h.text] 39)) (w.heap.size + 1) 39 [.int .i64 h.kind, .int .i64 h.n, .string h.text]) := hide (by
    have := RowAt.new (w.alloc (.cells #[.int .i64 0, .int .i64 0, .string ⟨#[]⟩] 39)) 39 [.int .i64 h.kind, .int .i64 h.n, .string h.text]
    rw [size_alloc] at this
    exact this)
  have HZ : Hid (RowAt ((w.alloc (.cells #[.int .i64 0, .int .i64 0, .string ⟨#[]⟩] 39)).alloc (.cells #[.int .i64 h.kind, .int .i64 h.n, .string h.text] 39)) w.heap.size 39 [.int .i64 0, .int .i64 0, .string ⟨#[]⟩]) := hide ((RowAt.new w 39 [.int .i64 0, .int .i64 0, .string ⟨#[]⟩]).below ((Below.refl _ _).alloc (Nat.le_refl _) _) (by rw [size_alloc]; omega))
  have HG := hide f.row.lt
  have HF := hide f
  have hnn : ¬ h.n ≤ n := by omega
  obtain ⟨fs, hfs⟩ : ∃ x, h.text.extract 0 (placeOf cs (cutK n cs)) = x := ⟨_, rfl⟩
  obtain ⟨rs, hrs⟩ : ∃ x, h.text.extract (placeOf cs (cutK n cs)) h.text.size = x := ⟨_, rfl⟩
  have HE : Hid (frontPt h cs n = ⟨h.kind, n, fs⟩ ∧ restPt h cs n = ⟨h.kind, h.n - n, rs⟩) := hide ⟨by unfold frontPt; rw [hfs], by unfold restPt; rw [hrs]⟩
  rw [hfs, hrs] at HX
  rw [(unhide HE).1, (unhide HE).2]
  clear f hb hz fz hfs hrs hT ht hs HE
  go_enter Tryd.func83, Tryd.ntmps83
  go_wp2_with fail
  refine Calls.mono (unhide HX) ?_
  rintro r w2 ⟨rfl, hb2⟩
  have HB2 := hide ((unhide HB).trans (hb2.mono (unhide HB).size))
  have HR2 := hide ((unhide HR).below hb2 (unhide HR).lt)
  have HZ2 := hide ((unhide HZ).below hb2 (unhide HZ).lt)
  clear hb2 HX HR HZ HB c0 c1 c2
  have r0 : w2.cell? ⟨w.heap.size + 1, 0, none⟩ = some (.int .i64 h.kind) := (unhide HR2).cell 0
  have r1 : w2.cell? ⟨w.heap.size + 1, 1, none⟩ = some (.int .i64 h.n) := (unhide HR2).cell 1
  have r2 : w2.cell? ⟨w.heap.size + 1, 2, none⟩ = some (.string h.text) := (unhide HR2).cell 2
  have hf2 := (unhide HF).call (unhide HB2)
  have c1 : w2.cell? ⟨g, 1, none⟩ = some (.int .i64 h.n) := hf2.row.cell 1
  have c2 : w2.cell? ⟨g, 2, none⟩ = some (.string h.text) := hf2.row.cell 2
  have z1 : w2.frozen? ⟨g, 1, none⟩ = false := hf2.row.frozen 1
  have z2 : w2.frozen? ⟨g, 2, none⟩ = false := hf2.row.frozen 2
  clear hf2
  have q1 : ¬ g = w.heap.size + 1 := by have := unhide HG; omega
  have q2 : ¬ w.heap.size + 1 = g := by have := unhide HG; omega
  have q3 : ¬ g = w.heap.size := by have := unhide HG; omega
  have q4 : ¬ w.heap.size = g := by have := unhide HG; omega
  have y1 : w2.frozen? ⟨w.heap.size + 1, 1, none⟩ = false := (unhide HR2).frozen 1
  have y2 : w2.frozen? ⟨w.heap.size + 1, 2, none⟩ = false := (unhide HR2).frozen 2
  have v0 : w2.cell? ⟨w.heap.size, 0, none⟩ = some (.int .i64 0) := (unhide HZ2).cell 0
  have v1 : w2.cell? ⟨w.heap.size, 1, none⟩ = some (.int .i64 0) := (unhide HZ2).cell 1
  have v2 : w2.cell? ⟨w.heap.size, 2, none⟩ = some (.string ⟨#[]⟩) := (unhide HZ2).cell 2
  have u0 : w2.frozen? ⟨w.heap.size, 0, none⟩ = false := (unhide HZ2).frozen 0
  have u1 : w2.frozen? ⟨w.heap.size, 1, none⟩ = false := (unhide HZ2).frozen 1
  have u2 : w2.frozen? ⟨w.heap.size, 2, none⟩ = false := (unhide HZ2).frozen 2
  have HF2 := hide ((unhide HF).call (unhide HB2))
  have HFin : Hid (RowAt (((((((w2.setCell ⟨g, 1, none⟩ (.int .i64 (h.n - n))).setCell ⟨g, 2, none⟩ (.string rs)).setCell ⟨w.heap.size + 1, 1, none⟩ (.int .i64 n)).setCell ⟨w.heap.size + 1, 2, none⟩ (.string fs)).setCell ⟨w.heap.size, 0, none⟩ (.int .i64 h.kind)).setCell ⟨w.heap.size, 1, none⟩ (.int .i64 n)).setCell ⟨w.heap.size, 2, none⟩ (.string fs)) w.heap.size 39 [.int .i64 h.kind, .int .i64 n, .string fs] ∧ Fd (((((((w2.setCell ⟨g, 1, none⟩ (.int .i64 (h.n - n))).setCell ⟨g, 2, none⟩ (.string rs)).setCell ⟨w.heap.size + 1, 1, none⟩ (.int .i64 n)).setCell ⟨w.heap.size + 1, 2, none⟩ (.string fs)).setCell ⟨w.heap.size, 0, none⟩ (.int .i64 h.kind)).setCell ⟨w.heap.size, 1, none⟩ (.int .i64 n)).setCell ⟨w.heap.size, 2, none⟩ (.string fs)) g ⟨h.kind, h.n - n, rs⟩ a c l ∧ Only (fun k => k = g ∨ w.heap.size ≤ k) w2 (((((((w2.setCell ⟨g, 1, none⟩ (.int .i64 (h.n - n))).setCell ⟨g, 2, none⟩ (.string rs)).setCell ⟨w.heap.size + 1, 1, none⟩ (.int .i64 n)).setCell ⟨w.heap.size + 1, 2, none⟩ (.string fs)).setCell ⟨w.heap.size, 0, none⟩ (.int .i64 h.kind)).setCell ⟨w.heap.size, 1, none⟩ (.int .i64 n)).setCell ⟨w.heap.size, 2, none⟩ (.string fs))) := hide (by
    have o1 : Only (· = g) w2 ((w2.setCell ⟨g, 1, none⟩ (.int .i64 (h.n - n))).setCell ⟨g, 2, none⟩ (.string rs)) := ((Only.refl (· = g) w2).set g 1 _ rfl).set g 2 _ rfl
    have o2 : Only (w.heap.size ≤ ·) ((w2.setCell ⟨g, 1, none⟩ (.int .i64 (h.n - n))).setCell ⟨g, 2, none⟩ (.string rs)) (((((((w2.setCell ⟨g, 1, none⟩ (.int .i64 (h.n - n))).setCell ⟨g, 2, none⟩ (.string rs)).setCell ⟨w.heap.size + 1, 1, none⟩ (.int .i64 n)).setCell ⟨w.heap.size + 1, 2, none⟩ (.string fs)).setCell ⟨w.heap.size, 0, none⟩ (.int .i64 h.kind)).setCell ⟨w.heap.size, 1, none⟩ (.int .i64 n)).setCell ⟨w.heap.size, 2, none⟩ (.string fs)) := (((((Only.refl (w.heap.size ≤ ·) ((w2.setCell ⟨g, 1, none⟩ (.int .i64 (h.n - n))).setCell ⟨g, 2, none⟩ (.string rs))).set _ 1 _ (Nat.le_succ _)).set _ 2 _ (Nat.le_succ _)).set _ 0 _ (Nat.le_refl _)).set _ 1 _ (Nat.le_refl _)).set _ 2 _ (Nat.le_refl _)
    have o3 : Only (w.heap.size + 1 = ·) ((w2.setCell ⟨g, 1, none⟩ (.int .i64 (h.n - n))).setCell ⟨g, 2, none⟩ (.string rs)) ((((w2.setCell ⟨g, 1, none⟩ (.int .i64 (h.n - n))).setCell ⟨g, 2, none⟩ (.string rs)).setCell ⟨w.heap.size + 1, 1, none⟩ (.int .i64 n)).setCell ⟨w.heap.size + 1, 2, none⟩ (.string fs)) := ((Only.refl (w.heap.size + 1 = ·) ((w2.setCell ⟨g, 1, none⟩ (.int .i64 (h.n - n))).setCell ⟨g, 2, none⟩ (.string rs))).set _ 1 _ rfl).set _ 2 _ rfl
    refine ⟨?_, ?_, (o1.mono (fun _ h => .inl h)).trans (o2.mono (fun _ h => .inr h))⟩
    · have hz := ((unhide HZ2).only o1 (fun e => q4 e)).only o3 (by omega)
      exact (((hz.set 0 (.int .i64 h.kind)).set 1 (.int .i64 n)).set 2 (.string fs))
    · have hf2 := unhide HF2
      have hr1 : RowAt ((w2.setCell ⟨g, 1, none⟩ (.int .i64 (h.n - n))).setCell ⟨g, 2, none⟩ (.string rs)) g 129 [.int .i64 h.kind, .int .i64 (h.n - n), .string rs, .slice a l.length c] := (hf2.row.set 1 (.int .i64 (h.n - n))).set 2 (.string rs)
      refine ⟨hr1.only o2 (by have := unhide HG; omega), ?_, hf2.far, hf2.cap⟩
      have hp1 := hf2.pts.only o1 (fun b off e hb => hf2.far b off e hb)
      exact hp1.only o2 (fun b off e hb => by have := hB b off e; omega))
  clear HR2 HZ2 HF HF2
  simp only []
  repeat (first | (go_big_may; go_says fail) | go_values | go_skip | go_guarded | go_step | go_upon)
  clear q1 q2 q3 q4 r0 r1 r2 c1 c2 z1 z2 y1 y2 v0 v1 v2 u0 u1 u2
  obtain ⟨w5, hw5⟩ : ∃ w5, (((((((w2.setCell ⟨g, 1, none⟩ (.int .i64 (h.n - n))).setCell ⟨g, 2, none⟩ (.string rs)).setCell ⟨w.heap.size + 1, 1, none⟩ (.int .i64 n)).setCell ⟨w.heap.size + 1, 2, none⟩ (.string fs)).setCell ⟨w.heap.size, 0, none⟩ (.int .i64 h.kind)).setCell ⟨w.heap.size, 1, none⟩ (.int .i64 n)).setCell ⟨w.heap.size, 2, none⟩ (.string fs)) = w5 := ⟨_, rfl⟩
  rw [hw5] at HFin ⊢
  clear hw5
  obtain ⟨hr, hf, ho⟩ := unhide HFin
  have f0 : w5.cell? ⟨w.heap.size, 0, none⟩ = some (.int .i64 h.kind) := hr.cell 0
  have f1 : w5.cell? ⟨w.heap.size, 1, none⟩ = some (.int .i64 n) := hr.cell 1
  have f2 : w5.cell? ⟨w.heap.size, 2, none⟩ = some (.string fs) := hr.cell 2
  refine bodyPost_ret (v := pv ⟨h.kind, n, fs⟩) (by simp [results, Tryd.results83, go_sem, f0, f1, f2, pv]) rfl ?_
  refine ⟨rfl, ⟨a, c, hf, hB⟩, (Only.of_below (unhide HB2)).next ho (fun k hk => ?_)⟩
  rcases hk with rfl | hk
  · exact .inl rfl
  · exact .inr hk
end Go.Proofs.YtonabfpgdgnpnaaDoor

namespace Go.Proofs.YtonabfpgdgnpnaaDoor
set_option linter.unusedVariables false
set_option linter.unusedSimpArgs false
open Go.ChangeShapes Go.WideShapes Go.ChangeAt Go.RowKit Go.Joins Go.Deep

/-- parts that fit -/
def Fit1 (p : Pt) : Prop := Good p ∧ p.n ≤ 1099511627776
theorem Good.text {h : Pt} (hg : Good h) : ∃ cs, Tx h.text cs ∧ (h.kind = 2 → (cs.length : Int) = h.n) ∧ (h.kind ≠ 2 → cs = []) := by
  rcases hg.cases with ⟨k, t, _⟩ | ⟨k, t, _⟩ | ⟨k, cs, h3, h4, _⟩
  · exact ⟨[], by rw [t]; exact ⟨Cps.nil, rfl⟩, fun e => by omega, fun _ => rfl⟩
  · exact ⟨[], by rw [t]; exact ⟨Cps.nil, rfl⟩, fun e => by omega, fun _ => rfl⟩
  · exact ⟨cs, h3, fun _ => h4, fun e => absurd k e⟩
theorem tx_nil {s : ByteArray} (h : Tx s []) : s = ByteArray.empty := ByteArray.ext (Array.toList_inj.1 (by rw [h.eq]; rfl))
theorem front_ok {h : Pt} (hg : Good h) {cs : List (List UInt8)} (ht : Tx h.text cs) {n : Int} (h1 : 1 ≤ n) (h2 : n < h.n) : Good (frontPt h cs n) ∧ atoms (frontPt h cs n) = (atoms h).take n.toNat ∧ Good (restPt h cs n) ∧ atoms (restPt h cs n) = (atoms h).drop n.toNat := by
  have hf := ht.front (cutK n cs)
  have hb := ht.back (cutK n cs)
  rcases hg.cases with ⟨k, t, e⟩ | ⟨k, t, e⟩ | ⟨k, ds, h3, h4, e⟩
  · have hc : cs = [] := ht.inj (by rw [t]; exact ⟨Cps.nil, rfl⟩)
    subst hc
    have e1 : (frontPt h [] n).text = ByteArray.empty := tx_nil (by simpa [frontPt] using hf)
    have e2 : (restPt h [] n).text = ByteArray.empty := tx_nil (by simpa [restPt] using hb)
    have a1 : atoms (frontPt h [] n) = List.replicate n.toNat .k := by unfold atoms frontPt; simp only; rw [if_pos k]
    have a2 : atoms (restPt h [] n) = List.replicate (h.n - n).toNat .k := by unfold atoms restPt; simp only; rw [if_pos k]
    refine ⟨⟨h1, .inl ⟨k, e1⟩⟩, ?_, ⟨by show 1 ≤ h.n - n; omega, .inl ⟨k, e2⟩⟩, ?_⟩
    · rw [a1, e, List.take_replicate]; congr 1; omega
    · rw [a2, e, List.drop_replicate]; congr 1; omega
  · have hc : cs = [] := ht.inj (by rw [t]; exact ⟨Cps.nil, rfl⟩)
    subst hc
    have e1 : (frontPt h [] n).text = ByteArray.empty := tx_nil (by simpa [frontPt] using hf)
    have e2 : (restPt h [] n).text = ByteArray.empty := tx_nil (by simpa [restPt] using hb)
    have a1 : atoms (frontPt h [] n) = List.replicate n.toNat .d := by unfold atoms frontPt; simp only; rw [if_neg (by omega), if_pos k]
    have a2 : atoms (restPt h [] n) = List.replicate (h.n - n).toNat .d := by unfold atoms restPt; simp only; rw [if_neg (by omega), if_pos k]
    refine ⟨⟨h1, .inr (.inl ⟨k, e1⟩)⟩, ?_, ⟨by show 1 ≤ h.n - n; omega, .inr (.inl ⟨k, e2⟩)⟩, ?_⟩
    · rw [a1, e, List.take_replicate]; congr 1; omega
    · rw [a2, e, List.drop_replicate]; congr 1; omega
  · obtain rfl : cs = ds := ht.inj h3
    have hK : cutK n cs = n.toNat := by unfold cutK; omega
    rw [hK] at hf hb
    have a1 : atoms (frontPt h cs n) = (cs.take n.toNat).map .p := by unfold frontPt; rw [hK]; unfold atoms; simp only; rw [if_neg (by omega), if_neg (by omega), cpsOf_eq hf]
    have a2 : atoms (restPt h cs n) = (cs.drop n.toNat).map .p := by unfold restPt; rw [hK]; unfold atoms; simp only; rw [if_neg (by omega), if_neg (by omega), cpsOf_eq hb]
    refine ⟨⟨h1, .inr (.inr ⟨k, _, by unfold frontPt; rw [hK]; exact hf, ?_⟩)⟩, ?_, ⟨by show 1 ≤ h.n - n; omega, .inr (.inr ⟨k, _, by unfold restPt; rw [hK]; exact hb, ?_⟩)⟩, ?_⟩
    · rw [List.length_take]; show _ = n; omega
    · rw [a1, e, List.map_take]
    · rw [List.length_drop]; show _ = h.n - n; omega
    · rw [a2, e, List.map_drop]
/-- a feed of parts that fit -/
structure Fa (w : World) (g B : Nat) (l : List Pt) : Prop where
  feed : Feed w g B l
  good : ∀ p ∈ l, Fit1 p
  sz : B ≤ w.heap.size
theorem Fa.keep {w w' : World} {g B : Nat} {l : List Pt} (h : Fa w g B l) {p : Nat → Prop} (ho : Only p w w') (hg : ¬ p g) (hp : ∀ k, p k → B ≤ k) : Fa w' g B l :=
  ⟨h.feed.keep ho hg hp, h.good, Nat.le_trans h.sz ho.size⟩
theorem Fa.lt {w : World} {g B : Nat} {l : List Pt} (h : Fa w g B l) : g < w.heap.size := by
  obtain ⟨a, c, f, _⟩ := h.feed
  exact f.row.lt
theorem Fa.call {w w' : World} {g B : Nat} {l : List Pt} (h : Fa w g B l) (hb : Below w.heap.size w w') : Fa w' g B l := by
  obtain ⟨a, c, f, hB⟩ := h.feed
  exact ⟨⟨a, c, f.call hb, hB⟩, h.good, Nat.le_trans h.sz hb.size⟩
/-- a piece that was taken of a part -/
structure Pc (h p : Pt) (l l' : List Pt) (m : Nat) : Prop where
  good : Fit1 p
  kind : p.kind = h.kind
  num : (p.n : Int) = m
  at_ : atoms p = (atoms h).take m
  rest : atomsL l' = (atoms h).drop m ++ atomsL l
  len : l'.length ≤ l.length + 1
  all : h.n ≤ (m : Int) → l'.length = l.length
theorem take_any {w : World} {g B : Nat} {h : Pt} {l : List Pt} (f : Fa w g B (h :: l)) (hT : UT w) {n : Int} (h1 : 1 ≤ n) (h2 : n ≤ 1099511627776) :
    Calls Tryd.prog 83 #[.pointer (some ⟨g, 0, none⟩), .int .i64 n] w fun r w' => ∃ p l', r = .returned (pv p) ∧ Pc h p l l' (min n h.n).toNat ∧ Fa w' g B l' ∧ Only (· = g) w w' := by
  obtain ⟨a, c, fd, hB⟩ := f.feed
  change Fd w g h a c l at fd
  have hg := f.good h (List.mem_cons_self ..)
  have hgl : ∀ p ∈ l, Fit1 p := fun p hp => f.good p (List.mem_cons_of_mem _ hp)
  have hn1 := hg.1.1
  by_cases hn : h.n ≤ n
  · refine Calls.mono (take_all fd hB f.sz n hn) ?_
    rintro r w' ⟨rfl, hf, ho⟩
    have hm : (min n h.n).toNat = (atoms h).length := by rw [hg.1.len.2]; omega
    have hnum : h.n = ((min n h.n).toNat : Int) := by omega
    refine ⟨h, l, rfl, ⟨hg, rfl, hnum, by rw [hm, List.take_of_length_le (Nat.le_refl _)], by rw [hm, List.drop_of_length_le (Nat.le_refl _)]; rfl, Nat.le_succ _, fun _ => rfl⟩, ⟨hf, hgl, Nat.le_trans f.sz ho.size⟩, ho⟩
  · obtain ⟨cs, hcs, _, _⟩ := hg.1.text
    have hsz : h.text.size ≤ 281474976710656 := by have := hg.1.size; have := hg.2; omega
    refine Calls.mono (take_part fd hB f.sz hT hcs hsz n (by omega) (by omega) hg.2) ?_
    rintro r w' ⟨rfl, hf, ho⟩
    obtain ⟨g1, g2, g3, g4⟩ := front_ok hg.1 hcs h1 (by omega)
    have hm : (min n h.n).toNat = n.toNat := by omega
    rw [hm]
    refine ⟨_, _, rfl, ⟨⟨g1, h2⟩, rfl, ?_, g2, by rw [atomsL, g4], by simp, fun e => by omega⟩, ⟨hf, fun p hp => ?_, Nat.le_trans f.sz ho.size⟩, ho⟩
    · show n = _; omega
    · rcases List.mem_cons.1 hp with rfl | hp
      · exact ⟨g3, by show h.n - n ≤ _; have := hg.2; omega⟩
      · exact hgl p hp
set_option maxRecDepth 100000 in
set_option maxHeartbeats 4000000 in
theorem whole_any {w : World} {g B : Nat} {h : Pt} {l : List Pt} (f : Fa w g B (h :: l)) (hT : UT w) :
    Calls Tryd.prog 65 #[.pointer (some ⟨g, 0, none⟩)] w fun r w' => r = .returned (pv h) ∧ Fa w' g B l ∧ Only (· = g) w w' := by
  have hz : Below w.heap.size w (w.alloc (.cells #[.int .i64 0, .int .i64 0, .string ⟨#[]⟩] 39)) := (Below.refl _ _).alloc (Nat.le_refl _) _
  have hg := f.good h (List.mem_cons_self ..)
  have hgl : ∀ p ∈ l, Fit1 p := fun p hp => f.good p (List.mem_cons_of_mem _ hp)
  obtain ⟨a, c, fd, hB⟩ := f.feed
  have fz := fd.call hz
  have c1 : (w.alloc (.cells #[.int .i64 0, .int .i64 0, .string ⟨#[]⟩] 39)).cell? ⟨g, 1, none⟩ = some (.int .i64 h.n) := fz.row.cell 1
  have HX := hide (take_all fz hB (Nat.le_trans f.sz hz.size) h.n (Int.le_refl _))
  have HR : Hid (RowAt (w.alloc (.cells #[.int .i64 0, .int .i64 0, .string ⟨#[]⟩] 39)) w.heap.size 39 [.int .i64 0, .int .i64 0, .string ⟨#[]⟩]) := hide (RowAt.new w 39 _)
  have HG := hide fd.row.lt
  have HS := hide f.sz
  have HZ := hide hz
  have HL := hide hgl
  clear f fd fz hz hgl hg hB hT
  go_enter Tryd.func65, Tryd.ntmps65
  go_wp2_with fail
  refine Calls.mono (unhide HX) ?_
  rintro r w2 ⟨rfl, hf, ho⟩
  have hr2 := (unhide HR).only ho (by have := unhide HG; omega)
  have q0 : w2.cell? ⟨w.heap.size, 0, none⟩ = some (.int .i64 0) := hr2.cell 0
  have q1 : w2.cell? ⟨w.heap.size, 1, none⟩ = some (.int .i64 0) := hr2.cell 1
  have q2 : w2.cell? ⟨w.heap.size, 2, none⟩ = some (.string ⟨#[]⟩) := hr2.cell 2
  have z0 : w2.frozen? ⟨w.heap.size, 0, none⟩ = false := hr2.frozen 0
  have z1 : w2.frozen? ⟨w.heap.size, 1, none⟩ = false := hr2.frozen 1
  have z2 : w2.frozen? ⟨w.heap.size, 2, none⟩ = false := hr2.frozen 2
  have HF := hide hf
  have HO := hide ((Only.of_below (unhide HZ)).trans ho)
  have HFIN := hide (((hr2.set 0 (.int .i64 h.kind)).set 1 (.int .i64 h.n)).set 2 (.string h.text))
  have HON := hide ((((Only.refl (· = w.heap.size) w2).set _ 0 (.int .i64 h.kind) rfl).set _ 1 (.int .i64 h.n) rfl).set _ 2 (.string h.text) rfl)
  clear hf ho hr2 HX HR c1
  unfold pv
  simp only []
  repeat (first | (go_big_may; go_says fail) | go_values | go_skip | go_guarded | go_step | go_upon)
  clear q0 q1 q2 z0 z1 z2
  obtain ⟨w5, hw5⟩ : ∃ w5, (((w2.setCell ⟨w.heap.size, 0, none⟩ (.int .i64 h.kind)).setCell ⟨w.heap.size, 1, none⟩ (.int .i64 h.n)).setCell ⟨w.heap.size, 2, none⟩ (.string h.text)) = w5 := ⟨_, rfl⟩
  rw [hw5] at HFIN HON ⊢
  clear hw5
  have f0 : w5.cell? ⟨w.heap.size, 0, none⟩ = some (.int .i64 h.kind) := (unhide HFIN).cell 0
  have f1 : w5.cell? ⟨w.heap.size, 1, none⟩ = some (.int .i64 h.n) := (unhide HFIN).cell 1
  have f2 : w5.cell? ⟨w.heap.size, 2, none⟩ = some (.string h.text) := (unhide HFIN).cell 2
  refine bodyPost_ret (v := pv h) (by simp [results, Tryd.results65, go_sem, f0, f1, f2, pv]) rfl ?_
  exact ⟨rfl, ⟨(unhide HF).keep (unhide HON) (by have := unhide HG; omega) (fun k hk => by have := unhide HS; omega), unhide HL, Nat.le_trans (unhide HS) (Nat.le_trans (unhide HO).size (unhide HON).size)⟩, (unhide HO).next (unhide HON) (fun k hk => .inr (by omega))⟩
end Go.Proofs.YtonabfpgdgnpnaaDoor

namespace Go.Proofs.YtonabfpgdgnpnaaDoor
set_option linter.unusedVariables false
set_option linter.unusedSimpArgs false
open Go.ChangeShapes Go.WideShapes Go.ChangeAt Go.RowKit Go.Joins Go.Deep

set_option maxRecDepth 100000 in
set_option maxHeartbeats 4000000 in
theorem both_any {w0 w : World} {g1 g2 B : Nat} {h1 h2 : Pt} {l1 l2 : List Pt} (f1 : Fa w g1 B (h1 :: l1)) (f2 : Fa w g2 B (h2 :: l2)) (hne : g1 ≠ g2) (hB1 : w0.heap.size ≤ g1) (hB2 : w0.heap.size ≤ g2) (hBB : B ≤ w0.heap.size) (hT : UT w0) (h0 : Below w0.heap.size w0 w) :
    Calls Tryd.prog 67 #[.pointer (some ⟨g1, 0, none⟩), .pointer (some ⟨g2, 0, none⟩)] w fun r w' => ∃ p q l1' l2', r = .returned (.tuple #[pv p, pv q]) ∧ Pc h1 p l1 l1' (min h1.n h2.n).toNat ∧ Pc h2 q l2 l2' (min h1.n h2.n).toNat ∧ Fa w' g1 B l1' ∧ Fa w' g2 B l2' ∧ Only (fun k => k = g1 ∨ k = g2) w w' := by
  have k1 := f1.good h1 (List.mem_cons_self ..)
  have k2 := f2.good h2 (List.mem_cons_self ..)
  have hz : Below w.heap.size w ((w.alloc (.cells #[.int .i64 0, .int .i64 0, .string ⟨#[]⟩] 39)).alloc (.cells #[.int .i64 0, .int .i64 0, .string ⟨#[]⟩] 39)) := ((Below.refl _ _).alloc (Nat.le_refl _) _).alloc (by simp) _
  have hzd : Below w.heap.size w ((w.alloc (.cells #[.int .i64 0, .int .i64 0, .string ⟨#[]⟩] 39)).alloc (.cells #[.int .i64 0, .int .i64 0, .string ⟨#[]⟩] 39)).drew := hz.drew
  have F1 := hide (f1.call hzd)
  have F2 := hide (f2.call hzd)
  have HR5 : Hid (RowAt ((w.alloc (.cells #[.int .i64 0, .int .i64 0, .string ⟨#[]⟩] 39)).alloc (.cells #[.int .i64 0, .int .i64 0, .string ⟨#[]⟩] 39)).drew (w.heap.size + 1) 39 [.int .i64 0, .int .i64 0, .string ⟨#[]⟩]) := hide (by
    have := (RowAt.new (w.alloc (.cells #[.int .i64 0, .int .i64 0, .string ⟨#[]⟩] 39)) 39 [.int .i64 0, .int .i64 0, .string ⟨#[]⟩]).drew
    rw [size_alloc] at this
    exact this)
  have HR4 : Hid (RowAt ((w.alloc (.cells #[.int .i64 0, .int .i64 0, .string ⟨#[]⟩] 39)).alloc (.cells #[.int .i64 0, .int .i64 0, .string ⟨#[]⟩] 39)).drew w.heap.size 39 [.int .i64 0, .int .i64 0, .string ⟨#[]⟩]) := hide (((RowAt.new w 39 [.int .i64 0, .int .i64 0, .string ⟨#[]⟩]).below ((Below.refl _ _).alloc (Nat.le_refl _) _) (by rw [size_alloc]; omega)).drew)
  have HZ := hide hzd
  have HT := hide hT
  have H0 := hide h0
  have HBB := hide hBB
  have HL1 := hide f1.lt
  have HL2 := hide f2.lt
  have HB := hide f1.sz
  obtain ⟨n1, hn1⟩ : ∃ z, h1.n = z := ⟨_, rfl⟩
  obtain ⟨n2, hn2⟩ : ∃ z, h2.n = z := ⟨_, rfl⟩
  have b1 : 1 ≤ n1 ∧ n1 ≤ 1099511627776 := by rw [← hn1]; exact ⟨k1.1.1, k1.2⟩
  have b2 : 1 ≤ n2 ∧ n2 ≤ 1099511627776 := by rw [← hn2]; exact ⟨k2.1.1, k2.2⟩
  have HN1 := hide hn1
  have HN2 := hide hn2
  have HNE := hide hne
  have HB1 := hide hB1
  have HB2 := hide hB2
  obtain ⟨m, hm⟩ : ∃ m, min n1 n2 = m := ⟨_, rfl⟩
  have HM := hide hm
  have bm : 1 ≤ m ∧ m ≤ 1099511627776 := by omega
  have d1 : ((w.alloc (.cells #[.int .i64 0, .int .i64 0, .string ⟨#[]⟩] 39)).alloc (.cells #[.int .i64 0, .int .i64 0, .string ⟨#[]⟩] 39)).drew.cell? ⟨g1, 1, none⟩ = some (.int .i64 n1) := by
    obtain ⟨a, c, fd, _⟩ := (unhide F1).feed
    have := fd.row.cell 1
    rw [← unhide HN1]
    exact this
  have d2 : ((w.alloc (.cells #[.int .i64 0, .int .i64 0, .string ⟨#[]⟩] 39)).alloc (.cells #[.int .i64 0, .int .i64 0, .string ⟨#[]⟩] 39)).drew.cell? ⟨g2, 1, none⟩ = some (.int .i64 n2) := by
    obtain ⟨a, c, fd, _⟩ := (unhide F2).feed
    have := fd.row.cell 1
    rw [← unhide HN2]
    exact this
  have hmin : (if n1 ≤ n2 then n1 else n2) = m := by rw [← hm]; rfl
  clear f1 f2 hz hzd hT h0 hBB k1 k2 hn1 hn2 hne hB1 hB2 hm
  go_enter Tryd.func67, Tryd.ntmps67
  go_wp2_with fail
  refine wp_region_T (S := fun W => W.cell? ⟨g1, 1, none⟩ = some (.int .i64 n1) ∧ W.cell? ⟨g2, 1, none⟩ = some (.int .i64 n2)) (fun i => decide (i < 12)) (by kernel_rfl) ⟨d1, d2⟩ (fun hHeld => ?_)
  obtain ⟨wd, hwd⟩ : ∃ z, ((w.alloc (.cells #[.int .i64 0, .int .i64 0, .string ⟨#[]⟩] 39)).alloc (.cells #[.int .i64 0, .int .i64 0, .string ⟨#[]⟩] 39)).drew = z := ⟨_, rfl⟩
  rw [hwd] at F1 F2 HR5 HR4 HZ hHeld d1 d2 ⊢
  clear hwd d1 d2
  clear hmin
  refine tk 0 (v := .pointer (some ⟨g1, 0, none⟩)) rfl (Or.inl ⟨by rfl, ?_⟩) hHeld ?_
  · intro w hSw
    obtain ⟨s0, s1⟩ := hSw
    first
      | rfl
      | (go_simp; done)
  try go_frame
  refine tk 1 (v := .pointer (some ⟨g1, 0, none⟩)) rfl (Or.inl ⟨by rfl, ?_⟩) hHeld ?_
  · intro w hSw
    obtain ⟨s0, s1⟩ := hSw
    first
      | rfl
      | (go_simp; done)
  try go_frame
  refine tk 2 (v := .pointer (some ⟨g1, 0, none⟩)) rfl (Or.inl ⟨by rfl, ?_⟩) hHeld ?_
  · intro w hSw
    obtain ⟨s0, s1⟩ := hSw
    first
      | rfl
      | (go_simp; done)
  try go_frame
  refine tk 3 (v := .pointer (some ⟨g1, 1, none⟩)) rfl (Or.inl ⟨by rfl, ?_⟩) hHeld ?_
  · intro w hSw
    obtain ⟨s0, s1⟩ := hSw
    first
      | rfl
      | (go_simp; done)
  try go_frame
  refine tk 4 (v := .int .i64 n1) rfl (Or.inl ⟨by rfl, ?_⟩) hHeld ?_
  · intro w hSw
    obtain ⟨s0, s1⟩ := hSw
    first
      | rfl
      | (go_simp; done)
  try go_frame
  refine tk 5 (v := .pointer (some ⟨g2, 0, none⟩)) rfl (Or.inl ⟨by rfl, ?_⟩) hHeld ?_
  · intro w hSw
    obtain ⟨s0, s1⟩ := hSw
    first
      | rfl
      | (go_simp; done)
  try go_frame
  refine tk 6 (v := .pointer (some ⟨g2, 0, none⟩)) rfl (Or.inl ⟨by rfl, ?_⟩) hHeld ?_
  · intro w hSw
    obtain ⟨s0, s1⟩ := hSw
    first
      | rfl
      | (go_simp; done)
  try go_frame
  refine tk 7 (v := .pointer (some ⟨g2, 0, none⟩)) rfl (Or.inl ⟨by rfl, ?_⟩) hHeld ?_
  · intro w hSw
    obtain ⟨s0, s1⟩ := hSw
    first
      | rfl
      | (go_simp; done)
  try go_frame
  refine tk 8 (v := .pointer (some ⟨g2, 1, none⟩)) rfl (Or.inl ⟨by rfl, ?_⟩) hHeld ?_
  · intro w hSw
    obtain ⟨s0, s1⟩ := hSw
    first
      | rfl
      | (go_simp; done)
  try go_frame
  refine tk 9 (v := .int .i64 n2) rfl (Or.inl ⟨by rfl, ?_⟩) hHeld ?_
  · intro w hSw
    obtain ⟨s0, s1⟩ := hSw
    first
      | rfl
      | (go_simp; done)
  try go_frame
  refine tk 10 (v := .int .i64 m) rfl (Or.inl ⟨by rfl, ?_⟩) hHeld ?_
  · intro w hSw
    obtain ⟨s0, s1⟩ := hSw
    go_simp
    exact unhide HM
  try go_frame
  refine tk 11 (v := .int .i64 m) rfl (Or.inl ⟨by rfl, ?_⟩) hHeld ?_
  · intro w hSw
    obtain ⟨s0, s1⟩ := hSw
    first
      | rfl
      | (go_simp; done)
  try go_frame
  refine wpAnyT_done (by kernel_rfl) ?_ _
  go_wp2_with fail
  have HW0 : Hid (Below w0.heap.size w0 wd) := hide ((unhide H0).trans ((unhide HZ).mono (unhide H0).size))
  refine Calls.mono (take_any (unhide F1) ((unhide HT).call (unhide HW0)) bm.1 bm.2) ?_
  rintro r w1 ⟨p, l1', rfl, hp, hf1, ho1⟩
  have HF1 := hide hf1
  have HP := hide hp
  have HF2 := hide ((unhide F2).keep ho1 (fun e => unhide HNE e.symm) (fun k hk => by have := unhide HB1; have := unhide HBB; omega))
  have HR41 := hide ((unhide HR4).only ho1 (by have := unhide HL1; omega))
  have HR51 := hide ((unhide HR5).only ho1 (by have := unhide HL1; omega))
  have HW1 : Hid (Below w0.heap.size w0 w1) := hide ((unhide HW0).trans (ho1.below (unhide HW0).size (fun k hk => by have := unhide HB1; omega)))
  have HO1 := hide ((Only.of_below (p := fun k => k = g1 ∨ k = g2) (unhide HZ)).trans (ho1.mono (fun k hk => .inl hk)))
  clear hf1 hp ho1 F1 F2 HR4 HR5 HW0 HZ
  unfold pv
  go_wp2_with fail
  refine Calls.mono (take_any (unhide HF2) ((unhide HT).call (unhide HW1)) bm.1 bm.2) ?_
  rintro r w2 ⟨q, l2', rfl, hq, hf2, ho2⟩
  have HF22 := hide hf2
  have HQ := hide hq
  have HF12 := hide ((unhide HF1).keep ho2 (fun e => unhide HNE e) (fun k hk => by have := unhide HB2; have := unhide HBB; omega))
  have HR42 := hide ((unhide HR41).only ho2 (by have := unhide HL2; omega))
  have HR52 := hide ((unhide HR51).only ho2 (by have := unhide HL2; omega))
  have HO2 := hide ((unhide HO1).trans (ho2.mono (fun k hk => .inr hk)))
  have HS2 := hide (unhide HO2).size
  clear hf2 hq ho2 HF2 HF1 HR41 HR51 HO1 HW1
  have a0 : w2.cell? ⟨w.heap.size, 0, none⟩ = some (.int .i64 0) := (unhide HR42).cell 0
  have a1 : w2.cell? ⟨w.heap.size, 1, none⟩ = some (.int .i64 0) := (unhide HR42).cell 1
  have a2 : w2.cell? ⟨w.heap.size, 2, none⟩ = some (.string ⟨#[]⟩) := (unhide HR42).cell 2
  have y0 : w2.frozen? ⟨w.heap.size, 0, none⟩ = false := (unhide HR42).frozen 0
  have y1 : w2.frozen? ⟨w.heap.size, 1, none⟩ = false := (unhide HR42).frozen 1
  have y2 : w2.frozen? ⟨w.heap.size, 2, none⟩ = false := (unhide HR42).frozen 2
  have c0 : w2.cell? ⟨w.heap.size + 1, 0, none⟩ = some (.int .i64 0) := (unhide HR52).cell 0
  have c1 : w2.cell? ⟨w.heap.size + 1, 1, none⟩ = some (.int .i64 0) := (unhide HR52).cell 1
  have c2 : w2.cell? ⟨w.heap.size + 1, 2, none⟩ = some (.string ⟨#[]⟩) := (unhide HR52).cell 2
  have x0 : w2.frozen? ⟨w.heap.size + 1, 0, none⟩ = false := (unhide HR52).frozen 0
  have x1 : w2.frozen? ⟨w.heap.size + 1, 1, none⟩ = false := (unhide HR52).frozen 1
  have x2 : w2.frozen? ⟨w.heap.size + 1, 2, none⟩ = false := (unhide HR52).frozen 2
  have HFIN : Hid (RowAt ((((((w2.setCell ⟨w.heap.size, 0, none⟩ (.int .i64 p.kind)).setCell ⟨w.heap.size, 1, none⟩ (.int .i64 p.n)).setCell ⟨w.heap.size, 2, none⟩ (.string p.text)).setCell ⟨w.heap.size + 1, 0, none⟩ (.int .i64 q.kind)).setCell ⟨w.heap.size + 1, 1, none⟩ (.int .i64 q.n)).setCell ⟨w.heap.size + 1, 2, none⟩ (.string q.text)) w.heap.size 39 [.int .i64 p.kind, .int .i64 p.n, .string p.text] ∧ RowAt ((((((w2.setCell ⟨w.heap.size, 0, none⟩ (.int .i64 p.kind)).setCell ⟨w.heap.size, 1, none⟩ (.int .i64 p.n)).setCell ⟨w.heap.size, 2, none⟩ (.string p.text)).setCell ⟨w.heap.size + 1, 0, none⟩ (.int .i64 q.kind)).setCell ⟨w.heap.size + 1, 1, none⟩ (.int .i64 q.n)).setCell ⟨w.heap.size + 1, 2, none⟩ (.string q.text)) (w.heap.size + 1) 39 [.int .i64 q.kind, .int .i64 q.n, .string q.text] ∧ Only (fun k => w.heap.size ≤ k) w2 ((((((w2.setCell ⟨w.heap.size, 0, none⟩ (.int .i64 p.kind)).setCell ⟨w.heap.size, 1, none⟩ (.int .i64 p.n)).setCell ⟨w.heap.size, 2, none⟩ (.string p.text)).setCell ⟨w.heap.size + 1, 0, none⟩ (.int .i64 q.kind)).setCell ⟨w.heap.size + 1, 1, none⟩ (.int .i64 q.n)).setCell ⟨w.heap.size + 1, 2, none⟩ (.string q.text))) := hide (by
    have o1 : Only (· = w.heap.size) w2 (((w2.setCell ⟨w.heap.size, 0, none⟩ (.int .i64 p.kind)).setCell ⟨w.heap.size, 1, none⟩ (.int .i64 p.n)).setCell ⟨w.heap.size, 2, none⟩ (.string p.text)) := (((Only.refl (· = w.heap.size) w2).set _ 0 _ rfl).set _ 1 _ rfl).set _ 2 _ rfl
    have o2 : Only (· = w.heap.size + 1) (((w2.setCell ⟨w.heap.size, 0, none⟩ (.int .i64 p.kind)).setCell ⟨w.heap.size, 1, none⟩ (.int .i64 p.n)).setCell ⟨w.heap.size, 2, none⟩ (.string p.text)) ((((((w2.setCell ⟨w.heap.size, 0, none⟩ (.int .i64 p.kind)).setCell ⟨w.heap.size, 1, none⟩ (.int .i64 p.n)).setCell ⟨w.heap.size, 2, none⟩ (.string p.text)).setCell ⟨w.heap.size + 1, 0, none⟩ (.int .i64 q.kind)).setCell ⟨w.heap.size + 1, 1, none⟩ (.int .i64 q.n)).setCell ⟨w.heap.size + 1, 2, none⟩ (.string q.text)) := (((Only.refl (· = w.heap.size + 1) (((w2.setCell ⟨w.heap.size, 0, none⟩ (.int .i64 p.kind)).setCell ⟨w.heap.size, 1, none⟩ (.int .i64 p.n)).setCell ⟨w.heap.size, 2, none⟩ (.string p.text))).set _ 0 _ rfl).set _ 1 _ rfl).set _ 2 _ rfl
    have r4 : RowAt (((w2.setCell ⟨w.heap.size, 0, none⟩ (.int .i64 p.kind)).setCell ⟨w.heap.size, 1, none⟩ (.int .i64 p.n)).setCell ⟨w.heap.size, 2, none⟩ (.string p.text)) w.heap.size 39 [.int .i64 p.kind, .int .i64 p.n, .string p.text] := (((unhide HR42).set 0 (.int .i64 p.kind)).set 1 (.int .i64 p.n)).set 2 (.string p.text)
    refine ⟨r4.only o2 (by omega), ?_, (o1.mono (fun k hk => by omega)).trans (o2.mono (fun k hk => by omega))⟩
    exact ((((unhide HR52).only o1 (by omega)).set 0 (.int .i64 q.kind)).set 1 (.int .i64 q.n)).set 2 (.string q.text))
  clear HR42 HR52
  unfold pv
  simp only []
  repeat (first | (go_big_may; go_says fail) | go_values | go_skip | go_guarded | go_step | go_upon)
  clear a0 a1 a2 y0 y1 y2 c0 c1 c2 x0 x1 x2
  obtain ⟨w5, hw5⟩ : ∃ w5, ((((((w2.setCell ⟨w.heap.size, 0, none⟩ (.int .i64 p.kind)).setCell ⟨w.heap.size, 1, none⟩ (.int .i64 p.n)).setCell ⟨w.heap.size, 2, none⟩ (.string p.text)).setCell ⟨w.heap.size + 1, 0, none⟩ (.int .i64 q.kind)).setCell ⟨w.heap.size + 1, 1, none⟩ (.int .i64 q.n)).setCell ⟨w.heap.size + 1, 2, none⟩ (.string q.text)) = w5 := ⟨_, rfl⟩
  rw [hw5] at HFIN ⊢
  clear hw5
  have f0 : w5.cell? ⟨w.heap.size, 0, none⟩ = some (.int .i64 p.kind) := (unhide HFIN).1.cell 0
  have f1 : w5.cell? ⟨w.heap.size, 1, none⟩ = some (.int .i64 p.n) := (unhide HFIN).1.cell 1
  have f2 : w5.cell? ⟨w.heap.size, 2, none⟩ = some (.string p.text) := (unhide HFIN).1.cell 2
  have f3 : w5.cell? ⟨w.heap.size + 1, 0, none⟩ = some (.int .i64 q.kind) := (unhide HFIN).2.1.cell 0
  have f4 : w5.cell? ⟨w.heap.size + 1, 1, none⟩ = some (.int .i64 q.n) := (unhide HFIN).2.1.cell 1
  have f5 : w5.cell? ⟨w.heap.size + 1, 2, none⟩ = some (.string q.text) := (unhide HFIN).2.1.cell 2
  refine bodyPost_ret (v := .tuple #[pv p, pv q]) (by simp [results, Tryd.results67, go_sem, f0, f1, f2, f3, f4, f5, pv]) rfl ?_
  have e1 : (min h1.n h2.n) = m := by rw [unhide HN1, unhide HN2]; exact unhide HM
  have e2 : min m h1.n = m := by rw [unhide HN1]; have := unhide HM; omega
  have e3 : min m h2.n = m := by rw [unhide HN2]; have := unhide HM; omega
  have hp := unhide HP
  have hq := unhide HQ
  rw [e2] at hp
  rw [e3] at hq
  rw [e1]
  have ho := (unhide HFIN).2.2
  refine ⟨p, q, l1', l2', rfl, hp, hq, (unhide HF12).keep ho (by have := unhide HL1; omega) (fun k hk => by have := unhide HB; omega), (unhide HF22).keep ho (by have := unhide HL2; omega) (fun k hk => by have := unhide HB; omega), (unhide HO2).next ho (fun k hk => .inr hk)⟩
end Go.Proofs.YtonabfpgdgnpnaaDoor

namespace Go.Proofs.YtonabfpgdgnpnaaDoor
set_option linter.unusedVariables false
set_option linter.unusedSimpArgs false
open Go.ChangeShapes Go.WideShapes Go.ChangeAt Go.RowKit Go.Joins Go.Deep

def checkE (l : List Pt) (n : Int) : Int := match sizeL l with
  | none => 30
  | some (f, _, _) => if f = n then 0 else 30
set_option maxRecDepth 100000 in
set_option maxHeartbeats 4000000 in
theorem check_any (a : Option Addr) (l : List Pt) (c : Nat) (n : Int) (w : World) (hT : UT w) (hp : PtsAt w a l) (hc : l.length ≤ maxLen) (hs : ∀ p ∈ l, p.text.size ≤ 281474976710656) :
    Calls Tryd.prog 59 #[.slice a l.length c, .int .i64 n] w fun r w' => r = .returned (.int .i64 (checkE l n)) ∧ Below w.heap.size w w' := by
  have HS := hide (size_any a l c w hT hp hc hs)
  obtain ⟨m, hm⟩ : ∃ m, l.length = m := ⟨_, rfl⟩
  rw [hm] at HS ⊢
  clear hT hp hc hs hm
  unfold checkE
  unfold szVal at HS
  cases hz : sizeL l with
  | none =>
    rw [hz] at HS
    go_enter Tryd.func59, Tryd.ntmps59
    go_wp2_with fail
    refine Calls.mono (unhide HS) ?_
    rintro r w2 ⟨rfl, hb⟩
    have HB := hide hb
    clear hb
    go_wp2_with fail
    go_ret
    exact ⟨rfl, unhide HB⟩
  | some t =>
    obtain ⟨f, t, k⟩ := t
    rw [hz] at HS
    simp only at HS ⊢
    by_cases e : f = n
    · subst e
      rw [if_pos rfl]
      go_enter Tryd.func59, Tryd.ntmps59
      go_wp2_with fail
      refine Calls.mono (unhide HS) ?_
      rintro r w2 ⟨rfl, hb⟩
      have HB := hide hb
      clear hb
      go_wp2_with fail
      go_ret
      exact ⟨rfl, unhide HB⟩
    · rw [if_neg e]
      have e1 : (f == n) = false := by simp [e]
      have e2 : (f != n) = true := by simp [e]
      go_enter Tryd.func59, Tryd.ntmps59
      go_wp2_with fail
      refine Calls.mono (unhide HS) ?_
      rintro r w2 ⟨rfl, hb⟩
      have HB := hide hb
      clear hb
      go_wp2_with fail
      go_ret
      exact ⟨rfl, unhide HB⟩
/-- is it an edit of this text? -/
def isOfB (l : List Pt) (s : ByteArray) : Bool := Lib.validD s.data.toList && decide (checkE l (Lib.runeCount s : Int) = 0)
set_option maxRecDepth 100000 in
set_option maxHeartbeats 4000000 in
theorem isOf_any (a : Option Addr) (l : List Pt) (c : Nat) (s : ByteArray) (w : World) (hT : UT w) (hp : PtsAt w a l) (hc : l.length ≤ maxLen) (hs : ∀ p ∈ l, p.text.size ≤ 281474976710656) (hs2 : s.size ≤ 281474976710656) :
    Calls Tryd.prog 39 #[.slice a l.length c, .string s] w fun r w' => r = .returned (.bool (isOfB l s)) ∧ Below w.heap.size w w' := by
  have HV := hide (valid_any s w hT (by omega))
  have HC : Hid (∀ W, Below w.heap.size w W → Calls Tryd.prog 19 #[.string s] W fun e w' => e = .returned (.int .i64 (Lib.runeCount s : Int)) ∧ Below W.heap.size W w') := hide (fun W hW => counts_any s W (by omega))
  have HK : Hid (∀ W, Below w.heap.size w W → Calls Tryd.prog 59 #[.slice a l.length c, .int .i64 (Lib.runeCount s : Int)] W fun r w' => r = .returned (.int .i64 (checkE l (Lib.runeCount s : Int))) ∧ Below W.heap.size W w') := hide (fun W hW => check_any a l c _ W (hT.call hW) (hp.call hW) hc hs)
  obtain ⟨n, hn⟩ : ∃ n, l.length = n := ⟨_, rfl⟩
  rw [hn] at HK ⊢
  unfold isOfB
  obtain ⟨e, he⟩ : ∃ e, checkE l (Lib.runeCount s : Int) = e := ⟨_, rfl⟩
  rw [he] at HK ⊢
  obtain ⟨m, hm⟩ : ∃ m, Lib.runeCount s = m := ⟨_, rfl⟩
  rw [hm] at HK HC
  obtain ⟨q, hq⟩ : ∃ q, Lib.validD s.data.toList = q := ⟨_, rfl⟩
  rw [hq] at HV ⊢
  clear hT hp hc hs hs2 hn he hm hq
  cases q with
  | false =>
    simp only [Bool.false_and]
    go_enter Tryd.func39, Tryd.ntmps39
    go_wp2_with fail
    refine Calls.mono (unhide HV) ?_
    rintro r w2 ⟨rfl, hb⟩
    have HB := hide hb
    clear hb
    go_wp2_with fail
    go_ret
    exact ⟨rfl, unhide HB⟩
  | true =>
    simp only [Bool.true_and]
    go_enter Tryd.func39, Tryd.ntmps39
    go_wp2_with fail
    refine Calls.mono (unhide HV) ?_
    rintro r w2 ⟨rfl, hb⟩
    have HB := hide hb
    clear hb
    go_wp2_with fail
    refine Calls.mono (unhide HC w2 (unhide HB)) ?_
    rintro r w3 ⟨rfl, hb⟩
    have HB3 := hide ((unhide HB).trans (hb.mono (unhide HB).size))
    clear hb
    go_wp2_with fail
    refine Calls.mono (unhide HK w3 (unhide HB3)) ?_
    rintro r w4 ⟨rfl, hb⟩
    have HB4 := hide ((unhide HB3).trans (hb.mono (unhide HB3).size))
    clear hb
    go_wp2_with fail
    go_ret
    refine ⟨?_, unhide HB4⟩
    by_cases h : e = 0 <;> simp [h] <;> rfl
end Go.Proofs.YtonabfpgdgnpnaaDoor

namespace Go.Proofs.YtonabfpgdgnpnaaDoor
set_option linter.unusedVariables false
set_option linter.unusedSimpArgs false
open Go.ChangeShapes Go.WideShapes Go.ChangeAt Go.RowKit Go.Joins Go.Deep

/-- where a slice begins there is a block -/
def AtB (w : World) (a : Option Addr) : Prop := ∀ b off, a = some ⟨b, off, none⟩ → b < w.heap.size
theorem AtB.call {w w' : World} {a : Option Addr} (h : AtB w a) (hb : Below w.heap.size w w') : AtB w' a := fun b off e => Nat.lt_of_lt_of_le (h b off e) hb.size
theorem AtB.none (w : World) : AtB w none := fun b off e => by cases e
theorem OwnP.open {w : World} {B : Nat} {v : Value} {l : List Pt} (h : OwnP w B v l) : ∃ a c, v = .slice a l.length c ∧ PtsAt w a l ∧ AtB w a ∧ l.length ≤ c ∧ c ≤ maxLen := by
  have h' : ∃ a c, v = .slice a l.length c ∧ AtB w a := by
    rcases h.2 with ⟨rfl, h0⟩ | ⟨g, cap, cur, rfl, h1, h2, _⟩
    · exact ⟨Option.none, 0, by rw [h0], AtB.none w⟩
    · refine ⟨_, _, rfl, fun b off e => ?_⟩
      obtain ⟨rfl, _⟩ : g = b ∧ 0 = off := by simpa using e
      exact (Array.getElem?_eq_some_iff.1 h2).1
  obtain ⟨a, c, e, hp, hc⟩ := h.slice
  obtain ⟨a', c', e', hb⟩ := h'
  rw [e] at e'
  obtain ⟨rfl, rfl⟩ : a = a' ∧ c = c' := by simpa using e'
  exact ⟨a, c, e, hp, hb, hc⟩
set_option maxRecDepth 100000 in
set_option maxHeartbeats 4000000 in
theorem feedOf_any {w : World} {B : Nat} {a : Option Addr} {c : Nat} {l : List Pt} (hp : PtsAt w a l) (hB : ∀ b off, a = some ⟨b, off, none⟩ → b < B) (hBw : B ≤ w.heap.size) (hc : l.length ≤ c) (hm : c ≤ maxLen) (hg : ∀ p ∈ l, Fit1 p) :
    Calls Tryd.prog 63 #[.slice a l.length c] w fun r w' => r = .returned (.pointer (some ⟨w.heap.size, 0, none⟩)) ∧ Fa w' w.heap.size B l ∧ Below w.heap.size w w' := by
  have hb : Below w.heap.size w (w.alloc (.cells #[.int .i64 0, .int .i64 0, .string ⟨#[]⟩, .slice a l.length c] 129)) := (Below.refl _ _).alloc (Nat.le_refl _) _
  have hf : Fd (w.alloc (.cells #[.int .i64 0, .int .i64 0, .string ⟨#[]⟩, .slice a l.length c] 129)) w.heap.size noPt a c l := ⟨RowAt.new w 129 _, hp.call hb, fun b off e => by have := hB b off e; omega, hc, hm⟩
  have HX := hide (next_any hf hB)
  have HB := hide hb
  have HG := hide hg
  have HBW := hide hBw
  obtain ⟨n, hn⟩ : ∃ n, l.length = n := ⟨_, rfl⟩
  rw [hn] at HX HB hf ⊢
  clear hb hf hp hB hg hn hBw hc hm
  go_enter Tryd.func63, Tryd.ntmps63
  go_wp2_with fail
  refine Calls.mono (unhide HX) ?_
  rintro r w2 ⟨rfl, hf, ho⟩
  have HF := hide hf
  have HO := hide ho
  clear hf ho HX
  go_wp2_with fail
  go_ret
  have hbel := (unhide HB).trans ((unhide HO).below (unhide HB).size (fun k hk => by omega))
  exact ⟨rfl, ⟨unhide HF, unhide HG, Nat.le_trans (unhide HBW) hbel.size⟩, hbel⟩
set_option maxRecDepth 100000 in
set_option maxHeartbeats 4000000 in
theorem beside_any (p q : Pt) (w : World) : Calls Tryd.prog 68 #[pv p, pv q] w fun r w' => r = .returned (pv (if q.kind = 3 then noPt else p)) ∧ Below w.heap.size w w' := by
  obtain ⟨pk, pn, pt⟩ := p
  obtain ⟨qk, qn, qt⟩ := q
  unfold pv
  simp only
  by_cases h : qk = 3
  · subst h
    rw [if_pos rfl]
    go_enter Tryd.func68, Tryd.ntmps68
    go_wp2_with fail
    go_returns
    exact ⟨rfl, by go_grown⟩
  · rw [if_neg h]
    have hb : (qk == 3) = false := by simp [h]
    go_enter Tryd.func68, Tryd.ntmps68
    go_wp2_with fail
    go_returns
    exact ⟨rfl, by go_grown⟩
end Go.Proofs.YtonabfpgdgnpnaaDoor

namespace Go.Proofs.YtonabfpgdgnpnaaDoor
set_option linter.unusedVariables false
set_option linter.unusedSimpArgs false
open Go.ChangeShapes Go.WideShapes Go.ChangeAt Go.RowKit Go.Joins Go.Deep

/-- the steps of the parts that fit -/
noncomputable def fitA (l : List Pt) : List At := atomsL (l.filter fitsB)
theorem fitA_snoc (l : List Pt) (p : Pt) : fitA (l ++ [p]) = fitA l ++ (if fitsB p = true then atoms p else []) := by
  unfold fitA
  rw [List.filter_append, atomsL_append]
  congr 1
  cases h : fitsB p with
  | true => rw [List.filter_cons_of_pos h]; simp [atomsL]
  | false => rw [List.filter_cons_of_neg (by simp [h])]; simp [atomsL]
theorem fitA_good {l : List Pt} {p : Pt} (h : Fit1 p) : fitA (l ++ [p]) = fitA l ++ atoms p := by
  rw [fitA_snoc, if_pos (fits_of_good h.1 h.2)]
theorem fitA_none (l : List Pt) : fitA (l ++ [noPt]) = fitA l := by
  rw [fitA_snoc, if_neg (by decide), List.append_nil]
theorem len_counts (x : List At) : x.length ≤ At.fromN x + At.toN x := by
  induction x with
  | nil => simp
  | cons s x ih => cases s <;> simp only [At.fromN, At.toN, List.length_cons] <;> omega
theorem Fit1.txt {p : Pt} (h : Fit1 p) : p.text.size ≤ 4 * (atoms p).length := by
  have h1 := h.1.size
  have h2 := h.1.len.1
  omega
/-- by how much two heads go on -/
theorem pc_split {h p : Pt} {l l' : List Pt} {m : Nat} (c : Pc h p l l' m) : atoms h ++ atomsL l = atoms p ++ atomsL l' := by
  rw [c.at_, c.rest, ← List.append_assoc, List.take_append_drop]
end Go.Proofs.YtonabfpgdgnpnaaDoor

namespace Go.Proofs.YtonabfpgdgnpnaaDoor
set_option linter.unusedVariables false
set_option linter.unusedSimpArgs false
open Go.ChangeShapes Go.WideShapes Go.ChangeAt Go.RowKit Go.Joins Go.Deep

theorem kind_any {w : World} {g B : Nat} {l : List Pt} (f : Fa w g B l) : Calls Tryd.prog 64 #[.pointer (some ⟨g, 0, none⟩)] w fun r w' => r = .returned (.int .i64 (l.headD noPt).kind) ∧ w = w' := by
  obtain ⟨a, c, fd, _⟩ := f.feed
  exact kind_ok fd
theorem Fa.row {w : World} {g B : Nat} {l : List Pt} (f : Fa w g B l) : ∃ cs, RowAt w g 129 cs := by
  obtain ⟨a, c, fd, _⟩ := f.feed
  exact ⟨_, fd.row⟩
theorem OwnP.ne {w : World} {B0 g B : Nat} {v : Value} {l L : List Pt} (h : OwnP w B0 v L) (f : Fa w g B l) : v.ownBlock ≠ some g := by
  obtain ⟨cs, hr⟩ := f.row
  exact tag_ne h hr (by decide)
theorem check_two (l : List Pt) (n : Int) : checkE l n = 0 ∨ checkE l n = 30 := by
  unfold checkE
  split
  · exact .inr rfl
  · split
    · exact .inl rfl
    · exact .inr rfl
theorem check_ed {l : List Pt} {n : Int} (h : checkE l n = 0) : ∃ t, IsEd l n.toNat t ∧ (n.toNat : Int) = n := by
  unfold checkE at h
  split at h
  · cases h
  · rename_i f t k e
    split at h
    · rename_i hf
      subst hf
      obtain ⟨h1, h2, h3⟩ := size_ed e
      exact ⟨_, h1, h2⟩
    · cases h
theorem ed_fit {l : List Pt} {f t : Nat} (h : IsEd l f t) : ∀ p ∈ l, Fit1 p := by
  obtain ⟨_, h2, _⟩ := size_fold l _ _ _ _ _ _ (ed_size h)
  intro p hp
  have := good_of_fits (h2 p hp)
  exact ⟨this.1, this.2⟩
theorem ed_len {l : List Pt} {f t : Nat} (h : IsEd l f t) : (atomsL l).length ≤ 2199023255552 := by
  have := len_counts (atomsL l)
  obtain ⟨_, h2, h3, h4, h5⟩ := h
  omega
theorem allS_len (st : St) : (allS st).length ≤ st.done.length + 3 := by
  have h1 := endK_len st
  unfold allS endC
  simp only
  split <;> split <;> first | omega | (simp; omega)
theorem normL_len (l : List Pt) : (normL l).length ≤ 2 * l.length + 3 := by
  have h := (normSt_ok l l.length).len
  rw [List.take_of_length_le (Nat.le_refl _)] at h
  have := allS_len (normSt l)
  unfold normL
  omega
theorem head_kind {l : List Pt} (h : ∀ p ∈ l, Fit1 p) : l = [] ∧ (l.headD noPt).kind = 0 ∨ ∃ p l', l = p :: l' ∧ Fit1 p ∧ (p.kind = 1 ∨ p.kind = 2 ∨ p.kind = 3) := by
  cases l with
  | nil => exact .inl ⟨rfl, rfl⟩
  | cons p l =>
    refine .inr ⟨p, l, rfl, h p (List.mem_cons_self ..), ?_⟩
    rcases (h p (List.mem_cons_self ..)).1.cases with ⟨k, _⟩ | ⟨k, _⟩ | ⟨k, _⟩ <;> omega
end Go.Proofs.YtonabfpgdgnpnaaDoor

namespace Go.Proofs.YtonabfpgdgnpnaaDoor.Bl
set_option linter.unusedVariables false
set_option linter.unusedSimpArgs false
open Go.ChangeShapes Go.WideShapes Go.ChangeAt Go.RowKit Go.Joins Go.Deep

theorem info67 : ∃ j, Tryd.prog.info? 71 = some j ∧ j.size = 2 := by
  obtain ⟨j, hj, hs⟩ := Option.map_eq_some_iff.1 (show (Tryd.prog.info? 71).map (·.size) = some 2 by kernel_rfl)
  exact ⟨j, hj, hs⟩
theorem lies67 : liesAt Tryd.prog Tryd.prog.depth 71 (2 / Tryd.prog.cellsOf 71) 0 71 1 = true := by kernel_rfl
set_option maxRecDepth 100000 in
set_option maxHeartbeats 4000000 in
theorem check_used (g : Nat) (w : World) (h0 : w.cell? ⟨g, 0, none⟩ = some (.pointer (some ⟨g, 0, none⟩))) :
    Calls Tryd.prog 60 #[.pointer (some ⟨g, 0, none⟩)] w fun e w' => e = .returned (.tuple #[]) ∧ w = w' := by
  obtain ⟨j, hj, _⟩ := info67
  go_enter Tryd.func60, Tryd.ntmps60
  go_wp2
  rw [Lib.run_neq_ptr_same w _ Tryd.underlying68 hj]
  go_wp2
  go_end0
  exact ⟨rfl, rfl⟩
set_option maxRecDepth 100000 in
set_option maxHeartbeats 4000000 in
theorem check_fresh (g : Nat) (w : World) (cs : List Value) (hr : RowAt w g 71 cs) (hl : cs.length = 2) (h0 : w.cell? ⟨g, 0, none⟩ = some (.pointer none)) :
    Calls Tryd.prog 60 #[.pointer (some ⟨g, 0, none⟩)] w fun e w' => e = .returned (.tuple #[]) ∧ w' = w.setCell ⟨g, 0, none⟩ (.pointer (some ⟨g, 0, none⟩)) := by
  obtain ⟨j, hj, hjs⟩ := info67
  have hsh : w.shape? g = some (71, 2) := by unfold RowAt at hr; simp [World.shape?, hr, hl]
  have hfz : w.frozen? ⟨g, 0, none⟩ = false := hr.frozen 0
  go_enter Tryd.func60, Tryd.ntmps60
  go_wp2
  rw [Lib.run_to_unsafe w ⟨g, 0, none⟩ Tryd.underlying68 Tryd.underlying126 hj (by rw [hjs]; decide) hsh (show (0 : Nat) < 2 by decide)]
  simp only [Result.andThen]
  rw [Oper.upon_value]
  go_wp2
  rw [run_callFunc_extern Tryd.func79 (by kernel_rfl) (by kernel_rfl) (by kernel_rfl) (e := Extern.AbiNoEscape.same) (by kernel_rfl)]
  rw [Lib.run_noEscape]
  simp only [Result.andThen]
  rw [Oper.upon_value]
  go_wp2
  rw [Lib.run_from_unsafe w ⟨g, 0, none⟩ Tryd.underlying126 Tryd.underlying68 hj hsh lies67]
  simp only [Result.andThen]
  rw [Oper.upon_value]
  go_wp2
  go_end0
  exact ⟨rfl, rfl⟩
/-- a sheet's cells: the first four, the builder's own address or none, its bytes -/
def ownPtr (g : Nat) (v : Value) : Prop := v = .pointer none ∨ v = .pointer (some ⟨g, 0, none⟩)
set_option maxRecDepth 100000 in
set_option maxHeartbeats 4000000 in
theorem check_any84 (g : Nat) (w : World) (av bv : Value) (hr : RowAt w g 71 [av, bv]) (ha : ownPtr g av) :
    Calls Tryd.prog 60 #[.pointer (some ⟨g, 0, none⟩)] w fun e w' => e = .returned (.tuple #[]) ∧ RowAt w' g 71 [.pointer (some ⟨g, 0, none⟩), bv] ∧ Only (· = g) w w' := by
  rcases ha with rfl | rfl
  · refine Calls.mono (check_fresh g w _ hr rfl (hr.cell 0)) ?_
    rintro e w' ⟨rfl, rfl⟩
    exact ⟨rfl, hr.set 0 _, (Only.refl _ _).set g 0 _ rfl⟩
  · refine Calls.mono (check_used g w (hr.cell 0)) ?_
    rintro e w' ⟨rfl, rfl⟩
    exact ⟨rfl, hr, Only.refl _ _⟩
theorem infoByte : ∃ i, Tryd.prog.info? 5 = some i ∧ i.zero = some (.int .u8 0) ∧ i.size = 1 ∧ i.bytes = 1 := info_parts (by kernel_rfl)
set_option maxRecDepth 100000 in
set_option maxHeartbeats 4000000 in
theorem write_str (g : Nat) (w : World) (B : Nat) (av bv : Value) (bs : List Value) (s : ByteArray) (hr : RowAt w g 71 [av, bv]) (ha : ownPtr g av) (ho : w.ownsRow B 5 1 bv bs.length bs) (hlen : bs.length + s.size ≤ 140737488355328) (hB : B ≤ w.heap.size) :
    Calls Tryd.prog 40 #[.pointer (some ⟨g, 0, none⟩), .string s] w fun e w' => e = .returned (.tuple #[.int .i64 s.size, .nilIface]) ∧ ∃ bv', RowAt w' g 71 [.pointer (some ⟨g, 0, none⟩), bv'] ∧ w'.ownsRow B 5 1 bv' (bs.length + s.size) (bs ++ Lib.strCells s) ∧ Only (fun k => k = g ∨ bv.ownBlock = some k) w w' ∧ (bv = .slice none 0 0 → s = ByteArray.empty → bv' = .slice none 0 0) := by
  obtain ⟨i0, hi, hz0, hz1, hz2⟩ := infoByte
  have HC := hide (check_any84 g w av bv hr ha)
  have hne := tag_ne ho hr (by decide)
  have HO := hide ho
  have HNE := hide hne
  have HB := hide hB
  have HL := hide hlen
  clear hr ha ho hne hB hlen
  go_enter Tryd.func40, Tryd.ntmps40
  go_wp2_with fail
  refine Calls.mono (unhide HC) ?_
  rintro e w1 ⟨rfl, hr1, ho1⟩
  have hown1 := own_only (unhide HO) ho1 (fun k hk e => unhide HNE (e ▸ hk))
  have hB1 : B ≤ w1.heap.size := Nat.le_trans (unhide HB) ho1.size
  have HR1 := hide hr1
  have HO1 := hide ho1
  have HW1 := hide hown1
  have c4 : w1.cell? ⟨g, 0, none⟩ = some (.pointer (some ⟨g, 0, none⟩)) := hr1.cell 0
  have c5 : w1.cell? ⟨g, 1, none⟩ = some bv := hr1.cell 1
  clear HC HO hr1 ho1 hown1
  go_wp2_with (at_builtin; refine Lib.wpList_append_own_string _ rfl _ _ 69 9 rfl B 5 i0 Tryd.underlying69 Tryd.underlying9 hi hz0 hz1 hz2 _ _ _ rfl (unhide HW1) s rfl ?c3 ?c4 ?c5 ?_)
  case c3 => have := unhide HL; unfold maxLen; omega
  case c4 => exact unhide HL
  case c5 => exact hB1
  intro v' w2 hown' hgrow hnil
  have HNIL : Hid (bv = .slice none 0 0 → s = ByteArray.empty → v' = .slice none 0 0) := hide (fun h1 h2 => hnil.2 ⟨h1, h2⟩)
  clear hnil
  have hr2 := (unhide HR1).only (grown_only hgrow) (fun e => unhide HNE e)
  have hon := (unhide HO1).mono (q := fun k => k = g ∨ bv.ownBlock = some k) (fun k h => .inl h) |>.trans ((grown_only hgrow).mono (fun k h => .inr h))
  have d4 : w2.cell? ⟨g, 0, none⟩ = some (.pointer (some ⟨g, 0, none⟩)) := hr2.cell 0
  have d5 : w2.cell? ⟨g, 1, none⟩ = some bv := hr2.cell 1
  have f5 : w2.frozen? ⟨g, 1, none⟩ = false := hr2.frozen 1
  obtain ⟨ao, n', cap, rfl⟩ : ∃ ao n' cap, v' = .slice ao n' cap := by
    rcases hown'.2 with ⟨hv, _⟩ | ⟨g, cap, cur, hv, _⟩
    · exact ⟨_, _, _, hv⟩
    · exact ⟨_, _, _, hv⟩
  have HON := hide hon
  have HR2 := hide hr2
  have HOW := hide hown'
  clear hon hr2 hown' hgrow HR1 HO1 HW1 c4 c5
  go_wp2_with fail
  go_ret2
  refine ⟨rfl, _, (unhide HR2).set 1 _, ?_, (unhide HON).set g 1 _ (.inl rfl), unhide HNIL⟩
  refine own_only (unhide HOW) ((Only.refl (· = g) w2).set g 1 _ rfl) (fun k hk e => ?_)
  exact tag_ne (unhide HOW) (unhide HR2) (by decide) (e ▸ hk)
theorem own_at {w : World} {B n : Nat} {v : Value} {xs : List Value} (h : w.ownsRow B 5 1 v n xs) (hn : n ≠ 0) : ∃ g cap cur, v = .slice (some ⟨g, 0, none⟩) n cap ∧ B ≤ g ∧ w.heap[g]? = some (.cells cur 5 (0, 0)) ∧ n ≤ cap ∧ cap ≤ maxLen ∧ cur.size = cap * 1 ∧ cur.toList.take (n * 1) = xs := by
  rcases h.2 with ⟨_, hz⟩ | ⟨g, cap, cur, hv, r⟩
  · exact absurd hz hn
  · exact ⟨g, cap, cur, hv, r⟩
set_option maxRecDepth 100000 in
set_option maxHeartbeats 4000000 in
theorem string_ok (g : Nat) (w : World) (B : Nat) (av bv : Value) (l : List UInt8) (hr : RowAt w g 71 [av, bv]) (ho : w.ownsRow B 5 1 bv l.length (Lib.byteCells l)) (h0 : l ≠ []) :
    Calls Tryd.prog 42 #[.pointer (some ⟨g, 0, none⟩)] w fun e w' => e = .returned (.string ⟨l.toArray⟩) ∧ Only (fun k => bv.ownBlock = some k) w w' := by
  have hl0 : l.length ≠ 0 := by simpa using h0
  obtain ⟨q, cap, cur, rfl, hbg, hg, hnc, hcm, hcs, htake⟩ := own_at ho hl0
  have c5 : w.drew.cell? ⟨g, 1, none⟩ = some (.slice (some ⟨q, 0, none⟩) l.length cap) := hr.drew.cell 1
  have hSD : (Builtin.unsafeSliceData_ #[69] 100 #[.slice (some ⟨q, 0, none⟩) l.length cap]).run Tryd.prog w.drew = .ok (.pointer (some ⟨q, 0, none⟩)) w.drew :=
    Lib.run_unsafeSliceData_row _ _ _ _ _ _ (by omega)
  have hUS : (Builtin.unsafeString_ #[100, 3] 9 #[.pointer (some ⟨q, 0, none⟩), .int .i64 l.length]).run Tryd.prog w.drew = .ok (.string ⟨l.toArray⟩) (w.drew.freeze ⟨q, 0, none⟩ l.length) := by
    refine Lib.run_unsafeString_row w.drew 100 3 9 5 Tryd.underlying100 (by kernel_rfl) q cur.size (by have hg' : w.drew.heap[q]? = some (.cells cur 5 (0, 0)) := hg; simp [World.shape?, hg']) l h0 (by omega) (by unfold maxLen at hcm; omega) ?_
    intro j x hx
    have := ho.cells (g := q) rfl j (.int .u8 x.toNat) (by simp [Lib.byteCells, hx])
    exact this
  have hB := Lib.below_freeze (Below.drew (Below.refl q w)) (p := ⟨q, 0, none⟩) (Nat.le_refl _) l.length
  have hon : Only (fun k => (Value.slice (some ⟨q, 0, none⟩) l.length cap).ownBlock = some k) w (w.drew.freeze ⟨q, 0, none⟩ l.length) := by
    unfold World.freeze
    split
    · exact (Only.refl _ _).drew
    · exact ⟨rfl, rfl, rfl, by simp, fun k hk hn => by
        simp only [Array.getElem?_modify]
        rw [if_neg (fun e => hn (by simp [Value.ownBlock, e]))]
        rfl⟩
  have HON := hide hon
  clear hr ho hg htake hon hB
  go_enter Tryd.func42, Tryd.ntmps42
  go_wp2
  go_region
  all_goals (go_wp2; go_ret; exact ⟨rfl, unhide HON⟩)
set_option maxRecDepth 100000 in
set_option maxHeartbeats 4000000 in
theorem string_nil (g : Nat) (w : World) (av : Value) (hr : RowAt w g 71 [av, .slice none 0 0]) :
    Calls Tryd.prog 42 #[.pointer (some ⟨g, 0, none⟩)] w fun e w' => e = .returned (.string ⟨#[]⟩) ∧ Below w.heap.size w w' := by
  have hUS : ∀ (W : World) (q : Option Addr), (Builtin.unsafeString_ #[100, 3] 9 #[.pointer q, .int .i64 0]).run Tryd.prog W = .ok (.string .empty) W := fun W q => Lib.run_unsafeString_none W _ _ _ q
  have c1 : w.drew.cell? ⟨g, 1, none⟩ = some (.slice none 0 0) := hr.drew.cell 1
  have hSD : (Builtin.unsafeSliceData_ #[69] 100 #[.slice none 0 0]).run Tryd.prog w.drew = .ok (.pointer none) w.drew := rfl
  clear hr
  go_enter Tryd.func42, Tryd.ntmps42
  go_wp2
  go_region
  all_goals (go_wp2; go_ret; exact ⟨rfl, Below.drew (Below.refl _ w)⟩)
/-- a builder with these bytes; nothing below B has turned -/
structure Bd (w0 w : World) (B g : Nat) (x : List UInt8) : Prop where
  ok : ∃ av bv, RowAt w g 71 [av, bv] ∧ ownPtr g av ∧ w.ownsRow B 5 1 bv x.length (Lib.byteCells x) ∧ (x = [] → bv = .slice none 0 0)
  bel : Below B w0 w
  sz : B ≤ w.heap.size
  le : B ≤ g
theorem Bd.call {w0 w w' : World} {B g : Nat} {x : List UInt8} (h : Bd w0 w B g x) (hb : Below w.heap.size w w') : Bd w0 w' B g x := by
  obtain ⟨⟨av, bv, h1, h2, h3, h4⟩, h5, h6, h7⟩ := h
  exact ⟨⟨av, bv, h1.below hb h1.lt, h2, own_call h3 hb, h4⟩, h5.trans (hb.mono h6), Nat.le_trans h6 hb.size, h7⟩
theorem Bd.new (w : World) : Bd w (w.alloc (.cells #[.pointer none, .slice none 0 0] 71)) w.heap.size w.heap.size [] :=
  ⟨⟨.pointer none, .slice none 0 0, RowAt.new w 71 _, .inl rfl, World.ownsRow_nil _ _ _ _, fun _ => rfl⟩, (Below.refl _ _).alloc (Nat.le_refl _) _, by simp, Nat.le_refl _⟩
theorem write_any {w0 w : World} {B g : Nat} {x : List UInt8} (h : Bd w0 w B g x) (s : ByteArray) (hs : x.length + s.size ≤ 140737488355328) :
    Calls Tryd.prog 40 #[.pointer (some ⟨g, 0, none⟩), .string s] w fun e w' => e = .returned (.tuple #[.int .i64 s.size, .nilIface]) ∧ Bd w0 w' B g (x ++ s.data.toList) := by
  obtain ⟨⟨av, bv, h1, h2, h3, h4⟩, h5, h6, h7⟩ := h
  refine Calls.mono (write_str g w B av bv (Lib.byteCells x) s h1 h2 (by rw [Lib.byteCells_length]; exact h3) (by rw [Lib.byteCells_length]; exact hs) h6) ?_
  rintro e w' ⟨rfl, bv', r1, r2, r3, r4⟩
  rw [Lib.byteCells_length, Lib.strCells_eq, ← Lib.byteCells_append, Lib.size_eq, ← List.length_append] at r2
  refine ⟨rfl, ⟨_, bv', r1, .inr rfl, r2, fun e => ?_⟩, h5.trans (r3.below h6 (fun k hk => ?_)), Nat.le_trans h6 r3.size, h7⟩
  · obtain ⟨e1, e2⟩ := List.append_eq_nil_iff.1 e
    exact r4 (h4 e1) (ByteArray.ext (Array.toList_inj.1 (by rw [e2]; rfl)))
  · rcases hk with hk | hk
    · rw [hk]; exact h7
    · exact (h3.lt k hk).1
theorem string_any {w0 w : World} {B g : Nat} {x : List UInt8} (h : Bd w0 w B g x) :
    Calls Tryd.prog 42 #[.pointer (some ⟨g, 0, none⟩)] w fun e w' => e = .returned (.string ⟨x.toArray⟩) ∧ Below B w0 w' := by
  obtain ⟨⟨av, bv, h1, h2, h3, h4⟩, h5, h6, h7⟩ := h
  by_cases hx : x = []
  · rw [h4 hx] at h1
    refine Calls.mono (string_nil g w av h1) ?_
    rintro e w' ⟨rfl, hb⟩
    exact ⟨by rw [hx], h5.trans (hb.mono h6)⟩
  · refine Calls.mono (string_ok g w B av bv x h1 h3 hx) ?_
    rintro e w' ⟨rfl, ho⟩
    exact ⟨rfl, h5.trans (ho.below h6 (fun k hk => (h3.lt k hk).1))⟩
end Go.Proofs.YtonabfpgdgnpnaaDoor.Bl

namespace Go.Proofs.YtonabfpgdgnpnaaDoor
set_option linter.unusedVariables false
set_option linter.unusedSimpArgs false
open Go.ChangeShapes Go.WideShapes Go.ChangeAt Go.RowKit Go.Joins Go.Deep

theorem app_map (cs : List (List UInt8)) (x : List At) (s : List (List UInt8)) : At.app (cs.map .p ++ x) s = cs ++ At.app x s := by
  induction cs with
  | nil => rfl
  | cons c cs ih => simp only [List.map_cons, List.cons_append, At.app]; rw [ih]
theorem app_rep_k (n : Nat) (x : List At) : ∀ s : List (List UInt8), n ≤ s.length → At.app (List.replicate n .k ++ x) s = s.take n ++ At.app x (s.drop n) := by
  induction n with
  | zero => intro s _; simp
  | succ n ih =>
    intro s h
    cases s with
    | nil => simp at h
    | cons c s => simp only [List.replicate_succ, List.cons_append, At.app, List.take_succ_cons, List.drop_succ_cons]; rw [ih s (by simpa using h)]
theorem app_rep_d (n : Nat) (x : List At) : ∀ s : List (List UInt8), n ≤ s.length → At.app (List.replicate n .d ++ x) s = At.app x (s.drop n) := by
  induction n with
  | zero => intro s _; simp
  | succ n ih =>
    intro s h
    cases s with
    | nil => simp at h
    | cons c s => simp only [List.replicate_succ, List.cons_append, At.app, List.drop_succ_cons]; rw [ih s (by simpa using h)]
/-- where an application stands -/
structure AI (A : List At) (c0 : List (List UInt8)) (l : List Pt) (s : ByteArray) (X : List (List UInt8)) : Prop where
  tx : ∃ cs, Tx s cs ∧ At.app A c0 = X ++ At.app (atomsL l) cs ∧ cs.length = At.fromN (atomsL l)
  cps : Cps X
theorem AI.put {A : List At} {c0 : List (List UInt8)} {p : Pt} {l : List Pt} {s : ByteArray} {X : List (List UInt8)} (h : AI A c0 (p :: l) s X) (hg : Fit1 p) (hk : p.kind = 2) : ∃ ds, Tx p.text ds ∧ AI A c0 l s (X ++ ds) := by
  obtain ⟨cs, h1, h2, h3⟩ := h.tx
  rcases hg.1.cases with ⟨k, _⟩ | ⟨k, _⟩ | ⟨_, ds, x3, x4, e⟩
  · omega
  · omega
  · refine ⟨ds, x3, ⟨cs, h1, ?_, ?_⟩, h.cps.append x3.cps⟩
    · rw [h2, atomsL, e, app_map, List.append_assoc]
    · rw [atomsL, At.from_app, e, from_map] at h3; omega
theorem AI.keep {A : List At} {c0 : List (List UInt8)} {p : Pt} {l : List Pt} {s : ByteArray} {X : List (List UInt8)} (h : AI A c0 (p :: l) s X) (hg : Fit1 p) (hk : p.kind = 1) : ∃ cs, Tx s cs ∧ AI A c0 l (s.extract (placeOf cs (cutK p.n cs)) s.size) (X ++ cs.take (cutK p.n cs)) := by
  obtain ⟨cs, h1, h2, h3⟩ := h.tx
  have hn := hg.1.1
  rcases hg.1.cases with ⟨_, _, e⟩ | ⟨k, _⟩ | ⟨k, _⟩
  · rw [atomsL, At.from_app, e, from_rep_k] at h3
    have hc : cutK p.n cs = p.n.toNat := by unfold cutK; omega
    refine ⟨cs, h1, ?_⟩
    rw [hc]
    refine ⟨⟨cs.drop p.n.toNat, h1.back _, ?_, by rw [List.length_drop]; omega⟩, h.cps.append (h1.cps.take _)⟩
    rw [h2, atomsL, e, app_rep_k _ _ _ (by omega), List.append_assoc]
  · omega
  · omega
theorem AI.drop {A : List At} {c0 : List (List UInt8)} {p : Pt} {l : List Pt} {s : ByteArray} {X : List (List UInt8)} (h : AI A c0 (p :: l) s X) (hg : Fit1 p) (hk : p.kind = 3) : ∃ cs, Tx s cs ∧ AI A c0 l (s.extract (placeOf cs (cutK p.n cs)) s.size) X := by
  obtain ⟨cs, h1, h2, h3⟩ := h.tx
  have hn := hg.1.1
  rcases hg.1.cases with ⟨k, _⟩ | ⟨_, _, e⟩ | ⟨k, _⟩
  · omega
  · rw [atomsL, At.from_app, e, from_rep_d] at h3
    have hc : cutK p.n cs = p.n.toNat := by unfold cutK; omega
    refine ⟨cs, h1, ?_⟩
    rw [hc]
    refine ⟨⟨cs.drop p.n.toNat, h1.back _, ?_, by rw [List.length_drop]; omega⟩, h.cps⟩
    rw [h2, atomsL, e, app_rep_d _ _ _ (by omega)]
  · omega
theorem AI.most {A : List At} {c0 : List (List UInt8)} {l : List Pt} {s : ByteArray} {X : List (List UInt8)} (h : AI A c0 l s X) (hA : (At.app A c0).length ≤ 1099511627776) : X.flatten.length ≤ 4398046511104 := by
  obtain ⟨cs, h1, h2, h3⟩ := h.tx
  have := h.cps.most
  rw [h2, List.length_append] at hA
  omega
theorem AI.size {A : List At} {c0 : List (List UInt8)} {l : List Pt} {s : ByteArray} {X : List (List UInt8)} (h : AI A c0 l s X) (hf : At.fromN (atomsL l) ≤ 1099511627776) : s.size ≤ 4398046511104 := by
  obtain ⟨cs, h1, h2, h3⟩ := h.tx
  have := h1.cps.most
  rw [← h1.size] at this
  omega
theorem AI.ends {A : List At} {c0 : List (List UInt8)} {s : ByteArray} {X : List (List UInt8)} (h : AI A c0 [] s X) : X = At.app A c0 := by
  obtain ⟨cs, h1, h2, h3⟩ := h.tx
  simp [atomsL, At.fromN] at h3
  rw [h2, h3]
  simp [atomsL, At.app]
theorem from_drop (l : List Pt) (k : Nat) : At.fromN (atomsL (l.drop k)) ≤ At.fromN (atomsL l) := by
  have h : atomsL l = atomsL (l.take k) ++ atomsL (l.drop k) := by rw [← atomsL_append, List.take_append_drop]
  rw [h, At.from_app]
  omega
theorem isOf_ed {l : List Pt} {s : ByteArray} (h : isOfB l s = true) : ∃ cs t, Tx s cs ∧ IsEd l cs.length t := by
  unfold isOfB at h
  simp only [Bool.and_eq_true, decide_eq_true_eq] at h
  obtain ⟨cs, hcs⟩ := tx_of_valid h.1
  obtain ⟨t, ht, _⟩ := check_ed h.2
  rw [hcs.count] at ht
  exact ⟨cs, t, hcs, by simpa using ht⟩
/-- what Apply answers -/
def AplR (l : List Pt) (s : ByteArray) (r : Ending) : Prop := isOfB l s = false ∧ r = .returned (.tuple #[.string ByteArray.empty, .int .i64 30]) ∨ isOfB l s = true ∧ ∃ S cs, Tx s cs ∧ Tx S (At.app (atomsL l) cs) ∧ r = .returned (.tuple #[.string S, .int .i64 0])
set_option maxRecDepth 100000 in
set_option maxHeartbeats 4000000 in
theorem apply_any (a : Option Addr) (l : List Pt) (c : Nat) (s : ByteArray) (w : World) (hT : UT w) (hp : PtsAt w a l) (hc : l.length ≤ maxLen) (hs : ∀ p ∈ l, p.text.size ≤ 281474976710656) (hs2 : s.size ≤ 281474976710656) :
    Calls Tryd.prog 20 #[.slice a l.length c, .string s] w fun r w' => AplR l s r ∧ Below w.heap.size w w' := by
  have HIS := hide (isOf_any a l c s w hT hp hc hs hs2)
  have HT := hide hT
  have HP := hide hp
  cases hio : isOfB l s with
  | false =>
    rw [hio] at HIS
    have HO := hide hio
    obtain ⟨n, hn⟩ : ∃ n, l.length = n := ⟨_, rfl⟩
    rw [hn] at HIS ⊢
    clear hT hp hc hs hs2 hio hn
    go_enter Tryd.func20, Tryd.ntmps20
    go_wp2_with fail
    refine Calls.mono (unhide HIS) ?_
    rintro r w1 ⟨rfl, hb1⟩
    have HB1 := hide hb1
    clear hb1 HIS
    go_wp2_with fail
    go_ret2
    exact ⟨.inl ⟨unhide HO, rfl⟩, unhide HB1⟩
  | true =>
    rw [hio] at HIS
    have HO := hide hio
    obtain ⟨c0, t0, htx, hed⟩ := isOf_ed hio
    have HTX := hide htx
    have HED := hide hed
    have HGD := hide (ed_fit hed)
    have HAL : Hid ((At.app (atomsL l) c0).length ≤ 1099511627776) := hide (by rw [At.app_len _ _ hed.2.1.symm, hed.2.2.1]; exact hed.2.2.2.2)
    have HI0 : Hid (AI (atomsL l) c0 (l.drop 0) s []) := hide ⟨⟨c0, htx, by simp, by simpa using hed.2.1.symm⟩, Cps.nil⟩
    obtain ⟨n, hn⟩ : ∃ n, l.length = n := ⟨_, rfl⟩
    rw [hn] at HIS hc ⊢
    have HN := hide hn
    have nI : (n : Int) ≤ 9223372036854775807 := by unfold maxLen at hc; omega
    clear hT hp hs hs2 hio hn htx hed
    go_enter Tryd.func20, Tryd.ntmps20
    go_wp2_with fail
    refine Calls.mono (unhide HIS) ?_
    rintro r w1 ⟨rfl, hb1⟩
    have HB1 := hide hb1
    clear hb1 HIS
    have HBD := hide (Bl.Bd.new w1)
    go_wp2_with fail
    obtain ⟨g, hg⟩ : ∃ z, w1.heap.size = z := ⟨_, rfl⟩
    have HG1 := hide hg
    go_loopw [1, 17] (fun sv i wr => ∃ (k : Nat) (sk : ByteArray) (X : List (List UInt8)), k ≤ n ∧ i = .int .i64 (k : Int) ∧ sv = .string sk ∧ Hid (Bl.Bd w1 wr w1.heap.size w1.heap.size X.flatten) ∧ Hid (AI (atomsL l) c0 (l.drop k) sk X)) (fun _ i _ => ((n : Int) - intOf i).toNat)
    case atStart => exact ⟨0, s, [], by omega, by simp, rfl, HBD, HI0⟩
    case round =>
      clear hg
      obtain ⟨k, sk, X, hk, rfl, rfl, HB, HI⟩ := hrel
      by_cases hlt : k < n
      · have kI : (k : Int) < (n : Int) := by omega
        obtain ⟨p, hpk⟩ : ∃ p, l[k]? = some p := ⟨_, List.getElem?_eq_getElem (by have := unhide HN; omega)⟩
        have HBW : Hid (Below w.heap.size w wr) := hide ((unhide HB1).trans ((unhide HB).bel.mono (unhide HB1).size))
        obtain ⟨b, off, rfl, e0, e1, e2⟩ := (unhide HP).at_ (unhide HBW) hpk
        have hdr : l.drop k = p :: l.drop (k + 1) := by
          rw [List.drop_eq_getElem_cons (by have := unhide HN; omega)]
          congr 1
          exact (List.getElem?_eq_some_iff.1 hpk).2
        rw [hdr] at HI
        have HG := hide (unhide HGD p (List.mem_of_getElem? hpk))
        have HSK : Hid (sk.size ≤ 4398046511104) := hide ((unhide HI).size (by rw [← hdr]; have h1 := from_drop l k; have h2 := unhide HED; have := h2.2.1; have := h2.2.2.2.1; omega))
        have hbA : Below wr.heap.size wr (wr.alloc (.cells #[.int .i64 p.kind, .int .i64 p.n, .string p.text] 39)) := (Below.refl _ _).alloc (Nat.le_refl _) _
        have HB2 := hide ((unhide HB).call hbA)
        have HBW2 := hide ((unhide HBW).trans (hbA.mono (unhide HBW).size))
        have hrw := RowAt.new wr 39 [.int .i64 p.kind, .int .i64 p.n, .string p.text]
        have r0 : (wr.alloc (.cells #[.int .i64 p.kind, .int .i64 p.n, .string p.text] 39)).cell? ⟨wr.heap.size, 0, none⟩ = some (.int .i64 p.kind) := hrw.cell 0
        have r1 : (wr.alloc (.cells #[.int .i64 p.kind, .int .i64 p.n, .string p.text] 39)).cell? ⟨wr.heap.size, 1, none⟩ = some (.int .i64 p.n) := hrw.cell 1
        have r2 : (wr.alloc (.cells #[.int .i64 p.kind, .int .i64 p.n, .string p.text] 39)).cell? ⟨wr.heap.size, 2, none⟩ = some (.string p.text) := hrw.cell 2
        have hkk : p.kind = 1 ∨ p.kind = 2 ∨ p.kind = 3 := by
          rcases (unhide HG).1.cases with ⟨q, _⟩ | ⟨q, _⟩ | ⟨q, _⟩ <;> omega
        clear hpk hbA HB hrw hdr
        obtain ⟨w2, hw2⟩ : ∃ z, (wr.alloc (.cells #[.int .i64 p.kind, .int .i64 p.n, .string p.text] 39)) = z := ⟨_, rfl⟩
        have HW2 := hide hw2
        rw [hw2] at HB2 HBW2 r0 r1 r2
        rcases hkk with hk1 | hk1 | hk1
        · have hk := hk1
          rw [hk1] at e0 r0
          have hkc : ({ kind := p.kind, n := p.n, text := p.text } : Pt) = p := rfl
          have hw3 : wr.alloc (.cells #[.int .i64 1, .int .i64 p.n, .string p.text] 39) = w2 := by rw [← unhide HW2, hk1]
          clear hk1 hw2 hkc
          obtain ⟨cs, hcs, hai⟩ := (unhide HI).keep (unhide HG) hk
          have HM2 := hide (hai.most (unhide HAL))
          have HCUT := hide (cut_any sk cs p.n w2 ((unhide HT).call (unhide HBW2)) hcs (by have := unhide HSK; omega) (by have := (unhide HG).1.1; omega) (by have := (unhide HG).2; omega))
          have HFR := hide (hcs.front (cutK p.n cs))
          have HI2 := hide hai
          obtain ⟨fs, hfs⟩ : ∃ z, sk.extract 0 (placeOf cs (cutK p.n cs)) = z := ⟨_, rfl⟩
          obtain ⟨rs, hrs⟩ : ∃ z, sk.extract (placeOf cs (cutK p.n cs)) sk.size = z := ⟨_, rfl⟩
          rw [hfs] at HCUT HFR
          rw [hrs] at HCUT HI2
          clear hcs hai hk hfs hrs
          go_wp2_with fail
          refine Calls.mono (unhide HCUT) ?_
          rintro r w3 ⟨rfl, hb3⟩
          have HB3 := hide ((unhide HB2).call hb3)
          clear hb3 HB2 HCUT r0 r1 r2
          go_wp2_with fail
          refine Calls.mono (Bl.write_any (unhide HB3) fs (by have h1 := unhide HM2; rw [List.flatten_append, List.length_append, ← (unhide HFR).size] at h1; omega)) ?_
          rintro r w4 ⟨rfl, hb4⟩
          rw [(unhide HFR).eq, ← List.flatten_append] at hb4
          have HB4 := hide hb4
          clear hb4 HB3
          go_wp2_with fail
          exact ⟨⟨k + 1, rs, X ++ cs.take (cutK p.n cs), by omega, by simp, rfl, HB4, HI2⟩, by simp [intOf]; omega⟩
        · have hk := hk1
          rw [hk1] at e0 r0
          have hkc : ({ kind := p.kind, n := p.n, text := p.text } : Pt) = p := rfl
          have hw3 : wr.alloc (.cells #[.int .i64 2, .int .i64 p.n, .string p.text] 39) = w2 := by rw [← unhide HW2, hk1]
          clear hk1 hw2 hkc
          obtain ⟨ds, hds, hai⟩ := (unhide HI).put (unhide HG) hk
          have HDS := hide hds
          have HI2 := hide hai
          have HM2 := hide (hai.most (unhide HAL))
          clear hds hai hk
          go_wp2_with fail
          refine Calls.mono (Bl.write_any (unhide HB2) p.text (by have h1 := unhide HM2; rw [List.flatten_append, List.length_append, ← (unhide HDS).size] at h1; omega)) ?_
          rintro r w3 ⟨rfl, hb3⟩
          rw [(unhide HDS).eq, ← List.flatten_append] at hb3
          have HB3 := hide hb3
          clear hb3 HB2 r0 r1 r2
          go_wp2_with fail
          exact ⟨⟨k + 1, sk, X ++ ds, by omega, by simp, rfl, HB3, HI2⟩, by simp [intOf]; omega⟩
        · have hk := hk1
          rw [hk1] at e0 r0
          have hkc : ({ kind := p.kind, n := p.n, text := p.text } : Pt) = p := rfl
          have hw3 : wr.alloc (.cells #[.int .i64 3, .int .i64 p.n, .string p.text] 39) = w2 := by rw [← unhide HW2, hk1]
          clear hk1 hw2 hkc
          obtain ⟨cs, hcs, hai⟩ := (unhide HI).drop (unhide HG) hk
          have HCUT := hide (cut_any sk cs p.n w2 ((unhide HT).call (unhide HBW2)) hcs (by have := unhide HSK; omega) (by have := (unhide HG).1.1; omega) (by have := (unhide HG).2; omega))
          have HI2 := hide hai
          obtain ⟨fs, hfs⟩ : ∃ z, sk.extract 0 (placeOf cs (cutK p.n cs)) = z := ⟨_, rfl⟩
          obtain ⟨rs, hrs⟩ : ∃ z, sk.extract (placeOf cs (cutK p.n cs)) sk.size = z := ⟨_, rfl⟩
          rw [hfs] at HCUT
          rw [hrs] at HCUT HI2
          clear hcs hai hk hfs hrs
          go_wp2_with fail
          refine Calls.mono (unhide HCUT) ?_
          rintro r w3 ⟨rfl, hb3⟩
          have HB3 := hide ((unhide HB2).call hb3)
          clear hb3 HB2 HCUT r0 r1 r2
          go_wp2_with fail
          exact ⟨⟨k + 1, rs, X, by omega, by simp, rfl, HB3, HI2⟩, by simp [intOf]; omega⟩
      · obtain rfl : n = k := by omega
        have kI : ¬ (n : Int) < (n : Int) := by omega
        have hdn : l.drop n = [] := List.drop_of_length_le (by rw [unhide HN]; exact Nat.le_refl _)
        rw [hdn] at HI
        have HE := hide (unhide HI).ends
        have HCX := hide (unhide HI).cps
        clear hdn HI
        go_wp2_with fail
        refine Calls.mono (Bl.string_any (unhide HB)) ?_
        rintro r w3 ⟨rfl, hb3⟩
        have HB3 := hide ((unhide HB1).trans (hb3.mono (unhide HB1).size))
        clear hb3 HB
        go_wp2_with fail
        go_ret2
        exact ⟨.inr ⟨unhide HO, _, c0, unhide HTX, ⟨by rw [← unhide HE]; exact unhide HCX, by rw [← unhide HE]⟩, rfl⟩, unhide HB3⟩
end Go.Proofs.YtonabfpgdgnpnaaDoor
