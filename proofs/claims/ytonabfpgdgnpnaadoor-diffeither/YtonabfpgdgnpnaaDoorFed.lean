/- An edit that is handed out piece by piece (feed). -/
import Derived.Test.YtonabfpgdgnpnaaDoorATl
namespace Go.Proofs.YtonabfpgdgnpnaaDoor
set_option linter.unusedVariables false
set_option linter.unusedSimpArgs false
open Go.ChangeShapes Go.WideShapes Go.ChangeAt Go.RowKit Go.Joins Go.Deep

/-- no part -/
def noPt : Pt := ⟨0, 0, ⟨#[]⟩⟩
/-- a feed in block g: what is left of the part at its head, and the others -/
structure Fd (w : World) (g : Nat) (h : Pt) (a : Option Addr) (c : Nat) (l : List Pt) : Prop where
  row : RowAt w g 129 [.int .i64 h.kind, .int .i64 h.n, .string h.text, .slice a l.length c]
  pts : PtsAt w a l
  far : ∀ b off, a = some ⟨b, off, none⟩ → b ≠ g
  cap : l.length ≤ c ∧ c ≤ maxLen
theorem Fd.call {w w' : World} {g : Nat} {h : Pt} {a : Option Addr} {c : Nat} {l : List Pt} (f : Fd w g h a c l) (hb : Below w.heap.size w w') : Fd w' g h a c l :=
  ⟨f.row.below hb f.row.lt, f.pts.call hb, f.far, f.cap⟩
theorem PtsAt.only {p : Nat → Prop} {w w' : World} {a : Option Addr} {l : List Pt} (h : PtsAt w a l) (ho : Only p w w') (hp : ∀ b off, a = some ⟨b, off, none⟩ → ¬ p b) : PtsAt w' a l := by
  rcases h with h | ⟨b, off, rfl, hlt, hc⟩
  · exact .inl h
  · refine .inr ⟨b, off, rfl, Nat.lt_of_lt_of_le hlt ho.size, fun i k hk => ?_⟩
    obtain ⟨q0, q1, q2⟩ := hc i k hk
    have hb := hp b off rfl
    exact ⟨ho.cell (q := ⟨b, _, none⟩) hb q0, ho.cell (q := ⟨b, _, none⟩) hb q1, ho.cell (q := ⟨b, _, none⟩) hb q2⟩
/-- the head is another part -/
theorem Fd.head {w : World} {g : Nat} {h : Pt} {a : Option Addr} {c : Nat} {l : List Pt} (f : Fd w g h a c l) (q : Pt) :
    Fd (((w.setCell ⟨g, 0, none⟩ (.int .i64 q.kind)).setCell ⟨g, 1, none⟩ (.int .i64 q.n)).setCell ⟨g, 2, none⟩ (.string q.text)) g q a c l ∧ Only (· = g) w (((w.setCell ⟨g, 0, none⟩ (.int .i64 q.kind)).setCell ⟨g, 1, none⟩ (.int .i64 q.n)).setCell ⟨g, 2, none⟩ (.string q.text)) := by
  have ho : Only (· = g) w (((w.setCell ⟨g, 0, none⟩ (.int .i64 q.kind)).setCell ⟨g, 1, none⟩ (.int .i64 q.n)).setCell ⟨g, 2, none⟩ (.string q.text)) := (((Only.refl (· = g) w).set g 0 _ rfl).set g 1 _ rfl).set g 2 _ rfl
  exact ⟨⟨((f.row.set 0 (.int .i64 q.kind)).set 1 (.int .i64 q.n)).set 2 (.string q.text), f.pts.only ho (fun b off e => f.far b off e), f.far, f.cap⟩, ho⟩
/-- the others without the first one -/
theorem Fd.rest {w : World} {g b off : Nat} {h p : Pt} {c : Nat} {l : List Pt} {a1 : Option Addr} (f : Fd w g h (some ⟨b, off, none⟩) c (p :: l)) (ha : (if c = 1 then some (⟨b, off, none⟩ : Addr) else some ⟨b, off + 3, none⟩) = a1) :
    Fd (w.setCell ⟨g, 3, none⟩ (.slice a1 l.length (c - 1))) g h a1 (c - 1) l ∧ Only (· = g) w (w.setCell ⟨g, 3, none⟩ (.slice a1 l.length (c - 1))) := by
  have ho : Only (· = g) w (w.setCell ⟨g, 3, none⟩ (.slice a1 l.length (c - 1))) := (Only.refl (· = g) w).set g 3 _ rfl
  have hbg := f.far b off rfl
  have hcap := f.cap
  simp only [List.length_cons] at hcap
  refine ⟨⟨f.row.set 3 _, ?_, ?_, ⟨by omega, by omega⟩⟩, ho⟩
  · by_cases hl : l = []
    · exact .inl hl
    · right
      have hlp : 0 < l.length := List.length_pos_iff.2 hl
      rw [if_neg (by omega)] at ha
      rcases f.pts with h0 | ⟨b', off', e, hlt, hc⟩
      · cases h0
      obtain ⟨rfl, rfl⟩ : b = b' ∧ off = off' := by simpa using e
      refine ⟨b, off + 3, ha.symm, Nat.lt_of_lt_of_le hlt ho.size, fun i k hk => ?_⟩
      obtain ⟨q0, q1, q2⟩ := hc (i + 1) k (by simpa using hk)
      have e3 : off + (i + 1) * 3 = off + 3 + i * 3 := by omega
      rw [e3] at q0 q1 q2
      exact ⟨ho.cell (q := ⟨b, _, none⟩) hbg q0, ho.cell (q := ⟨b, _, none⟩) hbg q1, ho.cell (q := ⟨b, _, none⟩) hbg q2⟩
  · intro b' off' e
    rw [← ha] at e
    split at e
    · obtain ⟨rfl, _⟩ : b = b' ∧ off = off' := by simpa using e
      exact hbg
    · obtain ⟨rfl, _⟩ : b = b' ∧ off + 3 = off' := by simpa using e
      exact hbg
set_option maxRecDepth 100000 in
set_option maxHeartbeats 4000000 in
theorem kind_ok {w : World} {g : Nat} {h : Pt} {a : Option Addr} {c : Nat} {l : List Pt} (f : Fd w g h a c l) : Calls Tryd.prog 64 #[.pointer (some ⟨g, 0, none⟩)] w fun r w' => r = .returned (.int .i64 h.kind) ∧ w = w' := by
  have c0 : w.cell? ⟨g, 0, none⟩ = some (.int .i64 h.kind) := f.row.cell 0
  clear f
  go_enter Tryd.func64, Tryd.ntmps64
  go_wp2_with fail
  go_ret
  exact ⟨rfl, rfl⟩
set_option maxRecDepth 100000 in
set_option maxHeartbeats 4000000 in
theorem next_end {w : World} {g : Nat} {h : Pt} {a : Option Addr} {c : Nat} (f : Fd w g h a c []) : Calls Tryd.prog 82 #[.pointer (some ⟨g, 0, none⟩)] w fun r w' => r = .returned (.tuple #[]) ∧ Fd w' g noPt a c [] ∧ Only (· = g) w w' := by
  have c0 : w.cell? ⟨g, 0, none⟩ = some (.int .i64 h.kind) := f.row.cell 0
  have c1 : w.cell? ⟨g, 1, none⟩ = some (.int .i64 h.n) := f.row.cell 1
  have c2 : w.cell? ⟨g, 2, none⟩ = some (.string h.text) := f.row.cell 2
  have c3 : w.cell? ⟨g, 3, none⟩ = some (.slice a 0 c) := f.row.cell 3
  have z0 : w.frozen? ⟨g, 0, none⟩ = false := f.row.frozen 0
  have z1 : w.frozen? ⟨g, 1, none⟩ = false := f.row.frozen 1
  have z2 : w.frozen? ⟨g, 2, none⟩ = false := f.row.frozen 2
  have HF := hide f
  clear f
  go_enter Tryd.func82, Tryd.ntmps82
  go_wp2_with fail
  go_end0
  exact ⟨rfl, ((unhide HF).head noPt).1, ((unhide HF).head noPt).2⟩
set_option maxRecDepth 100000 in
set_option maxHeartbeats 4000000 in
theorem next_cons {w : World} {g : Nat} {h p : Pt} {a : Option Addr} {c : Nat} {l : List Pt} (f : Fd w g h a c (p :: l)) : Calls Tryd.prog 82 #[.pointer (some ⟨g, 0, none⟩)] w fun r w' => r = .returned (.tuple #[]) ∧ (∃ a' c', Fd w' g p a' c' l ∧ ∀ b' off', a' = some ⟨b', off', none⟩ → ∃ o0, a = some ⟨b', o0, none⟩) ∧ Only (· = g) w w' := by
  have c0 : w.cell? ⟨g, 0, none⟩ = some (.int .i64 h.kind) := f.row.cell 0
  have c1 : w.cell? ⟨g, 1, none⟩ = some (.int .i64 h.n) := f.row.cell 1
  have c2 : w.cell? ⟨g, 2, none⟩ = some (.string h.text) := f.row.cell 2
  have c3 : w.cell? ⟨g, 3, none⟩ = some (.slice a (p :: l).length c) := f.row.cell 3
  have z0 : w.frozen? ⟨g, 0, none⟩ = false := f.row.frozen 0
  have z1 : w.frozen? ⟨g, 1, none⟩ = false := f.row.frozen 1
  have z2 : w.frozen? ⟨g, 2, none⟩ = false := f.row.frozen 2
  have HF := hide f
  have hm := f.cap
  obtain ⟨n, hn⟩ : ∃ n, (p :: l).length = n := ⟨_, rfl⟩
  rw [hn] at c3 hm
  have hn1 : 0 < n := by rw [← hn]; simp
  have nI : (0 : Int) < (n : Int) := by omega
  have nI2 : (n : Int) ≤ 9223372036854775807 := by unfold maxLen at hm; omega
  have HN := hide hn
  obtain ⟨b, off, ha, e0, e1, e2⟩ := f.pts.at_ (Below.refl _ _) (i := 0) (p := p) rfl
  subst ha
  simp only [Nat.zero_mul, Nat.add_zero] at e0 e1 e2
  clear f hn
  go_enter Tryd.func82, Tryd.ntmps82
  go_wp2_with fail
  have hF0 : Fd (((w.setCell ⟨g, 0, none⟩ (.int .i64 0)).setCell ⟨g, 1, none⟩ (.int .i64 0)).setCell ⟨g, 2, none⟩ (.string ⟨#[]⟩)) g noPt (some ⟨b, off, none⟩) c (p :: l) ∧ Only (· = g) w (((w.setCell ⟨g, 0, none⟩ (.int .i64 0)).setCell ⟨g, 1, none⟩ (.int .i64 0)).setCell ⟨g, 2, none⟩ (.string ⟨#[]⟩)) := (unhide HF).head noPt
  obtain ⟨w0, hw0⟩ : ∃ w0, (((w.setCell ⟨g, 0, none⟩ (.int .i64 0)).setCell ⟨g, 1, none⟩ (.int .i64 0)).setCell ⟨g, 2, none⟩ (.string ⟨#[]⟩)) = w0 := ⟨_, rfl⟩
  rw [hw0] at hF0 ⊢
  clear hw0 c0 c1 c2 c3 z0 z1 z2
  have HO0 := hide hF0.2
  have HF0 := hide hF0.1
  have c0 : w0.cell? ⟨g, 0, none⟩ = some (.int .i64 0) := hF0.1.row.cell 0
  have c1 : w0.cell? ⟨g, 1, none⟩ = some (.int .i64 0) := hF0.1.row.cell 1
  have c2 : w0.cell? ⟨g, 2, none⟩ = some (.string ⟨#[]⟩) := hF0.1.row.cell 2
  have c3 : w0.cell? ⟨g, 3, none⟩ = some (.slice (some ⟨b, off, none⟩) n c) := by have := hF0.1.row.cell 3; rw [unhide HN] at this; exact this
  have z0 : w0.frozen? ⟨g, 0, none⟩ = false := hF0.1.row.frozen 0
  have z1 : w0.frozen? ⟨g, 1, none⟩ = false := hF0.1.row.frozen 1
  have z2 : w0.frozen? ⟨g, 2, none⟩ = false := hF0.1.row.frozen 2
  have z3 : w0.frozen? ⟨g, 3, none⟩ = false := hF0.1.row.frozen 3
  have HB : Hid (b ≠ g) := hide (hF0.1.far b off rfl)
  have e0 := hF0.2.cell (q := ⟨b, _, none⟩) (unhide HB) e0
  have e1 := hF0.2.cell (q := ⟨b, _, none⟩) (unhide HB) e1
  have e2 := hF0.2.cell (q := ⟨b, _, none⟩) (unhide HB) e2
  clear hF0
  have HS : Hid (∀ W, Only (· = g) w0 W → W.cell? ⟨g, 3, none⟩ = some (.slice (some ⟨b, off, none⟩) n c) → ((W.cell? ⟨g, 3, none⟩ = some (.slice (some ⟨b, off, none⟩) n c) ∧ W.cell? ⟨b, off, none⟩ = some (.int .i64 p.kind)) ∧ W.cell? ⟨b, off + 1, none⟩ = some (.int .i64 p.n)) ∧ W.cell? ⟨b, off + 2, none⟩ = some (.string p.text)) := hide (fun W ho h3 => ⟨⟨⟨h3, ho.cell (q := ⟨b, _, none⟩) (unhide HB) e0⟩, ho.cell (q := ⟨b, _, none⟩) (unhide HB) e1⟩, ho.cell (q := ⟨b, _, none⟩) (unhide HB) e2⟩)
  have n1c : 1 ≤ n := hn1
  have n1I : (1 : Int) ≤ (n : Int) := by omega
  obtain ⟨a1, ha1⟩ : ∃ a1, (if c = 1 then some (⟨b, off, none⟩ : Addr) else some ⟨b, off + 3, none⟩) = a1 := ⟨_, rfl⟩
  have HA1 := hide ha1
  refine wp_region_T (S := fun W => ((W.cell? ⟨g, 3, none⟩ = some (.slice (some ⟨b, off, none⟩) n c) ∧ W.cell? ⟨b, off, none⟩ = some (.int .i64 p.kind)) ∧ W.cell? ⟨b, off + 1, none⟩ = some (.int .i64 p.n)) ∧ W.cell? ⟨b, off + 2, none⟩ = some (.string p.text)) (fun i => decide (i < 16)) (by kernel_rfl) ⟨⟨⟨c3, e0⟩, e1⟩, e2⟩ (fun hHeld => ?_)
  refine wpAnyT_take (i := 0) (oi := { dst := some 12, op := Op.move (Operand.tmp 0), type := 103, pos := "pair.go:23", after := #[], guard := none }) (v := .pointer (some ⟨g, 0, none⟩)) rfl (by kernel_rfl) (by kernel_rfl) (by kernel_rfl) (by kernel_rfl) (fun _ _ _ h => h) (Or.inl ⟨by rfl, ?_⟩) hHeld ?_
  · intro w hSw
    obtain ⟨⟨⟨h3, h4⟩, h5⟩, h6⟩ := hSw
    first
      | rfl
      | (go_simp; done)
  try simp only [Act.put, List.setIfInBounds_toArray, List.set_cons_zero, List.set_cons_succ]
  refine wpAnyT_take (i := 1) (oi := { dst := some 13, op := Op.move (Operand.tmp 0), type := 103, pos := "pair.go:23", after := #[{ on := 15, ground := Ground.gcOnly Departure.lateStores }], guard := none }) (v := .pointer (some ⟨g, 0, none⟩)) rfl (by kernel_rfl) (by kernel_rfl) (by kernel_rfl) (by kernel_rfl) (fun _ _ _ h => h) (Or.inl ⟨by rfl, ?_⟩) hHeld ?_
  · intro w hSw
    obtain ⟨⟨⟨h3, h4⟩, h5⟩, h6⟩ := hSw
    first
      | rfl
      | (go_simp; done)
  try simp only [Act.put, List.setIfInBounds_toArray, List.set_cons_zero, List.set_cons_succ]
  refine wpAnyT_take (i := 2) (oi := { dst := some 14, op := Op.move (Operand.tmp 0), type := 103, pos := "pair.go:23", after := #[], guard := none }) (v := .pointer (some ⟨g, 0, none⟩)) rfl (by kernel_rfl) (by kernel_rfl) (by kernel_rfl) (by kernel_rfl) (fun _ _ _ h => h) (Or.inl ⟨by rfl, ?_⟩) hHeld ?_
  · intro w hSw
    obtain ⟨⟨⟨h3, h4⟩, h5⟩, h6⟩ := hSw
    first
      | rfl
      | (go_simp; done)
  try simp only [Act.put, List.setIfInBounds_toArray, List.set_cons_zero, List.set_cons_succ]
  refine wpAnyT_take (i := 3) (oi := { dst := some 15, op := Op.nilCheck (Operand.tmp 14), type := 0, pos := "pair.go:23", after := #[{ on := 2, ground := Ground.data }], guard := none }) (v := .pointer (some ⟨g, 0, none⟩)) rfl (by kernel_rfl) (by kernel_rfl) (by kernel_rfl) (by kernel_rfl) (fun _ _ _ h => h) (Or.inl ⟨by rfl, ?_⟩) hHeld ?_
  · intro w hSw
    obtain ⟨⟨⟨h3, h4⟩, h5⟩, h6⟩ := hSw
    first
      | rfl
      | (go_simp; done)
  try simp only [Act.put, List.setIfInBounds_toArray, List.set_cons_zero, List.set_cons_succ]
  refine wpAnyT_take (i := 4) (oi := { dst := some 16, op := Op.fieldAddr 129 (Operand.tmp 15) 1, type := 0, pos := "pair.go:23", after := #[{ on := 3, ground := Ground.data }], guard := none }) (v := .pointer (some ⟨g, 3, none⟩)) rfl (by kernel_rfl) (by kernel_rfl) (by kernel_rfl) (by kernel_rfl) (fun _ _ _ h => h) (Or.inl ⟨by rfl, ?_⟩) hHeld ?_
  · intro w hSw
    obtain ⟨⟨⟨h3, h4⟩, h5⟩, h6⟩ := hSw
    first
      | rfl
      | (go_simp; done)
  try simp only [Act.put, List.setIfInBounds_toArray, List.set_cons_zero, List.set_cons_succ]
  refine wpAnyT_take (i := 5) (oi := { dst := some 17, op := Op.load 24 (Operand.tmp 16), type := 24, pos := "pair.go:23", after := #[{ on := 4, ground := Ground.data }], guard := none }) (v := .slice (some ⟨b, off, none⟩) n c) rfl (by kernel_rfl) (by kernel_rfl) (by kernel_rfl) (by kernel_rfl) (fun _ _ _ h => h) (Or.inl ⟨by rfl, ?_⟩) hHeld ?_
  · intro w hSw
    obtain ⟨⟨⟨h3, h4⟩, h5⟩, h6⟩ := hSw
    first
      | rfl
      | (go_simp; done)
  try simp only [Act.put, List.setIfInBounds_toArray, List.set_cons_zero, List.set_cons_succ]
  refine wpAnyT_take (i := 6) (oi := { dst := some 18, op := Op.indexAddr 24 (Operand.tmp 17) (Operand.const (Value.int IntKind.i64 0)), type := 0, pos := "pair.go:23", after := #[{ on := 5, ground := Ground.data }], guard := none }) (v := .pointer (some ⟨b, off, none⟩)) rfl (by kernel_rfl) (by kernel_rfl) (by kernel_rfl) (by kernel_rfl) (fun _ _ _ h => h) (Or.inl ⟨by rfl, ?_⟩) hHeld ?_
  · intro w hSw
    obtain ⟨⟨⟨h3, h4⟩, h5⟩, h6⟩ := hSw
    first
      | rfl
      | (go_simp; done)
  try simp only [Act.put, List.setIfInBounds_toArray, List.set_cons_zero, List.set_cons_succ]
  refine wpAnyT_take (i := 7) (oi := { dst := some 19, op := Op.load 39 (Operand.tmp 18), type := 39, pos := "pair.go:23", after := #[{ on := 6, ground := Ground.data }], guard := none }) (v := .agg #[.int .i64 p.kind, .int .i64 p.n, .string p.text]) rfl (by kernel_rfl) (by kernel_rfl) (by kernel_rfl) (by kernel_rfl) (fun _ _ _ h => h) (Or.inl ⟨by rfl, ?_⟩) hHeld ?_
  · intro w hSw
    obtain ⟨⟨⟨h3, h4⟩, h5⟩, h6⟩ := hSw
    first
      | rfl
      | (go_simp; done)
  try simp only [Act.put, List.setIfInBounds_toArray, List.set_cons_zero, List.set_cons_succ]
  refine wpAnyT_take (i := 8) (oi := { dst := some 20, op := Op.move (Operand.tmp 0), type := 103, pos := "pair.go:23", after := #[], guard := none }) (v := .pointer (some ⟨g, 0, none⟩)) rfl (by kernel_rfl) (by kernel_rfl) (by kernel_rfl) (by kernel_rfl) (fun _ _ _ h => h) (Or.inl ⟨by rfl, ?_⟩) hHeld ?_
  · intro w hSw
    obtain ⟨⟨⟨h3, h4⟩, h5⟩, h6⟩ := hSw
    first
      | rfl
      | (go_simp; done)
  try simp only [Act.put, List.setIfInBounds_toArray, List.set_cons_zero, List.set_cons_succ]
  refine wpAnyT_take (i := 9) (oi := { dst := some 21, op := Op.nilCheck (Operand.tmp 20), type := 0, pos := "pair.go:23", after := #[{ on := 8, ground := Ground.data }], guard := none }) (v := .pointer (some ⟨g, 0, none⟩)) rfl (by kernel_rfl) (by kernel_rfl) (by kernel_rfl) (by kernel_rfl) (fun _ _ _ h => h) (Or.inl ⟨by rfl, ?_⟩) hHeld ?_
  · intro w hSw
    obtain ⟨⟨⟨h3, h4⟩, h5⟩, h6⟩ := hSw
    first
      | rfl
      | (go_simp; done)
  try simp only [Act.put, List.setIfInBounds_toArray, List.set_cons_zero, List.set_cons_succ]
  refine wpAnyT_take (i := 10) (oi := { dst := some 22, op := Op.fieldAddr 129 (Operand.tmp 21) 1, type := 0, pos := "pair.go:23", after := #[{ on := 9, ground := Ground.data }], guard := none }) (v := .pointer (some ⟨g, 3, none⟩)) rfl (by kernel_rfl) (by kernel_rfl) (by kernel_rfl) (by kernel_rfl) (fun _ _ _ h => h) (Or.inl ⟨by rfl, ?_⟩) hHeld ?_
  · intro w hSw
    obtain ⟨⟨⟨h3, h4⟩, h5⟩, h6⟩ := hSw
    first
      | rfl
      | (go_simp; done)
  try simp only [Act.put, List.setIfInBounds_toArray, List.set_cons_zero, List.set_cons_succ]
  refine wpAnyT_take (i := 11) (oi := { dst := some 23, op := Op.load 24 (Operand.tmp 22), type := 24, pos := "pair.go:23", after := #[{ on := 10, ground := Ground.data }], guard := none }) (v := .slice (some ⟨b, off, none⟩) n c) rfl (by kernel_rfl) (by kernel_rfl) (by kernel_rfl) (by kernel_rfl) (fun _ _ _ h => h) (Or.inl ⟨by rfl, ?_⟩) hHeld ?_
  · intro w hSw
    obtain ⟨⟨⟨h3, h4⟩, h5⟩, h6⟩ := hSw
    first
      | rfl
      | (go_simp; done)
  try simp only [Act.put, List.setIfInBounds_toArray, List.set_cons_zero, List.set_cons_succ]
  refine wpAnyT_take (i := 12) (oi := { dst := some 24, op := Op.slice 24 (Operand.tmp 23) (some (Operand.const (Value.int IntKind.i64 1))) none none, type := 24, pos := "pair.go:23", after := #[{ on := 11, ground := Ground.data }], guard := none }) (v := .slice a1 (n - 1) (c - 1)) rfl (by kernel_rfl) (by kernel_rfl) (by kernel_rfl) (by kernel_rfl) (fun _ _ _ h => h) (Or.inl ⟨by rfl, ?_⟩) hHeld ?_
  · intro w hSw
    obtain ⟨⟨⟨h3, h4⟩, h5⟩, h6⟩ := hSw
    first
      | rfl
      | (go_simp; done)
  try simp only [Act.put, List.setIfInBounds_toArray, List.set_cons_zero, List.set_cons_succ]
  clear ha1
  refine wpAnyT_take (i := 13) (oi := { dst := some 25, op := Op.nilCheck (Operand.tmp 12), type := 0, pos := "pair.go:23", after := #[{ on := 0, ground := Ground.data }, { on := 0, ground := Ground.phase }, { on := 1, ground := Ground.textOnly Departure.lateStores }, { on := 2, ground := Ground.phase }, { on := 3, ground := Ground.phase }, { on := 4, ground := Ground.phase }, { on := 5, ground := Ground.phase }, { on := 6, ground := Ground.phase }, { on := 7, ground := Ground.phase }, { on := 8, ground := Ground.textOnly Departure.lateStores }, { on := 9, ground := Ground.textOnly Departure.lateStoresUnsure }, { on := 10, ground := Ground.textOnly Departure.lateStoresUnsure }, { on := 11, ground := Ground.phase }, { on := 12, ground := Ground.textOnly Departure.lateStoresUnsure }], guard := none }) (v := .pointer (some ⟨g, 0, none⟩)) rfl (by kernel_rfl) (by kernel_rfl) (by kernel_rfl) (by kernel_rfl) (fun _ _ _ h => h) (Or.inl ⟨by rfl, ?_⟩) hHeld ?_
  · intro w hSw
    obtain ⟨⟨⟨h3, h4⟩, h5⟩, h6⟩ := hSw
    first
      | rfl
      | (go_simp; done)
  try simp only [Act.put, List.setIfInBounds_toArray, List.set_cons_zero, List.set_cons_succ]
  refine wpAnyT_take (i := 14) (oi := { dst := some 26, op := Op.fieldAddr 129 (Operand.tmp 25) 0, type := 0, pos := "pair.go:23", after := #[{ on := 13, ground := Ground.data }, { on := 0, ground := Ground.phase }, { on := 1, ground := Ground.textOnly Departure.lateStores }, { on := 2, ground := Ground.phase }, { on := 3, ground := Ground.phase }, { on := 4, ground := Ground.phase }, { on := 5, ground := Ground.phase }, { on := 6, ground := Ground.phase }, { on := 7, ground := Ground.phase }, { on := 8, ground := Ground.textOnly Departure.lateStores }, { on := 9, ground := Ground.textOnly Departure.lateStoresUnsure }, { on := 10, ground := Ground.textOnly Departure.lateStoresUnsure }, { on := 11, ground := Ground.phase }, { on := 12, ground := Ground.textOnly Departure.lateStoresUnsure }], guard := none }) (v := .pointer (some ⟨g, 0, none⟩)) rfl (by kernel_rfl) (by kernel_rfl) (by kernel_rfl) (by kernel_rfl) (fun _ _ _ h => h) (Or.inl ⟨by rfl, ?_⟩) hHeld ?_
  · intro w hSw
    obtain ⟨⟨⟨h3, h4⟩, h5⟩, h6⟩ := hSw
    first
      | rfl
      | (go_simp; done)
  try simp only [Act.put, List.setIfInBounds_toArray, List.set_cons_zero, List.set_cons_succ]
  refine wpAnyT_one (i := 15) (o := { dst := none, op := Op.store 39 (Operand.tmp 26) (Operand.tmp 19), type := 0, pos := "pair.go:23", after := #[{ on := 14, ground := Ground.data }, { on := 7, ground := Ground.data }, { on := 0, ground := Ground.phase }, { on := 1, ground := Ground.textOnly Departure.lateStores }, { on := 2, ground := Ground.phase }, { on := 3, ground := Ground.phase }, { on := 4, ground := Ground.phase }, { on := 5, ground := Ground.phase }, { on := 6, ground := Ground.phase }, { on := 7, ground := Ground.phase }, { on := 8, ground := Ground.textOnly Departure.lateStores }, { on := 9, ground := Ground.textOnly Departure.lateStoresUnsure }, { on := 10, ground := Ground.textOnly Departure.lateStoresUnsure }, { on := 11, ground := Ground.phase }, { on := 12, ground := Ground.textOnly Departure.lateStoresUnsure }], guard := none }) (by kernel_rfl) rfl (fun K hK => ?_)
  go_simp
  have hF3 := (unhide HF0).head p
  have hF4 : Fd (((w0.setCell ⟨g, 0, none⟩ (.int .i64 p.kind)).setCell ⟨g, 1, none⟩ (.int .i64 p.n)).setCell ⟨g, 2, none⟩ (.string p.text)).drew g p (some ⟨b, off, none⟩) c (p :: l) ∧ Only (· = g) w0 (((w0.setCell ⟨g, 0, none⟩ (.int .i64 p.kind)).setCell ⟨g, 1, none⟩ (.int .i64 p.n)).setCell ⟨g, 2, none⟩ (.string p.text)).drew := ⟨hF3.1.call (Below.refl _ _).drew, hF3.2.drew⟩
  have c3' : (((w0.setCell ⟨g, 0, none⟩ (.int .i64 p.kind)).setCell ⟨g, 1, none⟩ (.int .i64 p.n)).setCell ⟨g, 2, none⟩ (.string p.text)).drew.cell? ⟨g, 3, none⟩ = some (.slice (some ⟨b, off, none⟩) n c) := by have := hF4.1.row.cell 3; rw [unhide HN] at this; exact this
  have z3' : (((w0.setCell ⟨g, 0, none⟩ (.int .i64 p.kind)).setCell ⟨g, 1, none⟩ (.int .i64 p.n)).setCell ⟨g, 2, none⟩ (.string p.text)).drew.frozen? ⟨g, 3, none⟩ = false := hF4.1.row.frozen 3
  have HF4 := hide hF4.1
  have HO4 := hide hF4.2
  refine hK.out _ _ (fun _ => unhide HS _ (unhide HO4) c3') ?_
  clear hK K hF3 hF4 c0 c1 c2 c3 z0 z1 z2 z3 e0 e1 e2
  obtain ⟨w3, hw3⟩ : ∃ w3, (((w0.setCell ⟨g, 0, none⟩ (.int .i64 p.kind)).setCell ⟨g, 1, none⟩ (.int .i64 p.n)).setCell ⟨g, 2, none⟩ (.string p.text)).drew = w3 := ⟨_, rfl⟩
  rw [hw3] at HF4 HO4 c3' z3' ⊢
  clear hw3
  try simp only [Act.put, List.setIfInBounds_toArray, List.set_cons_zero, List.set_cons_succ]
  refine wpAnyT_pure (i := 16) (oi := { dst := some 27, op := Op.nilCheck (Operand.tmp 13), type := 0, pos := "pair.go:23", after := #[{ on := 1, ground := Ground.data }, { on := 0, ground := Ground.phase }, { on := 1, ground := Ground.phase }, { on := 2, ground := Ground.phase }, { on := 3, ground := Ground.phase }, { on := 4, ground := Ground.phase }, { on := 5, ground := Ground.phase }, { on := 6, ground := Ground.phase }, { on := 7, ground := Ground.phase }, { on := 8, ground := Ground.phase }, { on := 9, ground := Ground.phase }, { on := 10, ground := Ground.phase }, { on := 11, ground := Ground.phase }, { on := 12, ground := Ground.phase }, { on := 13, ground := Ground.phase }, { on := 14, ground := Ground.phase }, { on := 15, ground := Ground.phase }], guard := none }) (v := .pointer (some ⟨g, 0, none⟩)) rfl (by kernel_rfl) (by kernel_rfl) (by kernel_rfl) rfl (fun _ _ _ h => h) (Or.inl ⟨by rfl, ?_⟩) ?_
  · intro w hSw
    first
      | rfl
      | (go_simp; done)
  try simp only [Act.put, List.setIfInBounds_toArray, List.set_cons_zero, List.set_cons_succ]
  refine wpAnyT_pure (i := 17) (oi := { dst := some 28, op := Op.fieldAddr 129 (Operand.tmp 27) 1, type := 0, pos := "pair.go:23", after := #[{ on := 16, ground := Ground.data }, { on := 0, ground := Ground.phase }, { on := 1, ground := Ground.phase }, { on := 2, ground := Ground.phase }, { on := 3, ground := Ground.phase }, { on := 4, ground := Ground.phase }, { on := 5, ground := Ground.phase }, { on := 6, ground := Ground.phase }, { on := 7, ground := Ground.phase }, { on := 8, ground := Ground.phase }, { on := 9, ground := Ground.phase }, { on := 10, ground := Ground.phase }, { on := 11, ground := Ground.phase }, { on := 12, ground := Ground.phase }, { on := 13, ground := Ground.phase }, { on := 14, ground := Ground.phase }, { on := 15, ground := Ground.phase }], guard := none }) (v := .pointer (some ⟨g, 3, none⟩)) rfl (by kernel_rfl) (by kernel_rfl) (by kernel_rfl) rfl (fun _ _ _ h => h) (Or.inl ⟨by rfl, ?_⟩) ?_
  · intro w hSw
    first
      | rfl
      | (go_simp; done)
  try simp only [Act.put, List.setIfInBounds_toArray, List.set_cons_zero, List.set_cons_succ]
  refine wpAnyT_one (i := 18) (o := { dst := none, op := Op.store 24 (Operand.tmp 28) (Operand.tmp 24), type := 0, pos := "pair.go:23", after := #[{ on := 17, ground := Ground.data }, { on := 12, ground := Ground.data }, { on := 15, ground := Ground.chain }, { on := 0, ground := Ground.phase }, { on := 1, ground := Ground.phase }, { on := 2, ground := Ground.phase }, { on := 3, ground := Ground.phase }, { on := 4, ground := Ground.phase }, { on := 5, ground := Ground.phase }, { on := 6, ground := Ground.phase }, { on := 7, ground := Ground.phase }, { on := 8, ground := Ground.phase }, { on := 9, ground := Ground.phase }, { on := 10, ground := Ground.phase }, { on := 11, ground := Ground.phase }, { on := 12, ground := Ground.phase }, { on := 13, ground := Ground.phase }, { on := 14, ground := Ground.phase }, { on := 15, ground := Ground.phase }], guard := none }) (by kernel_rfl) rfl (fun K hK => ?_)
  go_simp
  refine hK.out _ _ (fun h => by cases h) ?_
  clear hK K
  try simp only [Act.put, List.setIfInBounds_toArray, List.set_cons_zero, List.set_cons_succ]
  refine wpAnyT_done (by kernel_rfl) ?_ _
  go_wp2_with fail
  go_end0
  have hR := (unhide HF4).rest (unhide HA1)
  have hnl : n - 1 = l.length := by have := unhide HN; simp at this; omega
  rw [hnl]
  refine ⟨rfl, ⟨a1, c - 1, hR.1, fun b' off' e => ⟨off, ?_⟩⟩, ((unhide HO0).trans (unhide HO4)).trans hR.2⟩
  have hh := unhide HA1
  rw [e] at hh
  split at hh
  · obtain ⟨rfl, _⟩ : b = b' ∧ off = off' := by simpa using hh
    rfl
  · obtain ⟨rfl, _⟩ : b = b' ∧ off + 3 = off' := by simpa using hh
    rfl
end Go.Proofs.YtonabfpgdgnpnaaDoor
