/- A history: what only reads; a pile with one more, or one less. -/
import Derived.Test.YtihiengejpjbkaaDoorUBh
namespace Go.Proofs.YtihiengejpjbkaaDoor
set_option linter.unusedVariables false
set_option linter.unusedSimpArgs false
open Go.ChangeShapes Go.WideShapes Go.ChangeAt Go.RowKit Go.Joins Go.Deep

theorem lt_of_cell {w : World} {a : Addr} {v : Value} (h : w.cell? a = some v) : a.block < w.heap.size := by
  rcases Nat.lt_or_ge a.block w.heap.size with h1 | h1
  · exact h1
  · unfold World.cell? at h
    rw [Array.getElem?_eq_none h1] at h
    cases h
theorem cell_keep {B : Nat} {W w1 : World} {a : Addr} {v : Value} (hb : Below B W w1) (ha : a.block < B) (h : W.cell? a = some v) : w1.cell? a = some v := by rw [hb.cell ha]; exact h
/-- a history -/
structure Hs where
  n : Int
  back : List Pe
  again : List Pe
structure Hi (w : World) (B g : Nat) (vb va : Value) (H : Hs) : Prop where
  row : RowAt w g 65 [.bool true, .int .i64 H.n, vb, va]
  ob : w.ownsRow B 32 1 vb H.back.length (H.back.map Pe.v)
  oa : w.ownsRow B 32 1 va H.again.length (H.again.map Pe.v)
  sep : ∀ k, vb.ownBlock = some k → va.ownBlock ≠ some k
  eb : ∀ p ∈ H.back, PeOk w p
  ea : ∀ p ∈ H.again, PeOk w p
  gB : B ≤ g
def fpH (g : Nat) (vb va : Value) (k : Nat) : Prop := k = g ∨ vb.ownBlock = some k ∨ va.ownBlock = some k
theorem Hi.call {w w' : World} {B g : Nat} {vb va : Value} {H : Hs} (h : Hi w B g vb va H) (hb : Below w.heap.size w w') : Hi w' B g vb va H :=
  ⟨h.row.below hb h.row.lt, own_call h.ob hb, own_call h.oa hb, h.sep, fun p hp => (h.eb p hp).call hb, fun p hp => (h.ea p hp).call hb, h.gB⟩
theorem Hi.low {w w' : World} {B g : Nat} {vb va : Value} {H : Hs} (h : Hi w B g vb va H) (ho : Only (fpH g vb va) w w') : Below B w w' :=
  ho.below (by have := h.gB; have := h.row.lt; omega) (fun k hk => by
    rcases hk with rfl | hk | hk
    · exact h.gB
    · exact (h.ob.lt k hk).1
    · exact (h.oa.lt k hk).1)
/-- what edit made is none of a history's own blocks -/
theorem Hi.far {w : World} {B g : Nat} {vb va : Value} {H : Hs} (h : Hi w B g vb va H) {v : Value} {l : List Pt} (ho : OwnP w 0 v l) : ∀ k, v.ownBlock = some k → ¬ fpH g vb va k := fun k hk hp => by
  rcases hp with rfl | hp | hp
  · exact tag_ne ho h.row (by decide) hk
  · exact own_ne ho h.ob (by decide) k hk hp
  · exact own_ne ho h.oa (by decide) k hk hp
theorem Hi.keep {w w' : World} {B g : Nat} {vb va : Value} {H : Hs} (h : Hi w B g vb va H) (ho : Only (fpH g vb va) w w') {v : Value} {l : List Pt} (hv : OwnP w 0 v l) : OwnP w' 0 v l := own_only hv ho (h.far hv)
theorem made_ok (g : Nat) (w : World) (h : w.cell? ⟨g, 0, none⟩ = some (.bool true)) :
    Calls Tryd.prog 42 #[.pointer (some ⟨g, 0, none⟩)] w fun r w' => r = .returned (.bool true) ∧ w = w' := by
  go_enter Tryd.func42, Tryd.ntmps42
  go_wp2
  go_ret
  exact ⟨rfl, rfl⟩
def Nob (w : World) (p : Option Addr) : Prop := p = none ∨ ∃ g, p = some ⟨g, 0, none⟩ ∧ w.cell? ⟨g, 0, none⟩ = some (.bool false)
theorem made_nob (p : Option Addr) (w : World) (h : Nob w p) :
    Calls Tryd.prog 42 #[.pointer p] w fun r w' => r = .returned (.bool false) ∧ w = w' := by
  rcases h with rfl | ⟨g, rfl, h⟩
  · go_enter Tryd.func42, Tryd.ntmps42
    go_wp2
    go_ret
    exact ⟨rfl, rfl⟩
  · go_enter Tryd.func42, Tryd.ntmps42
    go_wp2
    go_ret
    exact ⟨rfl, rfl⟩
theorem size_ok (g : Nat) (n : Int) (w : World) (h : w.cell? ⟨g, 0, none⟩ = some (.bool true)) (h1 : w.cell? ⟨g, 1, none⟩ = some (.int .i64 n)) :
    Calls Tryd.prog 28 #[.pointer (some ⟨g, 0, none⟩)] w fun r w' => r = .returned (.int .i64 n) ∧ w = w' := by
  have K := hide (made_ok g w h)
  go_enter Tryd.func28, Tryd.ntmps28
  go_wp2_with fail
  refine Calls.mono (unhide K) ?_
  rintro r w' ⟨rfl, rfl⟩
  go_wp2
  go_ret
  exact ⟨rfl, rfl⟩
theorem size_nob (p : Option Addr) (w : World) (h : Nob w p) : Calls Tryd.prog 28 #[.pointer p] w fun r w' => r = .returned (.int .i64 0) ∧ w = w' := by
  have K := hide (made_nob p w h)
  clear h
  go_enter Tryd.func28, Tryd.ntmps28
  go_wp2_with fail
  refine Calls.mono (unhide K) ?_
  rintro r w' ⟨rfl, rfl⟩
  go_wp2
  go_ret
  exact ⟨rfl, rfl⟩
theorem len_nob (p : Option Addr) (w : World) (h : Nob w p) : Calls Tryd.prog 27 #[.pointer p] w fun r w' => r = .returned (.tuple #[.int .i64 0, .int .i64 0]) ∧ w = w' := by
  have K := hide (made_nob p w h)
  clear h
  go_enter Tryd.func27, Tryd.ntmps27
  go_wp2_with fail
  refine Calls.mono (unhide K) ?_
  rintro r w' ⟨rfl, rfl⟩
  go_wp2
  go_ret2
  exact ⟨rfl, rfl⟩
theorem undo_nob (p : Option Addr) (s : ByteArray) (w : World) (h : Nob w p) : Calls Tryd.prog 19 #[.pointer p, .string s] w fun r w' => r = .returned (.tuple #[.slice none 0 0, .int .i64 6]) ∧ w = w' := by
  have K := hide (made_nob p w h)
  clear h
  go_enter Tryd.func19, Tryd.ntmps19
  go_wp2_with fail
  refine Calls.mono (unhide K) ?_
  rintro r w' ⟨rfl, rfl⟩
  go_wp2
  go_ret2
  exact ⟨rfl, rfl⟩
theorem redo_nob (p : Option Addr) (s : ByteArray) (w : World) (h : Nob w p) : Calls Tryd.prog 21 #[.pointer p, .string s] w fun r w' => r = .returned (.tuple #[.slice none 0 0, .int .i64 6]) ∧ w = w' := by
  have K := hide (made_nob p w h)
  clear h
  go_enter Tryd.func21, Tryd.ntmps21
  go_wp2_with fail
  refine Calls.mono (unhide K) ?_
  rintro r w' ⟨rfl, rfl⟩
  go_wp2
  go_ret2
  exact ⟨rfl, rfl⟩
theorem check_nob (p : Option Addr) (v : Value) (w : World) (h : Nob w p) : Calls Tryd.prog 35 #[.pointer p, v] w fun r w' => r = .returned (.tuple #[.int .i64 0, .int .i64 6]) ∧ w = w' := by
  have K := hide (made_nob p w h)
  clear h
  go_enter Tryd.func35, Tryd.ntmps35
  go_wp2_with fail
  refine Calls.mono (unhide K) ?_
  rintro r w' ⟨rfl, rfl⟩
  go_wp2
  go_ret2
  exact ⟨rfl, rfl⟩
theorem mine_nob (p : Option Addr) (v : Value) (s : ByteArray) (w : World) (h : Nob w p) : Calls Tryd.prog 15 #[.pointer p, v, .string s] w fun r w' => r = .returned (.int .i64 6) ∧ w = w' := by
  have K := hide (check_nob p v w h)
  clear h
  go_enter Tryd.func15, Tryd.ntmps15
  go_wp2_with fail
  refine Calls.mono (unhide K) ?_
  rintro r w' ⟨rfl, rfl⟩
  go_wp2
  go_ret
  exact ⟨rfl, rfl⟩
theorem theirs_nob (p : Option Addr) (v : Value) (w : World) (h : Nob w p) : Calls Tryd.prog 17 #[.pointer p, v] w fun r w' => r = .returned (.int .i64 6) ∧ w = w' := by
  have K := hide (check_nob p v w h)
  clear h
  go_enter Tryd.func17, Tryd.ntmps17
  go_wp2_with fail
  refine Calls.mono (unhide K) ?_
  rintro r w' ⟨rfl, rfl⟩
  go_wp2
  go_ret
  exact ⟨rfl, rfl⟩
theorem clear_nob (p : Option Addr) (n : Int) (w : World) (h : Nob w p) : Calls Tryd.prog 23 #[.pointer p, .int .i64 n] w fun r w' => r = .returned (.int .i64 6) ∧ w = w' := by
  have K := hide (made_nob p w h)
  clear h
  go_enter Tryd.func23, Tryd.ntmps23
  go_wp2_with fail
  refine Calls.mono (unhide K) ?_
  rintro r w' ⟨rfl, rfl⟩
  go_wp2
  go_ret
  exact ⟨rfl, rfl⟩
def NewR (n : Int) (w : World) (r : Ending) (w' : World) : Prop := (n < 0 ∨ 1048576 < n) ∧ r = .returned (.tuple #[.pointer none, .int .i64 1]) ∧ w = w' ∨ (0 ≤ n ∧ n ≤ 1048576) ∧ r = .returned (.tuple #[.pointer (some ⟨w.heap.size, 0, none⟩), .int .i64 0]) ∧ Hi w' w.heap.size w.heap.size (.slice none 0 0) (.slice none 0 0) ⟨n, [], []⟩ ∧ Below w.heap.size w w'
theorem new_any (n : Int) (w : World) : Calls Tryd.prog 34 #[.int .i64 n] w fun r w' => NewR n w r w' := by
  by_cases h1 : n < 0
  · go_enter Tryd.func34, Tryd.ntmps34
    go_wp2_with fail
    go_ret2
    exact .inl ⟨.inl h1, rfl, rfl⟩
  by_cases h2 : 1048576 < n
  · go_enter Tryd.func34, Tryd.ntmps34
    go_wp2_with fail
    go_ret2
    exact .inl ⟨.inr h2, rfl, rfl⟩
  · go_enter Tryd.func34, Tryd.ntmps34
    go_wp2_with fail
    go_ret2
    exact .inr ⟨by omega, rfl, ⟨RowAt.new w 65 _, ⟨rfl, .inl ⟨rfl, rfl⟩⟩, ⟨rfl, .inl ⟨rfl, rfl⟩⟩, (fun k hk => by cases hk), (fun p hp => by cases hp), (fun p hp => by cases hp), Nat.le_refl _⟩, (Below.refl _ _).alloc (Nat.le_refl _) _⟩
set_option maxRecDepth 100000 in
set_option maxHeartbeats 4000000 in
theorem len_ok (g : Nat) (a b : Option Addr) (nb na cb ca : Nat) (w : World) (h : w.cell? ⟨g, 0, none⟩ = some (.bool true)) (h2 : w.cell? ⟨g, 2, none⟩ = some (.slice b nb cb)) (h3 : w.cell? ⟨g, 3, none⟩ = some (.slice a na ca)) :
    Calls Tryd.prog 27 #[.pointer (some ⟨g, 0, none⟩)] w fun r w' => r = .returned (.tuple #[.int .i64 (nb : Int), .int .i64 (na : Int)]) ∧ Below w.heap.size w w' := by
  have K := hide (made_ok g w h)
  go_enter Tryd.func27, Tryd.ntmps27
  go_wp2_with fail
  refine Calls.mono (unhide K) ?_
  rintro r w' ⟨rfl, rfl⟩
  go_wp2_with fail
  refine wp_region_T (S := fun W => W.cell? ⟨g, 2, none⟩ = some (.slice b nb cb) ∧ W.cell? ⟨g, 3, none⟩ = some (.slice a na ca)) (fun i => decide (i < 12)) (by kernel_rfl) ⟨h2, h3⟩ (fun hHeld => ?_)
  refine wpAnyT_take (i := 0) (oi := { dst := some 7, op := Op.move (Operand.tmp 0), type := 25, pos := "undo.go:34", after := #[], guard := none }) (v := .pointer (some ⟨g, 0, none⟩)) rfl (by kernel_rfl) (by kernel_rfl) (by kernel_rfl) (by kernel_rfl) (fun _ _ _ h => h) (Or.inl ⟨by rfl, ?_⟩) hHeld ?_
  · intro w hSw
    obtain ⟨h0, h1⟩ := hSw
    first
      | rfl
      | (go_simp; done)
  try simp only [Act.put, List.setIfInBounds_toArray, List.set_cons_zero, List.set_cons_succ]
  refine wpAnyT_take (i := 1) (oi := { dst := some 8, op := Op.nilCheck (Operand.tmp 7), type := 0, pos := "undo.go:34", after := #[{ on := 0, ground := Ground.data }], guard := none }) (v := .pointer (some ⟨g, 0, none⟩)) rfl (by kernel_rfl) (by kernel_rfl) (by kernel_rfl) (by kernel_rfl) (fun _ _ _ h => h) (Or.inl ⟨by rfl, ?_⟩) hHeld ?_
  · intro w hSw
    obtain ⟨h0, h1⟩ := hSw
    first
      | rfl
      | (go_simp; done)
  try simp only [Act.put, List.setIfInBounds_toArray, List.set_cons_zero, List.set_cons_succ]
  refine wpAnyT_take (i := 2) (oi := { dst := some 9, op := Op.fieldAddr 65 (Operand.tmp 8) 2, type := 0, pos := "undo.go:34", after := #[{ on := 1, ground := Ground.data }], guard := none }) (v := .pointer (some ⟨g, 2, none⟩)) rfl (by kernel_rfl) (by kernel_rfl) (by kernel_rfl) (by kernel_rfl) (fun _ _ _ h => h) (Or.inl ⟨by rfl, ?_⟩) hHeld ?_
  · intro w hSw
    obtain ⟨h0, h1⟩ := hSw
    first
      | rfl
      | (go_simp; done)
  try simp only [Act.put, List.setIfInBounds_toArray, List.set_cons_zero, List.set_cons_succ]
  refine wpAnyT_take (i := 3) (oi := { dst := some 10, op := Op.load 63 (Operand.tmp 9), type := 63, pos := "undo.go:34", after := #[{ on := 2, ground := Ground.data }], guard := none }) (v := .slice b nb cb) rfl (by kernel_rfl) (by kernel_rfl) (by kernel_rfl) (by kernel_rfl) (fun _ _ _ h => h) (Or.inl ⟨by rfl, ?_⟩) hHeld ?_
  · intro w hSw
    obtain ⟨h0, h1⟩ := hSw
    first
      | rfl
      | (go_simp; done)
  try simp only [Act.put, List.setIfInBounds_toArray, List.set_cons_zero, List.set_cons_succ]
  refine wpAnyT_take (i := 4) (oi := { dst := some 11, op := Op.call { callee := Callee.builtin Builtin.len, args := #[Operand.tmp 10], argTypes := #[63] }, type := 3, pos := "undo.go:34", after := #[{ on := 3, ground := Ground.data }], guard := none }) (v := .int .i64 (nb : Int)) rfl (by kernel_rfl) (by kernel_rfl) (by kernel_rfl) (by kernel_rfl) (fun _ _ _ h => h) (Or.inl ⟨by rfl, ?_⟩) hHeld ?_
  · intro w hSw
    obtain ⟨h0, h1⟩ := hSw
    first
      | rfl
      | (go_simp; done)
  try simp only [Act.put, List.setIfInBounds_toArray, List.set_cons_zero, List.set_cons_succ]
  refine wpAnyT_take (i := 5) (oi := { dst := some 12, op := Op.move (Operand.tmp 0), type := 25, pos := "undo.go:34", after := #[], guard := none }) (v := .pointer (some ⟨g, 0, none⟩)) rfl (by kernel_rfl) (by kernel_rfl) (by kernel_rfl) (by kernel_rfl) (fun _ _ _ h => h) (Or.inl ⟨by rfl, ?_⟩) hHeld ?_
  · intro w hSw
    obtain ⟨h0, h1⟩ := hSw
    first
      | rfl
      | (go_simp; done)
  try simp only [Act.put, List.setIfInBounds_toArray, List.set_cons_zero, List.set_cons_succ]
  refine wpAnyT_take (i := 6) (oi := { dst := some 13, op := Op.nilCheck (Operand.tmp 12), type := 0, pos := "undo.go:34", after := #[{ on := 5, ground := Ground.data }], guard := none }) (v := .pointer (some ⟨g, 0, none⟩)) rfl (by kernel_rfl) (by kernel_rfl) (by kernel_rfl) (by kernel_rfl) (fun _ _ _ h => h) (Or.inl ⟨by rfl, ?_⟩) hHeld ?_
  · intro w hSw
    obtain ⟨h0, h1⟩ := hSw
    first
      | rfl
      | (go_simp; done)
  try simp only [Act.put, List.setIfInBounds_toArray, List.set_cons_zero, List.set_cons_succ]
  refine wpAnyT_take (i := 7) (oi := { dst := some 14, op := Op.fieldAddr 65 (Operand.tmp 13) 3, type := 0, pos := "undo.go:34", after := #[{ on := 6, ground := Ground.data }], guard := none }) (v := .pointer (some ⟨g, 3, none⟩)) rfl (by kernel_rfl) (by kernel_rfl) (by kernel_rfl) (by kernel_rfl) (fun _ _ _ h => h) (Or.inl ⟨by rfl, ?_⟩) hHeld ?_
  · intro w hSw
    obtain ⟨h0, h1⟩ := hSw
    first
      | rfl
      | (go_simp; done)
  try simp only [Act.put, List.setIfInBounds_toArray, List.set_cons_zero, List.set_cons_succ]
  refine wpAnyT_take (i := 8) (oi := { dst := some 15, op := Op.load 63 (Operand.tmp 14), type := 63, pos := "undo.go:34", after := #[{ on := 7, ground := Ground.data }], guard := none }) (v := .slice a na ca) rfl (by kernel_rfl) (by kernel_rfl) (by kernel_rfl) (by kernel_rfl) (fun _ _ _ h => h) (Or.inl ⟨by rfl, ?_⟩) hHeld ?_
  · intro w hSw
    obtain ⟨h0, h1⟩ := hSw
    first
      | rfl
      | (go_simp; done)
  try simp only [Act.put, List.setIfInBounds_toArray, List.set_cons_zero, List.set_cons_succ]
  refine wpAnyT_take (i := 9) (oi := { dst := some 16, op := Op.call { callee := Callee.builtin Builtin.len, args := #[Operand.tmp 15], argTypes := #[63] }, type := 3, pos := "undo.go:34", after := #[{ on := 8, ground := Ground.data }], guard := none }) (v := .int .i64 (na : Int)) rfl (by kernel_rfl) (by kernel_rfl) (by kernel_rfl) (by kernel_rfl) (fun _ _ _ h => h) (Or.inl ⟨by rfl, ?_⟩) hHeld ?_
  · intro w hSw
    obtain ⟨h0, h1⟩ := hSw
    first
      | rfl
      | (go_simp; done)
  try simp only [Act.put, List.setIfInBounds_toArray, List.set_cons_zero, List.set_cons_succ]
  refine wpAnyT_take (i := 10) (oi := { dst := some 2, op := Op.assign (Operand.tmp 11), type := 3, pos := "undo.go:34", after := #[{ on := 4, ground := Ground.data }, { on := 0, ground := Ground.phase }, { on := 1, ground := Ground.phase }, { on := 2, ground := Ground.phase }, { on := 3, ground := Ground.phase }, { on := 4, ground := Ground.phase }, { on := 5, ground := Ground.textOnly Departure.lateStores }, { on := 6, ground := Ground.textOnly Departure.lateStores }, { on := 7, ground := Ground.textOnly Departure.lateStores }, { on := 8, ground := Ground.textOnly Departure.lateStores }, { on := 9, ground := Ground.textOnly Departure.lateStoresUnsure }], guard := none }) (v := .int .i64 (nb : Int)) rfl (by kernel_rfl) (by kernel_rfl) (by kernel_rfl) (by kernel_rfl) (fun _ _ _ h => h) (Or.inl ⟨by rfl, ?_⟩) hHeld ?_
  · intro w hSw
    obtain ⟨h0, h1⟩ := hSw
    first
      | rfl
      | (go_simp; done)
  try simp only [Act.put, List.setIfInBounds_toArray, List.set_cons_zero, List.set_cons_succ]
  refine wpAnyT_take (i := 11) (oi := { dst := some 3, op := Op.assign (Operand.tmp 16), type := 3, pos := "undo.go:34", after := #[{ on := 9, ground := Ground.data }, { on := 10, ground := Ground.chain }, { on := 0, ground := Ground.phase }, { on := 1, ground := Ground.phase }, { on := 2, ground := Ground.phase }, { on := 3, ground := Ground.phase }, { on := 4, ground := Ground.phase }, { on := 5, ground := Ground.phase }, { on := 6, ground := Ground.phase }, { on := 7, ground := Ground.phase }, { on := 8, ground := Ground.phase }, { on := 9, ground := Ground.phase }, { on := 10, ground := Ground.phase }], guard := none }) (v := .int .i64 (na : Int)) rfl (by kernel_rfl) (by kernel_rfl) (by kernel_rfl) (by kernel_rfl) (fun _ _ _ h => h) (Or.inl ⟨by rfl, ?_⟩) hHeld ?_
  · intro w hSw
    obtain ⟨h0, h1⟩ := hSw
    first
      | rfl
      | (go_simp; done)
  try simp only [Act.put, List.setIfInBounds_toArray, List.set_cons_zero, List.set_cons_succ]
  refine wpAnyT_done (by kernel_rfl) ?_ _
  go_wp2_with fail
  go_ret2
  exact ⟨rfl, Below.drew (Below.refl _ _)⟩
/-- what check says of an edit: how long it makes the text, or that it can't be -/
def chkV (n : Int) (l : List Pt) : Value := match sizeL l with
  | none => .tuple #[.int .i64 0, .int .i64 30]
  | some (f, t, _) => if f = n ∧ t ≤ 1048576 then .tuple #[.int .i64 t, .int .i64 0] else .tuple #[.int .i64 0, .int .i64 30]
set_option maxRecDepth 100000 in
set_option maxHeartbeats 4000000 in
theorem check_ok (g : Nat) (n : Int) (a : Option Addr) (l : List Pt) (c m : Nat) (w : World) (hT : UT w) (he : Edit w a l c) (hm : l.length = m) (h : w.cell? ⟨g, 0, none⟩ = some (.bool true)) (h1 : w.cell? ⟨g, 1, none⟩ = some (.int .i64 n)) :
    Calls Tryd.prog 35 #[.pointer (some ⟨g, 0, none⟩), .slice a m c] w fun r w' => r = .returned (chkV n l) ∧ Below w.heap.size w w' := by
  have K := hide (made_ok g w h)
  have KS := hide (size_any a l c w hT he.pts (Nat.le_trans he.cap he.max) he.txt2)
  have H1 := hide h1
  rw [hm] at KS
  clear hT he h h1 hm
  cases hs : sizeL l with
  | none =>
    have e1 : szVal l = .tuple #[.int .i64 0, .int .i64 0, .int .i64 30] := by unfold szVal; rw [hs]
    have e2 : chkV n l = .tuple #[.int .i64 0, .int .i64 30] := by unfold chkV; rw [hs]
    rw [e1] at KS
    rw [e2]
    clear hs e1 e2
    go_enter Tryd.func35, Tryd.ntmps35
    go_wp2_with fail
    refine Calls.mono (unhide K) ?_
    rintro r w' ⟨rfl, rfl⟩
    go_wp2_with fail
    refine Calls.mono (unhide KS) ?_
    rintro r w1 ⟨rfl, hb⟩
    have hq : w1.cell? ⟨g, 1, none⟩ = some (.int .i64 n) := cell_keep hb (lt_of_cell (unhide H1)) (unhide H1)
    have HB := hide hb
    clear hb K KS
    go_wp2_with fail
    go_ret2
    exact ⟨rfl, unhide HB⟩
  | some x =>
    obtain ⟨f, t, k⟩ := x
    have e1 : szVal l = .tuple #[.int .i64 f, .int .i64 t, .int .i64 0] := by unfold szVal; rw [hs]
    have e2 : chkV n l = if f = n ∧ t ≤ 1048576 then .tuple #[.int .i64 t, .int .i64 0] else .tuple #[.int .i64 0, .int .i64 30] := by unfold chkV; rw [hs]
    rw [e1] at KS
    rw [e2]
    clear hs e1 e2
    by_cases hf : f = n
    · by_cases ht : t ≤ 1048576
      · rw [if_pos ⟨hf, ht⟩]
        have hf' : (f != n) = false := by simp [hf]
        have ht' : ¬ 1048576 < t := by omega
        clear hf ht
        go_enter Tryd.func35, Tryd.ntmps35
        go_wp2_with fail
        refine Calls.mono (unhide K) ?_
        rintro r w' ⟨rfl, rfl⟩
        go_wp2_with fail
        refine Calls.mono (unhide KS) ?_
        rintro r w1 ⟨rfl, hb⟩
        have hq : w1.cell? ⟨g, 1, none⟩ = some (.int .i64 n) := cell_keep hb (lt_of_cell (unhide H1)) (unhide H1)
        have HB := hide hb
        clear hb K KS
        go_wp2_with fail
        go_ret2
        exact ⟨rfl, unhide HB⟩
      · rw [if_neg (fun h => ht h.2)]
        have hf' : (f != n) = false := by simp [hf]
        have ht' : 1048576 < t := by omega
        clear hf ht
        go_enter Tryd.func35, Tryd.ntmps35
        go_wp2_with fail
        refine Calls.mono (unhide K) ?_
        rintro r w' ⟨rfl, rfl⟩
        go_wp2_with fail
        refine Calls.mono (unhide KS) ?_
        rintro r w1 ⟨rfl, hb⟩
        have hq : w1.cell? ⟨g, 1, none⟩ = some (.int .i64 n) := cell_keep hb (lt_of_cell (unhide H1)) (unhide H1)
        have HB := hide hb
        clear hb K KS
        go_wp2_with fail
        go_ret2
        exact ⟨rfl, unhide HB⟩
    · rw [if_neg (fun h => hf h.1)]
      have hf' : (f != n) = true := by simp [hf]
      clear hf
      go_enter Tryd.func35, Tryd.ntmps35
      go_wp2_with fail
      refine Calls.mono (unhide K) ?_
      rintro r w' ⟨rfl, rfl⟩
      go_wp2_with fail
      refine Calls.mono (unhide KS) ?_
      rintro r w1 ⟨rfl, hb⟩
      have hq : w1.cell? ⟨g, 1, none⟩ = some (.int .i64 n) := cell_keep hb (lt_of_cell (unhide H1)) (unhide H1)
      have HB := hide hb
      clear hb K KS
      go_wp2_with fail
      go_ret2
      exact ⟨rfl, unhide HB⟩
/-- a pile with one more; the first one goes, where there would be too many -/
def pushP (P : List Pe) (p : Pe) : List Pe := (P ++ [p]).drop (P.length + 1 - 50)
theorem pushP_len (P : List Pe) (p : Pe) : (pushP P p).length = min (P.length + 1) 50 := by unfold pushP; rw [List.length_drop, List.length_append, List.length_singleton]; omega
theorem pushP_mem {P : List Pe} {p q : Pe} (h : q ∈ pushP P p) : q ∈ P ∨ q = p := by
  rcases List.mem_append.1 (List.mem_of_mem_drop h) with h | h
  · exact .inl h
  · exact .inr (by simpa using h)
theorem ats_push (P : List Pe) (p : Pe) : ats (pushP P p) = (atomsL p.l :: ats P).take 50 := by
  have h1 : ats (P ++ [p]) = atomsL p.l :: ats P := by simp [ats]
  have h2 : ats (pushP P p) = (ats (P ++ [p])).take ((P ++ [p]).length - (P.length + 1 - 50)) := by
    unfold ats pushP
    rw [List.map_drop, List.reverse_drop, List.length_map]
  rw [h2, h1, List.length_append, List.length_singleton]
  by_cases h : P.length + 1 ≤ 50
  · rw [List.take_of_length_le (by rw [List.length_cons, ats_len]; omega), List.take_of_length_le (by rw [List.length_cons, ats_len]; omega)]
  · congr 1
    omega
def PushR (w : World) (B : Nat) (v : Value) (P : List Pe) (p : Pe) (r : Ending) (w' : World) : Prop := ∃ v', r = .returned v' ∧ w'.ownsRow B 32 1 v' (pushP P p).length ((pushP P p).map Pe.v) ∧ Only (fun k => v.ownBlock = some k) w w' ∧ ∀ k, v'.ownBlock = some k → v.ownBlock = some k ∨ w.heap.size ≤ k
theorem PushR.shape {w w' : World} {B : Nat} {v : Value} {P : List Pe} {p : Pe} {r : Ending} (h : PushR w B v P p r w') : ∃ v', r = .returned v' ∧ w'.ownsRow B 32 1 v' (pushP P p).length ((pushP P p).map Pe.v) ∧ Only (fun k => v.ownBlock = some k) w w' ∧ ∀ k, v'.ownBlock = some k → v.ownBlock = some k ∨ w.heap.size ≤ k := h
theorem own_v {w : World} {B : Nat} {v : Value} {l : List Pt} (h : OwnP w B v l) : v.oneCell' = true := by
  rcases h.2 with ⟨rfl, _⟩ | ⟨g, c, cur, rfl, _⟩ <;> rfl
set_option maxRecDepth 100000 in
set_option maxHeartbeats 4000000 in
theorem push_any (B n : Nat) (v : Value) (P : List Pe) (p : Pe) (w : World) (hv : w.ownsRow B 32 1 v n (P.map Pe.v)) (hPn : P.length = n) (hn : n ≤ 50) (hB : B ≤ w.heap.size) (hP : ∀ q ∈ P, q.v.oneCell' = true) (hp : ∃ x m k, p.v = .slice x m k) :
    Calls Tryd.prog 36 #[v, p.v] w fun r w' => PushR w B v P p r w' := by
  obtain ⟨i32, hi32, hz32, hs32, hb32⟩ := infoPl
  obtain ⟨a, c, rfl⟩ := pl_one hv
  obtain ⟨px, pm, pk, hpv⟩ := hp
  have HV := hide hv
  have HPV := hide hpv
  have HP := hide hP
  rw [hpv]
  have b1 : Below w.heap.size w (w.alloc (.cells #[.slice px pm pk] 32)) := (Below.refl _ _).alloc (Nat.le_refl _) _
  have HB1 := hide b1
  have HC1 := hide ((RowAt.new w 32 [.slice px pm pk]).cell 0)
  have HV1 := hide (own_call hv b1)
  clear hv hpv hP b1
  go_enter Tryd.func36, Tryd.ntmps36
  go_wp2_with (at_builtin; refine unhide ?_)
  refine hide ?_
  refine wpList_append_own_at _ rfl _ _ 63 rfl B 32 i32 (.slice none 0 0) 1 24 Tryd.underlying63 hi32 hz32 hs32 hb32 rfl (by decide) (.slice a n c) n (P.map Pe.v) rfl (unhide HV1) ⟨w.heap.size, 0, none⟩ 1 1 [.slice px pm pk] rfl rfl (fun j u hj => by
    match j, hj with
    | 0, hj =>
      obtain rfl : (.slice px pm pk : Value) = u := by simpa using hj
      exact unhide HC1) (fun u hu => by rw [List.mem_singleton] at hu; rw [hu]; rfl) (by unfold maxLen; omega) (by omega) (by rw [size_alloc]; omega) ?_
  intro v' w2 ho2 hg2 _ hat2
  have HO2 := hide ho2
  have o2 : Only (fun k => (Value.slice a n c).ownBlock = some k) w w2 := (Only.of_below (unhide HB1)).trans (grown_only hg2)
  have HN2 : Hid (Only (fun k => (Value.slice a n c).ownBlock = some k) w w2) := hide o2
  have HK2 : Hid (∀ k, v'.ownBlock = some k → (Value.slice a n c).ownBlock = some k ∨ w.heap.size ≤ k) := hide (fun k hk => by
    rcases hat2 with h9 | h9
    · exact .inl (h9 ▸ hk)
    · rw [h9, size_alloc] at hk
      injection hk with hk
      right
      omega)
  obtain ⟨a2, c2, rfl⟩ := pl_one ho2
  obtain ⟨kk, hkk⟩ : ∃ kk : Nat, n + 1 - 50 = kk := ⟨_, rfl⟩
  have hmx : max ((n : Int) + 1 - 50) 0 = (kk : Int) := by omega
  have HD := hide (del_front w2 B (n + 1) kk _ _ ho2 (by omega) (by omega) (fun u hu => by
    rcases List.mem_append.1 hu with hu | hu
    · obtain ⟨q, hq, rfl⟩ := List.mem_map.1 hu
      exact unhide HP q hq
    · rw [List.mem_singleton] at hu; rw [hu]; rfl))
  have HKK := hide hkk
  clear ho2 hg2 o2 hkk hat2 HB1 HC1 HV1 HV
  go_wp2_with fail
  refine Calls.mono (unhide HD) ?_
  intro r w3 h3
  obtain ⟨v3, rfl, o3, n3, k3⟩ := h3.shape
  have HE : Hid (PushR w B (.slice a n c) P p (.returned v3) w3) := hide ⟨v3, rfl, by
    have e1 : (pushP P p).length = n + 1 - kk := by rw [pushP_len, hPn, ← unhide HKK]; omega
    have e2 : (pushP P p).map Pe.v = (P.map Pe.v ++ [Value.slice px pm pk]).drop kk := by unfold pushP; rw [List.map_drop, List.map_append, hPn, unhide HKK, List.map_singleton, unhide HPV]
    rw [e1, e2]
    exact o3, (unhide HN2).next n3 (fun k hk => unhide HK2 k hk), fun k hk => unhide HK2 k (k3 k hk)⟩
  clear h3 o3 n3 k3 HD
  go_wp2_with fail
  go_ret
  exact unhide HE
end Go.Proofs.YtihiengejpjbkaaDoor
