/- A body came: keep. -/
import Derived.Test.YtmkpphkdaiienaaCLv
namespace Go.Proofs.Ytmkpphkdaiienaa
set_option linter.unusedVariables false
set_option linter.unusedSimpArgs false
open Go.ChangeShapes Go.WideShapes Go.ChangeAt Go.RowKit Go.Joins Go.Deep

def CS.withE (s : CS) (want : Int) (e : List Er) (o : Bool) : CS := ⟨s.next, s.q, want, e, o, s.conn⟩
def keepS (s : CS) (k : Int) (v : Value) (b : List Nat) : CS := if k < s.want ∨ 4 ≤ k - s.want ∨ (lookE k s.early).isSome = true then s.withE s.want s.early true else s.withE s.want (s.early ++ [⟨k, v, b⟩]) true
/-- all early bodies are bodies -/
def EOk (s : CS) : Prop := ∀ x ∈ s.early, x.body ≠ []
theorem Own.some {w : World} {v : Value} {l : List Nat} (h : Own w v l) (hl : l ≠ []) : ∃ a c, v = .slice (some a) l.length c := by
  rcases h.2 with ⟨_, h0⟩ | ⟨g, c, cur, rfl, _⟩
  · exact absurd (List.eq_nil_of_length_eq_zero h0) hl
  · exact ⟨_, c, rfl⟩
theorem lookE_mem {k : Int} {E : List Er} {x : Er} (h : lookE k E = some x) : x ∈ E ∧ x.key = k := by
  unfold lookE at h
  exact ⟨List.mem_of_find?_eq_some h, by simpa using List.find?_some h⟩
theorem Ch.owes {w : World} {B g m : Nat} {vq : Value} {s : CS} (h : Ch w B g m vq s) (o : Bool) : Ch (w.setCell ⟨g, 4, none⟩ (.bool o)) B g m vq (s.withE s.want s.early o) ∧ Turn w (w.setCell ⟨g, 4, none⟩ (.bool o)) g m vq vq := by
  have o2 : Only (· = g) w (w.setCell ⟨g, 4, none⟩ (.bool o)) := Only.set (p := (· = g)) (Only.refl _ _) g 4 _ rfl
  have ha : Only (fp g m vq) w (w.setCell ⟨g, 4, none⟩ (.bool o)) := o2.mono (fun i hi => .inl hi)
  refine ⟨⟨h.row.set 4 (.bool o), own_only h.own o2 (fun i hi e => tag_ne h.own h.row (by decide) (e ▸ hi)), h.map.only o2 (fun e => row_map h.row h.map e.symm), fun p hp => h.keep ha (h.bod p hp), fun x hx => h.keep ha (h.erl x hx), h.gB, h.mB⟩, ha, fun k hk => .inl hk⟩
theorem Ch.wants {w : World} {B g m : Nat} {vq : Value} {s : CS} (h : Ch w B g m vq s) (x : Int) : Ch (w.setCell ⟨g, 2, none⟩ (.int .i64 x)) B g m vq (s.withE x s.early s.owes) ∧ Turn w (w.setCell ⟨g, 2, none⟩ (.int .i64 x)) g m vq vq := by
  have o2 : Only (· = g) w (w.setCell ⟨g, 2, none⟩ (.int .i64 x)) := Only.set (p := (· = g)) (Only.refl _ _) g 2 _ rfl
  have ha : Only (fp g m vq) w (w.setCell ⟨g, 2, none⟩ (.int .i64 x)) := o2.mono (fun i hi => .inl hi)
  refine ⟨⟨h.row.set 2 (.int .i64 x), own_only h.own o2 (fun i hi e => tag_ne h.own h.row (by decide) (e ▸ hi)), h.map.only o2 (fun e => row_map h.row h.map e.symm), fun p hp => h.keep ha (h.bod p hp), fun x hx => h.keep ha (h.erl x hx), h.gB, h.mB⟩, ha, fun k hk => .inl hk⟩
theorem Ch.early {w w1 : World} {B g m : Nat} {vq : Value} {s : CS} {E : List Er} (h : Ch w B g m vq s) (ho : Only (· = m) w w1) (hm : MapIs w1 m E) (hb : ∀ x ∈ E, Own w x.v x.body) : Ch w1 B g m vq (s.withE s.want E s.owes) ∧ Turn w w1 g m vq vq := by
  have ha : Only (fp g m vq) w w1 := ho.mono (fun i hi => .inr (.inl hi))
  exact ⟨⟨h.row.only ho (row_map h.row h.map), own_only h.own ho (fun i hi e => own_map h.own h.map (e ▸ hi)), hm, fun p hp => h.keep ha (h.bod p hp), fun x hx => h.keep ha (hb x hx), h.gB, h.mB⟩, ha, fun k hk => .inl hk⟩
def KeepR (B g m : Nat) (vq : Value) (s : CS) (k : Int) (b : List Nat) (w : World) (r : Ending) (w' : World) : Prop := r = .returned (.tuple #[]) ∧ ∃ v, Ch w' B g m vq (keepS s k v b) ∧ Turn w w' g m vq vq
theorem KeepR.no {B g m : Nat} {vq : Value} {s : CS} {k : Int} {b : List Nat} {w : World} (h : Ch w B g m vq s) (hc : k < s.want ∨ 4 ≤ k - s.want ∨ (lookE k s.early).isSome = true) : KeepR B g m vq s k b w (.returned (.tuple #[])) (w.setCell ⟨g, 4, none⟩ (.bool true)) := by
  refine ⟨rfl, .slice none 0 0, ?_⟩
  unfold keepS
  rw [if_pos hc]
  exact h.owes true
theorem Byt.only {p : Nat → Prop} {w w' : World} {v : Value} {l : List Nat} (h : Byt w v l) (ho : Only p w w') (hp : l ≠ [] → ∀ k, v.ownBlock = some k → ¬ p k) : Byt w' v l := by
  rcases h with h | ⟨a, c, rfl, h1, h2, h3⟩
  · exact .inl h
  · refine .inr ⟨a, c, rfl, h1, h2, fun i y hy => ?_⟩
    have hne : l ≠ [] := fun e => by rw [e] at hy; simp at hy
    exact ho.cell (by rw [add_block]; exact hp hne a.block rfl) (h3 i y hy)
/-- bytes that the end's blocks do not hold -/
def Vis (w : World) (B : Nat) (v : Value) (l : List Nat) : Prop := Byt w v l ∧ (l = [] ∨ (∀ k, v.ownBlock = some k → k < B) ∨ Own w v l)
theorem Vis.far {w : World} {B g m : Nat} {v vq : Value} {l : List Nat} {s : CS} (h : Vis w B v l) (c : Ch w B g m vq s) (hl : l ≠ []) : ∀ k, v.ownBlock = some k → ¬ fp g m vq k := by
  intro k hk hf
  rcases h.2 with h | h | h
  · exact hl h
  · have := h k hk
    rcases hf with rfl | rfl | hf
    · have := c.gB; omega
    · have := c.mB; omega
    · have := (c.own.lt k hf).1; omega
  · exact c.far h k hk hf
theorem Vis.keep {w w' : World} {B g m : Nat} {v vq : Value} {l : List Nat} {s : CS} (h : Vis w B v l) (c : Ch w B g m vq s) (ho : Only (fp g m vq) w w') : Vis w' B v l :=
  ⟨h.1.only ho (fun hl => h.far c hl), h.2.imp id (fun h => h.imp id (fun h => c.keep ho h))⟩
theorem Vis.call {w w' : World} {B : Nat} {v : Value} {l : List Nat} (h : Vis w B v l) (hb : Below w.heap.size w w') : Vis w' B v l := ⟨h.1.call hb, h.2.imp id (fun h => h.imp id (fun h => own_call h hb))⟩
theorem own_base {w : World} {B0 : Nat} {v : Value} {l : List Nat} (o1 : w.ownsRow B0 5 1 v l.length (bv l)) : Own w v l := ⟨o1.1, o1.2.imp id (fun ⟨g, c, cur, e1, _, e2⟩ => ⟨g, c, cur, e1, Nat.zero_le _, e2⟩)⟩
theorem keep_end {B g m : Nat} {vq vc : Value} {s : CS} {k : Int} {b : List Nat} {w w1 w2 : World} (h : Ch w B g m vq s) (hc : ¬ (k < s.want ∨ 4 ≤ k - s.want ∨ (lookE k s.early).isSome = true)) (ht : Turn w w1 g m vq vq) (h1 : Ch w1 B g m vq (s.withE s.want s.early true)) (hv : Own w1 vc b) (hm : MapIs w2 m (s.early ++ [⟨k, vc, b⟩])) (ho : Only (· = m) w1 w2) : KeepR B g m vq s k b w (.returned (.tuple #[])) w2 := by
  refine ⟨rfl, vc, ?_⟩
  unfold keepS
  rw [if_neg hc]
  obtain ⟨h2, h3⟩ := h1.early ho hm (fun x hx => by
    rcases List.mem_append.1 hx with hx | hx
    · exact h1.erl x hx
    · obtain rfl := List.mem_singleton.1 hx
      exact hv)
  exact ⟨h2, ht.trans h3⟩
set_option maxRecDepth 100000 in
set_option maxHeartbeats 4000000 in
theorem keep_ok (B g m : Nat) (vq vb : Value) (s : CS) (k : Int) (b : List Nat) (w : World) (h : Ch w B g m vq s) (hE : EOk s) (hv : Vis w B vb b) (hbl : b.length ≤ 1000000000) (hk0 : 0 ≤ k) (hk1 : k ≤ 9223372036854775807) (hw0 : 0 < s.want) (hw1 : s.want ≤ 4611686018427387904) :
    Calls Try.prog 42 #[.pointer (some ⟨g, 2, none⟩), .int .i64 k, vb] w fun r w' => KeepR B g m vq s k b w r w' := by
  have o0 := h.owes true
  have HO := hide o0
  have c4 : w.cell? ⟨g, 4, none⟩ = some (.bool s.owes) := h.row.cell 4
  have f4 : w.frozen? ⟨g, 4, none⟩ = false := h.row.frozen 4
  have c2 : (w.setCell ⟨g, 4, none⟩ (.bool true)).cell? ⟨g, 2, none⟩ = some (.int .i64 s.want) := o0.1.row.cell 2
  have c2' : w.cell? ⟨g, 2, none⟩ = some (.int .i64 s.want) := h.row.cell 2
  have c3 : w.cell? ⟨g, 3, none⟩ = some (.map (some m)) := h.row.cell 3
  have HNO : Hid (k < s.want ∨ 4 ≤ k - s.want ∨ (lookE k s.early).isSome = true → KeepR B g m vq s k b w (.returned (.tuple #[])) (w.setCell ⟨g, 4, none⟩ (.bool true))) := hide (KeepR.no h)
  have hlk : (Instr.lookup 76 (.map (some m)) (.int .i64 k) false).run Try.prog (w.setCell ⟨g, 4, none⟩ (.bool true)) = .ok (valE (lookE k s.early)) (w.setCell ⟨g, 4, none⟩ (.bool true)) := run_look o0.1.map k
  have hq := fun W a n c => Go.run_neq_slice_nil (P := Try.prog) W 32 5 a n c Try.underlying32
  have HV := hide (hv.keep h o0.2.1)
  have HEL : Hid (∀ x, lookE k s.early = some x → ∃ a c, x.v = .slice (some a) x.body.length c) := hide (fun x hx => (h.erl x (lookE_mem hx).1).some (hE x (lookE_mem hx).1))
  obtain ⟨y, hy⟩ : ∃ z, s.want = z := ⟨_, rfl⟩
  rw [hy] at c2 c2' hw0 hw1
  have HY := hide hy
  obtain ⟨ab, cb, hvb⟩ := byt_shape (unhide HV).1
  subst hvb
  have HCH := hide h
  clear h hE hv o0 hy
  by_cases g1 : k < y
  · have g1' : ¬ y ≤ k := by omega
    go_enter Try.func42, Try.ntmps42
    go_wp2_with fail
    go_end0
    exact unhide HNO (.inl (by rw [unhide HY]; exact g1))
  have g1' : y ≤ k := by omega
  by_cases g2 : 4 ≤ k - y
  · go_enter Try.func42, Try.ntmps42
    go_wp2_with fail
    go_end0
    exact unhide HNO (.inr (.inl (by rw [unhide HY]; exact g2)))
  have g2' : k - y < 4 := by omega
  cases hx : lookE k s.early with
  | some x =>
    obtain ⟨a1, c1, e1⟩ := unhide HEL x hx
    rw [hx, show valE (some x) = x.v from rfl, e1] at hlk
    have HX := hide hx
    clear hx e1 g1 g2
    go_enter Try.func42, Try.ntmps42
    go_wp2_with fail
    go_end0
    exact unhide HNO (.inr (.inr (by rw [unhide HX]; rfl)))
  | none =>
    rw [hx, show valE none = .slice none 0 0 from rfl] at hlk
    have HX := hide hx
    have HNC : Hid (¬ (k < s.want ∨ 4 ≤ k - s.want ∨ (lookE k s.early).isSome = true)) := hide (by
      rw [unhide HX, unhide HY]
      rintro (h | h | h)
      · exact g1 h
      · exact g2 h
      · cases h)
    clear hx g1 g2
    go_enter Try.func42, Try.ntmps42
    go_wp2_with fail
    clear hlk c2 c2' c3 c4 f4
    refine wp_region_T (S := fun W => W.cell? ⟨g, 3, none⟩ = some (.map (some m))) (fun i => decide (i < 8)) (by kernel_rfl) ((unhide HO).1.row.cell 3) (fun hHeld => ?_)
    have bd : Below (w.setCell ⟨g, 4, none⟩ (.bool true)).heap.size (w.setCell ⟨g, 4, none⟩ (.bool true)) (w.setCell ⟨g, 4, none⟩ (.bool true)).drew := Below.drew (Below.refl _ _)
    have HC := hide ((unhide HO).1.call bd)
    have HT := hide ((unhide HO).2.trans (Turn.below bd))
    have HV2 := hide ((unhide HV).call bd)
    obtain ⟨wd, hwd⟩ : ∃ z, (w.setCell ⟨g, 4, none⟩ (.bool true)).drew = z := ⟨_, rfl⟩
    rw [hwd] at HC HT HV2 hHeld ⊢
    clear hwd bd HV HO
    refine wpAnyT_take (i := 0) (oi := { dst := some 33, op := Op.move (Operand.tmp 0), type := 103, pos := "receiver.go:27", after := #[], guard := none }) (v := .pointer (some ⟨g, 2, none⟩)) rfl (by kernel_rfl) (by kernel_rfl) (by kernel_rfl) (by kernel_rfl) (fun _ _ _ h => h) (Or.inl ⟨by rfl, ?_⟩) hHeld ?_
    · intro w hSw
      obtain h3 := hSw
      first
        | rfl
        | (go_simp; done)
    try simp only [Act.put, List.setIfInBounds_toArray, List.set_cons_zero, List.set_cons_succ]
    refine wpAnyT_take (i := 1) (oi := { dst := some 34, op := Op.nilCheck (Operand.tmp 33), type := 0, pos := "receiver.go:27", after := #[{ on := 0, ground := Ground.data }], guard := none }) (v := .pointer (some ⟨g, 2, none⟩)) rfl (by kernel_rfl) (by kernel_rfl) (by kernel_rfl) (by kernel_rfl) (fun _ _ _ h => h) (Or.inl ⟨by rfl, ?_⟩) hHeld ?_
    · intro w hSw
      obtain h3 := hSw
      first
        | rfl
        | (go_simp; done)
    try simp only [Act.put, List.setIfInBounds_toArray, List.set_cons_zero, List.set_cons_succ]
    refine wpAnyT_take (i := 2) (oi := { dst := some 35, op := Op.fieldAddr 78 (Operand.tmp 34) 1, type := 0, pos := "receiver.go:27", after := #[{ on := 1, ground := Ground.data }], guard := none }) (v := .pointer (some ⟨g, 3, none⟩)) rfl (by kernel_rfl) (by kernel_rfl) (by kernel_rfl) (by kernel_rfl) (fun _ _ _ h => h) (Or.inl ⟨by rfl, ?_⟩) hHeld ?_
    · intro w hSw
      obtain h3 := hSw
      first
        | rfl
        | (go_simp; done)
    try simp only [Act.put, List.setIfInBounds_toArray, List.set_cons_zero, List.set_cons_succ]
    refine wpAnyT_take (i := 3) (oi := { dst := some 36, op := Op.load 76 (Operand.tmp 35), type := 76, pos := "receiver.go:27", after := #[{ on := 2, ground := Ground.data }], guard := none }) (v := .map (some m)) rfl (by kernel_rfl) (by kernel_rfl) (by kernel_rfl) (by kernel_rfl) (fun _ _ _ h => h) (Or.inl ⟨by rfl, ?_⟩) hHeld ?_
    · intro w hSw
      obtain h3 := hSw
      first
        | rfl
        | (go_simp; done)
    try simp only [Act.put, List.setIfInBounds_toArray, List.set_cons_zero, List.set_cons_succ]
    refine wpAnyT_take (i := 4) (oi := { dst := some 37, op := Op.move (Operand.tmp 1), type := 3, pos := "receiver.go:27", after := #[], guard := none }) (v := .int .i64 k) rfl (by kernel_rfl) (by kernel_rfl) (by kernel_rfl) (by kernel_rfl) (fun _ _ _ h => h) (Or.inl ⟨by rfl, ?_⟩) hHeld ?_
    · intro w hSw
      obtain h3 := hSw
      first
        | rfl
        | (go_simp; done)
    try simp only [Act.put, List.setIfInBounds_toArray, List.set_cons_zero, List.set_cons_succ]
    refine wpAnyT_take (i := 5) (oi := { dst := some 38, op := Op.move (Operand.tmp 2), type := 32, pos := "receiver.go:27", after := #[], guard := none }) (v := .slice ab b.length cb) rfl (by kernel_rfl) (by kernel_rfl) (by kernel_rfl) (by kernel_rfl) (fun _ _ _ h => h) (Or.inl ⟨by rfl, ?_⟩) hHeld ?_
    · intro w hSw
      obtain h3 := hSw
      first
        | rfl
        | (go_simp; done)
    try simp only [Act.put, List.setIfInBounds_toArray, List.set_cons_zero, List.set_cons_succ]
    refine wpAnyT_one (i := 6) (o := { dst := some 39, op := Op.call { callee := Callee.value (Operand.func 14), args := #[Operand.tmp 38], argTypes := #[32] }, type := 32, pos := "receiver.go:27", after := #[{ on := 5, ground := Ground.data }], guard := none }) (by kernel_rfl) rfl (fun K hK => ?_)
    go_simp
    refine Calls.mono (clone_any _ b wd (unhide HV2).1 hbl) ?_
    rintro r w1 ⟨vc, rfl, o1, b1⟩
    have HO1 : Hid (Own w1 vc b) := hide (own_base o1)
    have HC1 := hide ((unhide HC).call b1)
    have HT1 := hide ((unhide HT).trans (Turn.below b1))
    have hS1 : w1.cell? ⟨g, 3, none⟩ = some (.map (some m)) := (unhide HC1).row.cell 3
    obtain ⟨w3, hr3, hm3, ho3⟩ := run_store (unhide HC1).map k vc b (unhide HX)
    have HE := hide (keep_end (unhide HCH) (unhide HNC) (unhide HT1) (unhide HC1) (unhide HO1) hm3 ho3)
    have hS3 : w3.cell? ⟨g, 3, none⟩ = some (.map (some m)) := ho3.cell (row_map (unhide HC1).row (unhide HC1).map) hS1
    clear o1 b1 HC HT HV2 hm3 ho3
    go_wp2_with fail
    refine hK.out _ _ (fun _ => hS1) ?_
    clear hK K
    try simp only [Act.put, List.setIfInBounds_toArray, List.set_cons_zero, List.set_cons_succ]
    refine wpAnyT_one (i := 7) (o := { dst := none, op := Op.mapUpdate 76 (Operand.tmp 36) (Operand.tmp 37) (Operand.tmp 39), type := 0, pos := "receiver.go:27", after := #[{ on := 3, ground := Ground.data }, { on := 4, ground := Ground.data }, { on := 6, ground := Ground.data }, { on := 6, ground := Ground.chain }, { on := 0, ground := Ground.phase }, { on := 1, ground := Ground.phase }, { on := 2, ground := Ground.phase }, { on := 3, ground := Ground.phase }, { on := 4, ground := Ground.phase }, { on := 5, ground := Ground.phase }, { on := 6, ground := Ground.phase }], guard := none }) (by kernel_rfl) rfl (fun K hK => ?_)
    go_simp
    refine hK.out _ _ (fun _ => hS3) ?_
    clear hK K
    try simp only [Act.put, List.setIfInBounds_toArray, List.set_cons_zero, List.set_cons_succ]
    refine wpAnyT_done (by kernel_rfl) ?_ _
    go_wp2_with fail
    go_end0
    exact unhide HE
end Go.Proofs.Ytmkpphkdaiienaa
