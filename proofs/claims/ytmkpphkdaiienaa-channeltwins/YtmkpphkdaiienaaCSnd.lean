/- A body is taken that is to be carried. -/
import Derived.Test.YtmkpphkdaiienaaCRd
namespace Go.Proofs.Ytmkpphkdaiienaa
set_option linter.unusedVariables false
set_option linter.unusedSimpArgs false
open Go.ChangeShapes Go.WideShapes Go.ChangeAt Go.RowKit Go.Joins Go.Deep

def Turn (w w' : World) (g m : Nat) (vq vq' : Value) : Prop := Only (fp g m vq) w w' ∧ ∀ k, vq'.ownBlock = some k → vq.ownBlock = some k ∨ w.heap.size ≤ k
theorem Turn.refl (w : World) (g m : Nat) (vq : Value) : Turn w w g m vq vq := ⟨Only.refl _ _, fun k hk => .inl hk⟩
theorem Turn.trans {a b c : World} {g m : Nat} {v1 v2 v3 : Value} (h : Turn a b g m v1 v2) (k : Turn b c g m v2 v3) : Turn a c g m v1 v3 := by
  refine ⟨h.1.next k.1 (fun i hi => ?_), fun i hi => ?_⟩
  · rcases hi with e | e | e
    · exact .inl (.inl e)
    · exact .inl (.inr (.inl e))
    · rcases h.2 i e with e' | e'
      · exact .inl (.inr (.inr e'))
      · exact .inr e'
  · rcases k.2 i hi with e | e
    · exact h.2 i e
    · exact .inr (Nat.le_trans h.1.size e)
theorem Turn.below {w w' : World} {g m : Nat} {vq : Value} (h : Below w.heap.size w w') : Turn w w' g m vq vq := ⟨Only.of_below h, fun k hk => .inl hk⟩
structure CS.Ok (s : CS) : Prop where
  n0 : 1 ≤ s.next
  n1 : s.next ≤ 1099511627777
  w0 : 1 ≤ s.want
  w1 : s.want ≤ 2305843009213693952
  q : s.q.length ≤ 32
  c : s.conn ≠ 0
theorem infoPar : (Try.prog.info? 96).map (fun i => (i.zero, i.size, i.bytes)) = some (some (.agg #[.int .i64 0, .slice none 0 0, .bool false, .int .i64 0]), 4, 48) := by kernel_rfl
theorem wp_app {o : Oper} {a : Act} {K : Act → World → Prop} {Q : Exit → Act → World → Prop} {W : World} (s x : Operand) (t e : TypeId) (z : Value) (k y : Nat) (ht : Try.prog.underlying t = some (.slice e))
    (hin : (Try.prog.info? e).map (fun i => (i.zero, i.size, i.bytes)) = some (some z, k, y)) (hzs : z.cells.size = k) (hk : 0 < k) (hy : y ≤ 100)
    (ho : o.op = .call { callee := .builtin .append, args := #[s, x], argTypes := #[t, t] }) (B : Nat) (v : Value) (n : Nat) (xs : List Value) (cs : List Value) (q c : Nat)
    (hs : a.eval s = v) (hv : W.ownsRow B e k v n xs) (hn : n ≤ 1000000) (hB : B ≤ W.heap.size) (hx : a.eval x = .slice (some ⟨q, 0, none⟩) 1 c) (hl : cs.length = k) (hq : ∀ (j : Nat) (u : Value), cs[j]? = some u → W.cell? ⟨q, j, none⟩ = some u) (h1 : ∀ u ∈ cs, u.oneCell' = true)
    (h : ∀ g cap w', w'.ownsRow B e k (.slice (some ⟨g, 0, none⟩) (n + 1) cap) (n + 1) (xs ++ cs) → Only (fun k => v.ownBlock = some k) W w' → (v.ownBlock = some g ∨ g = W.heap.size) → K (a.put o.dst (.slice (some ⟨g, 0, none⟩) (n + 1) cap)) w') : o.wp Try.prog a W K Q := by
  obtain ⟨i0, hi, hz, hsz, hb⟩ := info_parts hin
  refine wp_append_lies _ s x t ho B e i0 z k y ht hi hz hsz hb hzs hk v n xs hs hv ⟨q, 0, none⟩ 1 c cs hx (by omega) (fun j u hu => ?_) h1 (by decide) (by unfold maxLen; omega) ?_ hB W.heap.size rfl ?_
  · have := hq j u hu
    rw [Addr.add_lit, Nat.zero_add]
    exact this
  · have : (n + 1) * y ≤ 1000001 * 100 := Nat.mul_le_mul (by omega) hy
    omega
  · intro g cap w' h1 h2 h3 _
    exact h g cap w' h1 (grown_only h2) h3
theorem own_one {w : World} {B s n : Nat} {e : TypeId} {v : Value} {xs : List Value} (h : w.ownsRow B e s v n xs) : ∃ a c, v = .slice a n c := by
  rcases h.2 with ⟨rfl, h0⟩ | ⟨g, c, cur, rfl, _⟩
  · exact ⟨none, 0, by rw [h0]⟩
  · exact ⟨_, c, rfl⟩
set_option maxRecDepth 100000 in
set_option maxHeartbeats 4000000 in
theorem add_ok (B g m : Nat) (vq v : Value) (s : CS) (l : List Nat) (w : World) (h : Ch w B g m vq s) (hk : s.Ok) (hv : Own w v l) (hB : B ≤ w.heap.size) (hq : s.q.length < 32) :
    Calls Try.prog 40 #[.pointer (some ⟨g, 0, none⟩), v] w fun r w' => r = .returned (.tuple #[]) ∧ ∃ vq', Ch w' B g m vq' ⟨s.next + 1, s.q ++ [⟨s.next, v, l, false, 0⟩], s.want, s.early, s.owes, s.conn⟩ ∧ Turn w w' g m vq vq' := by
  obtain ⟨av, cv, rfl⟩ := own_one hv
  have n0 := hk.n0
  have n1 := hk.n1
  have HH := hide (h.call (Below.drew (Below.refl _ w)))
  have HV := hide (own_call hv (Below.drew (Below.refl _ w)))
  have HSZ : Hid (w.drew.heap.size = w.heap.size) := hide rfl
  have HT0 : Hid (Turn w w.drew g m vq vq) := hide (Turn.below (Below.drew (Below.refl _ w)))
  have HO1 := hide hv.one
  go_enter Try.func40, Try.ntmps40
  go_wp2_with fail
  refine wp_region_T (S := fun W => W.cell? ⟨g, 0, none⟩ = some (.int .i64 s.next) ∧ W.cell? ⟨g, 1, none⟩ = some vq) (fun i => decide (i < 13)) (by kernel_rfl) ⟨(unhide HH).row.cell 0, (unhide HH).row.cell 1⟩ (fun hHeld => ?_)
  clear h hv hk
  obtain ⟨wd, hwd⟩ : ∃ z, w.drew = z := ⟨_, rfl⟩
  rw [hwd] at HH HV HSZ HT0 hHeld ⊢
  clear hwd
  refine wpAnyT_take (i := 0) (oi := { dst := some 4, op := Op.move (Operand.tmp 0), type := 101, pos := "sender.go:26", after := #[], guard := none }) (v := .pointer (some ⟨g, 0, none⟩)) rfl (by kernel_rfl) (by kernel_rfl) (by kernel_rfl) (by kernel_rfl) (fun _ _ _ h => h) (Or.inl ⟨by rfl, ?_⟩) hHeld ?_
  · intro w hSw
    obtain ⟨h0, h1⟩ := hSw
    first
      | rfl
      | (go_simp; done)
  try simp only [Act.put, List.setIfInBounds_toArray, List.set_cons_zero, List.set_cons_succ]
  refine wpAnyT_take (i := 1) (oi := { dst := some 5, op := Op.move (Operand.tmp 0), type := 101, pos := "sender.go:26", after := #[], guard := none }) (v := .pointer (some ⟨g, 0, none⟩)) rfl (by kernel_rfl) (by kernel_rfl) (by kernel_rfl) (by kernel_rfl) (fun _ _ _ h => h) (Or.inl ⟨by rfl, ?_⟩) hHeld ?_
  · intro w hSw
    obtain ⟨h0, h1⟩ := hSw
    first
      | rfl
      | (go_simp; done)
  try simp only [Act.put, List.setIfInBounds_toArray, List.set_cons_zero, List.set_cons_succ]
  refine wpAnyT_take (i := 2) (oi := { dst := some 6, op := Op.nilCheck (Operand.tmp 5), type := 0, pos := "sender.go:26", after := #[{ on := 1, ground := Ground.data }], guard := none }) (v := .pointer (some ⟨g, 0, none⟩)) rfl (by kernel_rfl) (by kernel_rfl) (by kernel_rfl) (by kernel_rfl) (fun _ _ _ h => h) (Or.inl ⟨by rfl, ?_⟩) hHeld ?_
  · intro w hSw
    obtain ⟨h0, h1⟩ := hSw
    first
      | rfl
      | (go_simp; done)
  try simp only [Act.put, List.setIfInBounds_toArray, List.set_cons_zero, List.set_cons_succ]
  refine wpAnyT_take (i := 3) (oi := { dst := some 7, op := Op.fieldAddr 75 (Operand.tmp 6) 1, type := 0, pos := "sender.go:26", after := #[{ on := 2, ground := Ground.data }], guard := none }) (v := .pointer (some ⟨g, 1, none⟩)) rfl (by kernel_rfl) (by kernel_rfl) (by kernel_rfl) (by kernel_rfl) (fun _ _ _ h => h) (Or.inl ⟨by rfl, ?_⟩) hHeld ?_
  · intro w hSw
    obtain ⟨h0, h1⟩ := hSw
    first
      | rfl
      | (go_simp; done)
  try simp only [Act.put, List.setIfInBounds_toArray, List.set_cons_zero, List.set_cons_succ]
  refine wpAnyT_take (i := 4) (oi := { dst := some 8, op := Op.load 73 (Operand.tmp 7), type := 73, pos := "sender.go:26", after := #[{ on := 3, ground := Ground.data }], guard := none }) (v := vq) rfl (by kernel_rfl) (by kernel_rfl) (by kernel_rfl) (by kernel_rfl) (fun _ _ _ h => h) (Or.inl ⟨by rfl, ?_⟩) hHeld ?_
  · intro w hSw
    obtain ⟨h0, h1⟩ := hSw
    first
      | rfl
      | (go_simp; done)
  try simp only [Act.put, List.setIfInBounds_toArray, List.set_cons_zero, List.set_cons_succ]
  refine wpAnyT_take (i := 5) (oi := { dst := some 9, op := Op.move (Operand.tmp 0), type := 101, pos := "sender.go:26", after := #[], guard := none }) (v := .pointer (some ⟨g, 0, none⟩)) rfl (by kernel_rfl) (by kernel_rfl) (by kernel_rfl) (by kernel_rfl) (fun _ _ _ h => h) (Or.inl ⟨by rfl, ?_⟩) hHeld ?_
  · intro w hSw
    obtain ⟨h0, h1⟩ := hSw
    first
      | rfl
      | (go_simp; done)
  try simp only [Act.put, List.setIfInBounds_toArray, List.set_cons_zero, List.set_cons_succ]
  refine wpAnyT_take (i := 6) (oi := { dst := some 10, op := Op.nilCheck (Operand.tmp 9), type := 0, pos := "sender.go:26", after := #[{ on := 5, ground := Ground.data }], guard := none }) (v := .pointer (some ⟨g, 0, none⟩)) rfl (by kernel_rfl) (by kernel_rfl) (by kernel_rfl) (by kernel_rfl) (fun _ _ _ h => h) (Or.inl ⟨by rfl, ?_⟩) hHeld ?_
  · intro w hSw
    obtain ⟨h0, h1⟩ := hSw
    first
      | rfl
      | (go_simp; done)
  try simp only [Act.put, List.setIfInBounds_toArray, List.set_cons_zero, List.set_cons_succ]
  refine wpAnyT_take (i := 7) (oi := { dst := some 11, op := Op.fieldAddr 75 (Operand.tmp 10) 0, type := 0, pos := "sender.go:26", after := #[{ on := 6, ground := Ground.data }], guard := none }) (v := .pointer (some ⟨g, 0, none⟩)) rfl (by kernel_rfl) (by kernel_rfl) (by kernel_rfl) (by kernel_rfl) (fun _ _ _ h => h) (Or.inl ⟨by rfl, ?_⟩) hHeld ?_
  · intro w hSw
    obtain ⟨h0, h1⟩ := hSw
    first
      | rfl
      | (go_simp; done)
  try simp only [Act.put, List.setIfInBounds_toArray, List.set_cons_zero, List.set_cons_succ]
  refine wpAnyT_take (i := 8) (oi := { dst := some 12, op := Op.load 3 (Operand.tmp 11), type := 3, pos := "sender.go:26", after := #[{ on := 7, ground := Ground.data }], guard := none }) (v := .int .i64 s.next) rfl (by kernel_rfl) (by kernel_rfl) (by kernel_rfl) (by kernel_rfl) (fun _ _ _ h => h) (Or.inl ⟨by rfl, ?_⟩) hHeld ?_
  · intro w hSw
    obtain ⟨h0, h1⟩ := hSw
    first
      | rfl
      | (go_simp; done)
  try simp only [Act.put, List.setIfInBounds_toArray, List.set_cons_zero, List.set_cons_succ]
  refine wpAnyT_take (i := 9) (oi := { dst := some 13, op := Op.move (Operand.tmp 1), type := 32, pos := "sender.go:26", after := #[], guard := none }) (v := .slice av l.length cv) rfl (by kernel_rfl) (by kernel_rfl) (by kernel_rfl) (by kernel_rfl) (fun _ _ _ h => h) (Or.inl ⟨by rfl, ?_⟩) hHeld ?_
  · intro w hSw
    obtain ⟨h0, h1⟩ := hSw
    first
      | rfl
      | (go_simp; done)
  try simp only [Act.put, List.setIfInBounds_toArray, List.set_cons_zero, List.set_cons_succ]
  refine wpAnyT_take (i := 10) (oi := { dst := some 14, op := Op.build 96 #[(0, Operand.tmp 12), (1, Operand.tmp 13)], type := 96, pos := "sender.go:26", after := #[{ on := 8, ground := Ground.data }, { on := 9, ground := Ground.data }], guard := none }) (v := .agg #[.int .i64 s.next, .slice av l.length cv, .bool false, .int .i64 0]) rfl (by kernel_rfl) (by kernel_rfl) (by kernel_rfl) (by kernel_rfl) (fun _ _ _ h => h) (Or.inl ⟨by rfl, ?_⟩) hHeld ?_
  · intro w hSw
    obtain ⟨h0, h1⟩ := hSw
    first
      | rfl
      | (go_simp; done)
  try simp only [Act.put, List.setIfInBounds_toArray, List.set_cons_zero, List.set_cons_succ]
  refine wpAnyT_one (i := 11) (o := { dst := some 15, op := Op.buildSlice 73 1 #[(0, Operand.tmp 14)], type := 73, pos := "sender.go:26", after := #[{ on := 10, ground := Ground.data }], guard := none }) (by kernel_rfl) rfl (fun K hK => ?_)
  go_simp
  have b1 : Below wd.heap.size wd (wd.alloc (.cells #[.int .i64 s.next, .slice av l.length cv, .bool false, .int .i64 0] 96)) := (Below.refl _ _).alloc (Nat.le_refl _) _
  have HH1 := hide ((unhide HH).call b1)
  have HV1 := hide (own_call (unhide HV) b1)
  have HQ := hide (RowAt.new wd 96 [.int .i64 s.next, .slice av l.length cv, .bool false, .int .i64 0])
  have HT1 := hide ((unhide HT0).trans (Turn.below b1))
  have HB1 : Hid (B ≤ (wd.alloc (.cells #[.int .i64 s.next, .slice av l.length cv, .bool false, .int .i64 0] 96)).heap.size) := hide (by have := b1.size; have := unhide HSZ; omega)
  obtain ⟨w1, hw1⟩ : ∃ z, (wd.alloc (.cells #[.int .i64 s.next, .slice av l.length cv, .bool false, .int .i64 0] 96)) = z := ⟨_, rfl⟩
  obtain ⟨q, hq1⟩ : ∃ z, wd.heap.size = z := ⟨_, rfl⟩
  rw [hw1] at HH1 HV1 HQ HT1 HB1 b1 ⊢
  rw [hq1] at HQ ⊢
  clear hw1 hq1 b1 HH HV HSZ HT0
  have hS2 : w1.cell? ⟨g, 0, none⟩ = some (.int .i64 s.next) ∧ w1.cell? ⟨g, 1, none⟩ = some vq := ⟨(unhide HH1).row.cell 0, (unhide HH1).row.cell 1⟩
  refine hK.out _ _ (fun _ => hS2) ?_
  clear hK K
  clear hS2
  try simp only [Act.put, List.setIfInBounds_toArray, List.set_cons_zero, List.set_cons_succ]
  refine wpAnyT_one (i := 12) (o := { dst := some 16, op := Op.call { callee := Callee.builtin Builtin.append, args := #[Operand.tmp 8, Operand.tmp 15], argTypes := #[73, 73] }, type := 73, pos := "sender.go:26", after := #[{ on := 4, ground := Ground.data }, { on := 11, ground := Ground.data }], guard := none }) (by kernel_rfl) rfl (fun K hK => ?_)
  refine wp_app (Operand.tmp 8) (Operand.tmp 15) 73 96 _ 4 48 Try.underlying73 infoPar (by simp [Value.cells]) (by decide) (by decide) rfl B vq s.q.length (qcs s.q) [.int .i64 s.next, .slice av l.length cv, .bool false, .int .i64 0] q 1 rfl (unhide HH1).own (by omega) (unhide HB1) rfl rfl (fun j u hu => by rw [(unhide HQ).cell]; exact hu) (fun u hu => ?_) (fun k cap w3 hv3 ho3 hk3 => ?_)
  · simp only [List.mem_cons, List.not_mem_nil, or_false] at hu
    rcases hu with rfl | rfl | rfl | rfl
    · rfl
    · exact unhide HO1
    · rfl
    · rfl
  have HV3 := hide hv3
  have HOF : Hid (Only (fp g m vq) w1 w3) := hide (ho3.mono (fun i hi => .inr (.inr hi)))
  have HR3 := hide ((unhide HH1).row.only ho3 (fun e => tag_ne (unhide HH1).own (unhide HH1).row (by decide) e))
  have HK3 := hide hk3
  have HO3 := hide ho3
  have hS3 : w3.cell? ⟨g, 0, none⟩ = some (.int .i64 s.next) ∧ w3.cell? ⟨g, 1, none⟩ = some vq := ⟨(unhide HR3).cell 0, (unhide HR3).cell 1⟩
  clear hv3 ho3 hk3
  refine hK.out _ _ (fun _ => hS3) ?_
  clear hK K
  clear hS3
  try simp only [Act.put, List.setIfInBounds_toArray, List.set_cons_zero, List.set_cons_succ]
  refine wpAnyT_pure (i := 13) (oi := { dst := some 17, op := Op.nilCheck (Operand.tmp 4), type := 0, pos := "sender.go:26", after := #[{ on := 0, ground := Ground.data }, { on := 0, ground := Ground.phase }, { on := 1, ground := Ground.phase }, { on := 2, ground := Ground.phase }, { on := 3, ground := Ground.phase }, { on := 4, ground := Ground.phase }, { on := 5, ground := Ground.phase }, { on := 6, ground := Ground.phase }, { on := 7, ground := Ground.phase }, { on := 8, ground := Ground.phase }, { on := 9, ground := Ground.phase }, { on := 10, ground := Ground.phase }, { on := 11, ground := Ground.phase }, { on := 12, ground := Ground.phase }], guard := none }) (v := .pointer (some ⟨g, 0, none⟩)) rfl (by kernel_rfl) (by kernel_rfl) (by kernel_rfl) rfl (fun _ _ _ h => h) (Or.inl ⟨by rfl, ?_⟩) ?_
  · intro w hSw
    first
      | rfl
      | (go_simp; done)
  try simp only [Act.put, List.setIfInBounds_toArray, List.set_cons_zero, List.set_cons_succ]
  refine wpAnyT_pure (i := 14) (oi := { dst := some 18, op := Op.fieldAddr 75 (Operand.tmp 17) 1, type := 0, pos := "sender.go:26", after := #[{ on := 13, ground := Ground.data }, { on := 0, ground := Ground.phase }, { on := 1, ground := Ground.phase }, { on := 2, ground := Ground.phase }, { on := 3, ground := Ground.phase }, { on := 4, ground := Ground.phase }, { on := 5, ground := Ground.phase }, { on := 6, ground := Ground.phase }, { on := 7, ground := Ground.phase }, { on := 8, ground := Ground.phase }, { on := 9, ground := Ground.phase }, { on := 10, ground := Ground.phase }, { on := 11, ground := Ground.phase }, { on := 12, ground := Ground.phase }], guard := none }) (v := .pointer (some ⟨g, 1, none⟩)) rfl (by kernel_rfl) (by kernel_rfl) (by kernel_rfl) rfl (fun _ _ _ h => h) (Or.inl ⟨by rfl, ?_⟩) ?_
  · intro w hSw
    first
      | rfl
      | (go_simp; done)
  try simp only [Act.put, List.setIfInBounds_toArray, List.set_cons_zero, List.set_cons_succ]
  have e1 : w3.cell? ⟨g, 1, none⟩ = some vq := (unhide HR3).cell 1
  have y1 : w3.frozen? ⟨g, 1, none⟩ = false := (unhide HR3).frozen 1
  refine wpAnyT_one (i := 15) (o := { dst := none, op := Op.store 73 (Operand.tmp 18) (Operand.tmp 16), type := 0, pos := "sender.go:26", after := #[{ on := 14, ground := Ground.data }, { on := 12, ground := Ground.data }, { on := 12, ground := Ground.chain }, { on := 0, ground := Ground.phase }, { on := 1, ground := Ground.phase }, { on := 2, ground := Ground.phase }, { on := 3, ground := Ground.phase }, { on := 4, ground := Ground.phase }, { on := 5, ground := Ground.phase }, { on := 6, ground := Ground.phase }, { on := 7, ground := Ground.phase }, { on := 8, ground := Ground.phase }, { on := 9, ground := Ground.phase }, { on := 10, ground := Ground.phase }, { on := 11, ground := Ground.phase }, { on := 12, ground := Ground.phase }], guard := none }) (by kernel_rfl) rfl (fun K hK => ?_)
  go_simp
  refine hK.out _ _ (fun h => by cases h) ?_
  clear hK K
  try simp only [Act.put, List.setIfInBounds_toArray, List.set_cons_zero, List.set_cons_succ]
  refine wpAnyT_done (by kernel_rfl) ?_ _
  have R4 : RowAt (w3.setCell ⟨g, 1, none⟩ (.slice (some ⟨k, 0, none⟩) (s.q.length + 1) cap)) g 80 [.int .i64 s.next, (.slice (some ⟨k, 0, none⟩) (s.q.length + 1) cap), .int .i64 s.want, .map (some m), .bool s.owes, .int .i64 s.conn] := (unhide HR3).set 1 (.slice (some ⟨k, 0, none⟩) (s.q.length + 1) cap)
  have R5 : RowAt ((w3.setCell ⟨g, 1, none⟩ (.slice (some ⟨k, 0, none⟩) (s.q.length + 1) cap)).setCell ⟨g, 0, none⟩ (.int .i64 (s.next + 1))) g 80 [.int .i64 (s.next + 1), (.slice (some ⟨k, 0, none⟩) (s.q.length + 1) cap), .int .i64 s.want, .map (some m), .bool s.owes, .int .i64 s.conn] := R4.set 0 (.int .i64 (s.next + 1))
  have o5 : Only (· = g) w3 ((w3.setCell ⟨g, 1, none⟩ (.slice (some ⟨k, 0, none⟩) (s.q.length + 1) cap)).setCell ⟨g, 0, none⟩ (.int .i64 (s.next + 1))) := Only.set (p := (· = g)) (Only.set (p := (· = g)) (Only.refl _ _) g 1 _ rfl) g 0 _ rfl
  have HR5 := hide R5
  have HO5 := hide o5
  have f0 : (w3.setCell ⟨g, 1, none⟩ (.slice (some ⟨k, 0, none⟩) (s.q.length + 1) cap)).cell? ⟨g, 0, none⟩ = some (.int .i64 s.next) := R4.cell 0
  have z0 : (w3.setCell ⟨g, 1, none⟩ (.slice (some ⟨k, 0, none⟩) (s.q.length + 1) cap)).frozen? ⟨g, 0, none⟩ = false := R4.frozen 0
  clear R4 R5 o5 e1 y1
  go_wp2_with fail
  go_end0
  have ha : Only (fp g m vq) w1 ((w3.setCell ⟨g, 1, none⟩ (.slice (some ⟨k, 0, none⟩) (s.q.length + 1) cap)).setCell ⟨g, 0, none⟩ (.int .i64 (s.next + 1))) := (unhide HOF).trans ((unhide HO5).mono (fun i hi => .inl hi))
  have hq5 : Own ((w3.setCell ⟨g, 1, none⟩ (.slice (some ⟨k, 0, none⟩) (s.q.length + 1) cap)).setCell ⟨g, 0, none⟩ (.int .i64 (s.next + 1))) (.slice av l.length cv) l := (unhide HH1).keep ha (unhide HV1)
  refine ⟨rfl, _, ⟨unhide HR5, ?_, ?_, ?_, ?_, (unhide HH1).gB, (unhide HH1).mB⟩, (unhide HT1).trans ⟨ha, ?_⟩⟩
  · show World.ownsRow _ B 96 4 _ (s.q ++ [_]).length (qcs (s.q ++ [_]))
    rw [List.length_append, qcs_app]
    exact own_only (unhide HV3) (unhide HO5) (fun i hi e => tag_ne (unhide HV3) (unhide HR3) (by decide) (e ▸ hi))
  · exact ((unhide HH1).map.only (unhide HO3) (own_map (unhide HH1).own (unhide HH1).map)).only (unhide HO5) (fun e => row_map (unhide HH1).row (unhide HH1).map e.symm)
  · intro p hp
    rcases List.mem_append.1 hp with hp | hp
    · exact (unhide HH1).keep ha ((unhide HH1).bod p hp)
    · obtain rfl := List.mem_singleton.1 hp
      exact hq5
  · exact fun x hx => (unhide HH1).keep ha ((unhide HH1).erl x hx)
  · intro i hi
    obtain rfl : k = i := by simpa [Value.ownBlock] using hi
    rcases unhide HK3 with e | e
    · exact .inl e
    · exact .inr (by omega)
end Go.Proofs.Ytmkpphkdaiienaa
