/- A clone of an end. -/
import Derived.Test.YtmkpphkdaiienaaCTx1
import Derived.Test.YtmkpphkdaiienaaCTw2
import Derived.Test.YtmkpphkdaiienaaCTw5
namespace Go.Proofs.Ytmkpphkdaiienaa
set_option linter.unusedVariables false
set_option linter.unusedSimpArgs false
open Go.ChangeShapes Go.WideShapes Go.ChangeAt Go.RowKit Go.Joins Go.Deep

theorem look_self : ∀ {E : List Er} {x : Er}, (E.map Er.key).Nodup → x ∈ E → lookE x.key E = some x
  | [], x, _, h => by cases h
  | y :: r, x, hn, h => by
    rw [List.map_cons, List.nodup_cons] at hn
    rcases List.mem_cons.1 h with rfl | h
    · unfold lookE
      rw [List.find?_cons_of_pos (by simp)]
    · unfold lookE
      rw [List.find?_cons_of_neg (by simp; exact fun e => hn.1 (by rw [e]; exact List.mem_map.2 ⟨x, h, rfl⟩))]
      exact look_self hn.2 h
theorem Inv.early {N : Nat} {c : Int} {s : CS} {F : List Er} (h : Inv N c s) (hs : SimE s.early F) : Inv N c ⟨s.next, s.q, s.want, F, s.owes, s.conn⟩ := by
  refine ⟨h.conn, h.n0, h.n1, h.nN, h.q, h.w0, by have := h.w1; have := hs.len; show s.want + (F.length : Int) ≤ _; omega, h.seq, h.tick, h.body, fun x hx => ?_, ?_⟩
  · have h1 := look_self hs.nf hx
    have h2 := hs.look x.key
    rw [h1] at h2
    cases h3 : lookE x.key s.early with
    | none => rw [h3] at h2; cases h2
    | some y =>
      rw [h3] at h2
      simp only [Option.map_some, Option.some.injEq] at h2
      rw [← h2]
      exact h.eok y (lookE_mem h3).1
  · have h2 := hs.look s.want
    rw [h.nw] at h2
    show lookE s.want F = none
    cases h3 : lookE s.want F with
    | none => rfl
    | some y => rw [h3] at h2; cases h2
def ClonR (N : Nat) (s : CS) (w : World) (r : Ending) (w' : World) : Prop := ∃ g' m' v' s', r = .returned (.pointer (some ⟨g', 0, none⟩)) ∧ Ch w' w.heap.size g' m' v' s' ∧ Sim s s' ∧ Inv N 1 s' ∧ Below w.heap.size w w'
theorem ClonR.shape {N : Nat} {s : CS} {w : World} {r : Ending} {w' : World} (h : ClonR N s w r w') : ∃ g' m' v' s', r = .returned (.pointer (some ⟨g', 0, none⟩)) ∧ Ch w' w.heap.size g' m' v' s' ∧ Sim s s' ∧ Inv N 1 s' ∧ Below w.heap.size w w' := h
theorem clon_end {B g m N : Nat} {vq v9 : Value} {s : CS} {E : List Er} {m' : Nat} {w w3 w4 : World} (h : Ch w B g m vq s) (i : Inv N 1 s) (o : w3.ownsRow w.heap.size 96 4 v9 s.q.length (qcs s.q)) (b3 : Below w.heap.size w w3) (hm : MapIs w4 m' E) (hml : w3.heap.size ≤ m') (hs : SimE s.early E) (ho : ∀ x ∈ E, w4.ownsRow w3.heap.size 5 1 x.v x.body.length (bv x.body)) (b4 : Below w3.heap.size w3 w4) :
    ClonR N s w (.returned (.pointer (some ⟨w4.heap.size, 0, none⟩))) (w4.alloc (.cells #[.int .i64 s.next, v9, .int .i64 s.want, .map (some m'), .bool s.owes, .int .i64 s.conn] 80)) := by
  have b5 : Below w4.heap.size w4 (w4.alloc (.cells #[.int .i64 s.next, v9, .int .i64 s.want, .map (some m'), .bool s.owes, .int .i64 s.conn] 80)) := (Below.refl _ _).alloc (Nat.le_refl _) _
  have b34 : Below w.heap.size w w4 := b3.trans (b4.mono b3.size)
  have b35 := b34.trans (b5.mono b34.size)
  refine ⟨_, m', v9, ⟨s.next, s.q, s.want, E, s.owes, s.conn⟩, rfl, ⟨RowAt.new w4 80 _, own_call (own_call o b4) b5, hm.only (Only.of_below (p := fun _ => False) b5) id, fun p hp => own_call (h.bod p hp) b35, fun x hx => own_call (own_base (ho x hx)) b5, b34.size, Nat.le_trans b3.size hml⟩, ⟨rfl, rfl, rfl, hs, rfl, rfl⟩, i.early hs, b35⟩
set_option maxRecDepth 100000 in
set_option maxHeartbeats 4000000 in
theorem clone36 (B g m N : Nat) (vq : Value) (s : CS) (w : World) (h : Ch w B g m vq s) (i : Inv N 1 s) (hbl : ∀ x ∈ s.early, x.body.length ≤ 1000000000) :
    Calls Try.prog 36 #[.pointer (some ⟨g, 0, none⟩)] w fun r w' => ClonR N s w r w' := by
  have HC := hide h
  have HI := hide i
  have HBL := hide hbl
  have K := hide (made_ok g s.conn w (h.row.cell 5) (by rw [i.conn]; decide))
  clear h i hbl
  go_enter Try.func36, Try.ntmps36
  go_wp2_with fail
  refine Calls.mono (unhide K) ?_
  rintro r w' ⟨rfl, rfl⟩
  clear K
  go_wp2_with fail
  refine wp_region_T (S := fun W => W.cell? ⟨g, 5, none⟩ = some (.int .i64 s.conn)) (fun i => decide (i < 14)) (by kernel_rfl) ((unhide HC).row.cell 5) (fun hHeld => ?_)
  have bd : Below w.heap.size w w.drew := Below.drew (Below.refl _ _)
  have HC1 := hide ((unhide HC).call bd)
  have HB1 := hide bd
  obtain ⟨w2, hw2⟩ : ∃ z, w.drew = z := ⟨_, rfl⟩
  rw [hw2] at HC1 HB1 hHeld ⊢
  clear hw2 bd
  refine wpAnyT_take (i := 0) (oi := { dst := some 6, op := Op.move (Operand.tmp 0), type := 23, pos := "channel.go:121", after := #[], guard := none }) (v := .pointer (some ⟨g, 0, none⟩)) rfl (by kernel_rfl) (by kernel_rfl) (by kernel_rfl) (by kernel_rfl) (fun _ _ _ h => h) (Or.inl ⟨by rfl, ?_⟩) hHeld ?_
  · intro w hSw
    have h0 := hSw
    first
      | rfl
      | (go_simp; done)
  try simp only [Act.put, List.setIfInBounds_toArray, List.set_cons_zero, List.set_cons_succ]
  refine wpAnyT_take (i := 1) (oi := { dst := some 7, op := Op.nilCheck (Operand.tmp 6), type := 0, pos := "channel.go:121", after := #[{ on := 0, ground := Ground.data }], guard := none }) (v := .pointer (some ⟨g, 0, none⟩)) rfl (by kernel_rfl) (by kernel_rfl) (by kernel_rfl) (by kernel_rfl) (fun _ _ _ h => h) (Or.inl ⟨by rfl, ?_⟩) hHeld ?_
  · intro w hSw
    have h0 := hSw
    first
      | rfl
      | (go_simp; done)
  try simp only [Act.put, List.setIfInBounds_toArray, List.set_cons_zero, List.set_cons_succ]
  refine wpAnyT_take (i := 2) (oi := { dst := some 8, op := Op.fieldAddr 80 (Operand.tmp 7) 0, type := 0, pos := "channel.go:121", after := #[{ on := 1, ground := Ground.data }], guard := none }) (v := .pointer (some ⟨g, 0, none⟩)) rfl (by kernel_rfl) (by kernel_rfl) (by kernel_rfl) (by kernel_rfl) (fun _ _ _ h => h) (Or.inl ⟨by rfl, ?_⟩) hHeld ?_
  · intro w hSw
    have h0 := hSw
    first
      | rfl
      | (go_simp; done)
  try simp only [Act.put, List.setIfInBounds_toArray, List.set_cons_zero, List.set_cons_succ]
  refine wpAnyT_take (i := 4) (oi := { dst := some 10, op := Op.move (Operand.tmp 0), type := 23, pos := "channel.go:121", after := #[], guard := none }) (v := .pointer (some ⟨g, 0, none⟩)) rfl (by kernel_rfl) (by kernel_rfl) (by kernel_rfl) (by kernel_rfl) (fun _ _ _ h => h) (Or.inl ⟨by rfl, ?_⟩) hHeld ?_
  · intro w hSw
    have h0 := hSw
    first
      | rfl
      | (go_simp; done)
  try simp only [Act.put, List.setIfInBounds_toArray, List.set_cons_zero, List.set_cons_succ]
  refine wpAnyT_take (i := 5) (oi := { dst := some 11, op := Op.nilCheck (Operand.tmp 10), type := 0, pos := "channel.go:121", after := #[{ on := 4, ground := Ground.data }], guard := none }) (v := .pointer (some ⟨g, 0, none⟩)) rfl (by kernel_rfl) (by kernel_rfl) (by kernel_rfl) (by kernel_rfl) (fun _ _ _ h => h) (Or.inl ⟨by rfl, ?_⟩) hHeld ?_
  · intro w hSw
    have h0 := hSw
    first
      | rfl
      | (go_simp; done)
  try simp only [Act.put, List.setIfInBounds_toArray, List.set_cons_zero, List.set_cons_succ]
  refine wpAnyT_take (i := 6) (oi := { dst := some 12, op := Op.fieldAddr 80 (Operand.tmp 11) 1, type := 0, pos := "channel.go:121", after := #[{ on := 5, ground := Ground.data }], guard := none }) (v := .pointer (some ⟨g, 2, none⟩)) rfl (by kernel_rfl) (by kernel_rfl) (by kernel_rfl) (by kernel_rfl) (fun _ _ _ h => h) (Or.inl ⟨by rfl, ?_⟩) hHeld ?_
  · intro w hSw
    have h0 := hSw
    first
      | rfl
      | (go_simp; done)
  try simp only [Act.put, List.setIfInBounds_toArray, List.set_cons_zero, List.set_cons_succ]
  refine wpAnyT_take (i := 8) (oi := { dst := some 14, op := Op.move (Operand.tmp 0), type := 23, pos := "channel.go:121", after := #[], guard := none }) (v := .pointer (some ⟨g, 0, none⟩)) rfl (by kernel_rfl) (by kernel_rfl) (by kernel_rfl) (by kernel_rfl) (fun _ _ _ h => h) (Or.inl ⟨by rfl, ?_⟩) hHeld ?_
  · intro w hSw
    have h0 := hSw
    first
      | rfl
      | (go_simp; done)
  try simp only [Act.put, List.setIfInBounds_toArray, List.set_cons_zero, List.set_cons_succ]
  refine wpAnyT_take (i := 9) (oi := { dst := some 15, op := Op.nilCheck (Operand.tmp 14), type := 0, pos := "channel.go:121", after := #[{ on := 8, ground := Ground.data }], guard := none }) (v := .pointer (some ⟨g, 0, none⟩)) rfl (by kernel_rfl) (by kernel_rfl) (by kernel_rfl) (by kernel_rfl) (fun _ _ _ h => h) (Or.inl ⟨by rfl, ?_⟩) hHeld ?_
  · intro w hSw
    have h0 := hSw
    first
      | rfl
      | (go_simp; done)
  try simp only [Act.put, List.setIfInBounds_toArray, List.set_cons_zero, List.set_cons_succ]
  refine wpAnyT_take (i := 10) (oi := { dst := some 16, op := Op.fieldAddr 80 (Operand.tmp 15) 2, type := 0, pos := "channel.go:121", after := #[{ on := 9, ground := Ground.data }], guard := none }) (v := .pointer (some ⟨g, 5, none⟩)) rfl (by kernel_rfl) (by kernel_rfl) (by kernel_rfl) (by kernel_rfl) (fun _ _ _ h => h) (Or.inl ⟨by rfl, ?_⟩) hHeld ?_
  · intro w hSw
    have h0 := hSw
    first
      | rfl
      | (go_simp; done)
  try simp only [Act.put, List.setIfInBounds_toArray, List.set_cons_zero, List.set_cons_succ]
  refine wpAnyT_take (i := 11) (oi := { dst := some 17, op := Op.load 3 (Operand.tmp 16), type := 3, pos := "channel.go:121", after := #[{ on := 10, ground := Ground.data }], guard := none }) (v := .int .i64 s.conn) rfl (by kernel_rfl) (by kernel_rfl) (by kernel_rfl) (by kernel_rfl) (fun _ _ _ h => h) (Or.inl ⟨by rfl, ?_⟩) hHeld ?_
  · intro w hSw
    have h0 := hSw
    first
      | rfl
      | (go_simp; done)
  try simp only [Act.put, List.setIfInBounds_toArray, List.set_cons_zero, List.set_cons_succ]
  refine wpAnyT_one (i := 3) (o := { dst := some 9, op := Op.call { callee := Callee.value (Operand.func 54), args := #[Operand.tmp 8], argTypes := #[75] }, type := 75, pos := "channel.go:121", after := #[{ on := 2, ground := Ground.data }], guard := none }) (by kernel_rfl) rfl (fun K hK => ?_)
  go_simp
  refine Calls.mono (twinS_any B g m vq s w2 (unhide HC1) (unhide HI).q) ?_
  rintro r9 w3 ⟨v9, rfl, o9, b9⟩
  have HO := hide (own_mono o9 (unhide HB1).size)
  have HB3 := hide ((unhide HB1).trans (b9.mono (unhide HB1).size))
  have HC3 := hide ((unhide HC1).call b9)
  have hS3 := (unhide HC3).row.cell 5
  simp only [List.getElem?_cons_zero, List.getElem?_cons_succ] at hS3
  obtain ⟨av, cv, hv9⟩ := own_one o9
  subst hv9
  clear o9 b9 HC1 HB1 hHeld
  go_wp2_with fail
  refine hK.out _ _ (fun _ => hS3) ?_
  clear hK K
  try simp only [Act.put, List.setIfInBounds_toArray, List.set_cons_zero, List.set_cons_succ]
  refine wpAnyT_one (i := 7) (o := { dst := some 13, op := Op.call { callee := Callee.value (Operand.func 55), args := #[Operand.tmp 12], argTypes := #[78] }, type := 78, pos := "channel.go:121", after := #[{ on := 6, ground := Ground.data }, { on := 3, ground := Ground.chain }], guard := none }) (by kernel_rfl) rfl (fun K hK => ?_)
  go_simp
  refine Calls.mono (twinR_any B g m vq s w3 (unhide HC3) (unhide HBL)) ?_
  rintro r9 w4 ⟨m4, E4, rfl, hm4, hmap4, hsim4, ho4, b4⟩
  have HE := hide (clon_end (unhide HC) (unhide HI) (unhide HO) (unhide HB3) hmap4 hm4 hsim4 ho4 b4)
  have hS4 := ((unhide HC3).call b4).row.cell 5
  simp only [List.getElem?_cons_zero, List.getElem?_cons_succ] at hS4
  have hS5 := cell_keep ((Below.refl w4.heap.size w4).alloc (Nat.le_refl _) (.cells #[.int .i64 s.next, .slice av s.q.length cv, .int .i64 s.want, .map (some m4), .bool s.owes, .int .i64 s.conn] 80)) (lt_of_cell hS4) hS4
  clear hm4 hmap4 hsim4 ho4 b4 HC3 HB3 HO
  go_wp2_with fail
  refine hK.out _ _ (fun _ => hS4) ?_
  clear hK K
  try simp only [Act.put, List.setIfInBounds_toArray, List.set_cons_zero, List.set_cons_succ]
  refine wpAnyT_take (i := 12) (oi := { dst := some 18, op := Op.build 80 #[(0, Operand.tmp 9), (1, Operand.tmp 13), (2, Operand.tmp 17)], type := 80, pos := "channel.go:121", after := #[{ on := 3, ground := Ground.data }, { on := 7, ground := Ground.data }, { on := 11, ground := Ground.data }], guard := none }) (v := .agg #[.int .i64 s.next, .slice av s.q.length cv, .int .i64 s.want, .map (some m4), .bool s.owes, .int .i64 s.conn]) rfl (by kernel_rfl) (by kernel_rfl) (by kernel_rfl) (by kernel_rfl) (fun _ _ _ h => h) (Or.inl ⟨by rfl, ?_⟩) hS4 ?_
  · intro w hSw
    have h0 := hSw
    first
      | rfl
      | (go_simp; done)
  try simp only [Act.put, List.setIfInBounds_toArray, List.set_cons_zero, List.set_cons_succ]
  refine wpAnyT_one (i := 13) (o := { dst := some 19, op := Op.box 80 (Operand.tmp 18), type := 23, pos := "channel.go:121", after := #[{ on := 12, ground := Ground.data }], guard := none }) (by kernel_rfl) rfl (fun K hK => ?_)
  go_simp
  refine hK.out _ _ (fun _ => hS5) ?_
  clear hK K
  try simp only [Act.put, List.setIfInBounds_toArray, List.set_cons_zero, List.set_cons_succ]
  refine wpAnyT_one (i := 14) (o := { dst := some 2, op := Op.assign (Operand.tmp 19), type := 23, pos := "channel.go:121", after := #[{ on := 13, ground := Ground.data }, { on := 7, ground := Ground.chain }, { on := 0, ground := Ground.phase }, { on := 1, ground := Ground.phase }, { on := 2, ground := Ground.phase }, { on := 3, ground := Ground.phase }, { on := 4, ground := Ground.phase }, { on := 5, ground := Ground.phase }, { on := 6, ground := Ground.phase }, { on := 7, ground := Ground.phase }, { on := 8, ground := Ground.phase }, { on := 9, ground := Ground.phase }, { on := 10, ground := Ground.phase }, { on := 11, ground := Ground.phase }, { on := 12, ground := Ground.phase }, { on := 13, ground := Ground.phase }], guard := none }) (by kernel_rfl) rfl (fun K hK => ?_)
  go_simp
  refine hK.out _ _ (fun h => by cases h) ?_
  clear hK K
  try simp only [Act.put, List.setIfInBounds_toArray, List.set_cons_zero, List.set_cons_succ]
  refine wpAnyT_done (by kernel_rfl) ?_ _
  go_wp2_with fail
  go_ret
  exact unhide HE
end Go.Proofs.Ytmkpphkdaiienaa
