/- A clone of the receiving side. -/
import Derived.Test.YtmkpphkdaiienaaCTw4
import Derived.Test.YtmkpphkdaiienaaCTw2
import Derived.Test.YtmkpphkdaiienaaCNw
import Derived.Maps.RangeRun
namespace Go.Proofs.Ytmkpphkdaiienaa
set_option linter.unusedVariables false
set_option linter.unusedSimpArgs false
open Go.ChangeShapes Go.WideShapes Go.ChangeAt Go.RowKit Go.Joins Go.Deep

theorem run_makeMap_hint (n : Int) (w : World) : (Instr.makeMap 76 (some (.int .i64 n))).run Try.prog w = .ok (.map (some w.heap.size)) (w.alloc (.map #[] 0)) := by
  simp [Instr.makeMap, run_underlying Try.underlying76, asInt, asIntOf, newObj, Sem.run, Result.andThen]
theorem own_iter {w : World} {B s n r : Nat} {e : TypeId} {v : Value} {xs : List Value} {a : Option Nat} {b c : Nat} {d : Array Nat} (h : w.ownsRow B e s v n xs) (hr : w.heap[r]? = some (.mapIter a b d c)) : v.ownBlock ≠ some r := by
  rcases h.2 with ⟨rfl, _⟩ | ⟨g, c', cur, rfl, _, hrow, _⟩
  · intro h9; cases h9
  · intro h9
    have h8 : g = r := by injection h9
    subst h8
    rw [hr] at hrow
    cases hrow
set_option maxRecDepth 100000 in
set_option maxHeartbeats 4000000 in
theorem twinR_any (B g m : Nat) (vq : Value) (s : CS) (w : World) (h : Ch w B g m vq s) (hbl : ∀ x ∈ s.early, x.body.length ≤ 1000000000) :
    Calls Try.prog 55 #[.pointer (some ⟨g, 2, none⟩)] w fun r w' => ∃ m' E', r = .returned (.agg #[.int .i64 s.want, .map (some m'), .bool s.owes]) ∧ w.heap.size ≤ m' ∧ MapIs w' m' E' ∧ SimE s.early E' ∧ (∀ x ∈ E', w'.ownsRow w.heap.size 5 1 x.v x.body.length (bv x.body)) ∧ Below w.heap.size w w' := by
  have HC := hide h
  have HBL := hide hbl
  have hmap := h.map
  have q3 : w.cell? ⟨g, 3, none⟩ = some (.map (some m)) := h.row.cell 3
  have hml := hmap.lt
  obtain ⟨es, clk, hb, he, hst⟩ := hmap
  have HE := hide he
  have HST := hide hst
  have b1 : Below w.heap.size w (w.alloc (.cells #[.int .i64 0, .map none, .bool false] 78)) := (Below.refl _ _).alloc (Nat.le_refl _) _
  have hb1 : (w.alloc (.cells #[.int .i64 0, .map none, .bool false] 78)).heap[m]? = some (.map es clk) := by rw [heap_alloc_old w _ hml, hb]
  have hb2 : ((w.alloc (.cells #[.int .i64 0, .map none, .bool false] 78)).alloc (.map #[] 0)).heap[m]? = some (.map es clk) := by rw [heap_alloc_old _ _ (by rw [size_alloc]; omega), hb1]
  have r3 : (w.alloc (.cells #[.int .i64 0, .map none, .bool false] 78)).cell? ⟨g, 3, none⟩ = some (.map (some m)) := cell_keep b1 (lt_of_cell q3) q3
  have r4 : ((w.alloc (.cells #[.int .i64 0, .map none, .bool false] 78)).alloc (.map #[] 0)).cell? ⟨g, 3, none⟩ = some (.map (some m)) := cell_keep (b1.alloc b1.size _) (lt_of_cell q3) q3
  have hmm := run_makeMap_hint
  have hlen := run_len_map (P := Try.prog) (w := w.alloc (.cells #[.int .i64 0, .map none, .bool false] 78)) 76 3 m es clk Try.underlying76 hb1
  have hrg := run_range_map (P := Try.prog) ((w.alloc (.cells #[.int .i64 0, .map none, .bool false] 78)).alloc (.map #[] 0)) 76 3 32 m es clk Try.underlying76 hb2
  have b2 : Below w.heap.size w ((w.alloc (.cells #[.int .i64 0, .map none, .bool false] 78)).alloc (.map #[] 0)) := b1.alloc b1.size _
  have b3 : Below w.heap.size w (((w.alloc (.cells #[.int .i64 0, .map none, .bool false] 78)).alloc (.map #[] 0)).alloc (.mapIter (some m) clk #[] clk)) := b2.alloc b2.size _
  have hit : (((w.alloc (.cells #[.int .i64 0, .map none, .bool false] 78)).alloc (.map #[] 0)).alloc (.mapIter (some m) clk #[] clk)).heap[w.heap.size + 1 + 1]? = some (.mapIter (some m) clk #[] clk) := by
    have h9 := heap_alloc_new ((w.alloc (.cells #[.int .i64 0, .map none, .bool false] 78)).alloc (.map #[] 0)) (.mapIter (some m) clk #[] clk)
    rw [size_alloc, size_alloc] at h9
    exact h9
  have hmp : (((w.alloc (.cells #[.int .i64 0, .map none, .bool false] 78)).alloc (.map #[] 0)).alloc (.mapIter (some m) clk #[] clk)).heap[w.heap.size + 1]? = some (.map #[] 0) := by
    rw [heap_alloc_old _ _ (by rw [size_alloc, size_alloc]; omega)]
    exact map_new w _
  have c2 : Below (w.alloc (.cells #[.int .i64 0, .map none, .bool false] 78)).heap.size (w.alloc (.cells #[.int .i64 0, .map none, .bool false] 78)) ((w.alloc (.cells #[.int .i64 0, .map none, .bool false] 78)).alloc (.map #[] 0)) := (Below.refl _ _).alloc (Nat.le_refl _) _
  have c3 : Below (w.alloc (.cells #[.int .i64 0, .map none, .bool false] 78)).heap.size (w.alloc (.cells #[.int .i64 0, .map none, .bool false] 78)) (((w.alloc (.cells #[.int .i64 0, .map none, .bool false] 78)).alloc (.map #[] 0)).alloc (.mapIter (some m) clk #[] clk)) := c2.alloc c2.size _
  have HST0 := hide (And.intro hit (And.intro hmp (And.intro b3 ((RowAt.new w 78 [.int .i64 0, .map none, .bool false]).below c3 (by rw [size_alloc]; omega)))))
  clear h hbl he hst b2 b3 hit hmp c2 c3
  go_enter Try.func55, Try.ntmps55
  go_wp2_with fail
  go_loopw [] (fun wr => ∃ (seen : Array Nat) (F : List Er), wr.heap[w.heap.size + 1 + 1]? = some (.mapIter (some m) clk seen clk) ∧ Hid (MapIs wr (w.heap.size + 1) F ∧ Below w.heap.size w wr ∧ Vs es s.early seen F ∧ (∀ y ∈ F, wr.ownsRow w.heap.size 5 1 y.v y.body.length (bv y.body)) ∧ RowAt wr w.heap.size 78 [.int .i64 0, .map none, .bool false])) (fun wr => (leftOf es (wr.iterSeen (w.heap.size + 1 + 1))).size)
  case atStart => exact ⟨#[], [], (unhide HST0).1, hide ⟨⟨#[], 0, (unhide HST0).2.1, rfl, MapKept.stamped_empty 0⟩, (unhide HST0).2.2.1, Vs.start _ _, fun y hy => (by cases hy), (unhide HST0).2.2.2⟩⟩
  case round =>
    obtain ⟨seen, F, hr, HI⟩ := hrel
    have hb' : wr.heap[m]? = some (.map es clk) := ((Only.of_below (p := fun _ => False) (unhide HI).2.1).block m hml id).trans hb
    have law := run_next_at (P := Try.prog) wr 0 (w.heap.size + 1 + 1) m clk clk seen es clk hr hb' (unhide HST).1 (Nat.le_refl _)
    rcases law with ⟨h0, hrun⟩ | ⟨e, he, w1, hw1, hrun⟩
    · have hnx : ∀ ty, (Instr.next (.pointer (some ⟨w.heap.size + 1 + 1, 0, none⟩)) false ty).run Try.prog wr = _ := fun _ => hrun
      have h0' : ∀ e ∈ es.toList, seen.contains e.born = true := fun e he9 => by
        cases hc : seen.contains e.born with
        | true => rfl
        | false =>
          exfalso
          have hm9 : e ∈ leftOf es seen := by
            unfold leftOf
            exact Array.mem_filter.2 ⟨Array.mem_toList_iff.1 he9, by simp at hc; simpa using hc⟩
          have := Array.size_pos_of_mem hm9
          omega
      have hkn : (s.early.map Er.key).Nodup := by
        have h9 := congrArg (List.map Prod.fst) (unhide HE)
        rw [List.map_map, List.map_map] at h9
        have h8 : (es.toList.map (·.key)).Nodup := (unhide HST).2.2
        have h7 : es.toList.map (·.key) = (s.early.map Er.key).map (Value.int .i64) := by rw [List.map_map]; exact h9
        rw [h7] at h8
        unfold List.Nodup at h8 ⊢
        rw [List.pairwise_map] at h8
        exact h8.imp (fun h6 e6 => h6 (by rw [e6]))
      have hall : ∀ x ∈ s.early, ∃ y ∈ F, y.key = x.key := fun x hx => by
        have h9 : (Value.int .i64 x.key, x.v) ∈ s.early.map (fun x => (Value.int .i64 x.key, x.v)) := List.mem_map.2 ⟨x, hx, rfl⟩
        rw [← unhide HE] at h9
        obtain ⟨e, he9, h8⟩ := List.mem_map.1 h9
        simp only [Prod.mk.injEq] at h8
        obtain ⟨y, hy, h7⟩ := (unhide HI).2.2.1.all e he9 (h0' e he9)
        rw [h8.1] at h7
        injection h7 with _ h7
        exact ⟨y, hy, h7.symm⟩
      have hfr : ∀ y ∈ F, ∃ x ∈ s.early, x.key = y.key := fun y hy => by
        obtain ⟨x, hx, h9, _⟩ := (unhide HI).2.2.1.from_ y hy
        exact ⟨x, hx, h9⟩
      have HSIM : Hid (SimE s.early F) := hide (SimE.of (keys_len hkn (unhide HI).2.2.1.nf hall hfr) hkn (unhide HI).2.2.1.nf (fun x hx => by
        obtain ⟨y, hy, h9⟩ := hall x hx
        obtain ⟨x', hx', h8, h7⟩ := (unhide HI).2.2.1.from_ y hy
        have := key_uniq hkn hx' hx (by rw [h8, h9])
        subst this
        exact ⟨y, hy, h9, h7.symm⟩) hfr)
      clear h0' hkn hall hfr
      go_wp2_with fail
      have HC1 := hide ((unhide HC).call (unhide HI).2.1)
      refine wp_region_T (S := fun W => W.cell? ⟨g, 2, none⟩ = some (.int .i64 s.want) ∧ W.cell? ⟨g, 4, none⟩ = some (.bool s.owes)) (fun i => decide (i < 10)) (by kernel_rfl) ⟨(unhide HC1).row.cell 2, (unhide HC1).row.cell 4⟩ (fun hHeld => ?_)
      have bd : Below wr.heap.size wr wr.drew := Below.drew (Below.refl _ _)
      have HI2 := hide (And.intro ((unhide HI).1.only (Only.of_below (p := fun _ => False) bd) id) (And.intro ((unhide HI).2.1.trans (bd.mono (unhide HI).2.1.size)) (And.intro (fun y hy => own_call ((unhide HI).2.2.2.1 y hy) bd) (unhide HI).2.2.2.2.drew)))
      obtain ⟨w2, hw2⟩ : ∃ z, wr.drew = z := ⟨_, rfl⟩
      rw [hw2] at HI2 hHeld ⊢
      clear hw2 bd HI HC1
      refine wpAnyT_take (i := 0) (oi := { dst := some 26, op := Op.move (Operand.tmp 0), type := 103, pos := "receiver.go:47", after := #[], guard := none }) (v := .pointer (some ⟨g, 2, none⟩)) rfl (by kernel_rfl) (by kernel_rfl) (by kernel_rfl) (by kernel_rfl) (fun _ _ _ h => h) (Or.inl ⟨by rfl, ?_⟩) hHeld ?_
      · intro w hSw
        obtain ⟨k0, k1⟩ := hSw
        first
          | rfl
          | (go_simp; done)
      try simp only [Act.put, List.setIfInBounds_toArray, List.set_cons_zero, List.set_cons_succ]
      refine wpAnyT_take (i := 1) (oi := { dst := some 27, op := Op.nilCheck (Operand.tmp 26), type := 0, pos := "receiver.go:47", after := #[{ on := 0, ground := Ground.data }], guard := none }) (v := .pointer (some ⟨g, 2, none⟩)) rfl (by kernel_rfl) (by kernel_rfl) (by kernel_rfl) (by kernel_rfl) (fun _ _ _ h => h) (Or.inl ⟨by rfl, ?_⟩) hHeld ?_
      · intro w hSw
        obtain ⟨k0, k1⟩ := hSw
        first
          | rfl
          | (go_simp; done)
      try simp only [Act.put, List.setIfInBounds_toArray, List.set_cons_zero, List.set_cons_succ]
      refine wpAnyT_take (i := 2) (oi := { dst := some 28, op := Op.fieldAddr 78 (Operand.tmp 27) 0, type := 0, pos := "receiver.go:47", after := #[{ on := 1, ground := Ground.data }], guard := none }) (v := .pointer (some ⟨g, 2, none⟩)) rfl (by kernel_rfl) (by kernel_rfl) (by kernel_rfl) (by kernel_rfl) (fun _ _ _ h => h) (Or.inl ⟨by rfl, ?_⟩) hHeld ?_
      · intro w hSw
        obtain ⟨k0, k1⟩ := hSw
        first
          | rfl
          | (go_simp; done)
      try simp only [Act.put, List.setIfInBounds_toArray, List.set_cons_zero, List.set_cons_succ]
      refine wpAnyT_take (i := 3) (oi := { dst := some 29, op := Op.load 3 (Operand.tmp 28), type := 3, pos := "receiver.go:47", after := #[{ on := 2, ground := Ground.data }], guard := none }) (v := .int .i64 s.want) rfl (by kernel_rfl) (by kernel_rfl) (by kernel_rfl) (by kernel_rfl) (fun _ _ _ h => h) (Or.inl ⟨by rfl, ?_⟩) hHeld ?_
      · intro w hSw
        obtain ⟨k0, k1⟩ := hSw
        first
          | rfl
          | (go_simp; done)
      try simp only [Act.put, List.setIfInBounds_toArray, List.set_cons_zero, List.set_cons_succ]
      refine wpAnyT_take (i := 4) (oi := { dst := some 30, op := Op.move (Operand.tmp 3), type := 76, pos := "receiver.go:47", after := #[], guard := none }) (v := .map (some (w.heap.size + 1))) rfl (by kernel_rfl) (by kernel_rfl) (by kernel_rfl) (by kernel_rfl) (fun _ _ _ h => h) (Or.inl ⟨by rfl, ?_⟩) hHeld ?_
      · intro w hSw
        obtain ⟨k0, k1⟩ := hSw
        first
          | rfl
          | (go_simp; done)
      try simp only [Act.put, List.setIfInBounds_toArray, List.set_cons_zero, List.set_cons_succ]
      refine wpAnyT_take (i := 5) (oi := { dst := some 31, op := Op.move (Operand.tmp 0), type := 103, pos := "receiver.go:47", after := #[], guard := none }) (v := .pointer (some ⟨g, 2, none⟩)) rfl (by kernel_rfl) (by kernel_rfl) (by kernel_rfl) (by kernel_rfl) (fun _ _ _ h => h) (Or.inl ⟨by rfl, ?_⟩) hHeld ?_
      · intro w hSw
        obtain ⟨k0, k1⟩ := hSw
        first
          | rfl
          | (go_simp; done)
      try simp only [Act.put, List.setIfInBounds_toArray, List.set_cons_zero, List.set_cons_succ]
      refine wpAnyT_take (i := 6) (oi := { dst := some 32, op := Op.nilCheck (Operand.tmp 31), type := 0, pos := "receiver.go:47", after := #[{ on := 5, ground := Ground.data }], guard := none }) (v := .pointer (some ⟨g, 2, none⟩)) rfl (by kernel_rfl) (by kernel_rfl) (by kernel_rfl) (by kernel_rfl) (fun _ _ _ h => h) (Or.inl ⟨by rfl, ?_⟩) hHeld ?_
      · intro w hSw
        obtain ⟨k0, k1⟩ := hSw
        first
          | rfl
          | (go_simp; done)
      try simp only [Act.put, List.setIfInBounds_toArray, List.set_cons_zero, List.set_cons_succ]
      refine wpAnyT_take (i := 7) (oi := { dst := some 33, op := Op.fieldAddr 78 (Operand.tmp 32) 2, type := 0, pos := "receiver.go:47", after := #[{ on := 6, ground := Ground.data }], guard := none }) (v := .pointer (some ⟨g, 4, none⟩)) rfl (by kernel_rfl) (by kernel_rfl) (by kernel_rfl) (by kernel_rfl) (fun _ _ _ h => h) (Or.inl ⟨by rfl, ?_⟩) hHeld ?_
      · intro w hSw
        obtain ⟨k0, k1⟩ := hSw
        first
          | rfl
          | (go_simp; done)
      try simp only [Act.put, List.setIfInBounds_toArray, List.set_cons_zero, List.set_cons_succ]
      refine wpAnyT_take (i := 8) (oi := { dst := some 34, op := Op.load 4 (Operand.tmp 33), type := 4, pos := "receiver.go:47", after := #[{ on := 7, ground := Ground.data }], guard := none }) (v := .bool s.owes) rfl (by kernel_rfl) (by kernel_rfl) (by kernel_rfl) (by kernel_rfl) (fun _ _ _ h => h) (Or.inl ⟨by rfl, ?_⟩) hHeld ?_
      · intro w hSw
        obtain ⟨k0, k1⟩ := hSw
        first
          | rfl
          | (go_simp; done)
      try simp only [Act.put, List.setIfInBounds_toArray, List.set_cons_zero, List.set_cons_succ]
      refine wpAnyT_take (i := 9) (oi := { dst := some 35, op := Op.build 78 #[(0, Operand.tmp 29), (1, Operand.tmp 30), (2, Operand.tmp 34)], type := 78, pos := "receiver.go:47", after := #[{ on := 3, ground := Ground.data }, { on := 4, ground := Ground.data }, { on := 8, ground := Ground.data }], guard := none }) (v := .agg #[.int .i64 s.want, .map (some (w.heap.size + 1)), .bool s.owes]) rfl (by kernel_rfl) (by kernel_rfl) (by kernel_rfl) (by kernel_rfl) (fun _ _ _ h => h) (Or.inl ⟨by rfl, ?_⟩) hHeld ?_
      · intro w hSw
        obtain ⟨k0, k1⟩ := hSw
        first
          | rfl
          | (go_simp; done)
      try simp only [Act.put, List.setIfInBounds_toArray, List.set_cons_zero, List.set_cons_succ]
      have c0 := (unhide HI2).2.2.2.cell 0
      have c1 := (unhide HI2).2.2.2.cell 1
      have c2 := (unhide HI2).2.2.2.cell 2
      have f0 := (unhide HI2).2.2.2.frozen 0
      have f1 := (unhide HI2).2.2.2.frozen 1
      have f2 := (unhide HI2).2.2.2.frozen 2
      refine wpAnyT_one (i := 10) (o := { dst := none, op := Op.store 78 (Operand.tmp 2) (Operand.tmp 35), type := 0, pos := "receiver.go:47", after := #[{ on := 9, ground := Ground.data }, { on := 0, ground := Ground.phase }, { on := 1, ground := Ground.phase }, { on := 2, ground := Ground.phase }, { on := 3, ground := Ground.phase }, { on := 4, ground := Ground.phase }, { on := 5, ground := Ground.phase }, { on := 6, ground := Ground.phase }, { on := 7, ground := Ground.phase }, { on := 8, ground := Ground.phase }, { on := 9, ground := Ground.phase }], guard := none }) (by kernel_rfl) rfl (fun K hK => ?_)
      go_simp
      refine hK.out _ _ (fun h => by cases h) ?_
      clear hK K
      try simp only [Act.put, List.setIfInBounds_toArray, List.set_cons_zero, List.set_cons_succ]
      refine wpAnyT_done (by kernel_rfl) ?_ _
      go_wp2_with fail
      have hr9 := (((unhide HI2).2.2.2.set 0 (.int .i64 s.want)).set 1 (.map (some (w.heap.size + 1)))).set 2 (.bool s.owes)
      have o4 : Only (· = w.heap.size) w2 (((w2.setCell ⟨w.heap.size, 0, none⟩ (.int .i64 s.want)).setCell ⟨w.heap.size, 1, none⟩ (.map (some (w.heap.size + 1)))).setCell ⟨w.heap.size, 2, none⟩ (.bool s.owes)) := Only.set (p := (· = w.heap.size)) (Only.set (p := (· = w.heap.size)) (Only.set (p := (· = w.heap.size)) (Only.refl _ _) _ 0 _ rfl) _ 1 _ rfl) _ 2 _ rfl
      (try simp only [Exit.inBlock, Exit.then])
      refine bodyPost_ret (results_cell_row Try.results55 _ _ w.heap.size 78 #[.int .i64 s.want, .map (some (w.heap.size + 1)), .bool s.owes] _ _ rfl hr9 Try.underlying78 rfl (by kernel_rfl)) rfl ⟨w.heap.size + 1, F, rfl, by omega, (unhide HI2).1.only o4 (by omega), unhide HSIM, fun y hy => own_only ((unhide HI2).2.2.1 y hy) o4 (fun k hk e9 => tag_ne ((unhide HI2).2.2.1 y hy) (unhide HI2).2.2.2 (by decide) (e9 ▸ hk)), (unhide HI2).2.1.trans (o4.below (unhide HI2).2.1.size (fun k hk => by omega))⟩
    · obtain ⟨x, hx, hek, hev⟩ : ∃ x ∈ s.early, e.key = .int .i64 x.key ∧ e.val = x.v := by
        have h9 : (e.key, e.val) ∈ es.toList.map (fun e => (e.key, e.val)) := List.mem_map.2 ⟨e, (mem_left he).1, rfl⟩
        rw [unhide HE] at h9
        obtain ⟨x, hx, h8⟩ := List.mem_map.1 h9
        simp only [Prod.mk.injEq] at h8
        exact ⟨x, hx, h8.1.symm, h8.2.symm⟩
      rw [hek, hev] at hrun
      have HN := hide ((unhide HI).2.2.1.next (unhide HST).2.2 (unhide HST).2.1 (mem_left he).1 (mem_left he).2 hx hek)
      have b1 : Below wr.heap.size wr w1 := by
        rcases hw1 with rfl | rfl
        · exact Below.refl _ _
        · exact Below.drew (Below.refl _ _)
      have hrl : w.heap.size + 1 + 1 < w1.heap.size := by
        have : w.heap.size + 1 + 1 < wr.heap.size := by
          rcases Nat.lt_or_ge (w.heap.size + 1 + 1) wr.heap.size with h | h
          · exact h
          · rw [Array.getElem?_eq_none h] at hr; cases hr
        have := b1.size
        omega
      have o12 : Only (· = w.heap.size + 1 + 1) wr (Go.ChangeMaps.setBlock w1 (w.heap.size + 1 + 1) (.mapIter (some m) clk (seen.push e.born) clk)) := ((Only.of_below (p := fun _ => False) b1).mono (fun _ h => h.elim)).trans (setBlock_only w1 _ _)
      have hr2 : (Go.ChangeMaps.setBlock w1 (w.heap.size + 1 + 1) (.mapIter (some m) clk (seen.push e.born) clk)).heap[w.heap.size + 1 + 1]? = some (.mapIter (some m) clk (seen.push e.born) clk) := by simp [Go.ChangeMaps.setBlock, hrl]
      obtain ⟨w2, hw2⟩ : ∃ z, Go.ChangeMaps.setBlock w1 (w.heap.size + 1 + 1) (.mapIter (some m) clk (seen.push e.born) clk) = z := ⟨_, rfl⟩
      rw [hw2] at hrun o12 hr2
      have hmr : m < wr.heap.size := by have := (unhide HI).2.1.size; omega
      have hb2 : w2.heap[m]? = some (.map es clk) := (o12.block m hmr (by omega)).trans hb'
      have hen := run_entry_at (P := Try.prog) w2 (w.heap.size + 1 + 1) m clk seen es clk e hr2 hb2 (mem_left he).1 (unhide HST).2.1
      rw [hek, hev] at hen
      have B2 : Below w.heap.size w w2 := (unhide HI).2.1.trans (o12.below (unhide HI).2.1.size (fun k hk => by omega))
      have hby : Byt w2 x.v x.body := (Own.byt ((unhide HC).erl x hx)).call B2
      have M2 := (unhide HI).1.only o12 (by omega)
      have P2 : ∀ y ∈ F, w2.ownsRow w.heap.size 5 1 y.v y.body.length (bv y.body) := fun y hy => own_only ((unhide HI).2.2.2.1 y hy) o12 (fun k hk e9 => own_iter ((unhide HI).2.2.2.1 y hy) hr (e9 ▸ hk))
      have R2 := (unhide HI).2.2.2.2.only o12 (by omega)
      have HJ := hide (And.intro M2 (And.intro B2 (And.intro P2 R2)))
      have hmeas := left_shrinks es seen e he
      have HCL := hide (clone_any x.v x.body w2 hby (unhide HBL x hx))
      obtain ⟨xv, hxv⟩ : ∃ z, x.v = z := ⟨_, rfl⟩
      rw [hxv] at hrun hen HCL
      clear hw2 o12 hb2 M2 B2 P2 R2 hby HI b1 hrl hw1
      have hnx : ∀ ty, (Instr.next (.pointer (some ⟨w.heap.size + 1 + 1, 0, none⟩)) false ty).run Try.prog wr = _ := fun _ => hrun
      go_wp2_with fail
      refine Calls.mono (unhide HCL) ?_
      rintro r9 w3 ⟨vc, rfl, o3, b3⟩
      obtain ⟨w4, hrun4, hm4, o4⟩ := run_store ((unhide HJ).1.only (Only.of_below (p := fun _ => False) b3) id) x.key vc x.body (unhide HN vc).1
      go_wp2_with fail
      have o23 := Only.of_below (p := fun _ => False) b3
      have hl2 : w.heap.size + 1 + 1 < w2.heap.size := by
        rcases Nat.lt_or_ge (w.heap.size + 1 + 1) w2.heap.size with h | h
        · exact h
        · rw [Array.getElem?_eq_none h] at hr2; cases hr2
      have hl3 := o23.size
      have hr4 : w4.heap[w.heap.size + 1 + 1]? = some (.mapIter (some m) clk (seen.push e.born) clk) := (o4.block _ (by omega) (by omega)).trans ((o23.block _ hl2 id).trans hr2)
      have M3 := (unhide HJ).1.only o23 id
      have P4 : ∀ y ∈ F ++ [⟨x.key, vc, x.body⟩], w4.ownsRow w.heap.size 5 1 y.v y.body.length (bv y.body) := fun y hy => by
        have h3 : w3.ownsRow w.heap.size 5 1 y.v y.body.length (bv y.body) := by
          rcases List.mem_append.1 hy with hy | hy
          · exact own_only ((unhide HJ).2.2.1 y hy) o23 (fun _ _ h => h)
          · obtain rfl := List.mem_singleton.1 hy
            exact own_mono o3 (unhide HJ).2.1.size
        exact own_only h3 o4 (fun k hk e9 => own_map h3 M3 (e9 ▸ hk))
      have B3 := (unhide HJ).2.1.trans (b3.mono (unhide HJ).2.1.size)
      have HR := hide (And.intro hm4 (And.intro (B3.trans (o4.below B3.size (fun k hk => by omega))) (And.intro (unhide HN vc).2 (And.intro P4 (((unhide HJ).2.2.2.only o23 id).only o4 (by omega))))))
      have s1 : wr.iterSeen (w.heap.size + 1 + 1) = seen := by unfold World.iterSeen; rw [hr]
      have s2 : w4.iterSeen (w.heap.size + 1 + 1) = seen.push e.born := by unfold World.iterSeen; rw [hr4]
      clear P4 B3 M3 o23 o4 hm4 o3 b3 HJ HN
      go_roundw
      case rel => exact ⟨seen.push e.born, _, hr4, HR⟩
      case measure => rw [s1, s2]; exact hmeas
end Go.Proofs.Ytmkpphkdaiienaa
