/- Whether all that was told is a beginning of what was given; any move. -/
import Derived.Test.YtmkpphkdaiienaaCMo
import Derived.Test.YtmkpphkdaiienaaCMq
import Derived.Test.YtmkpphkdaiienaaCMr
import Derived.Test.YtmkpphkdaiienaaCMs
import Derived.Test.YtmkpphkdaiienaaCOr
namespace Go.Proofs.Ytmkpphkdaiienaa
set_option linter.unusedVariables false
set_option linter.unusedSimpArgs false
open Go.ChangeShapes Go.WideShapes Go.ChangeAt Go.RowKit Go.Joins Go.Deep

theorem move_any (B gp N : Nat) (P : PS) (op n : Int) (b : List Nat) (vb : Value) (w : World) (h : Pair w B gp P) (hg : Good N P) (hN : N ≤ 1000) (hv : Vis w B vb b) (hbl : b.length ≤ 1000000000) :
    Calls Try.prog 32 #[.pointer (some ⟨gp, 0, none⟩), .agg #[.int .i64 op, .int .i64 n, vb]] w fun r w' => MoveR B gp P b w r w' := by
  obtain ⟨j, hj, hl⟩ := kind12 op
  rcases (show j = 0 ∨ j = 1 ∨ j = 2 ∨ j = 3 ∨ j = 4 ∨ j = 5 ∨ j = 6 ∨ j = 7 ∨ j = 8 ∨ j = 9 ∨ j = 10 ∨ j = 11 by omega) with rfl | rfl | rfl | rfl | rfl | rfl | rfl | rfl | rfl | rfl | rfl | rfl
  · exact move0_ok B gp N P op n b vb w h hg hN hv hbl hj
  · exact move1_ok B gp N P op n b vb w h hg hN hv hbl hj
  · exact move2_ok B gp N P op n b vb w h hg hN hv hbl hj
  · exact move3_ok B gp N P op n b vb w h hg hN hv hbl hj
  · exact move4_ok B gp N P op n b vb w h hg hN hv hbl hj
  · exact move5_ok B gp N P op n b vb w h hg hN hv hbl hj
  · exact move6_ok B gp N P op n b vb w h hg hN hv hbl hj
  · exact move7_ok B gp N P op n b vb w h hg hN hv hbl hj
  · exact move8_ok B gp N P op n b vb w h hg hN hv hbl hj
  · exact move9_ok B gp N P op n b vb w h hg hN hv hbl hj
  · exact move10_ok B gp N P op n b vb w h hg hN hv hbl hj
  · exact move11_ok B gp N P op n b vb w h hg hN hv hbl hj
theorem lsat_of {w : World} {B n c : Nat} {a : Option Addr} {L : List VB} (h : w.ownsRow B 32 1 (.slice a n c) L.length (L.map Prod.fst)) (hb : ∀ x ∈ L, Bod w B x.1 x.2) : LsAt w a L := by
  refine ⟨?_, fun x hx => (hb x hx).1⟩
  rcases h.2 with ⟨_, h0⟩ | ⟨g, c', cur, e1, _, hr, _, _, _, ht⟩
  · exact .inl (List.eq_nil_of_length_eq_zero h0)
  · injection e1 with e1
    subst e1
    have hr' : RowAt w g 32 cur.toList := hr
    refine .inr ⟨g, 0, rfl, fun i x hx => ?_⟩
    have hi : i < L.length := (List.getElem?_eq_some_iff.1 hx).1
    have : (L.map Prod.fst)[i]? = some x.1 := by rw [List.getElem?_map, hx]; rfl
    rw [Nat.zero_add, hr'.cell, ← this, ← ht, List.getElem?_take_of_lt (by omega)]
theorem LsAt.take {w : World} {a : Option Addr} {L : List VB} (h : LsAt w a L) (n : Nat) : LsAt w a (L.take n) := by
  refine ⟨?_, fun x hx => h.byt x (List.mem_of_mem_take hx)⟩
  rcases h.cell with h0 | ⟨b, off, e, hx⟩
  · left; rw [h0]; exact List.take_nil
  · refine .inr ⟨b, off, e, fun i x hi => hx i x ?_⟩
    rw [List.getElem?_take] at hi
    split at hi
    · exact hi
    · cases hi
theorem Dir.told {P : PS} {i j : Nat} (h : Dir P i j) : (P.X (2 + j)).length ≤ (P.X i).length ∧ (P.X (2 + j)).map Prod.snd = ((P.X i).take (P.X (2 + j)).length).map Prod.snd := by
  have hle : (P.X (2 + j)).length ≤ (P.X i).length := by
    rcases Nat.lt_or_ge (P.X i).length (P.X (2 + j)).length with h1 | h1
    · obtain ⟨x, hx⟩ : ∃ x, (P.X (2 + j))[(P.X i).length]? = some x := ⟨_, List.getElem?_eq_getElem h1⟩
      have := (List.getElem?_eq_some_iff.1 (h.t _ x hx)).1
      simp at this
    · exact h1
  refine ⟨hle, List.ext_getElem? fun k => ?_⟩
  by_cases hk : k < (P.X (2 + j)).length
  · obtain ⟨x, hx⟩ : ∃ x, (P.X (2 + j))[k]? = some x := ⟨_, List.getElem?_eq_getElem hk⟩
    have := h.t k x hx
    rw [List.map_take, List.getElem?_take_of_lt hk, this, List.getElem?_map, hx]
    rfl
  · rw [List.getElem?_eq_none (by rw [List.length_map]; omega), List.getElem?_eq_none (by rw [List.length_map, List.length_take]; omega)]
set_option maxRecDepth 100000 in
set_option maxHeartbeats 4000000 in
theorem right_ok (B gp N : Nat) (P : PS) (w : World) (h : Pair w B gp P) (ho : Ordr N P) (hN : N ≤ 1000) :
    Calls Try.prog 33 #[.pointer (some ⟨gp, 0, none⟩)] w fun r w' => r = .returned (.bool true) ∧ Pair w' B gp P ∧ Below w.heap.size w w' := by
  have HI0 : Hid (Pair w B gp P ∧ Below w.heap.size w w) := hide ⟨h, Below.refl _ _⟩
  have HO := hide ho
  clear h ho
  go_enter Try.func33, Try.ntmps33
  go_wp2_with fail
  go_loopw [6] (fun s wr => ∃ k : Nat, k ≤ 2 ∧ s = .int .i64 (k : Int) ∧ Hid (Pair wr B gp P ∧ Below w.heap.size w wr)) (fun s _ => (2 - intOf s).toNat)
  case atStart => exact ⟨0, by omega, by simp, HI0⟩
  case round =>
    clear HI0
    obtain ⟨k, hk, rfl, HI⟩ := hrel
    obtain rfl | rfl | rfl : k = 0 ∨ k = 1 ∨ k = 2 := by omega
    · skip
      obtain ⟨ag, cg, hag⟩ := own_one ((unhide HI).1.rows 0 (by decide))
      obtain ⟨at', ct, hat⟩ := own_one ((unhide HI).1.rows 3 (by decide))
      obtain ⟨htl, hte⟩ := (unhide HO).d0.told
      have HAG := hide hag
      have HAT := hide hat
      obtain ⟨ng, hng⟩ : ∃ z, (P.X 0).length = z := ⟨_, rfl⟩
      obtain ⟨nt, hnt⟩ : ∃ z, (P.X 3).length = z := ⟨_, rfl⟩
      have HNG := hide hng
      have HNT := hide hnt
      have HTE := hide hte
      rw [show 2 + 1 = 3 from rfl] at htl
      rw [hng, hnt] at htl
      rw [hng] at HAG
      rw [hnt] at HAT
      have hcg : ng ≤ cg := by
        have h9 := (unhide HI).1.rows 0 (by decide)
        rcases h9.2 with ⟨_, h0⟩ | ⟨g9, c9, cur9, e9, _, _, h3, _⟩
        · omega
        · rw [unhide HAG] at e9; injection e9 with _ e8 e9; omega
      have hct : nt ≤ ct := by
        have h9 := (unhide HI).1.rows 3 (by decide)
        rcases h9.2 with ⟨_, h0⟩ | ⟨g9, c9, cur9, e9, _, _, h3, _⟩
        · omega
        · rw [unhide HAT] at e9; injection e9 with _ e8 e9; omega
      have hng2 : ng ≤ 1000 := by have := (unhide HO).good.len 0 (by decide); have := unhide HNG; omega
      clear hag hat hng hnt hte
      go_wp2_with fail
      refine wp_region_T (S := fun W => W.cell? ⟨gp, 4, none⟩ = some (.slice ag ng cg) ∧ W.cell? ⟨gp, 7, none⟩ = some (.slice at' nt ct)) (fun i => decide (i < 15)) (by kernel_rfl) ⟨by rw [← unhide HAG]; exact (unhide HI).1.row.cell 4, by rw [← unhide HAT]; exact (unhide HI).1.row.cell 7⟩ (fun hHeld => ?_)
      have bd : Below wr.heap.size wr wr.drew := Below.drew (Below.refl _ _)
      have HI2 := hide (And.intro ((unhide HI).1.call bd) ((unhide HI).2.trans (bd.mono (unhide HI).2.size)))
      obtain ⟨w2, hw2⟩ : ∃ z, wr.drew = z := ⟨_, rfl⟩
      rw [hw2] at HI2 hHeld ⊢
      clear hw2 bd HI
      refine wpAnyT_take (i := 0) (oi := { dst := some 9, op := Op.move (Operand.tmp 0), type := 59, pos := "law.go:168", after := #[], guard := none }) (v := .pointer (some ⟨gp, 0, none⟩)) rfl (by kernel_rfl) (by kernel_rfl) (by kernel_rfl) (by kernel_rfl) (fun _ _ _ h => h) (Or.inl ⟨by rfl, ?_⟩) hHeld ?_
      · intro w hSw
        obtain ⟨h0, h1⟩ := hSw
        first
          | rfl
          | (go_simp; done)
      try simp only [Act.put, List.setIfInBounds_toArray, List.set_cons_zero, List.set_cons_succ]
      refine wpAnyT_take (i := 1) (oi := { dst := some 10, op := Op.move (Operand.tmp 3), type := 3, pos := "law.go:168", after := #[], guard := none }) (v := .int .i64 0) rfl (by kernel_rfl) (by kernel_rfl) (by kernel_rfl) (by kernel_rfl) (fun _ _ _ h => h) (Or.inl ⟨by rfl, ?_⟩) hHeld ?_
      · intro w hSw
        obtain ⟨h0, h1⟩ := hSw
        first
          | rfl
          | (go_simp; done)
      try simp only [Act.put, List.setIfInBounds_toArray, List.set_cons_zero, List.set_cons_succ]
      refine wpAnyT_take (i := 2) (oi := { dst := some 11, op := Op.nilCheck (Operand.tmp 9), type := 0, pos := "law.go:168", after := #[{ on := 0, ground := Ground.data }], guard := none }) (v := .pointer (some ⟨gp, 0, none⟩)) rfl (by kernel_rfl) (by kernel_rfl) (by kernel_rfl) (by kernel_rfl) (fun _ _ _ h => h) (Or.inl ⟨by rfl, ?_⟩) hHeld ?_
      · intro w hSw
        obtain ⟨h0, h1⟩ := hSw
        first
          | rfl
          | (go_simp; done)
      try simp only [Act.put, List.setIfInBounds_toArray, List.set_cons_zero, List.set_cons_succ]
      refine wpAnyT_take (i := 3) (oi := { dst := some 12, op := Op.fieldAddr 65 (Operand.tmp 11) 2, type := 0, pos := "law.go:168", after := #[{ on := 2, ground := Ground.data }], guard := none }) (v := .pointer (some ⟨gp, 4, none⟩)) rfl (by kernel_rfl) (by kernel_rfl) (by kernel_rfl) (by kernel_rfl) (fun _ _ _ h => h) (Or.inl ⟨by rfl, ?_⟩) hHeld ?_
      · intro w hSw
        obtain ⟨h0, h1⟩ := hSw
        first
          | rfl
          | (go_simp; done)
      try simp only [Act.put, List.setIfInBounds_toArray, List.set_cons_zero, List.set_cons_succ]
      refine wpAnyT_take (i := 4) (oi := { dst := some 13, op := Op.indexAddr 63 (Operand.tmp 12) (Operand.tmp 10), type := 0, pos := "law.go:168", after := #[{ on := 3, ground := Ground.data }, { on := 1, ground := Ground.data }], guard := none }) (v := .pointer (some ⟨gp, 4, none⟩)) rfl (by kernel_rfl) (by kernel_rfl) (by kernel_rfl) (by kernel_rfl) (fun _ _ _ h => h) (Or.inl ⟨by rfl, ?_⟩) hHeld ?_
      · intro w hSw
        obtain ⟨h0, h1⟩ := hSw
        first
          | rfl
          | (go_simp; done)
      try simp only [Act.put, List.setIfInBounds_toArray, List.set_cons_zero, List.set_cons_succ]
      refine wpAnyT_take (i := 5) (oi := { dst := some 14, op := Op.load 40 (Operand.tmp 13), type := 40, pos := "law.go:168", after := #[{ on := 4, ground := Ground.data }], guard := none }) (v := .slice ag ng cg) rfl (by kernel_rfl) (by kernel_rfl) (by kernel_rfl) (by kernel_rfl) (fun _ _ _ h => h) (Or.inl ⟨by rfl, ?_⟩) hHeld ?_
      · intro w hSw
        obtain ⟨h0, h1⟩ := hSw
        first
          | rfl
          | (go_simp; done)
      try simp only [Act.put, List.setIfInBounds_toArray, List.set_cons_zero, List.set_cons_succ]
      refine wpAnyT_take (i := 6) (oi := { dst := some 15, op := Op.move (Operand.tmp 0), type := 59, pos := "law.go:168", after := #[{ on := 13, ground := Ground.gcOnly Departure.lateStores }], guard := none }) (v := .pointer (some ⟨gp, 0, none⟩)) rfl (by kernel_rfl) (by kernel_rfl) (by kernel_rfl) (by kernel_rfl) (fun _ _ _ h => h) (Or.inl ⟨by rfl, ?_⟩) hHeld ?_
      · intro w hSw
        obtain ⟨h0, h1⟩ := hSw
        first
          | rfl
          | (go_simp; done)
      try simp only [Act.put, List.setIfInBounds_toArray, List.set_cons_zero, List.set_cons_succ]
      refine wpAnyT_take (i := 7) (oi := { dst := some 16, op := Op.move (Operand.tmp 3), type := 3, pos := "law.go:168", after := #[{ on := 13, ground := Ground.gcOnly Departure.lateStores }], guard := none }) (v := .int .i64 0) rfl (by kernel_rfl) (by kernel_rfl) (by kernel_rfl) (by kernel_rfl) (fun _ _ _ h => h) (Or.inl ⟨by rfl, ?_⟩) hHeld ?_
      · intro w hSw
        obtain ⟨h0, h1⟩ := hSw
        first
          | rfl
          | (go_simp; done)
      try simp only [Act.put, List.setIfInBounds_toArray, List.set_cons_zero, List.set_cons_succ]
      refine wpAnyT_take (i := 8) (oi := { dst := some 17, op := Op.binOp BinOp.sub 3 (Operand.const (Value.int IntKind.i64 1)) (Operand.tmp 16) 3, type := 3, pos := "law.go:168", after := #[{ on := 7, ground := Ground.data }, { on := 13, ground := Ground.gcOnly Departure.lateStores }], guard := none }) (v := .int .i64 1) rfl (by kernel_rfl) (by kernel_rfl) (by kernel_rfl) (by kernel_rfl) (fun _ _ _ h => h) (Or.inl ⟨by rfl, ?_⟩) hHeld ?_
      · intro w hSw
        obtain ⟨h0, h1⟩ := hSw
        first
          | rfl
          | (go_simp; done)
      try simp only [Act.put, List.setIfInBounds_toArray, List.set_cons_zero, List.set_cons_succ]
      refine wpAnyT_take (i := 9) (oi := { dst := some 18, op := Op.nilCheck (Operand.tmp 15), type := 0, pos := "law.go:168", after := #[{ on := 6, ground := Ground.data }, { on := 13, ground := Ground.gcOnly Departure.lateStores }], guard := none }) (v := .pointer (some ⟨gp, 0, none⟩)) rfl (by kernel_rfl) (by kernel_rfl) (by kernel_rfl) (by kernel_rfl) (fun _ _ _ h => h) (Or.inl ⟨by rfl, ?_⟩) hHeld ?_
      · intro w hSw
        obtain ⟨h0, h1⟩ := hSw
        first
          | rfl
          | (go_simp; done)
      try simp only [Act.put, List.setIfInBounds_toArray, List.set_cons_zero, List.set_cons_succ]
      refine wpAnyT_take (i := 10) (oi := { dst := some 19, op := Op.fieldAddr 65 (Operand.tmp 18) 3, type := 0, pos := "law.go:168", after := #[{ on := 9, ground := Ground.data }, { on := 13, ground := Ground.gcOnly Departure.lateStores }], guard := none }) (v := .pointer (some ⟨gp, 6, none⟩)) rfl (by kernel_rfl) (by kernel_rfl) (by kernel_rfl) (by kernel_rfl) (fun _ _ _ h => h) (Or.inl ⟨by rfl, ?_⟩) hHeld ?_
      · intro w hSw
        obtain ⟨h0, h1⟩ := hSw
        first
          | rfl
          | (go_simp; done)
      try simp only [Act.put, List.setIfInBounds_toArray, List.set_cons_zero, List.set_cons_succ]
      refine wpAnyT_take (i := 11) (oi := { dst := some 20, op := Op.indexAddr 63 (Operand.tmp 19) (Operand.tmp 17), type := 0, pos := "law.go:168", after := #[{ on := 10, ground := Ground.data }, { on := 8, ground := Ground.data }, { on := 13, ground := Ground.gcOnly Departure.lateStores }], guard := none }) (v := .pointer (some ⟨gp, 7, none⟩)) rfl (by kernel_rfl) (by kernel_rfl) (by kernel_rfl) (by kernel_rfl) (fun _ _ _ h => h) (Or.inl ⟨by rfl, ?_⟩) hHeld ?_
      · intro w hSw
        obtain ⟨h0, h1⟩ := hSw
        first
          | rfl
          | (go_simp; done)
      try simp only [Act.put, List.setIfInBounds_toArray, List.set_cons_zero, List.set_cons_succ]
      refine wpAnyT_take (i := 12) (oi := { dst := some 21, op := Op.load 40 (Operand.tmp 20), type := 40, pos := "law.go:168", after := #[{ on := 11, ground := Ground.data }, { on := 13, ground := Ground.gcOnly Departure.lateStores }], guard := none }) (v := .slice at' nt ct) rfl (by kernel_rfl) (by kernel_rfl) (by kernel_rfl) (by kernel_rfl) (fun _ _ _ h => h) (Or.inl ⟨by rfl, ?_⟩) hHeld ?_
      · intro w hSw
        obtain ⟨h0, h1⟩ := hSw
        first
          | rfl
          | (go_simp; done)
      try simp only [Act.put, List.setIfInBounds_toArray, List.set_cons_zero, List.set_cons_succ]
      refine wpAnyT_take (i := 13) (oi := { dst := some 4, op := Op.assign (Operand.tmp 14), type := 40, pos := "law.go:168", after := #[{ on := 5, ground := Ground.data }, { on := 0, ground := Ground.phase }, { on := 1, ground := Ground.phase }, { on := 2, ground := Ground.phase }, { on := 3, ground := Ground.phase }, { on := 4, ground := Ground.phase }, { on := 5, ground := Ground.phase }, { on := 6, ground := Ground.textOnly Departure.lateStores }, { on := 7, ground := Ground.textOnly Departure.lateStores }, { on := 8, ground := Ground.textOnly Departure.lateStores }, { on := 9, ground := Ground.textOnly Departure.lateStores }, { on := 10, ground := Ground.textOnly Departure.lateStores }, { on := 11, ground := Ground.textOnly Departure.lateStores }, { on := 12, ground := Ground.textOnly Departure.lateStores }], guard := none }) (v := .slice ag ng cg) rfl (by kernel_rfl) (by kernel_rfl) (by kernel_rfl) (by kernel_rfl) (fun _ _ _ h => h) (Or.inl ⟨by rfl, ?_⟩) hHeld ?_
      · intro w hSw
        obtain ⟨h0, h1⟩ := hSw
        first
          | rfl
          | (go_simp; done)
      try simp only [Act.put, List.setIfInBounds_toArray, List.set_cons_zero, List.set_cons_succ]
      refine wpAnyT_take (i := 14) (oi := { dst := some 5, op := Op.assign (Operand.tmp 21), type := 40, pos := "law.go:168", after := #[{ on := 12, ground := Ground.data }, { on := 13, ground := Ground.chain }, { on := 0, ground := Ground.phase }, { on := 1, ground := Ground.phase }, { on := 2, ground := Ground.phase }, { on := 3, ground := Ground.phase }, { on := 4, ground := Ground.phase }, { on := 5, ground := Ground.phase }, { on := 6, ground := Ground.phase }, { on := 7, ground := Ground.phase }, { on := 8, ground := Ground.phase }, { on := 9, ground := Ground.phase }, { on := 10, ground := Ground.phase }, { on := 11, ground := Ground.phase }, { on := 12, ground := Ground.phase }, { on := 13, ground := Ground.phase }], guard := none }) (v := .slice at' nt ct) rfl (by kernel_rfl) (by kernel_rfl) (by kernel_rfl) (by kernel_rfl) (fun _ _ _ h => h) (Or.inl ⟨by rfl, ?_⟩) hHeld ?_
      · intro w hSw
        obtain ⟨h0, h1⟩ := hSw
        first
          | rfl
          | (go_simp; done)
      try simp only [Act.put, List.setIfInBounds_toArray, List.set_cons_zero, List.set_cons_succ]
      refine wpAnyT_done (by kernel_rfl) ?_ _
      have j1 : (nt : Int) ≤ (ng : Int) := by omega
      have j2 : (0 : Int) ≤ (nt : Int) := by omega
      have j3 : (nt : Int) ≤ (cg : Int) := by omega
      have HLT := hide (lsat_of (by have h9 := (unhide HI2).1.rows 3 (by decide); rw [unhide HAT] at h9; exact h9) ((unhide HI2).1.vb 3 (by decide)))
      have HLG := hide ((lsat_of (by have h9 := (unhide HI2).1.rows 0 (by decide); rw [unhide HAG] at h9; exact h9) ((unhide HI2).1.vb 0 (by decide))).take nt)
      have H256 : Hid (∀ x ∈ P.X 3, ∀ y ∈ x.2, y < 256) := hide (fun x hx y hy => by
        obtain ⟨m, hm⟩ := List.getElem?_of_mem hx
        have h9 := (unhide HO).d0.t m x hm
        rw [List.getElem?_map] at h9
        obtain ⟨z, hz, hz2⟩ := Option.map_eq_some_iff.1 h9
        exact (unhide HO).g256 0 (by decide) z (List.mem_of_getElem? hz) y (by rw [hz2]; exact hy))
      clear hHeld
      go_wp2_with fail
      refine Calls.mono (eqf_same at' ag nt ct cg (P.X 3) ((P.X 0).take nt) w2 (unhide HLT) (unhide HLG) (unhide HNT) (by rw [List.length_take, unhide HNG]; omega) (by have := unhide HTE; rw [show 2 + 1 = 3 from rfl, unhide HNT] at this; exact this) (unhide H256) hct (by omega) (by omega)) ?_
      rintro r w9 ⟨rfl, rfl⟩
      go_wp2_with fail
      go_roundw
      case rel => exact ⟨0 + 1, by omega, by simp, HI2⟩
      case measure => simp [intOf]
    · skip
      obtain ⟨ag, cg, hag⟩ := own_one ((unhide HI).1.rows 1 (by decide))
      obtain ⟨at', ct, hat⟩ := own_one ((unhide HI).1.rows 2 (by decide))
      obtain ⟨htl, hte⟩ := (unhide HO).d1.told
      have HAG := hide hag
      have HAT := hide hat
      obtain ⟨ng, hng⟩ : ∃ z, (P.X 1).length = z := ⟨_, rfl⟩
      obtain ⟨nt, hnt⟩ : ∃ z, (P.X 2).length = z := ⟨_, rfl⟩
      have HNG := hide hng
      have HNT := hide hnt
      have HTE := hide hte
      rw [show 2 + 0 = 2 from rfl] at htl
      rw [hng, hnt] at htl
      rw [hng] at HAG
      rw [hnt] at HAT
      have hcg : ng ≤ cg := by
        have h9 := (unhide HI).1.rows 1 (by decide)
        rcases h9.2 with ⟨_, h0⟩ | ⟨g9, c9, cur9, e9, _, _, h3, _⟩
        · omega
        · rw [unhide HAG] at e9; injection e9 with _ e8 e9; omega
      have hct : nt ≤ ct := by
        have h9 := (unhide HI).1.rows 2 (by decide)
        rcases h9.2 with ⟨_, h0⟩ | ⟨g9, c9, cur9, e9, _, _, h3, _⟩
        · omega
        · rw [unhide HAT] at e9; injection e9 with _ e8 e9; omega
      have hng2 : ng ≤ 1000 := by have := (unhide HO).good.len 1 (by decide); have := unhide HNG; omega
      clear hag hat hng hnt hte
      go_wp2_with fail
      refine wp_region_T (S := fun W => W.cell? ⟨gp, 5, none⟩ = some (.slice ag ng cg) ∧ W.cell? ⟨gp, 6, none⟩ = some (.slice at' nt ct)) (fun i => decide (i < 15)) (by kernel_rfl) ⟨by rw [← unhide HAG]; exact (unhide HI).1.row.cell 5, by rw [← unhide HAT]; exact (unhide HI).1.row.cell 6⟩ (fun hHeld => ?_)
      have bd : Below wr.heap.size wr wr.drew := Below.drew (Below.refl _ _)
      have HI2 := hide (And.intro ((unhide HI).1.call bd) ((unhide HI).2.trans (bd.mono (unhide HI).2.size)))
      obtain ⟨w2, hw2⟩ : ∃ z, wr.drew = z := ⟨_, rfl⟩
      rw [hw2] at HI2 hHeld ⊢
      clear hw2 bd HI
      refine wpAnyT_take (i := 0) (oi := { dst := some 9, op := Op.move (Operand.tmp 0), type := 59, pos := "law.go:168", after := #[], guard := none }) (v := .pointer (some ⟨gp, 0, none⟩)) rfl (by kernel_rfl) (by kernel_rfl) (by kernel_rfl) (by kernel_rfl) (fun _ _ _ h => h) (Or.inl ⟨by rfl, ?_⟩) hHeld ?_
      · intro w hSw
        obtain ⟨h0, h1⟩ := hSw
        first
          | rfl
          | (go_simp; done)
      try simp only [Act.put, List.setIfInBounds_toArray, List.set_cons_zero, List.set_cons_succ]
      refine wpAnyT_take (i := 1) (oi := { dst := some 10, op := Op.move (Operand.tmp 3), type := 3, pos := "law.go:168", after := #[], guard := none }) (v := .int .i64 1) rfl (by kernel_rfl) (by kernel_rfl) (by kernel_rfl) (by kernel_rfl) (fun _ _ _ h => h) (Or.inl ⟨by rfl, ?_⟩) hHeld ?_
      · intro w hSw
        obtain ⟨h0, h1⟩ := hSw
        first
          | rfl
          | (go_simp; done)
      try simp only [Act.put, List.setIfInBounds_toArray, List.set_cons_zero, List.set_cons_succ]
      refine wpAnyT_take (i := 2) (oi := { dst := some 11, op := Op.nilCheck (Operand.tmp 9), type := 0, pos := "law.go:168", after := #[{ on := 0, ground := Ground.data }], guard := none }) (v := .pointer (some ⟨gp, 0, none⟩)) rfl (by kernel_rfl) (by kernel_rfl) (by kernel_rfl) (by kernel_rfl) (fun _ _ _ h => h) (Or.inl ⟨by rfl, ?_⟩) hHeld ?_
      · intro w hSw
        obtain ⟨h0, h1⟩ := hSw
        first
          | rfl
          | (go_simp; done)
      try simp only [Act.put, List.setIfInBounds_toArray, List.set_cons_zero, List.set_cons_succ]
      refine wpAnyT_take (i := 3) (oi := { dst := some 12, op := Op.fieldAddr 65 (Operand.tmp 11) 2, type := 0, pos := "law.go:168", after := #[{ on := 2, ground := Ground.data }], guard := none }) (v := .pointer (some ⟨gp, 4, none⟩)) rfl (by kernel_rfl) (by kernel_rfl) (by kernel_rfl) (by kernel_rfl) (fun _ _ _ h => h) (Or.inl ⟨by rfl, ?_⟩) hHeld ?_
      · intro w hSw
        obtain ⟨h0, h1⟩ := hSw
        first
          | rfl
          | (go_simp; done)
      try simp only [Act.put, List.setIfInBounds_toArray, List.set_cons_zero, List.set_cons_succ]
      refine wpAnyT_take (i := 4) (oi := { dst := some 13, op := Op.indexAddr 63 (Operand.tmp 12) (Operand.tmp 10), type := 0, pos := "law.go:168", after := #[{ on := 3, ground := Ground.data }, { on := 1, ground := Ground.data }], guard := none }) (v := .pointer (some ⟨gp, 5, none⟩)) rfl (by kernel_rfl) (by kernel_rfl) (by kernel_rfl) (by kernel_rfl) (fun _ _ _ h => h) (Or.inl ⟨by rfl, ?_⟩) hHeld ?_
      · intro w hSw
        obtain ⟨h0, h1⟩ := hSw
        first
          | rfl
          | (go_simp; done)
      try simp only [Act.put, List.setIfInBounds_toArray, List.set_cons_zero, List.set_cons_succ]
      refine wpAnyT_take (i := 5) (oi := { dst := some 14, op := Op.load 40 (Operand.tmp 13), type := 40, pos := "law.go:168", after := #[{ on := 4, ground := Ground.data }], guard := none }) (v := .slice ag ng cg) rfl (by kernel_rfl) (by kernel_rfl) (by kernel_rfl) (by kernel_rfl) (fun _ _ _ h => h) (Or.inl ⟨by rfl, ?_⟩) hHeld ?_
      · intro w hSw
        obtain ⟨h0, h1⟩ := hSw
        first
          | rfl
          | (go_simp; done)
      try simp only [Act.put, List.setIfInBounds_toArray, List.set_cons_zero, List.set_cons_succ]
      refine wpAnyT_take (i := 6) (oi := { dst := some 15, op := Op.move (Operand.tmp 0), type := 59, pos := "law.go:168", after := #[{ on := 13, ground := Ground.gcOnly Departure.lateStores }], guard := none }) (v := .pointer (some ⟨gp, 0, none⟩)) rfl (by kernel_rfl) (by kernel_rfl) (by kernel_rfl) (by kernel_rfl) (fun _ _ _ h => h) (Or.inl ⟨by rfl, ?_⟩) hHeld ?_
      · intro w hSw
        obtain ⟨h0, h1⟩ := hSw
        first
          | rfl
          | (go_simp; done)
      try simp only [Act.put, List.setIfInBounds_toArray, List.set_cons_zero, List.set_cons_succ]
      refine wpAnyT_take (i := 7) (oi := { dst := some 16, op := Op.move (Operand.tmp 3), type := 3, pos := "law.go:168", after := #[{ on := 13, ground := Ground.gcOnly Departure.lateStores }], guard := none }) (v := .int .i64 1) rfl (by kernel_rfl) (by kernel_rfl) (by kernel_rfl) (by kernel_rfl) (fun _ _ _ h => h) (Or.inl ⟨by rfl, ?_⟩) hHeld ?_
      · intro w hSw
        obtain ⟨h0, h1⟩ := hSw
        first
          | rfl
          | (go_simp; done)
      try simp only [Act.put, List.setIfInBounds_toArray, List.set_cons_zero, List.set_cons_succ]
      refine wpAnyT_take (i := 8) (oi := { dst := some 17, op := Op.binOp BinOp.sub 3 (Operand.const (Value.int IntKind.i64 1)) (Operand.tmp 16) 3, type := 3, pos := "law.go:168", after := #[{ on := 7, ground := Ground.data }, { on := 13, ground := Ground.gcOnly Departure.lateStores }], guard := none }) (v := .int .i64 0) rfl (by kernel_rfl) (by kernel_rfl) (by kernel_rfl) (by kernel_rfl) (fun _ _ _ h => h) (Or.inl ⟨by rfl, ?_⟩) hHeld ?_
      · intro w hSw
        obtain ⟨h0, h1⟩ := hSw
        first
          | rfl
          | (go_simp; done)
      try simp only [Act.put, List.setIfInBounds_toArray, List.set_cons_zero, List.set_cons_succ]
      refine wpAnyT_take (i := 9) (oi := { dst := some 18, op := Op.nilCheck (Operand.tmp 15), type := 0, pos := "law.go:168", after := #[{ on := 6, ground := Ground.data }, { on := 13, ground := Ground.gcOnly Departure.lateStores }], guard := none }) (v := .pointer (some ⟨gp, 0, none⟩)) rfl (by kernel_rfl) (by kernel_rfl) (by kernel_rfl) (by kernel_rfl) (fun _ _ _ h => h) (Or.inl ⟨by rfl, ?_⟩) hHeld ?_
      · intro w hSw
        obtain ⟨h0, h1⟩ := hSw
        first
          | rfl
          | (go_simp; done)
      try simp only [Act.put, List.setIfInBounds_toArray, List.set_cons_zero, List.set_cons_succ]
      refine wpAnyT_take (i := 10) (oi := { dst := some 19, op := Op.fieldAddr 65 (Operand.tmp 18) 3, type := 0, pos := "law.go:168", after := #[{ on := 9, ground := Ground.data }, { on := 13, ground := Ground.gcOnly Departure.lateStores }], guard := none }) (v := .pointer (some ⟨gp, 6, none⟩)) rfl (by kernel_rfl) (by kernel_rfl) (by kernel_rfl) (by kernel_rfl) (fun _ _ _ h => h) (Or.inl ⟨by rfl, ?_⟩) hHeld ?_
      · intro w hSw
        obtain ⟨h0, h1⟩ := hSw
        first
          | rfl
          | (go_simp; done)
      try simp only [Act.put, List.setIfInBounds_toArray, List.set_cons_zero, List.set_cons_succ]
      refine wpAnyT_take (i := 11) (oi := { dst := some 20, op := Op.indexAddr 63 (Operand.tmp 19) (Operand.tmp 17), type := 0, pos := "law.go:168", after := #[{ on := 10, ground := Ground.data }, { on := 8, ground := Ground.data }, { on := 13, ground := Ground.gcOnly Departure.lateStores }], guard := none }) (v := .pointer (some ⟨gp, 6, none⟩)) rfl (by kernel_rfl) (by kernel_rfl) (by kernel_rfl) (by kernel_rfl) (fun _ _ _ h => h) (Or.inl ⟨by rfl, ?_⟩) hHeld ?_
      · intro w hSw
        obtain ⟨h0, h1⟩ := hSw
        first
          | rfl
          | (go_simp; done)
      try simp only [Act.put, List.setIfInBounds_toArray, List.set_cons_zero, List.set_cons_succ]
      refine wpAnyT_take (i := 12) (oi := { dst := some 21, op := Op.load 40 (Operand.tmp 20), type := 40, pos := "law.go:168", after := #[{ on := 11, ground := Ground.data }, { on := 13, ground := Ground.gcOnly Departure.lateStores }], guard := none }) (v := .slice at' nt ct) rfl (by kernel_rfl) (by kernel_rfl) (by kernel_rfl) (by kernel_rfl) (fun _ _ _ h => h) (Or.inl ⟨by rfl, ?_⟩) hHeld ?_
      · intro w hSw
        obtain ⟨h0, h1⟩ := hSw
        first
          | rfl
          | (go_simp; done)
      try simp only [Act.put, List.setIfInBounds_toArray, List.set_cons_zero, List.set_cons_succ]
      refine wpAnyT_take (i := 13) (oi := { dst := some 4, op := Op.assign (Operand.tmp 14), type := 40, pos := "law.go:168", after := #[{ on := 5, ground := Ground.data }, { on := 0, ground := Ground.phase }, { on := 1, ground := Ground.phase }, { on := 2, ground := Ground.phase }, { on := 3, ground := Ground.phase }, { on := 4, ground := Ground.phase }, { on := 5, ground := Ground.phase }, { on := 6, ground := Ground.textOnly Departure.lateStores }, { on := 7, ground := Ground.textOnly Departure.lateStores }, { on := 8, ground := Ground.textOnly Departure.lateStores }, { on := 9, ground := Ground.textOnly Departure.lateStores }, { on := 10, ground := Ground.textOnly Departure.lateStores }, { on := 11, ground := Ground.textOnly Departure.lateStores }, { on := 12, ground := Ground.textOnly Departure.lateStores }], guard := none }) (v := .slice ag ng cg) rfl (by kernel_rfl) (by kernel_rfl) (by kernel_rfl) (by kernel_rfl) (fun _ _ _ h => h) (Or.inl ⟨by rfl, ?_⟩) hHeld ?_
      · intro w hSw
        obtain ⟨h0, h1⟩ := hSw
        first
          | rfl
          | (go_simp; done)
      try simp only [Act.put, List.setIfInBounds_toArray, List.set_cons_zero, List.set_cons_succ]
      refine wpAnyT_take (i := 14) (oi := { dst := some 5, op := Op.assign (Operand.tmp 21), type := 40, pos := "law.go:168", after := #[{ on := 12, ground := Ground.data }, { on := 13, ground := Ground.chain }, { on := 0, ground := Ground.phase }, { on := 1, ground := Ground.phase }, { on := 2, ground := Ground.phase }, { on := 3, ground := Ground.phase }, { on := 4, ground := Ground.phase }, { on := 5, ground := Ground.phase }, { on := 6, ground := Ground.phase }, { on := 7, ground := Ground.phase }, { on := 8, ground := Ground.phase }, { on := 9, ground := Ground.phase }, { on := 10, ground := Ground.phase }, { on := 11, ground := Ground.phase }, { on := 12, ground := Ground.phase }, { on := 13, ground := Ground.phase }], guard := none }) (v := .slice at' nt ct) rfl (by kernel_rfl) (by kernel_rfl) (by kernel_rfl) (by kernel_rfl) (fun _ _ _ h => h) (Or.inl ⟨by rfl, ?_⟩) hHeld ?_
      · intro w hSw
        obtain ⟨h0, h1⟩ := hSw
        first
          | rfl
          | (go_simp; done)
      try simp only [Act.put, List.setIfInBounds_toArray, List.set_cons_zero, List.set_cons_succ]
      refine wpAnyT_done (by kernel_rfl) ?_ _
      have j1 : (nt : Int) ≤ (ng : Int) := by omega
      have j2 : (0 : Int) ≤ (nt : Int) := by omega
      have j3 : (nt : Int) ≤ (cg : Int) := by omega
      have HLT := hide (lsat_of (by have h9 := (unhide HI2).1.rows 2 (by decide); rw [unhide HAT] at h9; exact h9) ((unhide HI2).1.vb 2 (by decide)))
      have HLG := hide ((lsat_of (by have h9 := (unhide HI2).1.rows 1 (by decide); rw [unhide HAG] at h9; exact h9) ((unhide HI2).1.vb 1 (by decide))).take nt)
      have H256 : Hid (∀ x ∈ P.X 2, ∀ y ∈ x.2, y < 256) := hide (fun x hx y hy => by
        obtain ⟨m, hm⟩ := List.getElem?_of_mem hx
        have h9 := (unhide HO).d1.t m x hm
        rw [List.getElem?_map] at h9
        obtain ⟨z, hz, hz2⟩ := Option.map_eq_some_iff.1 h9
        exact (unhide HO).g256 1 (by decide) z (List.mem_of_getElem? hz) y (by rw [hz2]; exact hy))
      clear hHeld
      go_wp2_with fail
      refine Calls.mono (eqf_same at' ag nt ct cg (P.X 2) ((P.X 1).take nt) w2 (unhide HLT) (unhide HLG) (unhide HNT) (by rw [List.length_take, unhide HNG]; omega) (by have := unhide HTE; rw [show 2 + 0 = 2 from rfl, unhide HNT] at this; exact this) (unhide H256) hct (by omega) (by omega)) ?_
      rintro r w9 ⟨rfl, rfl⟩
      go_wp2_with fail
      go_roundw
      case rel => exact ⟨1 + 1, by omega, by simp, HI2⟩
      case measure => simp [intOf]
    · have q8 : wr.cell? ⟨gp, 8, none⟩ = some (.bool true) := by rw [← (unhide HO).good.ok]; exact (unhide HI).1.row.cell 8
      go_wp2_with fail
      go_ret
      exact ⟨rfl, unhide HI⟩
end Go.Proofs.Ytmkpphkdaiienaa
